/- Several texts as one: NibW3, NibW4, NibW5, NibW6. -/
import Derived.Test.YtemiecghdmagnaaGR
import Derived.Deep.LoopGhost
namespace Go.Proofs.Ytemiecghdmagnaa.nibW
set_option maxRecDepth 100000
open Go.RowKit Go.Proofs.Ytemiecghdmagnaa.base Go.Proofs.Ytemiecghdmagnaa.nibP
set_option linter.unusedVariables false
set_option linter.unusedSimpArgs false

theorem prt_take (l : List Bool) (k : Nat) (h : k < l.length) : prt (l.take (k + 1)) = 2 * prt (l.take k) + (l.getD k false).toNat := by
  rw [take_snoc false l k h, prt_snoc]
theorem prt_small {l : List Bool} (h : l.length ≤ 8) (k : Nat) : 1 ≤ prt (l.take k) ∧ prt (l.take k) < 512 := by
  have b := prt_bd (l.take k)
  have e : (l.take k).length ≤ 8 := by simp; omega
  have p1 : 2 ^ (l.take k).length ≥ 1 := Nat.one_le_two_pow
  have p2 : 2 ^ ((l.take k).length + 1) ≤ 2 ^ 9 := Nat.pow_le_pow_right (by omega) (by omega)
  omega
end Go.Proofs.Ytemiecghdmagnaa.nibW

namespace Go.Proofs.Ytemiecghdmagnaa.nibW
set_option maxRecDepth 100000
open Go.RowKit Go.Proofs.Ytemiecghdmagnaa.base Go.Proofs.Ytemiecghdmagnaa.nibP
set_option linter.unusedVariables false
set_option linter.unusedSimpArgs false

def RdRes (n : Nat) (w : World) (e : Ending) (w' : World) : Prop := ∃ A c, e = .returned (.slice A (rd n).length c) ∧ OwnB w' w.heap.size 4 (.slice A (rd n).length c) (rd n) ∧ Below w.heap.size w w'
set_option maxHeartbeats 1000000 in
theorem rRead_any : ∀ (f n : Nat) (w : World), 1 ≤ n → n < 512 → n < 2 ^ f → Calls Try.prog 55 #[.int .i64 n] w (RdRes n w)
  | 0, n, w, h1, _, h => by simp at h; omega
  | f + 1, n, w, h1, h2, h => by
    by_cases c : n = 1
    · subst c
      go_enter Try.func55, Try.ntmps55
      go_wp2
      go_ret
      exact ⟨none, 0, rfl, OwnB.nil _ _ _, Below.refl _ _⟩
    · have hh : n / 2 < 2 ^ f := by rw [Nat.pow_succ] at h; omega
      have IH := rRead_any f (n / 2) w (by omega) (by omega) hh
      have HS := Lib.hid (rd_step n h2 (by omega))
      have hl := (rd_len (n / 2) (by omega)).1
      have g : ¬ (n : Int) = 1 := by omega
      have gB : ((n : Int) == 1) = false := by simpa using g
      have HQ : Hid ((((n : Int) % 2) == 1) = (n % 2 == 1)) := Lib.hid (by rw [Bool.eq_iff_iff]; simp; omega)
      obtain ⟨m, hm⟩ : ∃ m : Nat, m = n / 2 := ⟨_, rfl⟩
      rw [← hm] at IH hl
      have eN : (n : Int) / 2 = (m : Int) := by omega
      have HM := Lib.hid hm
      clear h hh c
      generalize hr : rd m = r at *
      have HR := Lib.hid hr
      clear hr hm
      go_enter Try.func55, Try.ntmps55
      go_wp2_with fail
      refine IH.mono ?_
      rintro e w1 ⟨A, c, rfl, own, hb⟩
      rw [HR.out] at own ⊢
      have HO := Lib.hid own
      have HBB := Lib.hid hb
      have hsz := hb.size
      clear own hb
      go_wp2_with (at_builtin; refine appB rfl _ _ rfl w.heap.size _ r rfl (HO.out.below ((Below.refl _ _).alloc (Nat.le_refl _) _) (Nat.le_refl _)) (some ⟨w1.heap.size, 0, none⟩) 1 1 [((n : Int) % 2 == 1)] rfl rfl (hasB_lit (zs := [((n : Int) % 2 == 1)]) rfl (by simp [maxLen])) (r.length + 1) rfl (by omega) (by simp; omega) ?_; intro A1 c1 w2 own2 hg2 hb2)
      go_ret
      have e1 : rd n = r ++ [((n : Int) % 2 == 1)] := by rw [HS.out, ← HM.out, HR.out, HQ.out]
      have e2 : (rd n).length = r.length + 1 := by rw [e1]; simp
      exact ⟨A1, c1, by rw [e2]; rfl, by rw [e2, e1]; exact own2, (HBB.out.alloc hsz _).trans hb2⟩

end Go.Proofs.Ytemiecghdmagnaa.nibW

namespace Go.Proofs.Ytemiecghdmagnaa.nibW
set_option maxRecDepth 100000
open Go.RowKit Go.Proofs.Ytemiecghdmagnaa.base Go.Proofs.Ytemiecghdmagnaa.nibP
set_option linter.unusedVariables false
set_option linter.unusedSimpArgs false

def bsV (p : Int) : List Bool := if wOk p then rd p.toNat else []
def BsRes (p : Int) (w : World) (e : Ending) (w' : World) : Prop := ∃ A c, e = .returned (.tuple #[.slice A (bsV p).length c, .int .i64 (wE p)]) ∧ HasB w' A (bsV p) ∧ (bsV p).length ≤ c ∧ Below w.heap.size w w'

end Go.Proofs.Ytemiecghdmagnaa.nibW

namespace Go.Proofs.Ytemiecghdmagnaa.nibW
set_option maxRecDepth 100000
open Go.RowKit Go.Proofs.Ytemiecghdmagnaa.base Go.Proofs.Ytemiecghdmagnaa.nibP
set_option linter.unusedVariables false
set_option linter.unusedSimpArgs false

theorem rd_seven : ∀ n, n < 256 → 1 ≤ n → (rd n).length ≤ 7 ∧ ((rd n).length = 7 ↔ 128 ≤ n) := by decide +kernel
set_option maxHeartbeats 1000000 in
theorem rSame_any (A B : Option Addr) (lp ln cp cn : Nat) (ys zs : List Bool) (w : World) (hA : HasB w A ys) (eA : ys.length = lp) (hB : HasB w B zs) (eB : zs.length = ln)
    (m1 : lp ≤ 9223372036854775807) (m2 : ln ≤ 9223372036854775807) :
    Calls Try.prog 62 #[.slice A lp cp, .slice B ln cn] w fun e w' => e = .returned (.bool (decide (ys = zs))) ∧ Below w.heap.size w w' := by
  subst eA eB
  by_cases hl : ys.length = zs.length
  · have hl' : ((ys.length : Int)) = (zs.length : Int) := by omega
    have HA := Lib.hid hA
    have HB := Lib.hid hB
    have HL := Lib.hid hl
    clear hA hB hl
    go_enter Try.func62, Try.ntmps62
    go_wp2_with fail
    clear hl'
    go_loopw [5] (fun i wr => ∃ k : Nat, k ≤ ys.length ∧ i = .int .i64 k ∧ ys.take k = zs.take k ∧ Below w.heap.size w wr) (fun i _ => ys.length - (intOf i).toNat)
    case atStart => exact ⟨0, Nat.zero_le _, rfl, rfl, Below.refl _ _⟩
    case round =>
      obtain ⟨k, hk, rfl, hall, acc⟩ := hrel
      have HE := Lib.hid hall
      clear hall
      by_cases hlt : k < ys.length
      · have hlt2 : k < zs.length := by have := HL.out; omega
        obtain ⟨b, off, rfl, hb, hcA⟩ := hasB_some HA.out (by omega)
        obtain ⟨c, off2, rfl, hb2, hcB⟩ := hasB_some HB.out (by omega)
        have hca : wr.cell? ⟨b, off + k, none⟩ = some (.bool (ys.getD k false)) := by rw [(bcell acc).1 b _ hb]; exact hcA k hlt
        have hcb : wr.cell? ⟨c, off2 + k, none⟩ = some (.bool (zs.getD k false)) := by rw [(bcell acc).1 c _ hb2]; exact hcB k hlt2
        have G1 := Lib.hid (take_snoc false ys k hlt)
        have G2 := Lib.hid (take_snoc false zs k hlt2)
        have HN : Hid (ys.getD k false ≠ zs.getD k false → ys ≠ zs) := Lib.hid fun h1 h2 => h1 (by rw [h2])
        clear hcA hcB
        generalize ys.getD k false = x at *
        generalize zs.getD k false = y at *
        by_cases hxy : x = y
        · subst hxy
          go_wp2
          go_quiet (fail)
          go_wp2
          go_roundw
          case rel => exact ⟨k + 1, by omega, by go_num, by rw [G1.out, G2.out, HE.out], by (repeat' (first | (with_reducible exact Below.refl _ _) | (with_reducible assumption) | (with_reducible refine below_drewN ?_ _) | (with_reducible refine below_new ?_ _) | (with_reducible refine Below.alloc ?_ ?_ _) | (with_reducible refine Below.drew ?_) | (with_reducible refine Below.setCell ?_ ?_ _) | (with_reducible apply below_at; (case k => (with_reducible assumption)); (case hB => omega)) | (with_reducible apply below_on; (with_reducible assumption)) | (go_size; done) | (with_reducible apply size_of)))⟩
          case measure => simp [intOf]; omega
        · have HXY := Lib.hid hxy
          have hne : (x == y) = false := by simpa using hxy
          have hne2 : (x != y) = true := by simpa using hxy
          go_wp2
          go_quiet (fail)
          go_wp2
          go_ret
          exact ⟨retb (by simpa using HN.out HXY.out), by (repeat' (first | (with_reducible exact Below.refl _ _) | (with_reducible assumption) | (with_reducible refine below_drewN ?_ _) | (with_reducible refine below_new ?_ _) | (with_reducible refine Below.alloc ?_ ?_ _) | (with_reducible refine Below.drew ?_) | (with_reducible refine Below.setCell ?_ ?_ _) | (with_reducible apply below_at; (case k => (with_reducible assumption)); (case hB => omega)) | (with_reducible apply below_on; (with_reducible assumption)) | (go_size; done) | (with_reducible apply size_of)))⟩
      · have e1 : ys = zs := by
          have := HE.out
          rw [List.take_of_length_le (by omega), List.take_of_length_le (by have := HL.out; omega)] at this
          exact this
        have HE1 := Lib.hid e1
        clear e1
        go_wp2
        go_ret
        exact ⟨retb (by simpa using HE1.out), by (repeat' (first | (with_reducible exact Below.refl _ _) | (with_reducible assumption) | (with_reducible refine below_drewN ?_ _) | (with_reducible refine below_new ?_ _) | (with_reducible refine Below.alloc ?_ ?_ _) | (with_reducible refine Below.drew ?_) | (with_reducible refine Below.setCell ?_ ?_ _) | (with_reducible apply below_at; (case k => (with_reducible assumption)); (case hB => omega)) | (with_reducible apply below_on; (with_reducible assumption)) | (go_size; done) | (with_reducible apply size_of)))⟩
  · have hl' : ¬ ((ys.length : Int)) = (zs.length : Int) := by omega
    have hl2 : (((ys.length : Int)) == (zs.length : Int)) = false := by simpa using hl'
    clear hA hB
    go_enter Try.func62, Try.ntmps62
    go_wp2
    go_ret
    exact ⟨retb (by simp; intro h; exact hl (by rw [h])), by (repeat' (first | (with_reducible exact Below.refl _ _) | (with_reducible assumption) | (with_reducible refine below_drewN ?_ _) | (with_reducible refine below_new ?_ _) | (with_reducible refine Below.alloc ?_ ?_ _) | (with_reducible refine Below.drew ?_) | (with_reducible refine Below.setCell ?_ ?_ _) | (with_reducible apply below_at; (case k => (with_reducible assumption)); (case hB => omega)) | (with_reducible apply below_on; (with_reducible assumption)) | (go_size; done) | (with_reducible apply size_of)))⟩
theorem bit_at : ∀ n, n < 256 → ∀ i, i < (rd n).length → (bits .and .i64 ((n : Int) / 2 ^ ((rd n).length - 1 - i)) 1 == 1) = (rd n).getD i false := by decide +kernel
set_option maxHeartbeats 1000000 in
theorem Bits_any (p : Int) (w : World) : Calls Try.prog 36 #[.agg #[.int .i64 (p)]] w (BsRes p w) := by
  cases hk : wOk p
  · have e1 : wE p = 8 := wE_no hk
    have HK := Lib.hid hk
    clear hk
    go_enter Try.func36, Try.ntmps36
    go_wp2_with fail
    refine (Check_any _ _).mono ?_
    rintro e w1 ⟨rfl, hb1⟩
    obtain ⟨cl1, fr1⟩ := bcell hb1; have sz1 := hb1.size; (try simp at sz1); (try have sy1 : w.heap.size + 1 < (w1).heap.size := (by omega)); have sx1 : w.heap.size < (w1).heap.size := (by omega)
    rw [e1]
    go_wp2
    go_ret2
    have hv : bsV p = [] := by simp [bsV, HK.out]
    exact ⟨none, 0, by rw [hv, e1]; rfl, by rw [hv]; exact .inl rfl, by rw [hv]; simp, by (repeat' (first | (with_reducible exact Below.refl _ _) | (with_reducible assumption) | (with_reducible refine below_drewN ?_ _) | (with_reducible refine below_new ?_ _) | (with_reducible refine Below.alloc ?_ ?_ _) | (with_reducible refine Below.drew ?_) | (with_reducible refine Below.setCell ?_ ?_ _) | (with_reducible apply below_at; (case k => (with_reducible assumption)); (case hB => omega)) | (with_reducible apply below_on; (with_reducible assumption)) | (go_size; done) | (with_reducible apply size_of)))⟩
  · have e1 : wE p = 0 := wE_yes hk
    have h := (wOk_iff p).1 hk
    obtain ⟨n, rfl⟩ : ∃ n : Nat, p = n := ⟨p.toNat, by omega⟩
    have h1 : 1 ≤ n := by omega
    have h2 : n < 256 := by omega
    have HV : Hid (bsV n = rd n) := Lib.hid (by simp [bsV, hk])
    have hl7 := (rd_seven n h2 h1).1
    have HBT := Lib.hid (bit_at n h2)
    clear hk h
    obtain ⟨r, hr⟩ : ∃ r, r = rd n := ⟨_, rfl⟩
    have RD := fun w => read_any n w h1 h2
    rw [← hr] at HV hl7 HBT RD
    have HR := Lib.hid hr
    clear hr
    go_enter Try.func36, Try.ntmps36
    go_wp2_with fail
    refine (Check_any _ _).mono ?_
    rintro e w1 ⟨rfl, hb1⟩
    rw [e1]
    have K1 : Hid (Lies w1 w.heap.size 31 [.int .i64 n]) := Lib.hid ((Lies.fresh _ _ _).past hb1)
    have ac1 : Below w.heap.size w w1 := by (repeat' (first | (with_reducible exact Below.refl _ _) | (with_reducible assumption) | (with_reducible refine below_drewN ?_ _) | (with_reducible refine below_new ?_ _) | (with_reducible refine Below.alloc ?_ ?_ _) | (with_reducible refine Below.drew ?_) | (with_reducible refine Below.setCell ?_ ?_ _) | (with_reducible apply below_at; (case k => (with_reducible assumption)); (case hB => omega)) | (with_reducible apply below_on; (with_reducible assumption)) | (go_size; done) | (with_reducible apply size_of)))
    have z1 := K1.out.lt
    obtain ⟨p0, f0⟩ := K1.out.one
    clear hb1
    go_wp2_with (first | (go_at_call 61; refine (RD _).mono ?_; rintro e w' ⟨rfl, rfl⟩) | (at_make; refine makeB rfl _ _ rfl _ _ r.length rfl rfl (by omega) w1.heap.size (Nat.le_refl _) ?_; intro w2 own2 hb2))
    have K2 : Hid (Lies w2 w.heap.size 31 [.int .i64 n]) := Lib.hid (K1.out.past hb2)
    have ac2 : Below w.heap.size w w2 := by (repeat' (first | (with_reducible exact Below.refl _ _) | (with_reducible assumption) | (with_reducible refine below_drewN ?_ _) | (with_reducible refine below_new ?_ _) | (with_reducible refine Below.alloc ?_ ?_ _) | (with_reducible refine Below.drew ?_) | (with_reducible refine Below.setCell ?_ ?_ _) | (with_reducible apply below_at; (case k => (with_reducible assumption)); (case hB => omega)) | (with_reducible apply below_on; (with_reducible assumption)) | (go_size; done) | (with_reducible apply size_of)))
    have z2 := own2.base_le
    rw [← fill_zero] at own2
    clear hb2 p0 f0
    go_loopw [18] (fun i wr => ∃ k : Nat, k ≤ r.length ∧ i = .int .i64 k ∧ OwnB wr w1.heap.size 4 (.slice (some ⟨w1.heap.size, 0, none⟩) r.length r.length) (fill false r k) ∧ Lies wr w.heap.size 31 [.int .i64 n] ∧ Below w.heap.size w wr) (fun i _ => r.length - (intOf i).toNat)
    case atStart => exact ⟨0, by omega, rfl, own2, K2.out, ac2⟩
    case round =>
      obtain ⟨k, hk, rfl, own, K, acc⟩ := hrel
      have HK := Lib.hid K
      have HO := Lib.hid own
      obtain ⟨p0, f0⟩ := K.one
      have z3 := own.base_le
      clear own K own2
      by_cases hlt : k < r.length
      · have q0 := HO.out.cell k (by rw [fill_len (by omega)]; omega)
        have q1 := HO.out.frozen k
        have HS := Lib.hid (fill_set (z := false) hlt false)
        have HB := Lib.hid (HBT.out k hlt)
        obtain ⟨j, hj⟩ : ∃ j : Nat, j = r.length - 1 - k := ⟨_, rfl⟩
        rw [← hj] at HB
        have ej : (r.length : Int) - 1 - k = (j : Int) := by omega
        have HJ := Lib.hid hj
        generalize (fill false r k).getD k false = old at *
        clear hj
        go_wp2
        go_roundw
        case rel =>
          refine ⟨k + 1, by omega, by go_num, ?_, by have := HK.out; (repeat' (first | (with_reducible assumption) | (with_reducible exact Lies.fresh _ _ _) | (with_reducible apply Lies.fresh_at; (first | (with_reducible rfl) | (simp; done))) | (with_reducible refine Lies.drew ?_) | (with_reducible refine Lies.drewN ?_ _) | (with_reducible refine Lies.alloc ?_ _) | (with_reducible apply Lies.past; case hb => (with_reducible assumption)) | (with_reducible apply Lies.keeps; (case k => (with_reducible assumption)); (case ht => decide)) | (with_reducible apply Lies.store3) | (with_reducible apply Lies.other; case hp => (first | omega | (simp; done) | (simp; omega))))), by (repeat' (first | (with_reducible exact Below.refl _ _) | (with_reducible assumption) | (with_reducible refine below_drewN ?_ _) | (with_reducible refine below_new ?_ _) | (with_reducible refine Below.alloc ?_ ?_ _) | (with_reducible refine Below.drew ?_) | (with_reducible refine Below.setCell ?_ ?_ _) | (with_reducible apply below_at; (case k => (with_reducible assumption)); (case hB => omega)) | (with_reducible apply below_on; (with_reducible assumption)) | (go_size; done) | (with_reducible apply size_of)))⟩
          have := HO.out.store k (r.getD k false)
          rw [HS.out] at this
          rw [← HB.out] at this
          exact this
        case measure => simp [intOf]; omega
      · have HF : Hid (fill false r k = r) := Lib.hid (fill_all (by omega))
        go_wp2
        go_ret2
        exact ⟨_, r.length, by rw [HV.out, e1]; rfl, by rw [HV.out, ← HF.out]; exact HO.out.has, by rw [HV.out]; exact Nat.le_refl _, acc⟩
end Go.Proofs.Ytemiecghdmagnaa.nibW
