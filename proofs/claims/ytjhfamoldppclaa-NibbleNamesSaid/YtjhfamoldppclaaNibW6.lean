/- What Step and Same of the reference, and Bits, return. -/
import Derived.Test.YtjhfamoldppclaaNibW5
namespace Go.Proofs.Ytjhfamoldppclaa.nibW
open Go.RowKit Go.Proofs.Ytjhfamoldppclaa.base Go.Proofs.Ytjhfamoldppclaa.nibP
set_option linter.unusedVariables false
set_option linter.unusedSimpArgs false

theorem rd_seven : ∀ n, n < 256 → 1 ≤ n → (rd n).length ≤ 7 ∧ ((rd n).length = 7 ↔ 128 ≤ n) := by decide +kernel
set_option maxHeartbeats 2000000 in
theorem rStep_any (p : Int) (b : Bool) (w : World) : Calls Try.prog 9 #[.agg #[.int .i64 (p)], .bool b] w fun e w' => e = .returned (.tuple #[.agg #[.int .i64 (stP p b)], .bool (stD p), .int .u8 (stB p b), .int .i64 (wE p)]) ∧ Below w.heap.size w w' := by
  cases hk : wOk p
  · have e1 : wE p = 8 := wE_no hk
    have HK := Lib.hid hk
    clear hk
    go_enter Try.func9, Try.ntmps9
    go_wp2_with fail
    refine (rCheck_any _ _).mono ?_
    rintro e w1 ⟨rfl, hb1⟩
    obtain ⟨cl1, fr1⟩ := bcell hb1; have sz1 := hb1.size; (try simp at sz1); (try have sy1 : w.heap.size + 1 < (w1).heap.size := (by omega)); have sx1 : w.heap.size < (w1).heap.size := (by omega)
    rw [e1]
    go_wp2_with fail
    refine (rCheck_any _ _).mono ?_
    rintro e w2 ⟨rfl, hb2⟩
    obtain ⟨cl2, fr2⟩ := bcell hb2; have sz2 := hb2.size; (try simp at sz2); (try have sy2 : w.heap.size + 1 < (w2).heap.size := (by omega)); have sx2 : w.heap.size < (w2).heap.size := (by omega)
    rw [e1]
    go_wp2
    refine bodyPost_ret (by simp [results, Try.results9, go_sem, cl1, sy1, cl2, sx1]; try rfl) rfl ?_
    exact ⟨by simp [stP, stD, stB, HK.out, e1], by (repeat' (first | (with_reducible exact Below.refl _ _) | (with_reducible assumption) | (with_reducible refine below_drewN ?_ _) | (with_reducible refine below_new ?_ _) | (with_reducible refine Below.alloc ?_ ?_ _) | (with_reducible refine Below.drew ?_) | (with_reducible refine Below.setCell ?_ ?_ _) | (with_reducible apply below_on; (with_reducible assumption)) | (go_size; done) | (with_reducible apply size_of)))⟩
  · have e1 : wE p = 0 := wE_yes hk
    have h := (wOk_iff p).1 hk
    obtain ⟨n, rfl⟩ : ∃ n : Nat, p = n := ⟨p.toNat, by omega⟩
    have h1 : 1 ≤ n := by omega
    have h2 : n < 256 := by omega
    have HK := Lib.hid hk
    have HL := Lib.hid (rd_seven n h2 h1)
    have hl7 := HL.out.1
    have HP := Lib.hid (prt_rd n (by omega) h1)
    have HBT : Hid (b.toInt = (b.toNat : Int)) := Lib.hid (by cases b <;> rfl)
    clear hk h
    go_enter Try.func9, Try.ntmps9
    go_wp2_with fail
    refine (rCheck_any _ _).mono ?_
    rintro e w1 ⟨rfl, hb1⟩
    obtain ⟨cl1, fr1⟩ := bcell hb1; have sz1 := hb1.size; (try simp at sz1); (try have sy1 : w.heap.size + 1 < (w1).heap.size := (by omega)); have sx1 : w.heap.size < (w1).heap.size := (by omega)
    rw [e1]
    go_wp2_with fail
    refine (rRead_any 9 n _ h1 (by omega) (by omega)).mono ?_
    rintro e w2 ⟨A, c, rfl, own, hb2⟩
    have HOWN := Lib.hid own
    have ac2 : Below w.heap.size w w2 := by (repeat' (first | (with_reducible exact Below.refl _ _) | (with_reducible assumption) | (with_reducible refine below_drewN ?_ _) | (with_reducible refine below_new ?_ _) | (with_reducible refine Below.alloc ?_ ?_ _) | (with_reducible refine Below.drew ?_) | (with_reducible refine Below.setCell ?_ ?_ _) | (with_reducible apply below_on; (with_reducible assumption)) | (go_size; done) | (with_reducible apply size_of)))
    have hz2 := hb2.size
    have K2 : Hid (Lies w2 (w.heap.size + 1) 23 [.int .i64 0]) := Lib.hid (((Lies.fresh_at (by simp)).past hb1).past hb2)
    clear own hb1 hb2 cl1 fr1
    obtain ⟨L, hL⟩ : ∃ L : Nat, L = (rd n).length + 1 := ⟨_, rfl⟩
    have HLL := Lib.hid hL
    have l8 : L ≤ 8 := by omega
    clear hL
    have ST : Hid (∀ m : Nat, m = prt (rd n ++ [b]) → (2 * (n : Int) + b.toInt = m ∧ (n < 128 → 2 ≤ m ∧ m < 256) ∧ (128 ≤ n → 256 ≤ m ∧ m < 512))) := Lib.hid (fun m hm => by
      rw [prt_snoc, HP.out] at hm
      rw [HBT.out]
      have : b.toNat ≤ 1 := by cases b <;> decide
      omega)
    obtain ⟨m, hm⟩ : ∃ m : Nat, m = prt (rd n ++ [b]) := ⟨_, rfl⟩
    obtain ⟨m1, m2, m3⟩ := ST.out m hm
    have HM := Lib.hid hm
    have M1 := Lib.hid m1
    clear m1 hm
    by_cases c : n < 128
    · have c2 : ¬ (L : Int) = 8 := by have := HLL.out; have := HL.out.2; omega
      have c3 : ((L : Int) == 8) = false := by simpa using c2
      have m4 := (m2 c).2
      clear m2 m3
      go_wp2_with (at_builtin; refine appB rfl _ _ rfl w1.heap.size _ (rd n) rfl (HOWN.out.below ((Below.refl _ _).alloc (Nat.le_refl _) _) (Nat.le_refl _)) (some ⟨w2.heap.size, 0, none⟩) 1 1 [b] rfl rfl (hasB_lit (zs := [b]) rfl (by simp [maxLen])) L HLL.out.symm (by omega) (by simp; omega) ?_; intro A1 c1 w3 own3 hg3 hb3)
      refine (rPart_any A1 L c1 (rd n ++ [b]) w3 own3.has (by have := HLL.out; simp; omega) l8).mono ?_
      rintro e w4 ⟨rfl, rfl⟩
      rw [← HM.out]
      have hz3 := hb3.size
      have K3 : Hid (Lies w3 (w.heap.size + 1) 23 [.int .i64 0]) := Lib.hid ((K2.out.alloc _).below hb3 (by omega))
      have ac3 : Below w.heap.size w w3 := (ac2.alloc (by omega) _).trans (hb3.mono (by omega))
      have q0 := K3.out.cell 0
      have q1 := K3.out.free 0
      have q := (K3.out.set 0 (.int .i64 m)).cell 0
      go_wp2
      refine bodyPost_ret (by simp [results, Try.results9, go_sem, q]; try rfl) rfl ?_
      refine ⟨?_, by (repeat' (first | (with_reducible exact Below.refl _ _) | (with_reducible assumption) | (with_reducible refine below_drewN ?_ _) | (with_reducible refine below_new ?_ _) | (with_reducible refine Below.alloc ?_ ?_ _) | (with_reducible refine Below.drew ?_) | (with_reducible refine Below.setCell ?_ ?_ _) | (with_reducible apply below_on; (with_reducible assumption)) | (go_size; done) | (with_reducible apply size_of)))⟩
      rw [stP, stD, stB, e1, if_pos HK.out, if_pos HK.out, if_pos (by omega), if_pos (by omega), HK.out, M1.out, decide_eq_false (by omega)]
      rfl
    · have c2 : (L : Int) = 8 := by have := HLL.out; have := HL.out.2; omega
      obtain rfl : L = 8 := by omega
      have m4 := (m3 (by omega))
      clear m2 m3 c2
      go_wp2_with (at_builtin; refine appB rfl _ _ rfl w1.heap.size _ (rd n) rfl (HOWN.out.below ((Below.refl _ _).alloc (Nat.le_refl _) _) (Nat.le_refl _)) (some ⟨w2.heap.size, 0, none⟩) 1 1 [b] rfl rfl (hasB_lit (zs := [b]) rfl (by simp [maxLen])) 8 HLL.out.symm (by omega) (by simp; omega) ?_; intro A1 c1 w3 own3 hg3 hb3)
      refine (rPart_any A1 8 c1 (rd n ++ [b]) w3 own3.has (by have := HLL.out; simp; omega) (by omega)).mono ?_
      rintro e w4 ⟨rfl, rfl⟩
      rw [← HM.out]
      have hz3 := hb3.size
      have K3 : Hid (Lies w3 (w.heap.size + 1) 23 [.int .i64 0]) := Lib.hid ((K2.out.alloc _).below hb3 (by omega))
      have ac3 : Below w.heap.size w w3 := (ac2.alloc (by omega) _).trans (hb3.mono (by omega))
      have q0 := K3.out.cell 0
      have q1 := K3.out.free 0
      have q := (K3.out.set 0 (.int .i64 1)).cell 0
      obtain ⟨z, hz⟩ : ∃ z : Int, z = m := ⟨_, rfl⟩
      have z1 : 256 ≤ z := by omega
      have z2 : z < 512 := by omega
      rw [← hz] at M1 ⊢
      clear hz m4
      go_wp2
      refine bodyPost_ret (by simp [results, Try.results9, go_sem, q]; try rfl) rfl ?_
      refine ⟨?_, by (repeat' (first | (with_reducible exact Below.refl _ _) | (with_reducible assumption) | (with_reducible refine below_drewN ?_ _) | (with_reducible refine below_new ?_ _) | (with_reducible refine Below.alloc ?_ ?_ _) | (with_reducible refine Below.drew ?_) | (with_reducible refine Below.setCell ?_ ?_ _) | (with_reducible apply below_on; (with_reducible assumption)) | (go_size; done) | (with_reducible apply size_of)))⟩
      rw [stP, stD, stB, e1, if_pos HK.out, if_pos HK.out, if_neg (by omega), if_neg (by omega), HK.out, M1.out, decide_eq_true (by omega)]
      rfl
set_option maxHeartbeats 1000000 in
theorem rSame_any (A B : Option Addr) (lp ln cp cn : Nat) (ys zs : List Bool) (w : World) (hA : HasB w A ys) (eA : ys.length = lp) (hB : HasB w B zs) (eB : zs.length = ln)
    (m1 : lp ≤ 9223372036854775807) (m2 : ln ≤ 9223372036854775807) :
    Calls Try.prog 21 #[.slice A lp cp, .slice B ln cn] w fun e w' => e = .returned (.bool (decide (ys = zs))) ∧ Below w.heap.size w w' := by
  subst eA eB
  by_cases hl : ys.length = zs.length
  · have hl' : ((ys.length : Int)) = (zs.length : Int) := by omega
    have HA := Lib.hid hA
    have HB := Lib.hid hB
    have HL := Lib.hid hl
    clear hA hB hl
    go_enter Try.func21, Try.ntmps21
    go_wp2_with fail
    clear hl'
    go_loopw [5] (fun i wr => ∃ k : Nat, k ≤ ys.length ∧ i = .int .i64 k ∧ ys.take k = zs.take k ∧ Below w.heap.size w wr) (fun i _ => ys.length - (intOf i).toNat)
    case atStart => exact ⟨0, Nat.zero_le _, rfl, rfl, Below.refl _ _⟩
    case round =>
      obtain ⟨k, hk, rfl, hall, acc⟩ := hrel
      have HE := Lib.hid hall
      clear hall
      by_cases hlt : k < ys.length
      · have hlt2 : k < zs.length := by have := HL.out; omega
        obtain ⟨b, off, rfl, hb, hcA⟩ := hasB_some HA.out (by omega)
        obtain ⟨c, off2, rfl, hb2, hcB⟩ := hasB_some HB.out (by omega)
        have hca : wr.cell? ⟨b, off + k, none⟩ = some (.bool (ys.getD k false)) := by rw [(bcell acc).1 b _ hb]; exact hcA k hlt
        have hcb : wr.cell? ⟨c, off2 + k, none⟩ = some (.bool (zs.getD k false)) := by rw [(bcell acc).1 c _ hb2]; exact hcB k hlt2
        have G1 := Lib.hid (take_snoc false ys k hlt)
        have G2 := Lib.hid (take_snoc false zs k hlt2)
        have HN : Hid (ys.getD k false ≠ zs.getD k false → ys ≠ zs) := Lib.hid fun h1 h2 => h1 (by rw [h2])
        clear hcA hcB
        generalize ys.getD k false = x at *
        generalize zs.getD k false = y at *
        by_cases hxy : x = y
        · subst hxy
          go_wp2
          go_quiet (fail)
          go_wp2
          go_roundw
          case rel => exact ⟨k + 1, by omega, by go_num, by rw [G1.out, G2.out, HE.out], by (repeat' (first | (with_reducible exact Below.refl _ _) | (with_reducible assumption) | (with_reducible refine below_drewN ?_ _) | (with_reducible refine below_new ?_ _) | (with_reducible refine Below.alloc ?_ ?_ _) | (with_reducible refine Below.drew ?_) | (with_reducible refine Below.setCell ?_ ?_ _) | (with_reducible apply below_on; (with_reducible assumption)) | (go_size; done) | (with_reducible apply size_of)))⟩
          case measure => simp [intOf]; omega
        · have HXY := Lib.hid hxy
          have hne : (x == y) = false := by simpa using hxy
          have hne2 : (x != y) = true := by simpa using hxy
          go_wp2
          go_quiet (fail)
          go_wp2
          go_ret
          exact ⟨retb (by simpa using HN.out HXY.out), by (repeat' (first | (with_reducible exact Below.refl _ _) | (with_reducible assumption) | (with_reducible refine below_drewN ?_ _) | (with_reducible refine below_new ?_ _) | (with_reducible refine Below.alloc ?_ ?_ _) | (with_reducible refine Below.drew ?_) | (with_reducible refine Below.setCell ?_ ?_ _) | (with_reducible apply below_on; (with_reducible assumption)) | (go_size; done) | (with_reducible apply size_of)))⟩
      · have e1 : ys = zs := by
          have := HE.out
          rw [List.take_of_length_le (by omega), List.take_of_length_le (by have := HL.out; omega)] at this
          exact this
        have HE1 := Lib.hid e1
        clear e1
        go_wp2
        go_ret
        exact ⟨retb (by simpa using HE1.out), by (repeat' (first | (with_reducible exact Below.refl _ _) | (with_reducible assumption) | (with_reducible refine below_drewN ?_ _) | (with_reducible refine below_new ?_ _) | (with_reducible refine Below.alloc ?_ ?_ _) | (with_reducible refine Below.drew ?_) | (with_reducible refine Below.setCell ?_ ?_ _) | (with_reducible apply below_on; (with_reducible assumption)) | (go_size; done) | (with_reducible apply size_of)))⟩
  · have hl' : ¬ ((ys.length : Int)) = (zs.length : Int) := by omega
    have hl2 : (((ys.length : Int)) == (zs.length : Int)) = false := by simpa using hl'
    clear hA hB
    go_enter Try.func21, Try.ntmps21
    go_wp2
    go_ret
    exact ⟨retb (by simp; intro h; exact hl (by rw [h])), by (repeat' (first | (with_reducible exact Below.refl _ _) | (with_reducible assumption) | (with_reducible refine below_drewN ?_ _) | (with_reducible refine below_new ?_ _) | (with_reducible refine Below.alloc ?_ ?_ _) | (with_reducible refine Below.drew ?_) | (with_reducible refine Below.setCell ?_ ?_ _) | (with_reducible apply below_on; (with_reducible assumption)) | (go_size; done) | (with_reducible apply size_of)))⟩
theorem bit_at : ∀ n, n < 256 → ∀ i, i < (rd n).length → (bits .and .i64 ((n : Int) / 2 ^ ((rd n).length - 1 - i)) 1 == 1) = (rd n).getD i false := by decide +kernel
set_option maxHeartbeats 1000000 in
theorem Bits_any (p : Int) (w : World) : Calls Try.prog 14 #[.agg #[.int .i64 (p)]] w (BsRes p w) := by
  cases hk : wOk p
  · have e1 : wE p = 8 := wE_no hk
    have HK := Lib.hid hk
    clear hk
    go_enter Try.func14, Try.ntmps14
    go_wp2_with fail
    refine (Check_any _ _).mono ?_
    rintro e w1 ⟨rfl, hb1⟩
    obtain ⟨cl1, fr1⟩ := bcell hb1; have sz1 := hb1.size; (try simp at sz1); (try have sy1 : w.heap.size + 1 < (w1).heap.size := (by omega)); have sx1 : w.heap.size < (w1).heap.size := (by omega)
    rw [e1]
    go_wp2
    go_ret2
    have hv : bsV p = [] := by simp [bsV, HK.out]
    exact ⟨none, 0, by rw [hv, e1]; rfl, by rw [hv]; exact .inl rfl, by rw [hv]; simp, by (repeat' (first | (with_reducible exact Below.refl _ _) | (with_reducible assumption) | (with_reducible refine below_drewN ?_ _) | (with_reducible refine below_new ?_ _) | (with_reducible refine Below.alloc ?_ ?_ _) | (with_reducible refine Below.drew ?_) | (with_reducible refine Below.setCell ?_ ?_ _) | (with_reducible apply below_on; (with_reducible assumption)) | (go_size; done) | (with_reducible apply size_of)))⟩
  · have e1 : wE p = 0 := wE_yes hk
    have h := (wOk_iff p).1 hk
    obtain ⟨n, rfl⟩ : ∃ n : Nat, p = n := ⟨p.toNat, by omega⟩
    have h1 : 1 ≤ n := by omega
    have h2 : n < 256 := by omega
    have HV : Hid (bsV n = rd n) := Lib.hid (by simp [bsV, hk])
    have hl7 := (rd_seven n h2 h1).1
    have HBT := Lib.hid (bit_at n h2)
    clear hk h
    obtain ⟨r, hr⟩ : ∃ r, r = rd n := ⟨_, rfl⟩
    have RD := fun w => read_any n w h1 h2
    rw [← hr] at HV hl7 HBT RD
    have HR := Lib.hid hr
    clear hr
    go_enter Try.func14, Try.ntmps14
    go_wp2_with fail
    refine (Check_any _ _).mono ?_
    rintro e w1 ⟨rfl, hb1⟩
    rw [e1]
    have K1 : Hid (Lies w1 w.heap.size 23 [.int .i64 n]) := Lib.hid ((Lies.fresh _ _ _).past hb1)
    have ac1 : Below w.heap.size w w1 := by (repeat' (first | (with_reducible exact Below.refl _ _) | (with_reducible assumption) | (with_reducible refine below_drewN ?_ _) | (with_reducible refine below_new ?_ _) | (with_reducible refine Below.alloc ?_ ?_ _) | (with_reducible refine Below.drew ?_) | (with_reducible refine Below.setCell ?_ ?_ _) | (with_reducible apply below_on; (with_reducible assumption)) | (go_size; done) | (with_reducible apply size_of)))
    have z1 := K1.out.lt
    obtain ⟨p0, f0⟩ := K1.out.one
    clear hb1
    go_wp2_with (first | (go_at_call 30; refine (RD _).mono ?_; rintro e w' ⟨rfl, rfl⟩) | (at_make; refine makeB rfl _ _ rfl _ _ r.length rfl rfl (by omega) w1.heap.size (Nat.le_refl _) ?_; intro w2 own2 hb2))
    have K2 : Hid (Lies w2 w.heap.size 23 [.int .i64 n]) := Lib.hid (K1.out.past hb2)
    have ac2 : Below w.heap.size w w2 := by (repeat' (first | (with_reducible exact Below.refl _ _) | (with_reducible assumption) | (with_reducible refine below_drewN ?_ _) | (with_reducible refine below_new ?_ _) | (with_reducible refine Below.alloc ?_ ?_ _) | (with_reducible refine Below.drew ?_) | (with_reducible refine Below.setCell ?_ ?_ _) | (with_reducible apply below_on; (with_reducible assumption)) | (go_size; done) | (with_reducible apply size_of)))
    have z2 := own2.base_le
    rw [← fill_zero] at own2
    clear hb2 p0 f0
    go_loopw [18] (fun i wr => ∃ k : Nat, k ≤ r.length ∧ i = .int .i64 k ∧ OwnB wr w1.heap.size 4 (.slice (some ⟨w1.heap.size, 0, none⟩) r.length r.length) (fill false r k) ∧ Lies wr w.heap.size 23 [.int .i64 n] ∧ Below w.heap.size w wr) (fun i _ => r.length - (intOf i).toNat)
    case atStart => exact ⟨0, by omega, rfl, own2, K2.out, ac2⟩
    case round =>
      obtain ⟨k, hk, rfl, own, K, acc⟩ := hrel
      have HK := Lib.hid K
      have HO := Lib.hid own
      obtain ⟨p0, f0⟩ := K.one
      have z3 := own.base_le
      clear own K own2
      by_cases hlt : k < r.length
      · have q0 := HO.out.cell k (by rw [fill_len (by omega)]; omega)
        have q1 := HO.out.frozen k
        have HS := Lib.hid (fill_set (z := false) hlt false)
        have HB := Lib.hid (HBT.out k hlt)
        obtain ⟨j, hj⟩ : ∃ j : Nat, j = r.length - 1 - k := ⟨_, rfl⟩
        rw [← hj] at HB
        have ej : (r.length : Int) - 1 - k = (j : Int) := by omega
        have HJ := Lib.hid hj
        generalize (fill false r k).getD k false = old at *
        clear hj
        go_wp2
        go_roundw
        case rel =>
          refine ⟨k + 1, by omega, by go_num, ?_, by have := HK.out; (repeat' (first | (with_reducible assumption) | (with_reducible exact Lies.fresh _ _ _) | (with_reducible apply Lies.fresh_at; (first | (with_reducible rfl) | (simp; done))) | (with_reducible refine Lies.drew ?_) | (with_reducible refine Lies.drewN ?_ _) | (with_reducible refine Lies.alloc ?_ _) | (with_reducible apply Lies.past; case hb => (with_reducible assumption)) | (with_reducible apply Lies.store3) | (with_reducible apply Lies.other; case hp => (first | omega | (simp; done) | (simp; omega))))), by (repeat' (first | (with_reducible exact Below.refl _ _) | (with_reducible assumption) | (with_reducible refine below_drewN ?_ _) | (with_reducible refine below_new ?_ _) | (with_reducible refine Below.alloc ?_ ?_ _) | (with_reducible refine Below.drew ?_) | (with_reducible refine Below.setCell ?_ ?_ _) | (with_reducible apply below_on; (with_reducible assumption)) | (go_size; done) | (with_reducible apply size_of)))⟩
          have := HO.out.store k (r.getD k false)
          rw [HS.out] at this
          rw [← HB.out] at this
          exact this
        case measure => simp [intOf]; omega
      · have HF : Hid (fill false r k = r) := Lib.hid (fill_all (by omega))
        go_wp2
        go_ret2
        exact ⟨_, r.length, by rw [HV.out, e1]; rfl, by rw [HV.out, ← HF.out]; exact HO.out.has, by rw [HV.out]; exact Nat.le_refl _, acc⟩
end Go.Proofs.Ytjhfamoldppclaa.nibW
