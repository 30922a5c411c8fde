/- The reference's finding, comparing and copies of finders, by walks. -/
import Derived.Test.YtbdipdnnjbpibaaFdW3
import Derived.Deep.RegionLaw
import Derived.Deep.RegionHeld3
import Derived.BigQuiet
namespace Go.Proofs.Ytbdipdnnjbpibaa.fdW
open Go.RowKit Go.Proofs.Ytbdipdnnjbpibaa.base Go.Proofs.Ytbdipdnnjbpibaa.rgP Go.Proofs.Ytbdipdnnjbpibaa.rgW Go.Proofs.Ytbdipdnnjbpibaa.fdP Go.Proofs.Ytbdipdnnjbpibaa.hashW
set_option linter.unusedVariables false
set_option linter.unusedSimpArgs false

set_option maxHeartbeats 2000000 in
theorem rFind_any (f : Fnd) (A : Option Addr) (n c : Nat) (x : Int) (w : World) (h : FdIn w A n c f) (h1 : 0 ≤ x) (h2 : x ≤ 4294967295) :
    Calls Try.prog 21 #[.agg #[.int .i64 (f).l, .slice A n c], .int .u32 x] w fun e w' => e = .returned (.tuple #[.int .i64 (findV f x), .int .i64 (fdE f)]) ∧ Below w.heap.size w w' := by
  have H := Lib.hid h
  cases hok : fdOk f
  · have e1 := fdE_no hok
    have HV : Hid (fdE f = 8 ∧ findV f x = 0) := Lib.hid ⟨fdE_no hok, by rw [findV, if_neg (by rw [hok]; decide)]⟩
    clear h hok
    go_enter Try.func21, Try.ntmps21
    go_wp2_with (first | (go_at_call 24; refine (rCheck_any f _ n c _ (H.out.below (by (repeat' (first | (with_reducible exact Below.refl _ _) | (with_reducible assumption) | (with_reducible refine below_drewN ?_ _) | (with_reducible refine below_new ?_ _) | (with_reducible refine Below.alloc ?_ ?_ _) | (with_reducible refine Below.drew ?_) | (with_reducible refine Below.setCell ?_ ?_ _) | (with_reducible apply below_at; (case k => (with_reducible assumption)); (case hB => omega)) | (with_reducible apply below_on; (with_reducible assumption)) | (go_size; done) | (with_reducible apply size_of)))))).mono ?_; rintro e w1 ⟨rfl, hb1⟩; rw [e1]; have K1 : Lies (w1) (w.heap.size) 24 [.int .i64 (f).l, .slice (A) (n) (c)] := (by (repeat' (first | (with_reducible assumption) | (with_reducible exact Lies.fresh _ _ _) | (with_reducible apply Lies.fresh_at; (first | (with_reducible rfl) | (simp; done))) | (with_reducible refine Lies.drew ?_) | (with_reducible refine Lies.drewN ?_ _) | (with_reducible refine Lies.alloc ?_ _) | (with_reducible apply Lies.past; case hb => (with_reducible assumption)) | (with_reducible apply Lies.keeps; (case k => (with_reducible assumption)); (case ht => decide)) | (with_reducible apply Lies.store3) | (with_reducible apply Lies.other; case hp => (first | omega | (simp; done) | (simp; omega)))))); obtain ⟨p0, p1, -, -⟩ := K1.two; have HB1 := Lib.hid hb1; have HK1 := Lib.hid K1))
    go_ret2
    exact ⟨ret2 HV.out.2.symm HV.out.1.symm, by (repeat' (first | (with_reducible exact Below.refl _ _) | (with_reducible assumption) | (with_reducible refine below_drewN ?_ _) | (with_reducible refine below_new ?_ _) | (with_reducible refine Below.alloc ?_ ?_ _) | (with_reducible refine Below.drew ?_) | (with_reducible refine Below.setCell ?_ ?_ _) | (with_reducible apply below_at; (case k => (with_reducible assumption)); (case hB => omega)) | (with_reducible apply below_on; (with_reducible assumption)) | (go_size; done) | (with_reducible apply size_of)))⟩
  · obtain ⟨p, hp⟩ : ∃ p, plc f x = p := ⟨_, rfl⟩
    obtain ⟨a1, a2, a3⟩ := fd_parts h hok x
    obtain ⟨b, off, hA, hb, hc⟩ := has_some h.h (by have := h.e; omega)
    have e1 := fdE_yes hok
    have HV : Hid (fdE f = 0 ∧ findV f x = f.s.getD p 0 ∧ (plc f x : Int) = (p : Int)) := Lib.hid ⟨fdE_yes hok, by rw [findV, if_pos hok, hp], by rw [hp]⟩
    rw [hp] at a3
    have q1 : (p : Int) < n := by omega
    have q0 : (0 : Int) ≤ p := by omega
    have HC := Lib.hid (And.intro hb (hc p (by rw [h.e]; exact a3)))
    have HE := Lib.hid (And.intro h.e (And.intro a1 a2))
    clear h hok hc hb hp a1 a2 a3
    generalize f.s.getD p 0 = y at *
    subst hA
    go_enter Try.func21, Try.ntmps21
    go_upto_region 3 with (first | (go_at_call 24; refine (rCheck_any f _ n c _ (H.out.below (by (repeat' (first | (with_reducible exact Below.refl _ _) | (with_reducible assumption) | (with_reducible refine below_drewN ?_ _) | (with_reducible refine below_new ?_ _) | (with_reducible refine Below.alloc ?_ ?_ _) | (with_reducible refine Below.drew ?_) | (with_reducible refine Below.setCell ?_ ?_ _) | (with_reducible apply below_at; (case k => (with_reducible assumption)); (case hB => omega)) | (with_reducible apply below_on; (with_reducible assumption)) | (go_size; done) | (with_reducible apply size_of)))))).mono ?_; rintro e w1 ⟨rfl, hb1⟩; rw [e1]; have K1 : Lies (w1) (w.heap.size) 24 [.int .i64 (f).l, .slice ((some ⟨b, off, none⟩)) (n) (c)] := (by (repeat' (first | (with_reducible assumption) | (with_reducible exact Lies.fresh _ _ _) | (with_reducible apply Lies.fresh_at; (first | (with_reducible rfl) | (simp; done))) | (with_reducible refine Lies.drew ?_) | (with_reducible refine Lies.drewN ?_ _) | (with_reducible refine Lies.alloc ?_ _) | (with_reducible apply Lies.past; case hb => (with_reducible assumption)) | (with_reducible apply Lies.keeps; (case k => (with_reducible assumption)); (case ht => decide)) | (with_reducible apply Lies.store3) | (with_reducible apply Lies.other; case hp => (first | omega | (simp; done) | (simp; omega)))))); obtain ⟨p0, p1, -, -⟩ := K1.two; have HB1 := Lib.hid hb1; have HK1 := Lib.hid K1))
    go_region_held3 (fun x' => x'.cell? ⟨w.heap.size, 0, none⟩ = some (.int .i64 f.l) ∧ x'.cell? ⟨w.heap.size, 1, none⟩ = some (.slice (some ⟨b, off, none⟩) n c) ∧ x'.cell? ⟨b, off + p, none⟩ = some (.int .i64 y))
      ((exact ⟨(show Lies (_) (w.heap.size) 24 [.int .i64 (f).l, .slice ((some ⟨b, off, none⟩)) (n) (c)] from (by have := HK1.out; (repeat' (first | (with_reducible assumption) | (with_reducible exact Lies.fresh _ _ _) | (with_reducible apply Lies.fresh_at; (first | (with_reducible rfl) | (simp; done))) | (with_reducible refine Lies.drew ?_) | (with_reducible refine Lies.drewN ?_ _) | (with_reducible refine Lies.alloc ?_ _) | (with_reducible apply Lies.past; case hb => (with_reducible assumption)) | (with_reducible apply Lies.keeps; (case k => (with_reducible assumption)); (case ht => decide)) | (with_reducible apply Lies.store3) | (with_reducible apply Lies.other; case hp => (first | omega | (simp; done) | (simp; omega))))))).cell 0, (show Lies (_) (w.heap.size) 24 [.int .i64 (f).l, .slice ((some ⟨b, off, none⟩)) (n) (c)] from (by have := HK1.out; (repeat' (first | (with_reducible assumption) | (with_reducible exact Lies.fresh _ _ _) | (with_reducible apply Lies.fresh_at; (first | (with_reducible rfl) | (simp; done))) | (with_reducible refine Lies.drew ?_) | (with_reducible refine Lies.drewN ?_ _) | (with_reducible refine Lies.alloc ?_ _) | (with_reducible apply Lies.past; case hb => (with_reducible assumption)) | (with_reducible apply Lies.keeps; (case k => (with_reducible assumption)); (case ht => decide)) | (with_reducible apply Lies.store3) | (with_reducible apply Lies.other; case hp => (first | omega | (simp; done) | (simp; omega))))))).cell 1, by rw [(bcell (show Below w.heap.size w _ by have := HB1.out; (repeat' (first | (with_reducible exact Below.refl _ _) | (with_reducible assumption) | (with_reducible refine below_drewN ?_ _) | (with_reducible refine below_new ?_ _) | (with_reducible refine Below.alloc ?_ ?_ _) | (with_reducible refine Below.drew ?_) | (with_reducible refine Below.setCell ?_ ?_ _) | (with_reducible apply below_at; (case k => (with_reducible assumption)); (case hB => omega)) | (with_reducible apply below_on; (with_reducible assumption)) | (go_size; done) | (with_reducible apply size_of))))).1 b _ HC.out.1]; exact HC.out.2⟩))
      (first | (go_at_call 43; refine (rPlace_ok f _ n c x _ HE.out.1 HE.out.2.1 HE.out.2.2 h1 h2).mono ?_; rintro e w2 ⟨rfl, hb2⟩; rw [HV.out.2.2]))
    all_goals
      go_wp2_with fail
      go_ret2
      exact ⟨ret2 HV.out.2.1.symm HV.out.1.symm, by have := HB1.out; (repeat' (first | (with_reducible exact Below.refl _ _) | (with_reducible assumption) | (with_reducible refine below_drewN ?_ _) | (with_reducible refine below_new ?_ _) | (with_reducible refine Below.alloc ?_ ?_ _) | (with_reducible refine Below.drew ?_) | (with_reducible refine Below.setCell ?_ ?_ _) | (with_reducible apply below_at; (case k => (with_reducible assumption)); (case hB => omega)) | (with_reducible apply below_on; (with_reducible assumption)) | (go_size; done) | (with_reducible apply size_of)))⟩
def sameF (a b : Fnd) : Bool := decide (a.l = b.l) && decide (a.s = b.s)
theorem sameF_refl (a : Fnd) : sameF a a = true := by unfold sameF; rw [decide_eq_true rfl, decide_eq_true rfl]; rfl
set_option maxHeartbeats 4000000 in
theorem rSame_any (a b : Fnd) (A B : Option Addr) (n m c d : Nat) (w : World) (hA : Has .i64 w A a.s) (eA : a.s.length = n) (hB : Has .i64 w B b.s) (eB : b.s.length = m) (m1 : n ≤ 9223372036854775807) (m2 : m ≤ 9223372036854775807) :
    Calls Try.prog 23 #[.agg #[.int .i64 (a).l, .slice A n c], .agg #[.int .i64 (b).l, .slice B m d]] w fun e w' => e = .returned (.bool (sameF a b)) ∧ Below w.heap.size w w' := by
  by_cases h1 : a.l = b.l
  · by_cases hl : n = m
    · subst hl
      have HV : Hid (sameF a b = decide (a.s = b.s)) := Lib.hid (by unfold sameF; rw [decide_eq_true h1]; simp)
      have HA := Lib.hid hA
      have HB := Lib.hid hB
      have HE := Lib.hid (And.intro eA eB)
      have n9 : (n : Int) ≤ 9223372036854775807 := by omega
      clear hA hB eA eB m1 m2
      generalize a.l = la at *
      generalize b.l = lb at *
      subst h1
      have LL : Hid (Lies ((w.alloc (.cells #[.int .i64 la, .slice A n c] 24)).alloc (.cells #[.int .i64 la, .slice B n d] 24)) w.heap.size 24 [.int .i64 la, .slice A n c] ∧ Lies ((w.alloc (.cells #[.int .i64 la, .slice A n c] 24)).alloc (.cells #[.int .i64 la, .slice B n d] 24)) (w.heap.size + 1) 24 [.int .i64 la, .slice B n d]) := Lib.hid ⟨by (repeat' (first | (with_reducible assumption) | (with_reducible exact Lies.fresh _ _ _) | (with_reducible apply Lies.fresh_at; (first | (with_reducible rfl) | (simp; done))) | (with_reducible refine Lies.drew ?_) | (with_reducible refine Lies.drewN ?_ _) | (with_reducible refine Lies.alloc ?_ _) | (with_reducible apply Lies.past; case hb => (with_reducible assumption)) | (with_reducible apply Lies.keeps; (case k => (with_reducible assumption)); (case ht => decide)) | (with_reducible apply Lies.store3) | (with_reducible apply Lies.other; case hp => (first | omega | (simp; done) | (simp; omega))))), by (repeat' (first | (with_reducible assumption) | (with_reducible exact Lies.fresh _ _ _) | (with_reducible apply Lies.fresh_at; (first | (with_reducible rfl) | (simp; done))) | (with_reducible refine Lies.drew ?_) | (with_reducible refine Lies.drewN ?_ _) | (with_reducible refine Lies.alloc ?_ _) | (with_reducible apply Lies.past; case hb => (with_reducible assumption)) | (with_reducible apply Lies.keeps; (case k => (with_reducible assumption)); (case ht => decide)) | (with_reducible apply Lies.store3) | (with_reducible apply Lies.other; case hp => (first | omega | (simp; done) | (simp; omega)))))⟩
      go_enter Try.func23, Try.ntmps23
      go_wp2_with fail
      go_loopw [5] (fun i wr => ∃ k : Nat, k ≤ n ∧ i = .int .i64 k ∧ a.s.take k = b.s.take k ∧ Lies wr w.heap.size 24 [.int .i64 la, .slice A n c] ∧ Lies wr (w.heap.size + 1) 24 [.int .i64 la, .slice B n d] ∧ Below w.heap.size w wr) (fun i _ => n - (intOf i).toNat)
      case atStart => exact ⟨0, Nat.zero_le _, rfl, rfl, LL.out.1, LL.out.2, by (repeat' (first | (with_reducible exact Below.refl _ _) | (with_reducible assumption) | (with_reducible refine below_drewN ?_ _) | (with_reducible refine below_new ?_ _) | (with_reducible refine Below.alloc ?_ ?_ _) | (with_reducible refine Below.drew ?_) | (with_reducible refine Below.setCell ?_ ?_ _) | (with_reducible apply below_at; (case k => (with_reducible assumption)); (case hB => omega)) | (with_reducible apply below_on; (with_reducible assumption)) | (go_size; done) | (with_reducible apply size_of)))⟩
      case round =>
        obtain ⟨k, hk, rfl, hall, K, M, acc⟩ := hrel
        have HL := Lib.hid hall
        have HK := Lib.hid K
        have HM := Lib.hid M
        have HACC := Lib.hid acc
        obtain ⟨p0, p1, -, -⟩ := K.two
        obtain ⟨q0, q1, -, -⟩ := M.two
        by_cases hlt : k < n
        · obtain ⟨b1, o1, rfl, hb1, hc1⟩ := has_some HA.out (by rw [HE.out.1]; omega)
          obtain ⟨b2, o2, rfl, hb2, hc2⟩ := has_some HB.out (by rw [HE.out.2]; omega)
          have hca : wr.cell? ⟨b1, o1 + k, none⟩ = some (.int .i64 (a.s.getD k 0)) := by rw [(bcell acc).1 b1 _ hb1]; exact hc1 k (by rw [HE.out.1]; exact hlt)
          have hcb : wr.cell? ⟨b2, o2 + k, none⟩ = some (.int .i64 (b.s.getD k 0)) := by rw [(bcell acc).1 b2 _ hb2]; exact hc2 k (by rw [HE.out.2]; exact hlt)
          have G1 := Lib.hid (take_snoc 0 a.s k (by rw [HE.out.1]; exact hlt))
          have G2 := Lib.hid (take_snoc 0 b.s k (by rw [HE.out.2]; exact hlt))
          have HNE : Hid (a.s.getD k 0 ≠ b.s.getD k 0 → sameF a b = false) := Lib.hid fun h => by rw [HV.out]; exact decide_eq_false (fun e => h (by rw [e]))
          have k1 : (k : Int) < n := by omega
          have k0 : (0 : Int) ≤ k := by omega
          have HLT := Lib.hid hlt
          clear K M acc hall hlt hk hc1 hc2
          generalize a.s.getD k 0 = x at *
          generalize b.s.getD k 0 = y at *
          by_cases hxy : x = y
          · subst hxy
            go_wp2_with fail
            go_quiet (fail)
            go_wp2_with fail
            go_roundw
            case rel => exact ⟨k + 1, HLT.out, by go_num, by rw [G1.out, G2.out, HL.out], by have := HK.out; (repeat' (first | (with_reducible assumption) | (with_reducible exact Lies.fresh _ _ _) | (with_reducible apply Lies.fresh_at; (first | (with_reducible rfl) | (simp; done))) | (with_reducible refine Lies.drew ?_) | (with_reducible refine Lies.drewN ?_ _) | (with_reducible refine Lies.alloc ?_ _) | (with_reducible apply Lies.past; case hb => (with_reducible assumption)) | (with_reducible apply Lies.keeps; (case k => (with_reducible assumption)); (case ht => decide)) | (with_reducible apply Lies.store3) | (with_reducible apply Lies.other; case hp => (first | omega | (simp; done) | (simp; omega))))), by have := HM.out; (repeat' (first | (with_reducible assumption) | (with_reducible exact Lies.fresh _ _ _) | (with_reducible apply Lies.fresh_at; (first | (with_reducible rfl) | (simp; done))) | (with_reducible refine Lies.drew ?_) | (with_reducible refine Lies.drewN ?_ _) | (with_reducible refine Lies.alloc ?_ _) | (with_reducible apply Lies.past; case hb => (with_reducible assumption)) | (with_reducible apply Lies.keeps; (case k => (with_reducible assumption)); (case ht => decide)) | (with_reducible apply Lies.store3) | (with_reducible apply Lies.other; case hp => (first | omega | (simp; done) | (simp; omega))))), by have := HACC.out; (repeat' (first | (with_reducible exact Below.refl _ _) | (with_reducible assumption) | (with_reducible refine below_drewN ?_ _) | (with_reducible refine below_new ?_ _) | (with_reducible refine Below.alloc ?_ ?_ _) | (with_reducible refine Below.drew ?_) | (with_reducible refine Below.setCell ?_ ?_ _) | (with_reducible apply below_at; (case k => (with_reducible assumption)); (case hB => omega)) | (with_reducible apply below_on; (with_reducible assumption)) | (go_size; done) | (with_reducible apply size_of)))⟩
            case measure => simp [intOf]; have := HLT.out; omega
          · have hne : (x == y) = false := by simpa using hxy
            go_wp2_with fail
            go_quiet (fail)
            go_wp2_with fail
            go_ret
            exact ⟨retb (HNE.out hxy).symm, by have := HACC.out; (repeat' (first | (with_reducible exact Below.refl _ _) | (with_reducible assumption) | (with_reducible refine below_drewN ?_ _) | (with_reducible refine below_new ?_ _) | (with_reducible refine Below.alloc ?_ ?_ _) | (with_reducible refine Below.drew ?_) | (with_reducible refine Below.setCell ?_ ?_ _) | (with_reducible apply below_at; (case k => (with_reducible assumption)); (case hB => omega)) | (with_reducible apply below_on; (with_reducible assumption)) | (go_size; done) | (with_reducible apply size_of)))⟩
        · have HG : Hid (sameF a b = true) := Lib.hid (by
            rw [HV.out]
            have h := HL.out
            rw [List.take_of_length_le (by rw [HE.out.1]; omega), List.take_of_length_le (by rw [HE.out.2]; omega)] at h
            exact decide_eq_true h)
          clear K M acc hall
          go_wp2_with fail
          go_ret
          exact ⟨retb HG.out.symm, by have := HACC.out; (repeat' (first | (with_reducible exact Below.refl _ _) | (with_reducible assumption) | (with_reducible refine below_drewN ?_ _) | (with_reducible refine below_new ?_ _) | (with_reducible refine Below.alloc ?_ ?_ _) | (with_reducible refine Below.drew ?_) | (with_reducible refine Below.setCell ?_ ?_ _) | (with_reducible apply below_at; (case k => (with_reducible assumption)); (case hB => omega)) | (with_reducible apply below_on; (with_reducible assumption)) | (go_size; done) | (with_reducible apply size_of)))⟩
    · have HV : Hid (sameF a b = false) := Lib.hid (by unfold sameF; rw [decide_eq_false (p := a.s = b.s) (fun e => hl (by rw [← eA, ← eB, e])), Bool.and_false])
      have hl1 : ¬ (n : Int) = (m : Int) := by omega
      have hl2 : ((n : Int) == (m : Int)) = false := by simpa using hl1
      generalize a.l = la at *
      generalize b.l = lb at *
      subst h1
      clear hA hB eA eB hl
      go_enter Try.func23, Try.ntmps23
      go_wp2
      go_ret
      exact ⟨retb HV.out.symm, by (repeat' (first | (with_reducible exact Below.refl _ _) | (with_reducible assumption) | (with_reducible refine below_drewN ?_ _) | (with_reducible refine below_new ?_ _) | (with_reducible refine Below.alloc ?_ ?_ _) | (with_reducible refine Below.drew ?_) | (with_reducible refine Below.setCell ?_ ?_ _) | (with_reducible apply below_at; (case k => (with_reducible assumption)); (case hB => omega)) | (with_reducible apply below_on; (with_reducible assumption)) | (go_size; done) | (with_reducible apply size_of)))⟩
  · have HV : Hid (sameF a b = false) := Lib.hid (by unfold sameF; rw [decide_eq_false h1]; simp)
    have h3 : (a.l == b.l) = false := by simpa using h1
    clear hA hB eA eB
    go_enter Try.func23, Try.ntmps23
    go_wp2
    go_ret
    exact ⟨retb HV.out.symm, by (repeat' (first | (with_reducible exact Below.refl _ _) | (with_reducible assumption) | (with_reducible refine below_drewN ?_ _) | (with_reducible refine below_new ?_ _) | (with_reducible refine Below.alloc ?_ ?_ _) | (with_reducible refine Below.drew ?_) | (with_reducible refine Below.setCell ?_ ?_ _) | (with_reducible apply below_at; (case k => (with_reducible assumption)); (case hB => omega)) | (with_reducible apply below_on; (with_reducible assumption)) | (go_size; done) | (with_reducible apply size_of)))⟩
end Go.Proofs.Ytbdipdnnjbpibaa.fdW
