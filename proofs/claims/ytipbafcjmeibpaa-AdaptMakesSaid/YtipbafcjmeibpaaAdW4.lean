/- What P and the checks of a place return, by walks. -/
import Derived.Test.YtipbafcjmeibpaaAdW3
import Derived.Test.YtipbafcjmeibpaaAdMem
namespace Go.Proofs.Ytipbafcjmeibpaa.adW
open Go.RowKit Go.Proofs.Ytipbafcjmeibpaa.base Go.Proofs.Ytipbafcjmeibpaa.adP
set_option linter.unusedVariables false
set_option linter.unusedSimpArgs false

theorem rState_any (s : Int) (w : World) : Calls Try.prog 26 #[.int .u8 s] w fun e w' => e = .returned (.bool (decide (s < 193))) ∧ w = w' := by
  go_enter Try.func26, Try.ntmps26
  go_wp2
  go_ret
  exact ⟨rfl, rfl⟩
theorem adE_bd (m : Ad) : adE m = 0 ∨ adE m = 8 := by unfold adE; split <;> simp
set_option maxHeartbeats 1000000 in
theorem checkAt_any (m : Ad) (A B : Option Addr) (lp ln cp cn : Nat) (s : Int) (w : World) (h : AdIn w A B lp ln m) (s0 : 0 ≤ s) (s1 : s ≤ 255) :
    Calls Try.prog 28 #[.agg #[.int .i32 (m).l, .slice A lp cp, .slice B ln cn], .int .u8 s] w fun e w' => e = .returned (.int .i64 (atE m s)) ∧ Below w.heap.size w w' := by
  have H := Lib.hid h
  clear h
  cases hk : adOk m
  · have e1 : adE m = 8 := adE_no hk
    have HE : Hid (atE m s = 8) := Lib.hid (by unfold atE; rw [hk]; rfl)
    clear hk
    go_enter Try.func28, Try.ntmps28
    go_wp2_with (first | (go_at_call 14; refine (Check_any m A B lp ln cp cn _ (H.out.below (by (repeat' (first | (with_reducible exact Below.refl _ _) | (with_reducible assumption) | (with_reducible refine below_drewN ?_ _) | (with_reducible refine below_new ?_ _) | (with_reducible refine Below.alloc ?_ ?_ _) | (with_reducible refine Below.drew ?_) | (with_reducible refine Below.setCell ?_ ?_ _) | (with_reducible apply below_at; (case k => (with_reducible assumption)); (case hB => omega)) | (with_reducible apply below_on; (with_reducible assumption)) | (go_size; done) | (with_reducible apply size_of)))))).mono ?_; rintro e w1 ⟨rfl, hb1⟩; rw [e1]))
    go_ret
    exact ⟨ret1 HE.out.symm, by (repeat' (first | (with_reducible exact Below.refl _ _) | (with_reducible assumption) | (with_reducible refine below_drewN ?_ _) | (with_reducible refine below_new ?_ _) | (with_reducible refine Below.alloc ?_ ?_ _) | (with_reducible refine Below.drew ?_) | (with_reducible refine Below.setCell ?_ ?_ _) | (with_reducible apply below_at; (case k => (with_reducible assumption)); (case hB => omega)) | (with_reducible apply below_on; (with_reducible assumption)) | (go_size; done) | (with_reducible apply size_of)))⟩
  · have e1 : adE m = 0 := adE_yes hk
    by_cases c : s < 193
    · have HE : Hid (atE m s = 0) := Lib.hid (by unfold atE; rw [hk, if_pos rfl, if_pos c])
      clear hk
      go_enter Try.func28, Try.ntmps28
      go_wp2_with (first | (go_at_call 14; refine (Check_any m A B lp ln cp cn _ (H.out.below (by (repeat' (first | (with_reducible exact Below.refl _ _) | (with_reducible assumption) | (with_reducible refine below_drewN ?_ _) | (with_reducible refine below_new ?_ _) | (with_reducible refine Below.alloc ?_ ?_ _) | (with_reducible refine Below.drew ?_) | (with_reducible refine Below.setCell ?_ ?_ _) | (with_reducible apply below_at; (case k => (with_reducible assumption)); (case hB => omega)) | (with_reducible apply below_on; (with_reducible assumption)) | (go_size; done) | (with_reducible apply size_of)))))).mono ?_; rintro e w1 ⟨rfl, hb1⟩; rw [e1]))
      go_ret
      exact ⟨ret1 HE.out.symm, by (repeat' (first | (with_reducible exact Below.refl _ _) | (with_reducible assumption) | (with_reducible refine below_drewN ?_ _) | (with_reducible refine below_new ?_ _) | (with_reducible refine Below.alloc ?_ ?_ _) | (with_reducible refine Below.drew ?_) | (with_reducible refine Below.setCell ?_ ?_ _) | (with_reducible apply below_at; (case k => (with_reducible assumption)); (case hB => omega)) | (with_reducible apply below_on; (with_reducible assumption)) | (go_size; done) | (with_reducible apply size_of)))⟩
    · have HE : Hid (atE m s = 2) := Lib.hid (by unfold atE; rw [hk, if_pos rfl, if_neg c])
      have c' : 193 ≤ s := by omega
      clear hk
      go_enter Try.func28, Try.ntmps28
      go_wp2_with (first | (go_at_call 14; refine (Check_any m A B lp ln cp cn _ (H.out.below (by (repeat' (first | (with_reducible exact Below.refl _ _) | (with_reducible assumption) | (with_reducible refine below_drewN ?_ _) | (with_reducible refine below_new ?_ _) | (with_reducible refine Below.alloc ?_ ?_ _) | (with_reducible refine Below.drew ?_) | (with_reducible refine Below.setCell ?_ ?_ _) | (with_reducible apply below_at; (case k => (with_reducible assumption)); (case hB => omega)) | (with_reducible apply below_on; (with_reducible assumption)) | (go_size; done) | (with_reducible apply size_of)))))).mono ?_; rintro e w1 ⟨rfl, hb1⟩; rw [e1]))
      go_ret
      exact ⟨ret1 HE.out.symm, by (repeat' (first | (with_reducible exact Below.refl _ _) | (with_reducible assumption) | (with_reducible refine below_drewN ?_ _) | (with_reducible refine below_new ?_ _) | (with_reducible refine Below.alloc ?_ ?_ _) | (with_reducible refine Below.drew ?_) | (with_reducible refine Below.setCell ?_ ?_ _) | (with_reducible apply below_at; (case k => (with_reducible assumption)); (case hB => omega)) | (with_reducible apply below_on; (with_reducible assumption)) | (go_size; done) | (with_reducible apply size_of)))⟩
set_option maxHeartbeats 1000000 in
theorem rAt_any (m : Ad) (A B : Option Addr) (lp ln cp cn : Nat) (s : Int) (w : World) (h : AdIn w A B lp ln m) (s0 : 0 ≤ s) (s1 : s ≤ 255) :
    Calls Try.prog 34 #[.agg #[.int .i32 (m).l, .slice A lp cp, .slice B ln cn], .int .u8 s] w fun e w' => e = .returned (.int .i64 (atE m s)) ∧ Below w.heap.size w w' := by
  have H := Lib.hid h
  clear h
  cases hk : adOk m
  · have e1 : adE m = 8 := adE_no hk
    have HE : Hid (atE m s = 8) := Lib.hid (by unfold atE; rw [hk]; rfl)
    clear hk
    go_enter Try.func34, Try.ntmps34
    go_wp2_with (first | (go_at_call 21; refine (rCheck_any m A B lp ln cp cn _ (H.out.below (by (repeat' (first | (with_reducible exact Below.refl _ _) | (with_reducible assumption) | (with_reducible refine below_drewN ?_ _) | (with_reducible refine below_new ?_ _) | (with_reducible refine Below.alloc ?_ ?_ _) | (with_reducible refine Below.drew ?_) | (with_reducible refine Below.setCell ?_ ?_ _) | (with_reducible apply below_at; (case k => (with_reducible assumption)); (case hB => omega)) | (with_reducible apply below_on; (with_reducible assumption)) | (go_size; done) | (with_reducible apply size_of)))))).mono ?_; rintro e w1 ⟨rfl, hb1⟩; rw [e1]))
    go_ret
    exact ⟨ret1 HE.out.symm, by (repeat' (first | (with_reducible exact Below.refl _ _) | (with_reducible assumption) | (with_reducible refine below_drewN ?_ _) | (with_reducible refine below_new ?_ _) | (with_reducible refine Below.alloc ?_ ?_ _) | (with_reducible refine Below.drew ?_) | (with_reducible refine Below.setCell ?_ ?_ _) | (with_reducible apply below_at; (case k => (with_reducible assumption)); (case hB => omega)) | (with_reducible apply below_on; (with_reducible assumption)) | (go_size; done) | (with_reducible apply size_of)))⟩
  · have e1 : adE m = 0 := adE_yes hk
    by_cases c : s < 193
    · have HE : Hid (atE m s = 0) := Lib.hid (by unfold atE; rw [hk, if_pos rfl, if_pos c])
      clear hk
      go_enter Try.func34, Try.ntmps34
      go_wp2_with (first | (go_at_call 21; refine (rCheck_any m A B lp ln cp cn _ (H.out.below (by (repeat' (first | (with_reducible exact Below.refl _ _) | (with_reducible assumption) | (with_reducible refine below_drewN ?_ _) | (with_reducible refine below_new ?_ _) | (with_reducible refine Below.alloc ?_ ?_ _) | (with_reducible refine Below.drew ?_) | (with_reducible refine Below.setCell ?_ ?_ _) | (with_reducible apply below_at; (case k => (with_reducible assumption)); (case hB => omega)) | (with_reducible apply below_on; (with_reducible assumption)) | (go_size; done) | (with_reducible apply size_of)))))).mono ?_; rintro e w1 ⟨rfl, hb1⟩; rw [e1]) | (go_at_call 26; refine (rState_any s _).mono ?_; rintro e w2 ⟨rfl, rfl⟩))
      go_ret
      exact ⟨ret1 HE.out.symm, by (repeat' (first | (with_reducible exact Below.refl _ _) | (with_reducible assumption) | (with_reducible refine below_drewN ?_ _) | (with_reducible refine below_new ?_ _) | (with_reducible refine Below.alloc ?_ ?_ _) | (with_reducible refine Below.drew ?_) | (with_reducible refine Below.setCell ?_ ?_ _) | (with_reducible apply below_at; (case k => (with_reducible assumption)); (case hB => omega)) | (with_reducible apply below_on; (with_reducible assumption)) | (go_size; done) | (with_reducible apply size_of)))⟩
    · have HE : Hid (atE m s = 2) := Lib.hid (by unfold atE; rw [hk, if_pos rfl, if_neg c])
      have c' : 193 ≤ s := by omega
      have c'' : decide (s < 193) = false := decide_eq_false c
      clear hk
      go_enter Try.func34, Try.ntmps34
      go_wp2_with (first | (go_at_call 21; refine (rCheck_any m A B lp ln cp cn _ (H.out.below (by (repeat' (first | (with_reducible exact Below.refl _ _) | (with_reducible assumption) | (with_reducible refine below_drewN ?_ _) | (with_reducible refine below_new ?_ _) | (with_reducible refine Below.alloc ?_ ?_ _) | (with_reducible refine Below.drew ?_) | (with_reducible refine Below.setCell ?_ ?_ _) | (with_reducible apply below_at; (case k => (with_reducible assumption)); (case hB => omega)) | (with_reducible apply below_on; (with_reducible assumption)) | (go_size; done) | (with_reducible apply size_of)))))).mono ?_; rintro e w1 ⟨rfl, hb1⟩; rw [e1]) | (go_at_call 26; refine (rState_any s _).mono ?_; rintro e w2 ⟨rfl, rfl⟩; rw [c'']))
      go_ret
      exact ⟨ret1 HE.out.symm, by (repeat' (first | (with_reducible exact Below.refl _ _) | (with_reducible assumption) | (with_reducible refine below_drewN ?_ _) | (with_reducible refine below_new ?_ _) | (with_reducible refine Below.alloc ?_ ?_ _) | (with_reducible refine Below.drew ?_) | (with_reducible refine Below.setCell ?_ ?_ _) | (with_reducible apply below_at; (case k => (with_reducible assumption)); (case hB => omega)) | (with_reducible apply below_on; (with_reducible assumption)) | (go_size; done) | (with_reducible apply size_of)))⟩
theorem atE_bd (m : Ad) (s : Int) : atE m s = 0 ∨ atE m s = 2 ∨ atE m s = 8 := by
  unfold atE; split
  · split <;> simp
  · simp
theorem pV_yes {m : Ad} {s : Int} (h : atE m s = 0) : pV m s = m.p.getD s.toNat 0 := by rw [pV, if_pos h]
theorem pV_no {m : Ad} {s : Int} (h : atE m s ≠ 0) : pV m s = 0 := by rw [pV, if_neg h]
/-- A place of a row, in a later world. -/
theorem in_cell {w w' : World} {A B : Option Addr} {lp ln : Nat} {m : Ad} (h : AdIn w A B lp ln m) (ha : adOk m = true) (hb : Below w.heap.size w w') {s : Int} (s0 : 0 ≤ s) (s1 : s < 193) :
    lp = 193 ∧ ln = 193 ∧ ∃ b off c off2, A = some ⟨b, off, none⟩ ∧ B = some ⟨c, off2, none⟩ ∧ w'.cell? ⟨b, off + s.toNat, none⟩ = some (.int .i32 (m.p.getD s.toNat 0)) ∧ w'.cell? ⟨c, off2 + s.toNat, none⟩ = some (.int .i32 (m.n.getD s.toNat 0)) := by
  rw [adOk_iff] at ha
  obtain ⟨⟨_, _, e1, e2⟩, _⟩ := ha
  have h' := h.below hb
  obtain ⟨b, off, rfl, _, hc⟩ := has_some h'.hp (by omega)
  obtain ⟨c, off2, rfl, _, hd⟩ := has_some h'.hn (by omega)
  exact ⟨by rw [← h.ep, e1], by rw [← h.en, e2], b, off, c, off2, rfl, rfl, hc _ (by omega), hd _ (by omega)⟩
set_option maxHeartbeats 1000000 in
theorem P_any (m : Ad) (A B : Option Addr) (lp ln cp cn : Nat) (s : Int) (w : World) (h : AdIn w A B lp ln m) (s0 : 0 ≤ s) (s1 : s ≤ 255) :
    Calls Try.prog 11 #[.agg #[.int .i32 (m).l, .slice A lp cp, .slice B ln cn], .int .u8 s] w fun e w' => e = .returned (.tuple #[.int .i32 (pV m s), .int .i64 (atE m s)]) ∧ Below w.heap.size w w' := by
  have H := Lib.hid h
  by_cases hk : atE m s = 0
  · obtain ⟨ha, c⟩ := (atE_zero m s).1 hk
    obtain ⟨rfl, rfl, b, off, d, off2, rfl, rfl, _⟩ := in_cell h ha (Below.refl _ _) s0 c
    have HV : Hid (∀ w' : World, Below w.heap.size w w' → w'.cell? ⟨b, off + s.toNat, none⟩ = some (.int .i32 (m.p.getD s.toNat 0))) := Lib.hid (fun w' hb => by
      obtain ⟨_, _, b', off', c', off2', e1, _, hc, _⟩ := in_cell h ha hb s0 c
      injection e1 with e1
      injection e1 with e1 e2 _
      rw [e1, e2]; exact hc)
    have HE := Lib.hid (pV_yes hk)
    have HK := Lib.hid hk
    clear h hk ha
    generalize m.p.getD s.toNat 0 = x at *
    go_enter Try.func11, Try.ntmps11
    go_wp2_with (first | (go_at_call 28; refine (checkAt_any m _ _ 193 193 cp cn s _ (H.out.below (by (repeat' (first | (with_reducible exact Below.refl _ _) | (with_reducible assumption) | (with_reducible refine below_drewN ?_ _) | (with_reducible refine below_new ?_ _) | (with_reducible refine Below.alloc ?_ ?_ _) | (with_reducible refine Below.drew ?_) | (with_reducible refine Below.setCell ?_ ?_ _) | (with_reducible apply below_at; (case k => (with_reducible assumption)); (case hB => omega)) | (with_reducible apply below_on; (with_reducible assumption)) | (go_size; done) | (with_reducible apply size_of))))) s0 s1).mono ?_; rintro e w1 ⟨rfl, hb1⟩; rw [HK.out]; have hx1 := HV.out w1 (by (repeat' (first | (with_reducible exact Below.refl _ _) | (with_reducible assumption) | (with_reducible refine below_drewN ?_ _) | (with_reducible refine below_new ?_ _) | (with_reducible refine Below.alloc ?_ ?_ _) | (with_reducible refine Below.drew ?_) | (with_reducible refine Below.setCell ?_ ?_ _) | (with_reducible apply below_at; (case k => (with_reducible assumption)); (case hB => omega)) | (with_reducible apply below_on; (with_reducible assumption)) | (go_size; done) | (with_reducible apply size_of)))); have LL := Lies.past (Lies.fresh w 24 [.int .i32 m.l, .slice (some ⟨b, off, none⟩) 193 cp, .slice (some ⟨d, off2, none⟩) 193 cn]) hb1; obtain ⟨p0, p1, p2, -, -, -⟩ := LL.three))
    go_ret2
    exact ⟨ret2 HE.out.symm HK.out.symm, by (repeat' (first | (with_reducible exact Below.refl _ _) | (with_reducible assumption) | (with_reducible refine below_drewN ?_ _) | (with_reducible refine below_new ?_ _) | (with_reducible refine Below.alloc ?_ ?_ _) | (with_reducible refine Below.drew ?_) | (with_reducible refine Below.setCell ?_ ?_ _) | (with_reducible apply below_at; (case k => (with_reducible assumption)); (case hB => omega)) | (with_reducible apply below_on; (with_reducible assumption)) | (go_size; done) | (with_reducible apply size_of)))⟩
  · have HE := Lib.hid (pV_no hk)
    clear h
    have hk2 := atE_bd m s
    obtain ⟨e, he, hne⟩ : ∃ e, atE m s = e ∧ (e != 0) = true := ⟨_, rfl, by simpa using hk⟩
    have HE2 := Lib.hid he
    clear hk hk2 he
    go_enter Try.func11, Try.ntmps11
    go_wp2_with (first | (go_at_call 28; refine (checkAt_any m _ _ _ _ cp cn s _ (H.out.below (by (repeat' (first | (with_reducible exact Below.refl _ _) | (with_reducible assumption) | (with_reducible refine below_drewN ?_ _) | (with_reducible refine below_new ?_ _) | (with_reducible refine Below.alloc ?_ ?_ _) | (with_reducible refine Below.drew ?_) | (with_reducible refine Below.setCell ?_ ?_ _) | (with_reducible apply below_at; (case k => (with_reducible assumption)); (case hB => omega)) | (with_reducible apply below_on; (with_reducible assumption)) | (go_size; done) | (with_reducible apply size_of))))) s0 s1).mono ?_; rintro e1 w1 ⟨rfl, hb1⟩; rw [HE2.out]))
    go_ret2
    exact ⟨ret2 HE.out.symm HE2.out.symm, by (repeat' (first | (with_reducible exact Below.refl _ _) | (with_reducible assumption) | (with_reducible refine below_drewN ?_ _) | (with_reducible refine below_new ?_ _) | (with_reducible refine Below.alloc ?_ ?_ _) | (with_reducible refine Below.drew ?_) | (with_reducible refine Below.setCell ?_ ?_ _) | (with_reducible apply below_at; (case k => (with_reducible assumption)); (case hB => omega)) | (with_reducible apply below_on; (with_reducible assumption)) | (go_size; done) | (with_reducible apply size_of)))⟩
set_option maxHeartbeats 1000000 in
theorem rP_any (m : Ad) (A B : Option Addr) (lp ln cp cn : Nat) (s : Int) (w : World) (h : AdIn w A B lp ln m) (s0 : 0 ≤ s) (s1 : s ≤ 255) :
    Calls Try.prog 19 #[.agg #[.int .i32 (m).l, .slice A lp cp, .slice B ln cn], .int .u8 s] w fun e w' => e = .returned (.tuple #[.int .i32 (pV m s), .int .i64 (atE m s)]) ∧ Below w.heap.size w w' := by
  have H := Lib.hid h
  by_cases hk : atE m s = 0
  · obtain ⟨ha, c⟩ := (atE_zero m s).1 hk
    obtain ⟨rfl, rfl, b, off, d, off2, rfl, rfl, _⟩ := in_cell h ha (Below.refl _ _) s0 c
    have HV : Hid (∀ w' : World, Below w.heap.size w w' → w'.cell? ⟨b, off + s.toNat, none⟩ = some (.int .i32 (m.p.getD s.toNat 0))) := Lib.hid (fun w' hb => by
      obtain ⟨_, _, b', off', c', off2', e1, _, hc, _⟩ := in_cell h ha hb s0 c
      injection e1 with e1
      injection e1 with e1 e2 _
      rw [e1, e2]; exact hc)
    have HE := Lib.hid (pV_yes hk)
    have HK := Lib.hid hk
    clear h hk ha
    generalize m.p.getD s.toNat 0 = x at *
    go_enter Try.func19, Try.ntmps19
    go_wp2_with (first | (go_at_call 34; refine (rAt_any m _ _ 193 193 cp cn s _ (H.out.below (by (repeat' (first | (with_reducible exact Below.refl _ _) | (with_reducible assumption) | (with_reducible refine below_drewN ?_ _) | (with_reducible refine below_new ?_ _) | (with_reducible refine Below.alloc ?_ ?_ _) | (with_reducible refine Below.drew ?_) | (with_reducible refine Below.setCell ?_ ?_ _) | (with_reducible apply below_at; (case k => (with_reducible assumption)); (case hB => omega)) | (with_reducible apply below_on; (with_reducible assumption)) | (go_size; done) | (with_reducible apply size_of))))) s0 s1).mono ?_; rintro e w1 ⟨rfl, hb1⟩; rw [HK.out]; have hx1 := HV.out w1 (by (repeat' (first | (with_reducible exact Below.refl _ _) | (with_reducible assumption) | (with_reducible refine below_drewN ?_ _) | (with_reducible refine below_new ?_ _) | (with_reducible refine Below.alloc ?_ ?_ _) | (with_reducible refine Below.drew ?_) | (with_reducible refine Below.setCell ?_ ?_ _) | (with_reducible apply below_at; (case k => (with_reducible assumption)); (case hB => omega)) | (with_reducible apply below_on; (with_reducible assumption)) | (go_size; done) | (with_reducible apply size_of)))); have LL := Lies.past (Lies.fresh w 24 [.int .i32 m.l, .slice (some ⟨b, off, none⟩) 193 cp, .slice (some ⟨d, off2, none⟩) 193 cn]) hb1; obtain ⟨p0, p1, p2, -, -, -⟩ := LL.three))
    go_ret2
    exact ⟨ret2 HE.out.symm HK.out.symm, by (repeat' (first | (with_reducible exact Below.refl _ _) | (with_reducible assumption) | (with_reducible refine below_drewN ?_ _) | (with_reducible refine below_new ?_ _) | (with_reducible refine Below.alloc ?_ ?_ _) | (with_reducible refine Below.drew ?_) | (with_reducible refine Below.setCell ?_ ?_ _) | (with_reducible apply below_at; (case k => (with_reducible assumption)); (case hB => omega)) | (with_reducible apply below_on; (with_reducible assumption)) | (go_size; done) | (with_reducible apply size_of)))⟩
  · have HE := Lib.hid (pV_no hk)
    clear h
    have hk2 := atE_bd m s
    obtain ⟨e, he, hne⟩ : ∃ e, atE m s = e ∧ (e != 0) = true := ⟨_, rfl, by simpa using hk⟩
    have HE2 := Lib.hid he
    clear hk hk2 he
    go_enter Try.func19, Try.ntmps19
    go_wp2_with (first | (go_at_call 34; refine (rAt_any m _ _ _ _ cp cn s _ (H.out.below (by (repeat' (first | (with_reducible exact Below.refl _ _) | (with_reducible assumption) | (with_reducible refine below_drewN ?_ _) | (with_reducible refine below_new ?_ _) | (with_reducible refine Below.alloc ?_ ?_ _) | (with_reducible refine Below.drew ?_) | (with_reducible refine Below.setCell ?_ ?_ _) | (with_reducible apply below_at; (case k => (with_reducible assumption)); (case hB => omega)) | (with_reducible apply below_on; (with_reducible assumption)) | (go_size; done) | (with_reducible apply size_of))))) s0 s1).mono ?_; rintro e1 w1 ⟨rfl, hb1⟩; rw [HE2.out]))
    go_ret2
    exact ⟨ret2 HE.out.symm HE2.out.symm, by (repeat' (first | (with_reducible exact Below.refl _ _) | (with_reducible assumption) | (with_reducible refine below_drewN ?_ _) | (with_reducible refine below_new ?_ _) | (with_reducible refine Below.alloc ?_ ?_ _) | (with_reducible refine Below.drew ?_) | (with_reducible refine Below.setCell ?_ ?_ _) | (with_reducible apply below_at; (case k => (with_reducible assumption)); (case hB => omega)) | (with_reducible apply below_on; (with_reducible assumption)) | (go_size; done) | (with_reducible apply size_of)))⟩
end Go.Proofs.Ytipbafcjmeibpaa.adW
