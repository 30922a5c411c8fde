/- Right, of both, by walks. -/
import Derived.Test.YtacllaeccdgnmaaPaP2
import Derived.Test.YtacllaeccdgnmaaPaS
namespace Go.Proofs.Ytacllaeccdgnmaa.paW
set_option maxRecDepth 100000
open Go.RowKit Go.Proofs.Ytacllaeccdgnmaa.base Go.Proofs.Ytacllaeccdgnmaa.paP
set_option linter.unusedVariables false
set_option linter.unusedSimpArgs false
set_option maxRecDepth 100000
theorem _root_.Go.Proofs.Ytacllaeccdgnmaa.base.OwnP.rows {w : World} {B : Nat} {A : Option Addr} {n c : Nat} {rs : List R8} (h : OwnP w B (.slice A n c) rs) : RowsB w A n c rs := by
  have h4 : c ≤ 9223372036854775807 := by
    rcases h.row.2 with ⟨e, h0⟩ | ⟨g, cap, cur, e, hB, hh, hnc, hcm, hcs, ht⟩
    · injection e with _ _ e3; omega
    · injection e with _ _ e3; unfold maxLen at hcm; omega
  obtain ⟨A', c', e, h1, h2, h3⟩ := h.val
  injection e with e1 e2 e3
  subst e1 e2 e3
  exact ⟨rfl, h2, h4, h1⟩
/-- What Right says. -/
def rightB (l : List (List Int)) (g : Int) (p : List (List Int)) : Bool := decide (protE l g = 0) && decide (protV l g = p)
set_option maxHeartbeats 2000000 in
theorem Right_any (P Q : Option Addr) (m d n c : Nat) (rs qs : List R8) (g : Int) (w : World) (hr : RowsB w P m d rs) (hg1 : -9223372036854775808 ≤ g) (hg2 : g ≤ 9223372036854775807) (hq : RowsB w Q n c qs) :
    Calls Try.prog 9 #[.slice P m d, .int .i64 g, .slice Q n c] w fun e w' => e = .returned (.tuple #[.bool (rightB (bs rs) g (bs qs)), .int .i64 (protE (bs rs) g)]) ∧ Below w.heap.size w w' := by
  have HR := Lib.hid hr
  have HQ := Lib.hid hq
  have HG := Lib.hid (And.intro hg1 hg2)
  obtain ⟨er, her⟩ : ∃ er, protE (bs rs) g = er := ⟨_, rfl⟩
  have HER := Lib.hid her
  clear hr hq
  by_cases h0 : er = 0
  · subst h0
    rw [her]
    go_enter Try.func9, Try.ntmps9
    go_wp2_with (first
      | (go_at_call 16; refine (Protect_any P m d rs g _ HR.out HG.out.1 HG.out.2).mono ?_; rintro e w2 ⟨⟨A2, c2, ps, rfl, ho2, hv2⟩, hb2⟩; rw [HER.out]; have HO2 := Lib.hid ho2.rows; have HV2 := Lib.hid hv2; have HB2 := Lib.hid hb2; clear ho2 hv2 hb2)
      | (go_at_call 20; refine (EqualFunc_any A2 Q _ c2 n c ps qs _ HO2.out (HQ.out.below HB2.out (Nat.le_refl _))).mono ?_; rintro e w3 ⟨rfl, rfl⟩))
    go_ret2
    exact ⟨by unfold rightB; rw [HER.out, ← HV2.out]; simp, HB2.out⟩
  · have h1 : (er == 0) = false := by simpa using h0
    have h2 : (er != 0) = true := by simp [bne, h1]
    rw [her]
    clear her
    go_enter Try.func9, Try.ntmps9
    go_wp2_with (first
      | (go_at_call 16; refine (Protect_any P m d rs g _ HR.out HG.out.1 HG.out.2).mono ?_; rintro e w2 ⟨⟨A2, c2, ps, rfl, ho2, hv2⟩, hb2⟩; rw [HER.out]; have HB2 := Lib.hid hb2; clear ho2 hv2 hb2))
    go_ret2
    exact ⟨by unfold rightB; rw [HER.out, decide_eq_false h0]; rfl, HB2.out⟩
set_option maxHeartbeats 2000000 in
theorem rRight_any (P Q : Option Addr) (m d n c : Nat) (rs qs : List R8) (g : Int) (w : World) (hr : RowsB w P m d rs) (hg1 : -9223372036854775808 ≤ g) (hg2 : g ≤ 9223372036854775807) (hq : RowsB w Q n c qs) :
    Calls Try.prog 10 #[.slice P m d, .int .i64 g, .slice Q n c] w fun e w' => e = .returned (.tuple #[.bool (rightB (bs rs) g (bs qs)), .int .i64 (protE (bs rs) g)]) ∧ Below w.heap.size w w' := by
  have HR := Lib.hid hr
  have HQ := Lib.hid hq
  have HG := Lib.hid (And.intro hg1 hg2)
  obtain ⟨er, her⟩ : ∃ er, protE (bs rs) g = er := ⟨_, rfl⟩
  have HER := Lib.hid her
  clear hr hq
  by_cases h0 : er = 0
  · subst h0
    rw [her]
    go_enter Try.func10, Try.ntmps10
    go_wp2_with (first
      | (go_at_call 19; refine (rProtect_any P m d rs g _ HR.out HG.out.1 HG.out.2).mono ?_; rintro e w2 ⟨⟨A2, c2, ps, rfl, ho2, hv2⟩, hb2⟩; rw [HER.out]; have HO2 := Lib.hid ho2.rows; have HV2 := Lib.hid hv2; have HB2 := Lib.hid hb2; clear ho2 hv2 hb2)
      | (go_at_call 13; refine (Same_any A2 Q _ c2 n c ps qs _ HO2.out (HQ.out.below HB2.out (Nat.le_refl _))).mono ?_; rintro e w3 ⟨rfl, hb3⟩))
    go_ret2
    exact ⟨by unfold rightB; rw [HER.out, ← HV2.out]; simp, HB2.out.trans (hb3.mono HB2.out.size)⟩
  · have h1 : (er == 0) = false := by simpa using h0
    have h2 : (er != 0) = true := by simp [bne, h1]
    rw [her]
    clear her
    go_enter Try.func10, Try.ntmps10
    go_wp2_with (first
      | (go_at_call 19; refine (rProtect_any P m d rs g _ HR.out HG.out.1 HG.out.2).mono ?_; rintro e w2 ⟨⟨A2, c2, ps, rfl, ho2, hv2⟩, hb2⟩; rw [HER.out]; have HB2 := Lib.hid hb2; clear ho2 hv2 hb2))
    go_ret2
    exact ⟨by unfold rightB; rw [HER.out, decide_eq_false h0]; rfl, HB2.out⟩
end Go.Proofs.Ytacllaeccdgnmaa.paW
