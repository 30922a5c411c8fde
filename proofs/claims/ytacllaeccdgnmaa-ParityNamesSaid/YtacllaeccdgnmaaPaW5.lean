/- Checks of a group, and its parity, by walks. -/
import Derived.Test.YtacllaeccdgnmaaPaW4
namespace Go.Proofs.Ytacllaeccdgnmaa.paW
set_option maxRecDepth 100000
open Go.RowKit Go.Proofs.Ytacllaeccdgnmaa.base Go.Proofs.Ytacllaeccdgnmaa.paP
set_option linter.unusedVariables false
set_option linter.unusedSimpArgs false
set_option maxRecDepth 100000
theorem bs_len {w : World} {P : Option Addr} {m d : Nat} {rs : List R8} (h : RowsB w P m d rs) : (bs rs).length = m := by unfold bs; rw [List.length_map]; exact h.l
set_option maxHeartbeats 1000000 in
theorem checkG_any (P : Option Addr) (m d : Nat) (rs : List R8) (w : World) (hr : RowsB w P m d rs) :
    Calls Try.prog 28 #[.slice P m d] w fun e w' => e = .returned (.int .i64 (gE (bs rs))) ∧ Below w.heap.size w w' := by
  have HR := Lib.hid hr
  have HL := Lib.hid (bs_len hr)
  have m1 : (m : Int) ≤ 9223372036854775807 := by have := hr.c1; have := hr.c2; omega
  clear hr
  by_cases c1 : 16 < m
  · have c2 : (16 : Int) < m := by omega
    have e : gE (bs rs) = 4 := by unfold gE; rw [if_pos (by have := HL.out; omega)]
    rw [e]
    go_enter Try.func28, Try.ntmps28
    go_wp2_with fail
    go_ret
    exact ⟨rfl, Below.refl _ _⟩
  · have c2 : ¬ (16 : Int) < m := by omega
    obtain ⟨v, hv⟩ : ∃ v, wd (bs rs) = v := ⟨_, rfl⟩
    have HV := Lib.hid hv
    clear hv
    by_cases c3 : 5000 < v
    · have c4 : (5000 : Int) < v := by omega
      have e : gE (bs rs) = 4 := by unfold gE; rw [if_pos (by have := HV.out; omega)]
      rw [e]
      go_enter Try.func28, Try.ntmps28
      go_wp2_with (go_at_call 30; refine (Widest_any P m d rs _ HR.out).mono ?_; rw [HV.out]; rintro e w4 ⟨rfl, hb4⟩)
      go_ret
      exact ⟨rfl, hb4⟩
    · have c4 : ¬ (5000 : Int) < v := by omega
      have e : gE (bs rs) = 0 := by unfold gE; rw [if_neg (by have := HV.out; have := HL.out; omega)]
      rw [e]
      go_enter Try.func28, Try.ntmps28
      go_wp2_with (go_at_call 30; refine (Widest_any P m d rs _ HR.out).mono ?_; rw [HV.out]; rintro e w4 ⟨rfl, hb4⟩)
      go_ret
      exact ⟨rfl, hb4⟩
/-- What Of answers. -/
def ofV (l : List (List Int)) : List Int := if gE l = 0 then parP l else []
theorem gE_cases (l : List (List Int)) : (gE l = 0 ∧ l.length ≤ 16 ∧ wd l ≤ 5000) ∨ gE l = 4 := by
  unfold gE
  split
  · exact .inr rfl
  · exact .inl ⟨rfl, by omega, by omega⟩
set_option maxHeartbeats 2000000 in
theorem Of_any (P : Option Addr) (m d : Nat) (rs : List R8) (w : World) (hr : RowsB w P m d rs) :
    Calls Try.prog 14 #[.slice P m d] w fun e w' => ∃ A c, e = .returned (.tuple #[.slice A (ofV (bs rs)).length c, .int .i64 (gE (bs rs))]) ∧ OwnZ w' w.heap.size (.slice A (ofV (bs rs)).length c) (ofV (bs rs)) ∧ Below w.heap.size w w' := by
  have HR := Lib.hid hr
  rcases gE_cases (bs rs) with ⟨e0, e1, e2⟩ | e4
  · obtain ⟨v, hv⟩ : ∃ v, wd (bs rs) = v := ⟨_, rfl⟩
    have hv2 : v ≤ 5000 := by omega
    have HV := Lib.hid (And.intro hv hv2)
    have v1 : (v : Int) ≤ 5000 := by omega
    have v0 : 0 ≤ (v : Int) := by omega
    have HE : Hid (ofV (bs rs) = parP (bs rs)) := Lib.hid (by unfold ofV; rw [if_pos e0])
    have HE0 := Lib.hid e0
    obtain ⟨t, ht⟩ : ∃ t, v + 2 = t := ⟨_, rfl⟩
    have t1 : IntKind.i64.wrap ((v : Int) + 2) = (t : Int) := by
      rw [show (v : Int) + 2 = t by omega]; exact IntWalk.i64_in _ (by omega)
    have t2 : (t : Int) ≤ 5002 := by omega
    have HT := Lib.hid ht
    have HPL : Hid ((parP (bs rs)).length = t) := Lib.hid (by rw [parP_len, hv, ht])
    rw [HE.out, HPL.out, e0]
    clear hr hv hv2 e0 e1 e2 ht
    go_enter Try.func14, Try.ntmps14
    go_wp2_with (first
      | (go_at_call 28; refine (checkG_any P m d rs _ HR.out).mono ?_; rw [HE0.out]; rintro e w2 ⟨rfl, hb2⟩; have HB2 := Lib.hid hb2; have HR2 := Lib.hid (HR.out.below hb2 (Nat.le_refl _)); clear hb2)
      | (go_at_call 30; refine (Widest_any P m d rs _ HR2.out).mono ?_; rw [HV.out.1]; rintro e w4 ⟨rfl, hb4⟩; have HB4 := Lib.hid hb4; have HR4 := Lib.hid (HR2.out.below hb4 (Nat.le_refl _)); clear hb4)
      | (at_make; refine make8 rfl _ _ rfl _ _ t rfl rfl (by have := HT.out; have := HV.out; omega) w4.heap.size (Nat.le_refl _) ?_; intro wm own hbm; have HO := Lib.hid own; have HBM := Lib.hid hbm; clear own hbm)
      | (go_at_call 29; refine (Combined_any P _ m d t t v rs _ wm (HR4.out.below HBM.out (Nat.le_refl _)) (fun s hs => by rw [← HV.out.1]; exact wd_le hs) HO.out.has (by rw [List.length_replicate]; exact HT.out.symm) HT.out.symm (Nat.le_refl _) HV.out.2 (zeros_byt _)).mono ?_; rintro e w6 ⟨g, c6, rfl, ho6, hb6⟩; have HO6 := Lib.hid ho6; have HB6 := Lib.hid hb6; clear ho6 hb6))
    go_ret2
    have hbm : Below w.heap.size w wm := ((HB2.out.trans (HB4.out.mono HB2.out.size))).trans (HBM.out.mono (Nat.le_trans HB2.out.size HB4.out.size))
    refine ⟨some ⟨g, 0, none⟩, c6, rfl, .inl ?_, hbm.trans (HB6.out.mono hbm.size)⟩
    have := HO6.out.mono hbm.size
    rw [← HT.out] at this ⊢
    unfold parP
    rw [HV.out.1]
    exact this
  · have HE : Hid (ofV (bs rs) = []) := Lib.hid (by unfold ofV; rw [if_neg (by omega)])
    have HE4 := Lib.hid e4
    rw [HE.out, e4]
    clear hr e4
    go_enter Try.func14, Try.ntmps14
    go_wp2_with (go_at_call 28; refine (checkG_any P m d rs _ HR.out).mono ?_; rw [HE4.out]; rintro e w2 ⟨rfl, hb2⟩)
    go_ret2
    exact ⟨none, 0, rfl, .inr ⟨rfl, none, rfl⟩, hb2⟩
end Go.Proofs.Ytacllaeccdgnmaa.paW
