/- ParityMends, by a walk. -/
import Derived.Test.YtacllaeccdgnmaaPaRc3
import Derived.Test.YtacllaeccdgnmaaRows8Z
namespace Go.Proofs.Ytacllaeccdgnmaa.paL
set_option maxRecDepth 100000
open Go.RowKit Go.Proofs.Ytacllaeccdgnmaa.base Go.Proofs.Ytacllaeccdgnmaa.paP Go.Proofs.Ytacllaeccdgnmaa.paW
set_option linter.unusedVariables false
set_option linter.unusedSimpArgs false
set_option maxRecDepth 100000
set_option maxHeartbeats 4000000 in
theorem mends (P : Option Addr) (m d : Nat) (rs : List R8) (A : Option Addr) (n c : Nat) (lost : List Bool) (g : Int) (Q : Option Addr) (x y : Nat) (ps : List R8) (w : World) (hr : RowsB w P m d rs ∧ ∀ r ∈ rs, r.n ≤ 140737488351232) (hl : IsRowB w A n c lost) (hg1 : -9223372036854775808 ≤ g) (hg2 : g ≤ 9223372036854775807) (hq : RowsB w Q x y ps ∧ ∀ r ∈ ps, r.n ≤ 140737488351232) :
    Calls Try.prog 3 #[.slice P m d, .slice A n c, .int .i64 g, .slice Q x y] w fun e w' => e = .returned (.bool true) ∧ Below w.heap.size w w' := by
  obtain ⟨hr, hbig⟩ := hr
  obtain ⟨hq, -⟩ := hq
  obtain ⟨l1, l2, l3, l4, l5⟩ := hl
  have HR := Lib.hid hr
  have HP := Lib.hid hq
  have HL := Lib.hid (And.intro l1 (And.intro l2 l4))
  have HG := Lib.hid (And.intro hg1 hg2)
  have HBIG : Hid (∀ r ∈ rs, r.n ≤ 140737488355328) := Lib.hid fun r h => Nat.le_trans (hbig r h) (by omega)
  have n1 : (n : Int) ≤ 9223372036854775807 := by omega
  clear hr hq l1 l2 l3 l4 l5 hbig
  go_enter Try.func3, Try.ntmps3
  go_wp2_with fail
  refine (great_any P m d rs w HR.out).mono ?_
  rintro e w2 ⟨⟨b1, rfl, -⟩, rfl⟩
  rcases b1 with _ | _
  rotate_left
  · go_wp2_with fail
    go_ret
    exact ⟨rfl, Below.refl _ _⟩
  go_wp2_with fail
  refine (great_any Q x y ps w2 HP.out).mono ?_
  rintro e w3 ⟨⟨b2, rfl, -⟩, rfl⟩
  rcases b2 with _ | _
  rotate_left
  · go_wp2_with fail
    go_ret
    exact ⟨rfl, Below.refl _ _⟩
  by_cases h150 : (150 : Int) < n
  · go_wp2_with fail
    go_ret
    exact ⟨rfl, Below.refl _ _⟩
  obtain ⟨rb, hrb⟩ : ∃ rb, rightB (bs rs) g (bs ps) = rb := ⟨_, rfl⟩
  obtain ⟨pe, hpe⟩ : ∃ pe, protE (bs rs) g = pe := ⟨_, rfl⟩
  obtain ⟨re, hre⟩ : ∃ re, recE (bs rs) lost g (bs ps) = re := ⟨_, rfl⟩
  have HE := Lib.hid (And.intro hrb (And.intro hpe hre))
  clear hrb hpe hre
  go_wp2_with fail
  refine (Right_any P Q m d x y rs ps g w3 HR.out HG.out.1 HG.out.2 HP.out).mono ?_
  rw [HE.out.1, HE.out.2.1]
  rintro e w4 ⟨rfl, hb4⟩
  have HB4 := Lib.hid hb4
  clear hb4
  go_wp2_with fail
  refine (rRight_any P Q m d x y rs ps g w4 (HR.out.below HB4.out (Nat.le_refl _)) HG.out.1 HG.out.2 (HP.out.below HB4.out (Nat.le_refl _))).mono ?_
  rw [HE.out.1, HE.out.2.1]
  rintro e w5 ⟨rfl, hb5⟩
  have HB5 := Lib.hid (HB4.out.trans (hb5.mono HB4.out.size))
  clear hb5
  go_wp2_with fail
  refine (Recover_any P A Q m d n c x y rs ps lost g w5 (HR.out.below HB5.out (Nat.le_refl _)) (HL.out.1.below HB5.out (Nat.le_refl _)) HL.out.2.1 HL.out.2.2 HG.out.1 HG.out.2 (HP.out.below HB5.out (Nat.le_refl _))).mono ?_
  rintro e w6 ⟨⟨A6, c6, us, rfl, hr6, hv6⟩, hb6⟩
  rw [HE.out.2.2]
  have HB6 := Lib.hid (HB5.out.trans (hb6.mono HB5.out.size))
  have HR6 := Lib.hid (And.intro hr6 hv6)
  clear hb6 hr6 hv6
  go_wp2_with fail
  refine (rRecover_any P A Q m d n c x y rs ps lost g w6 (HR.out.below HB6.out (Nat.le_refl _)) (HL.out.1.below HB6.out (Nat.le_refl _)) HL.out.2.1 HL.out.2.2 HG.out.1 HG.out.2 (HP.out.below HB6.out (Nat.le_refl _)) HBIG.out).mono ?_
  rintro e w7 ⟨⟨A7, c7, vs, rfl, hr7, hv7⟩, hb7⟩
  rw [HE.out.2.2]
  have HB7 := Lib.hid (HB6.out.trans (hb7.mono HB6.out.size))
  have HR7 := Lib.hid (And.intro hr7 hv7)
  have HR6' := Lib.hid (HR6.out.1.below hb7 (Nat.le_refl _))
  clear hb7 hr7 hv7
  have b1 : (rb == rb) = true := by simp
  have b2 : (pe == pe) = true := by simp
  have b3 : (re == re) = true := by simp
  have HSAME : Hid (decide (bs us = bs vs) = true) := Lib.hid (decide_eq_true (by rw [HR6.out.2, HR7.out.2]))
  go_wp2_with (go_at_call 13; go_loud (refine (Same_any A6 A7 _ c6 _ c7 us vs _ HR6'.out HR7.out.1).mono ?_); rw [HSAME.out]; rintro e w8 ⟨rfl, hb8⟩; have HB8 := Lib.hid hb8)
  go_ret
  exact ⟨rfl, HB7.out.trans (HB8.out.mono HB7.out.size)⟩
end Go.Proofs.Ytacllaeccdgnmaa.paL
