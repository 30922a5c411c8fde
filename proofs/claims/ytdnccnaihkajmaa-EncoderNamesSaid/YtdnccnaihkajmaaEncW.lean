/- What the functions that split a range return, by walks. -/
import Derived.Test.YtdnccnaihkajmaaBase
import Derived.Test.YtdnccnaihkajmaaEncPlain
import Derived.WalkKit
import Derived.Lib.Hide
import Derived.WalkSpells
import Derived.WalkLawsBesides
namespace Go.Proofs.Ytdnccnaihkajmaa.encW
open Go.RowKit Go.Proofs.Ytdnccnaihkajmaa.base Go.Proofs.Ytdnccnaihkajmaa.encP
set_option linter.unusedVariables false
set_option linter.unusedSimpArgs false

set_option maxHeartbeats 400000 in
theorem isProb_any (p : Int) (w : World) : Calls Try.prog 26 #[.int .i64 p] w fun e w' => e = .returned (.bool (pOk p)) ∧ w = w' := by
  by_cases h1 : 0 ≤ p
  · go_enter Try.func26, Try.ntmps26
    go_wp2
    go_ret
    exact ⟨retb (by simp [pOk]; omega), rfl⟩
  · go_enter Try.func26, Try.ntmps26
    go_wp2
    go_ret
    exact ⟨retb (by simp [pOk]; omega), rfl⟩
set_option maxHeartbeats 400000 in
theorem rProb_any (p : Int) (w : World) : Calls Try.prog 23 #[.int .i64 p] w fun e w' => e = .returned (.bool (pOk p)) ∧ w = w' := by
  by_cases h1 : 0 ≤ p
  · go_enter Try.func23, Try.ntmps23
    go_wp2
    go_ret
    exact ⟨retb (by simp [pOk]; omega), rfl⟩
  · go_enter Try.func23, Try.ntmps23
    go_wp2
    go_ret
    exact ⟨retb (by simp [pOk]; omega), rfl⟩
set_option maxHeartbeats 1000000 in
theorem Split_any (x1 x2 p : Int) (w : World) (a1 : 0 ≤ x1) (a2 : x1 ≤ 4294967295) (b1 : 0 ≤ x2) (b2 : x2 ≤ 4294967295) :
    Calls Try.prog 9 #[.int .u32 x1, .int .u32 x2, .int .i64 p] w fun e w' => e = .returned (.tuple #[.int .u32 (spV x1 x2 p), .int .i64 (spE x1 x2 p)]) ∧ w = w' := by
  by_cases h : x1 < x2
  · cases hp : pOk p
    · have e1 : spOk x1 x2 p = false := by simp [spOk, hp]
      have HE := Lib.hid e1
      clear e1
      go_enter Try.func9, Try.ntmps9
      go_wp2_with (go_at_call 26; refine (isProb_any _ _).mono ?_; rintro e w' ⟨rfl, rfl⟩)
      go_ret2
      exact ⟨ret2 (by simp [spV, HE.out]) (by simp [spE, HE.out]), rfl⟩
    · have e1 : spOk x1 x2 p = true := by simp [spOk, hp, h]
      have HE := Lib.hid e1
      have hq := (pOk_iff p).1 hp
      obtain ⟨p1, p2⟩ := hq
      obtain ⟨c1, c2, c3, c4⟩ := part_bd (w := x2 - x1) (p := p) (by omega) p1 p2
      have HM : Hid (mid x1 x2 p = x1 + (x2 - x1) / 4096 * p + (x2 - x1) % 4096 * p / 4096) := Lib.hid rfl
      clear e1
      have d1 : (x2 - x1) / 4096 * p ≤ 4294967295 := by omega
      have d2 : (x2 - x1) % 4096 * p ≤ 4294967295 := by omega
      have d3 : x1 + (x2 - x1) / 4096 * p ≤ 4294967295 := by omega
      have d4 : x1 + (x2 - x1) / 4096 * p + (x2 - x1) % 4096 * p / 4096 ≤ 4294967295 := by omega
      have d5 : (x2 - x1) / 4096 ≤ 4294967295 := by omega
      clear c2 c4
      go_enter Try.func9, Try.ntmps9
      go_wp2_with (go_at_call 26; refine (isProb_any _ _).mono ?_; rintro e w' ⟨rfl, rfl⟩)
      go_ret2
      refine ⟨ret2 ?_ (by simp [spE, HE.out]), rfl⟩
      rw [spV, if_pos HE.out, HM.out]
  · have e1 : spOk x1 x2 p = false := by simp [spOk]; omega
    have HE := Lib.hid e1
    clear e1
    go_enter Try.func9, Try.ntmps9
    go_wp2_with (go_at_call 26; refine (isProb_any _ _).mono ?_; rintro e w' ⟨rfl, rfl⟩)
    go_ret2
    exact ⟨ret2 (by simp [spV, HE.out]) (by simp [spE, HE.out]), rfl⟩
set_option maxHeartbeats 1000000 in
theorem rMiddle_any (x1 x2 p : Int) (w : World) (a1 : 0 ≤ x1) (b2 : x2 ≤ 4294967295) (h : x1 < x2) (p1 : 0 ≤ p) (p2 : p ≤ 4095) :
    Calls Try.prog 27 #[.int .u32 x1, .int .u32 x2, .int .i64 p] w fun e w' => e = .returned (.int .u32 (mid x1 x2 p)) ∧ w = w' := by
  obtain ⟨c1, c2, c3, c4⟩ := part_bd (w := x2 - x1) (p := p) (by omega) p1 p2
  have HM : Hid (mid x1 x2 p = x1 + (x2 - x1) / 4096 * p + (x2 - x1) % 4096 * p / 4096) := Lib.hid rfl
  have d1 : (x2 - x1) / 4096 * p ≤ 4294967295 := by omega
  have d2 : (x2 - x1) % 4096 * p ≤ 4294967295 := by omega
  have d3 : x1 + (x2 - x1) / 4096 * p ≤ 4294967295 := by omega
  have d4 : x1 + (x2 - x1) / 4096 * p + (x2 - x1) % 4096 * p / 4096 ≤ 4294967295 := by omega
  have d5 : (x2 - x1) / 4096 ≤ 4294967295 := by omega
  clear c2 c4
  go_enter Try.func27, Try.ntmps27
  go_wp2
  go_ret
  exact ⟨ret1 (by rw [HM.out]), rfl⟩
end Go.Proofs.Ytdnccnaihkajmaa.encW
