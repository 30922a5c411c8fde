/- What the costs of bits return, by walks. -/
import Derived.Test.YtaehjhjbbkblbaaCostW2
namespace Go.Proofs.Ytaehjhjbbkblbaa.costW
open Go.RowKit Go.Proofs.Ytaehjhjbbkblbaa.base Go.Proofs.Ytaehjhjbbkblbaa.encP Go.Proofs.Ytaehjhjbbkblbaa.costP Go.Proofs.Ytaehjhjbbkblbaa.encW
set_option linter.unusedVariables false
set_option linter.unusedSimpArgs false

set_option maxHeartbeats 1000000 in
theorem rLog_any (n : Int) (w : World) (h0 : 0 ≤ n) : Calls Try.prog 34 #[.int .u64 n] w fun e w' => e = .returned (.tuple #[.int .i64 (lgV n), .int .i64 (lgE n)]) ∧ w = w' := by
  cases h : lgOk n
  · have HE := Lib.hid h
    by_cases c : n < 1
    · clear h
      go_enter Try.func34, Try.ntmps34
      go_wp2
      go_ret2
      exact ⟨ret2 (by simp [lgV, HE.out]) (by simp [lgE, HE.out]), rfl⟩
    · have c2 : 4294967296 < n := by simp [lgOk] at h; omega
      clear h
      go_enter Try.func34, Try.ntmps34
      go_wp2
      go_ret2
      exact ⟨ret2 (by simp [lgV, HE.out]) (by simp [lgE, HE.out]), rfl⟩
  · obtain ⟨h1, h2⟩ := (lgOk_iff n).1 h
    have HE := Lib.hid h
    clear h
    go_enter Try.func34, Try.ntmps34
    go_wp2_with (go_at_call 46; refine (rLog_ok n _ h1 h2).mono ?_; rintro e w' ⟨rfl, rfl⟩)
    go_ret2
    exact ⟨ret2 (by simp [lgV, HE.out]) (by simp [lgE, HE.out]), rfl⟩
set_option maxHeartbeats 400000 in
theorem isProbC_any (p : Int) (w : World) : Calls Try.prog 56 #[.int .i64 p] w fun e w' => e = .returned (.bool (cOk p)) ∧ w = w' := by
  by_cases h1 : 1 ≤ p
  · go_enter Try.func56, Try.ntmps56
    go_wp2
    go_ret
    exact ⟨retb (by unfold cOk; simp [h1]), rfl⟩
  · go_enter Try.func56, Try.ntmps56
    go_wp2
    go_ret
    exact ⟨retb (by unfold cOk; rw [decide_eq_false (show ¬ 1 ≤ p by omega)]; rfl), rfl⟩
set_option maxHeartbeats 400000 in
theorem rProbC_any (p : Int) (w : World) : Calls Try.prog 48 #[.int .i64 p] w fun e w' => e = .returned (.bool (cOk p)) ∧ w = w' := by
  by_cases h1 : 1 ≤ p
  · go_enter Try.func48, Try.ntmps48
    go_wp2
    go_ret
    exact ⟨retb (by unfold cOk; simp [h1]), rfl⟩
  · go_enter Try.func48, Try.ntmps48
    go_wp2
    go_ret
    exact ⟨retb (by unfold cOk; rw [decide_eq_false (show ¬ 1 ≤ p by omega)]; rfl), rfl⟩
theorem lg_of {n : Int} (h1 : 1 ≤ n) (h2 : n ≤ 4294967296) : lgV n = lgR n ∧ lgE n = 0 ∧ 0 ≤ lgR n ∧ lgR n < 2162688 := by
  have a : lgOk n = true := (lgOk_iff n).2 ⟨h1, h2⟩
  have b := lgV_bd n
  rw [lgV, if_pos a] at b
  exact ⟨by rw [lgV, if_pos a], by rw [lgE, if_pos a], b.1, b.2⟩
set_option maxHeartbeats 1000000 in
theorem Bit_any (p : Int) (b : Bool) (w : World) : Calls Try.prog 35 #[.int .i64 p, .bool b] w fun e w' => e = .returned (.tuple #[.int .i64 (btV p b), .int .i64 (btE p)]) ∧ w = w' := by
  cases h : cOk p
  · have HE := Lib.hid h
    clear h
    go_enter Try.func35, Try.ntmps35
    go_wp2_with (first | (go_at_call 56; refine (isProbC_any p _).mono ?_; rintro e w' ⟨rfl, rfl⟩; rw [HE.out]))
    go_ret2
    exact ⟨ret2 (by simp [btV, HE.out]) (by simp [btE, HE.out]), rfl⟩
  · obtain ⟨h1, h2⟩ := (cOk_iff p).1 h
    have HE := Lib.hid h
    clear h
    cases b
    · obtain ⟨v1, v2, v3, v4⟩ := lg_of (n := 4096 - p) (by omega) (by omega)
      have V1 := Lib.hid v1
      have V2 := Lib.hid v2
      have R := fun w => log_any (4096 - p) w (by omega)
      rw [v1, v2] at R
      have HV : Hid (btV p false = 786432 - lgR (4096 - p)) := Lib.hid (by rw [btV, if_pos HE.out]; rfl)
      generalize lgR (4096 - p) = l at *
      clear v1 v2
      go_enter Try.func35, Try.ntmps35
      go_wp2_with (first | (go_at_call 56; refine (isProbC_any p _).mono ?_; rintro e w' ⟨rfl, rfl⟩; rw [HE.out]) | (go_at_call 33; refine (R _).mono ?_; rintro e w' ⟨rfl, rfl⟩))
      go_ret2
      exact ⟨ret2 HV.out.symm (by simp [btE, HE.out]), rfl⟩
    · obtain ⟨v1, v2, v3, v4⟩ := lg_of (n := p) (by omega) (by omega)
      have R := fun w => log_any p w (by omega)
      rw [v1, v2] at R
      have HV : Hid (btV p true = 786432 - lgR p) := Lib.hid (by rw [btV, if_pos HE.out]; rfl)
      generalize lgR p = l at *
      clear v1 v2
      go_enter Try.func35, Try.ntmps35
      go_wp2_with (first | (go_at_call 56; refine (isProbC_any p _).mono ?_; rintro e w' ⟨rfl, rfl⟩; rw [HE.out]) | (go_at_call 33; refine (R _).mono ?_; rintro e w' ⟨rfl, rfl⟩))
      go_ret2
      exact ⟨ret2 HV.out.symm (by simp [btE, HE.out]), rfl⟩
set_option maxHeartbeats 1000000 in
theorem rBit_any (p : Int) (b : Bool) (w : World) : Calls Try.prog 36 #[.int .i64 p, .bool b] w fun e w' => e = .returned (.tuple #[.int .i64 (btV p b), .int .i64 (btE p)]) ∧ w = w' := by
  cases h : cOk p
  · have HE := Lib.hid h
    clear h
    go_enter Try.func36, Try.ntmps36
    go_wp2_with (first | (go_at_call 48; refine (rProbC_any p _).mono ?_; rintro e w' ⟨rfl, rfl⟩; rw [HE.out]))
    go_ret2
    exact ⟨ret2 (by simp [btV, HE.out]) (by simp [btE, HE.out]), rfl⟩
  · obtain ⟨h1, h2⟩ := (cOk_iff p).1 h
    have HE := Lib.hid h
    clear h
    cases b
    · obtain ⟨v1, v2, v3, v4⟩ := lg_of (n := 4096 - p) (by omega) (by omega)
      have R := fun w => rLog_ok (4096 - p) w (by omega) (by omega)
      have HV : Hid (btV p false = 786432 - lgR (4096 - p)) := Lib.hid (by rw [btV, if_pos HE.out]; rfl)
      clear v1 v2
      generalize lgR (4096 - p) = l at *
      go_enter Try.func36, Try.ntmps36
      go_wp2_with (first | (go_at_call 48; refine (rProbC_any p _).mono ?_; rintro e w' ⟨rfl, rfl⟩; rw [HE.out]) | (go_at_call 46; refine (R _).mono ?_; rintro e w' ⟨rfl, rfl⟩))
      go_ret2
      exact ⟨ret2 HV.out.symm (by simp [btE, HE.out]), rfl⟩
    · obtain ⟨v1, v2, v3, v4⟩ := lg_of (n := p) (by omega) (by omega)
      have R := fun w => rLog_ok p w (by omega) (by omega)
      have HV : Hid (btV p true = 786432 - lgR p) := Lib.hid (by rw [btV, if_pos HE.out]; rfl)
      clear v1 v2
      generalize lgR p = l at *
      go_enter Try.func36, Try.ntmps36
      go_wp2_with (first | (go_at_call 48; refine (rProbC_any p _).mono ?_; rintro e w' ⟨rfl, rfl⟩; rw [HE.out]) | (go_at_call 46; refine (R _).mono ?_; rintro e w' ⟨rfl, rfl⟩))
      go_ret2
      exact ⟨ret2 HV.out.symm (by simp [btE, HE.out]), rfl⟩
set_option maxHeartbeats 2000000 in
theorem Step_any (x1 x2 p : Int) (b : Bool) (w : World) (a1 : 0 ≤ x1) (a2 : x1 ≤ 4294967295) (b1 : 0 ≤ x2) (b2 : x2 ≤ 4294967295) :
    Calls Try.prog 37 #[.int .u32 x1, .int .u32 x2, .int .i64 p, .bool b] w fun e w' => e = .returned (.tuple #[.int .i64 (ctV x1 x2 p b), .int .i64 (ctE x1 x2 p)]) ∧ w = w' := by
  by_cases hx : x1 < x2
  · cases h : cOk p
    · have HE := Lib.hid h
      have HC : Hid (ctOk x1 x2 p = false) := Lib.hid (by rw [ctOk, h, Bool.and_false])
      clear h
      go_enter Try.func37, Try.ntmps37
      go_wp2_with (first | (go_at_call 56; refine (isProbC_any p _).mono ?_; rintro e w' ⟨rfl, rfl⟩; rw [HE.out]))
      go_ret2
      exact ⟨ret2 (by simp [ctV, HC.out]) (by simp [ctE, HC.out]), rfl⟩
    · obtain ⟨h1, h2⟩ := (cOk_iff p).1 h
      have HE := Lib.hid h
      have HC : Hid (ctOk x1 x2 p = true) := Lib.hid (by rw [ctOk, h, decide_eq_true hx]; rfl)
      obtain ⟨m1, m2⟩ := mid_bd (x1 := x1) (x2 := x2) (p := p) hx (by omega) h2
      have hsp : spOk x1 x2 p = true := by rw [spOk, decide_eq_true hx, (pOk_iff p).2 ⟨by omega, h2⟩]; rfl
      have S := fun w => Split_any x1 x2 p w a1 a2 b1 b2
      rw [spV, spE, if_pos hsp, if_pos hsp] at S
      have HV : Hid (ctV x1 x2 p b = lgR (x2 - x1 + 1) - lgR (prtV x1 x2 p b)) := Lib.hid (by rw [ctV, if_pos HC.out])
      have HP : Hid (prtV x1 x2 p b = if b then mid x1 x2 p - x1 + 1 else x2 - mid x1 x2 p) := Lib.hid rfl
      generalize mid x1 x2 p = m at *
      obtain ⟨v1, v2, v3, v4⟩ := lg_of (n := x2 - x1 + 1) (by omega) (by omega)
      have R := fun w => log_any (x2 - x1 + 1) w (by omega)
      rw [v1, v2] at R
      generalize lgR (x2 - x1 + 1) = l at *
      clear h hsp v1 v2
      cases b
      · obtain ⟨v1, v2, v5, v6⟩ := lg_of (n := x2 - m) (by omega) (by omega)
        have Q := fun w => log_any (x2 - m) w (by omega)
        rw [v1, v2] at Q
        have HP2 : Hid (prtV x1 x2 p false = x2 - m) := Lib.hid HP.out
        clear v1 v2
        rw [HP2.out] at HV
        generalize lgR (x2 - m) = k at *
        go_enter Try.func37, Try.ntmps37
        go_wp2_with (first | (go_at_call 56; refine (isProbC_any p _).mono ?_; rintro e w' ⟨rfl, rfl⟩; rw [HE.out]) | (go_at_call 16; refine (S _).mono ?_; rintro e w' ⟨rfl, rfl⟩))
        refine (R _).mono ?_
        rintro e w' ⟨rfl, rfl⟩
        go_wp2_with fail
        refine (Q _).mono ?_
        rintro e w' ⟨rfl, rfl⟩
        go_wp2
        go_ret2
        exact ⟨ret2 HV.out.symm (by simp [ctE, HC.out]), rfl⟩
      · obtain ⟨v1, v2, v5, v6⟩ := lg_of (n := m - x1 + 1) (by omega) (by omega)
        have Q := fun w => log_any (m - x1 + 1) w (by omega)
        rw [v1, v2] at Q
        have HP2 : Hid (prtV x1 x2 p true = m - x1 + 1) := Lib.hid HP.out
        clear v1 v2
        rw [HP2.out] at HV
        generalize lgR (m - x1 + 1) = k at *
        go_enter Try.func37, Try.ntmps37
        go_wp2_with (first | (go_at_call 56; refine (isProbC_any p _).mono ?_; rintro e w' ⟨rfl, rfl⟩; rw [HE.out]) | (go_at_call 16; refine (S _).mono ?_; rintro e w' ⟨rfl, rfl⟩))
        refine (R _).mono ?_
        rintro e w' ⟨rfl, rfl⟩
        go_wp2_with fail
        refine (Q _).mono ?_
        rintro e w' ⟨rfl, rfl⟩
        go_wp2
        go_ret2
        exact ⟨ret2 HV.out.symm (by simp [ctE, HC.out]), rfl⟩
  · have HC : Hid (ctOk x1 x2 p = false) := Lib.hid (by rw [ctOk, decide_eq_false hx]; rfl)
    go_enter Try.func37, Try.ntmps37
    go_wp2_with (first | (go_at_call 56; refine (isProbC_any p _).mono ?_; rintro e w' ⟨rfl, rfl⟩))
    go_ret2
    exact ⟨ret2 (by simp [ctV, HC.out]) (by simp [ctE, HC.out]), rfl⟩
set_option maxHeartbeats 2000000 in
theorem rStep_any (x1 x2 p : Int) (b : Bool) (w : World) (a1 : 0 ≤ x1) (a2 : x1 ≤ 4294967295) (b1 : 0 ≤ x2) (b2 : x2 ≤ 4294967295) :
    Calls Try.prog 38 #[.int .u32 x1, .int .u32 x2, .int .i64 p, .bool b] w fun e w' => e = .returned (.tuple #[.int .i64 (ctV x1 x2 p b), .int .i64 (ctE x1 x2 p)]) ∧ w = w' := by
  by_cases hx : x1 < x2
  · cases h : cOk p
    · have HE := Lib.hid h
      have HC : Hid (ctOk x1 x2 p = false) := Lib.hid (by rw [ctOk, h, Bool.and_false])
      clear h
      go_enter Try.func38, Try.ntmps38
      go_wp2_with (first | (go_at_call 48; refine (rProbC_any p _).mono ?_; rintro e w' ⟨rfl, rfl⟩; rw [HE.out]))
      go_ret2
      exact ⟨ret2 (by simp [ctV, HC.out]) (by simp [ctE, HC.out]), rfl⟩
    · obtain ⟨h1, h2⟩ := (cOk_iff p).1 h
      have HE := Lib.hid h
      have HC : Hid (ctOk x1 x2 p = true) := Lib.hid (by rw [ctOk, h, decide_eq_true hx]; rfl)
      obtain ⟨m1, m2⟩ := mid_bd (x1 := x1) (x2 := x2) (p := p) hx (by omega) h2
      have S := fun w => rMiddle_any x1 x2 p w a1 b2 hx (by omega) h2
      have HV : Hid (ctV x1 x2 p b = lgR (x2 - x1 + 1) - lgR (prtV x1 x2 p b)) := Lib.hid (by rw [ctV, if_pos HC.out])
      have HP : Hid (prtV x1 x2 p b = if b then mid x1 x2 p - x1 + 1 else x2 - mid x1 x2 p) := Lib.hid rfl
      generalize mid x1 x2 p = m at *
      obtain ⟨v1, v2, v3, v4⟩ := lg_of (n := x2 - x1 + 1) (by omega) (by omega)
      have R := fun w => rLog_ok (x2 - x1 + 1) w (by omega) (by omega)
      clear v1 v2
      generalize lgR (x2 - x1 + 1) = l at *
      clear h
      cases b
      · obtain ⟨v1, v2, v5, v6⟩ := lg_of (n := x2 - m) (by omega) (by omega)
        have Q := fun w => rLog_ok (x2 - m) w (by omega) (by omega)
        have HP2 : Hid (prtV x1 x2 p false = x2 - m) := Lib.hid HP.out
        clear v1 v2
        rw [HP2.out] at HV
        generalize lgR (x2 - m) = k at *
        go_enter Try.func38, Try.ntmps38
        go_wp2_with (first | (go_at_call 48; refine (rProbC_any p _).mono ?_; rintro e w' ⟨rfl, rfl⟩; rw [HE.out]) | (go_at_call 50; refine (S _).mono ?_; rintro e w' ⟨rfl, rfl⟩))
        refine (R _).mono ?_
        rintro e w' ⟨rfl, rfl⟩
        go_wp2_with fail
        refine (Q _).mono ?_
        rintro e w' ⟨rfl, rfl⟩
        go_wp2
        go_ret2
        exact ⟨ret2 HV.out.symm (by simp [ctE, HC.out]), rfl⟩
      · obtain ⟨v1, v2, v5, v6⟩ := lg_of (n := m - x1 + 1) (by omega) (by omega)
        have Q := fun w => rLog_ok (m - x1 + 1) w (by omega) (by omega)
        have HP2 : Hid (prtV x1 x2 p true = m - x1 + 1) := Lib.hid HP.out
        clear v1 v2
        rw [HP2.out] at HV
        generalize lgR (m - x1 + 1) = k at *
        go_enter Try.func38, Try.ntmps38
        go_wp2_with (first | (go_at_call 48; refine (rProbC_any p _).mono ?_; rintro e w' ⟨rfl, rfl⟩; rw [HE.out]) | (go_at_call 50; refine (S _).mono ?_; rintro e w' ⟨rfl, rfl⟩))
        refine (R _).mono ?_
        rintro e w' ⟨rfl, rfl⟩
        go_wp2_with fail
        refine (Q _).mono ?_
        rintro e w' ⟨rfl, rfl⟩
        go_wp2
        go_ret2
        exact ⟨ret2 HV.out.symm (by simp [ctE, HC.out]), rfl⟩
  · have HC : Hid (ctOk x1 x2 p = false) := Lib.hid (by rw [ctOk, decide_eq_false hx]; rfl)
    go_enter Try.func38, Try.ntmps38
    go_wp2_with (first | (go_at_call 48; refine (rProbC_any p _).mono ?_; rintro e w' ⟨rfl, rfl⟩))
    go_ret2
    exact ⟨ret2 (by simp [ctV, HC.out]) (by simp [ctE, HC.out]), rfl⟩
end Go.Proofs.Ytaehjhjbbkblbaa.costW
