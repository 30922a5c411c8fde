/- Lists of strings compared, by walks. -/
import Derived.Test.YtacllaeccdgnmaaPaP
import Derived.Test.YtacllaeccdgnmaaStr
import Derived.BigQuiet
namespace Go.Proofs.Ytacllaeccdgnmaa.paW
set_option maxRecDepth 100000
open Go.RowKit Go.Proofs.Ytacllaeccdgnmaa.base Go.Proofs.Ytacllaeccdgnmaa.paP
set_option linter.unusedVariables false
set_option linter.unusedSimpArgs false
set_option maxRecDepth 100000
set_option maxHeartbeats 400000 in
theorem Equal_any (A B : Option Addr) (n m c d : Nat) (xs ys : List Int) (w : World) (hA : Has .u8 w A xs) (eA : xs.length = n) (hB : Has .u8 w B ys) (eB : ys.length = m) (bx : Byt xs) (by_ : Byt ys) :
    Calls Try.prog 21 #[.slice A n c, .slice B m d] w fun e w' => e = .returned (.bool (decide (xs = ys))) ∧ w' = w := by
  have h1 := conv8 (c := c) hA eA
  have h2 := conv8 (c := d) hB eB
  go_enter Try.func21, Try.ntmps21
  go_wp2_with fail
  go_ret
  refine ⟨?_, rfl⟩
  show Ending.returned (.bool ((bstr xs).toList == (bstr ys).toList)) = _
  rw [bstr_beq bx by_]
theorem bs_at {rs : List R8} {i : Nat} (h : i < rs.length) : (bs rs)[i]'(by unfold bs; simpa using h) = (rs.getD i r80).b := by
  unfold bs
  simp [List.getD_eq_getElem?_getD, List.getElem?_eq_getElem h]
theorem bs_eq_of {rs qs : List R8} {m : Nat} (h1 : rs.length = m) (h2 : qs.length = m) (h : ∀ i, i < m → (rs.getD i r80).b = (qs.getD i r80).b) : bs rs = bs qs := by
  apply List.ext_getElem
  · unfold bs; simp [h1, h2]
  · intro i hi hj
    rw [bs_at (by unfold bs at hi; simpa using hi), bs_at (by unfold bs at hj; simpa using hj)]
    exact h i (by unfold bs at hi; simp [h1] at hi; exact hi)
theorem bs_ne_of {rs qs : List R8} {m i : Nat} (h1 : rs.length = m) (h2 : qs.length = m) (hi : i < m) (h : (rs.getD i r80).b ≠ (qs.getD i r80).b) : bs rs ≠ bs qs := by
  intro e
  apply h
  rw [← bs_at (by rw [h1]; exact hi), ← bs_at (by rw [h2]; exact hi)]
  simp only [e]
set_option maxHeartbeats 2000000 in
theorem EqualFunc_any (P Q : Option Addr) (m d n c : Nat) (rs qs : List R8) (w : World) (hr : RowsB w P m d rs) (hq : RowsB w Q n c qs) :
    Calls Try.prog 20 #[.slice P m d, .slice Q n c, .func (.func 21) #[] #[]] w fun e w' => e = .returned (.bool (decide (bs rs = bs qs))) ∧ w' = w := by
  have HR := Lib.hid hr
  have HQ := Lib.hid hq
  have m1 : (m : Int) ≤ 9223372036854775807 := by have := hr.c1; have := hr.c2; omega
  by_cases hmn : m = n
  · subst hmn
    clear hr hq
    go_enter Try.func20, Try.ntmps20
    go_wp2_with fail
    go_loopw [7, 8, 9, 17] (fun _ _ _ i wr => ∃ q : Nat, q ≤ m ∧ i = .int .i64 (q : Int) ∧ (∀ j, j < q → (rs.getD j r80).b = (qs.getD j r80).b) ∧ wr = w) (fun _ _ _ i _ => m - (intOf i).toNat)
    case atStart => exact ⟨0, Nat.zero_le _, rfl, fun j hj => by omega, rfl⟩
    case round =>
      obtain ⟨q, hqm, rfl, heq, rfl⟩ := hrel
      have HEQ := Lib.hid heq
      by_cases hlt : q < m
      · have q1 : (q : Int) < m := by omega
        have q0 : 0 ≤ (q : Int) := by omega
        have HL := Lib.hid hlt
        obtain ⟨b1, o1, rfl, hb1, hc1⟩ := rb_cell HR.out hlt
        obtain ⟨b2, o2, rfl, hb2, hc2⟩ := rb_cell HQ.out hlt
        have e1 := hc1 q hlt
        have e2 := hc2 q hlt
        have i1 := HR.out.h.get q (by rw [HR.out.l]; exact hlt)
        have i2 := HQ.out.h.get q (by rw [HQ.out.l]; exact hlt)
        have HNE : Hid ((rs.getD q r80).b ≠ (qs.getD q r80).b → bs rs ≠ bs qs) := Lib.hid (bs_ne_of HR.out.l HQ.out.l hlt)
        obtain ⟨r, hrr⟩ : ∃ r, rs.getD q r80 = r := ⟨_, rfl⟩
        obtain ⟨s, hss⟩ : ∃ r, qs.getD q r80 = r := ⟨_, rfl⟩
        have HRR := Lib.hid (And.intro hrr hss)
        rw [hrr, hss] at HNE
        rw [hrr] at e1 i1
        rw [hss] at e2 i2
        obtain ⟨rA, rn, rc, rb⟩ := r
        obtain ⟨sA, sn, sc, sb⟩ := s
        dsimp only at e1 e2 HNE
        have HI1 := Lib.hid i1
        have HI2 := Lib.hid i2
        clear hlt hqm heq hc1 hc2 hb1 hb2 i1 i2 hrr hss
        by_cases hx : rb = sb
        · have HX : Hid (decide (rb = sb) = true) := Lib.hid (decide_eq_true hx)
          go_wp2_with (go_at_call 21; refine (Equal_any rA sA rn sn rc sc rb sb _ HI1.out.h HI1.out.e HI2.out.h HI2.out.e HI1.out.b HI2.out.b).mono ?_; rw [HX.out]; rintro e w3 ⟨rfl, rfl⟩)
          go_roundw
          case rel => exact ⟨q + 1, HL.out, by go_num, fun j hj => by
            rcases Nat.lt_or_ge j q with h | h
            · exact HEQ.out j h
            · obtain rfl : j = q := by omega
              rw [HRR.out.1, HRR.out.2]; exact hx, by trivial⟩
          case measure => simp [intOf]; have := HL.out; omega
        · have HX : Hid (decide (rb = sb) = false) := Lib.hid (decide_eq_false hx)
          go_wp2_with (go_at_call 21; refine (Equal_any rA sA rn sn rc sc rb sb _ HI1.out.h HI1.out.e HI2.out.h HI2.out.e HI1.out.b HI2.out.b).mono ?_; rw [HX.out]; rintro e w3 ⟨rfl, rfl⟩)
          go_ret
          exact ⟨by rw [decide_eq_false (HNE.out hx)]; rfl, rfl⟩
      · obtain rfl : q = m := by omega
        have q1 : ¬ (q : Int) < q := by omega
        have HE : Hid (bs rs = bs qs) := Lib.hid (bs_eq_of HR.out.l HQ.out.l HEQ.out)
        clear hlt hqm heq
        go_wp2_with fail
        go_ret
        exact ⟨by rw [decide_eq_true HE.out]; rfl, rfl⟩
  · have h1 : ((m : Int) == n) = false := by simp; omega
    have HE : Hid (bs rs ≠ bs qs) := Lib.hid (fun e => hmn (by rw [← bs_len hr, ← bs_len hq, e]))
    clear hr hq
    go_enter Try.func20, Try.ntmps20
    go_wp2_with fail
    go_ret
    exact ⟨by rw [decide_eq_false HE.out]; rfl, rfl⟩
set_option maxHeartbeats 2000000 in
theorem Same_any (P Q : Option Addr) (m d n c : Nat) (rs qs : List R8) (w : World) (hr : RowsB w P m d rs) (hq : RowsB w Q n c qs) :
    Calls Try.prog 13 #[.slice P m d, .slice Q n c] w fun e w' => e = .returned (.bool (decide (bs rs = bs qs))) ∧ Below w.heap.size w w' := by
  have HR := Lib.hid hr
  have HQ := Lib.hid hq
  have m1 : (m : Int) ≤ 9223372036854775807 := by have := hr.c1; have := hr.c2; omega
  by_cases hmn : m = n
  · subst hmn
    clear hr hq
    go_enter Try.func13, Try.ntmps13
    go_wp2_with fail
    go_loopw [5] (fun i wr => ∃ q : Nat, q ≤ m ∧ i = .int .i64 (q : Int) ∧ (∀ j, j < q → (rs.getD j r80).b = (qs.getD j r80).b) ∧ ∃ x, wr = w.drewN x) (fun i _ => m - (intOf i).toNat)
    case atStart => exact ⟨0, Nat.zero_le _, rfl, fun j hj => by omega, 0, rfl⟩
    case round =>
      obtain ⟨q, hqm, rfl, heq, x0, hx0⟩ := hrel
      have HX0 := Lib.hid hx0
      have HEQ := Lib.hid heq
      by_cases hlt : q < m
      · have q1 : (q : Int) < m := by omega
        have q0 : 0 ≤ (q : Int) := by omega
        have HL := Lib.hid hlt
        obtain ⟨b1, o1, rfl, hb1, hc1⟩ := rb_cell HR.out hlt
        obtain ⟨b2, o2, rfl, hb2, hc2⟩ := rb_cell HQ.out hlt
        have e1 : wr.cell? ⟨b1, o1 + q, none⟩ = some (.slice (rs.getD q r80).A (rs.getD q r80).n (rs.getD q r80).c) := by rw [hx0]; exact hc1 q hlt
        have e2 : wr.cell? ⟨b2, o2 + q, none⟩ = some (.slice (qs.getD q r80).A (qs.getD q r80).n (qs.getD q r80).c) := by rw [hx0]; exact hc2 q hlt
        have i1 := HR.out.h.get q (by rw [HR.out.l]; exact hlt)
        have i2 := HQ.out.h.get q (by rw [HQ.out.l]; exact hlt)
        have HNE : Hid ((rs.getD q r80).b ≠ (qs.getD q r80).b → bs rs ≠ bs qs) := Lib.hid (bs_ne_of HR.out.l HQ.out.l hlt)
        obtain ⟨r, hrr⟩ : ∃ r, rs.getD q r80 = r := ⟨_, rfl⟩
        obtain ⟨s, hss⟩ : ∃ r, qs.getD q r80 = r := ⟨_, rfl⟩
        have HRR := Lib.hid (And.intro hrr hss)
        rw [hrr, hss] at HNE
        rw [hrr] at e1 i1
        rw [hss] at e2 i2
        obtain ⟨rA, rn, rc, rb⟩ := r
        obtain ⟨sA, sn, sc, sb⟩ := s
        dsimp only at e1 e2 HNE
        have k1 : ∀ n, (convert 36 9 (.slice rA rn rc)).run Try.prog (wr.drewN n) = .ok (.string (bstr rb)) (wr.drewN n) := fun n => conv8 (show Has .u8 (wr.drewN n) rA rb by rw [hx0]; exact i1.h) i1.e
        have k2 : ∀ n, (convert 36 9 (.slice sA sn sc)).run Try.prog (wr.drewN n) = .ok (.string (bstr sb)) (wr.drewN n) := fun n => conv8 (show Has .u8 (wr.drewN n) sA sb by rw [hx0]; exact i2.h) i2.e
        have hbb := bstr_beq i1.b i2.b
        dsimp only at hbb
        clear hlt hqm heq hc1 hc2 hb1 hb2 i1 i2 hrr hss hx0
        generalize bstr rb = u at *
        generalize bstr sb = v at *
        by_cases hx : rb = sb
        · rw [decide_eq_true hx] at hbb
          have hbn : (u.toList != v.toList) = false := by simp [bne, hbb]
          go_wp2_with fail
          go_quiet (fail)
          go_wp2_with fail
          go_roundw
          case rel => exact ⟨q + 1, HL.out, by go_num, fun j hj => by
            rcases Nat.lt_or_ge j q with h | h
            · exact HEQ.out j h
            · obtain rfl : j = q := by omega
              rw [HRR.out.1, HRR.out.2]; exact hx, _, by rw [HX0.out]; exact World.drewN_drewN _ _ _⟩
          case measure => simp [intOf]; have := HL.out; omega
        · rw [decide_eq_false hx] at hbb
          have hbn : (u.toList != v.toList) = true := by simp [bne, hbb]
          go_wp2_with fail
          go_quiet (fail)
          go_wp2_with fail
          go_ret
          exact ⟨by rw [decide_eq_false (HNE.out hx)]; rfl, below_drewN (by rw [HX0.out]; exact below_drewN (Below.refl _ _) _) _⟩
      · obtain rfl : q = m := by omega
        have q1 : ¬ (q : Int) < q := by omega
        have HE : Hid (bs rs = bs qs) := Lib.hid (bs_eq_of HR.out.l HQ.out.l HEQ.out)
        clear hlt hqm heq hx0
        go_wp2_with fail
        go_ret
        exact ⟨by rw [decide_eq_true HE.out]; rfl, by rw [HX0.out]; exact below_drewN (Below.refl _ _) _⟩
  · have h1 : ((m : Int) == n) = false := by simp; omega
    have HE : Hid (bs rs ≠ bs qs) := Lib.hid (fun e => hmn (by rw [← bs_len hr, ← bs_len hq, e]))
    clear hr hq
    go_enter Try.func13, Try.ntmps13
    go_wp2_with fail
    go_ret
    exact ⟨by rw [decide_eq_false HE.out]; rfl, Below.refl _ _⟩
end Go.Proofs.Ytacllaeccdgnmaa.paW
