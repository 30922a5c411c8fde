/- What finding changes, by itself; a whole slot loaded and compared in a plain region. -/
import Derived.Test.YtkklmclnjmafaaaSlA2
import Derived.Test.YtkklmclnjmafaaaSlPl2
namespace Go.Proofs.Ytkklmclnjmafaaa.slP
set_option maxRecDepth 100000
open Go.Proofs.Ytkklmclnjmafaaa.base
set_option linter.unusedVariables false
set_option linter.unusedSimpArgs false
theorem bes_bes (q : Nat) : bes (bes q) = q := by unfold bes; split <;> split <;> omega
theorem bes_half (q : Nat) : bes q / 2 = q / 2 := by unfold bes; split <;> omega
theorem lk_half (fl : List Int) (n : Nat) (h : Int) : lkN fl n h / 2 = plN n h / 2 := by
  rcases lk_two fl n h with e | e
  · rw [e]
  · rw [e]; exact bes_half _
theorem slA_ext {fl fl' : List Int} {n i : Nat} (he : fl.length = n * 16) (he' : fl'.length = n * 16) (hi : i < n) (h : ∀ j, j < 16 → fl'.getD (16 * i + j) 0 = fl.getD (16 * i + j) 0) : slW.slA fl' i = slW.slA fl i := by
  have l1 := slW.slA_len (i := i) he hi
  have l2 := slW.slA_len (i := i) he' hi
  apply List.ext_getElem (by rw [l1, l2])
  intro j h1 h2
  have hj : j < 16 := by omega
  have a1 := slW.slA_get (fl := fl) (i := i) hj
  have a2 := slW.slA_get (fl := fl') (i := i) hj
  rw [List.getD_eq_getElem?_getD, List.getElem?_eq_getElem h2] at a1
  rw [List.getD_eq_getElem?_getD, List.getElem?_eq_getElem h1] at a2
  have a1' : (slW.slA fl i)[j] = fl.getD (16 * i + j) 0 := a1
  have a2' : (slW.slA fl' i)[j] = fl'.getD (16 * i + j) 0 := a2
  rw [a1', a2', h j hj]
theorem sl_other {fl : List Int} {n m i : Nat} {h : Int} (he : fl.length = n * 16) (hm : m < n) (hi : i < n) (hne : i ≠ m) : slW.slA (setL fl (m * 16) (newS h)) i = slW.slA fl i :=
  slA_ext he (by rw [setL_len]; exact he) hi fun j hj => by rw [setL_get _ _ _ _ (by rw [new_len]; omega), new_len, if_neg (by omega)]
theorem sl_self {fl : List Int} {n m : Nat} {h : Int} (he : fl.length = n * 16) (hm : m < n) : slW.slA (setL fl (m * 16) (newS h)) m = newS h := by
  have l1 := slW.slA_len (i := m) (show (setL fl (m * 16) (newS h)).length = n * 16 by rw [setL_len]; exact he) hm
  apply List.ext_getElem (by rw [l1, new_len])
  intro j h1 h2
  have hj : j < 16 := by omega
  have a2 := slW.slA_get (fl := setL fl (m * 16) (newS h)) (i := m) hj
  rw [List.getD_eq_getElem?_getD, List.getElem?_eq_getElem h1, setL_get _ _ _ _ (by rw [new_len]; omega), new_len, if_pos (by omega), show 16 * m + j - m * 16 = j by omega, List.getD_eq_getElem?_getD, List.getElem?_eq_getElem h2] at a2
  exact a2
/-- What finding leaves of the slots. -/
theorem fd_slots {lv : Int} {n : Nat} {fl : List Int} {h : Int} (he : fl.length = n * 16) (hq : plN n h < n) (hd : bes (plN n h) < n) :
    (∀ i, i < n → i ≠ lkN fl n h → slW.slA (fdL fl n h) i = slW.slA fl i) ∧ (chA fl (lkN fl n h) = ckN h → fdL fl n h = fl ∧ (lkN fl n h = plN n h ∨ ¬ chA fl (plN n h) = ckN h)) ∧
    (¬ chA fl (lkN fl n h) = ckN h → slW.slA (fdL fl n h) (lkN fl n h) = newS h ∧ ¬ chA fl (bes (lkN fl n h)) = ckN h ∧
      (stP.stT (stA fl (lkN fl n h) 0) < stP.stT (stA fl (bes (lkN fl n h)) 0) ∨ (stP.stT (stA fl (lkN fl n h) 0) = stP.stT (stA fl (bes (lkN fl n h)) 0) ∧ lkN fl n h = plN n h))) := by
  have hm := lk_bound (fl := fl) hq hd
  refine ⟨fun i hi hne => ?_, fun hc => ?_, fun hc => ?_⟩
  · unfold fdL
    split
    · rfl
    · exact sl_other he hm hi hne
  · have hf : fndB fl n h = true := by
      rcases lk_two fl n h with e | e <;> rw [e] at hc <;> simp [fndB, hc]
    refine ⟨if_pos hf, ?_⟩
    by_cases c1 : chA fl (plN n h) = ckN h
    · exact .inl (lk_1 rfl c1).1
    · exact .inr c1
  · have c1 : ¬ chA fl (plN n h) = ckN h := fun e => hc (by rw [(lk_1 rfl e).1]; exact e)
    have c2 : ¬ chA fl (bes (plN n h)) = ckN h := fun e => hc (by rw [(lk_2 rfl c1 e).1]; exact e)
    have hx := lk_no rfl c1 c2
    refine ⟨by rw [hx.2]; exact sl_self he hm, ?_, ?_⟩
    · rcases lk_two fl n h with e | e
      · rw [e]; exact c2
      · rw [e, bes_bes]; exact c1
    · by_cases k3 : stP.stT (stA fl (bes (plN n h)) 0) < stP.stT (stA fl (plN n h) 0)
      · have e := (lk_3 rfl c1 c2 k3).1
        rw [e, bes_bes]; exact .inl k3
      · have e := (lk_4 rfl c1 c2 k3).1
        rw [e]
        rcases Int.lt_or_eq_of_le (Int.not_lt.1 k3) with k | k
        · exact .inl k
        · exact .inr ⟨k, rfl⟩
end Go.Proofs.Ytkklmclnjmafaaa.slP
namespace Go.Proofs.Ytkklmclnjmafaaa.slW
set_option maxRecDepth 100000
open Go.RowKit Go.Proofs.Ytkklmclnjmafaaa.base Go.Proofs.Ytkklmclnjmafaaa.slP
set_option linter.unusedVariables false
set_option linter.unusedSimpArgs false
theorem wp_eql_slot {ops : Array Oper} {rest : List Oper} {o : Oper} {a : Act} {w : World} {Q : Exit → Act → World → Prop} {l : List Int} (hw : Region.wanted o (yielded ops a.tmps) = true) (x y : Operand) (t : TypeId) (ho : o.op = .binOp .eql 31 x y t) (hl : l.length = 16) (hb : ∀ z ∈ l, 0 ≤ z ∧ z ≤ 255)
    (hx : a.eval x = .agg (va l)) (hy : a.eval y = .agg (va l)) (H : wpList Try.prog ops Q rest (a.put o.dst (.bool true)) w) : wpList Try.prog ops Q (o :: rest) a w := by
  refine wpList_step fun K hK => ?_
  rw [if_pos hw]
  unfold Oper.wp execOp
  simp only [ho, hx, hy, Sem.run_bind, Sem.run_pure, Result.andThen_ok, run_eql_struct, run_eqGuard_agg _ _ _ _ _ _ _ (show Try.prog.eqGuardType Try.prog.depth 31 = false by kernel_rfl), eq_slot l hl hb]
  exact hK _ _ H
theorem wp_load_slot {ops : Array Oper} {rest : List Oper} {o : Oper} {a : Act} {w : World} {Q : Exit → Act → World → Prop} {g off : Nat} {l : List Int} (hw : Region.wanted o (yielded ops a.tmps) = true) (x : Operand) (ho : o.op = .load 31 x) (k : w.rangeAt g off (l.map (Value.int .u8))) (hl : l.length = 16)
    (hx : a.eval x = .pointer (some ⟨g, off, none⟩)) (H : wpList Try.prog ops Q rest (a.put o.dst (.agg (va l))) w) : wpList Try.prog ops Q (o :: rest) a w := by
  refine wpList_step fun K hK => ?_
  rw [if_pos hw]
  refine wp_load_mid (P := Try.prog) 31 x ho g off hx _ _ k Try.underlying31 rfl (info16 hl) ?_
  unfold va at H
  exact hK _ _ H
end Go.Proofs.Ytkklmclnjmafaaa.slW
