/- Slots compared: a slot equals itself. -/
import Derived.Test.YtkklmclnjmafaaaSlW9
import Derived.DeepKeys
namespace Go.Proofs.Ytkklmclnjmafaaa.slW
set_option maxRecDepth 100000
open Go.RowKit Go.Proofs.Ytkklmclnjmafaaa.base Go.Proofs.Ytkklmclnjmafaaa.slP
set_option linter.unusedVariables false
set_option linter.unusedSimpArgs false
set_option maxRecDepth 100000
theorem byte_wf {x : Int} (h : 0 ≤ x ∧ x ≤ 255) : (Lit.int .u8 x).wf = true := WalkArith.wf_u8 h
theorem one_lit {x : Int} (h : 0 ≤ x ∧ x ≤ 255) (d : Nat) : Try.prog.keyLits (d + 1) 5 [.int .u8 x] = some [.int .u8 x] := by
  have hw := byte_wf h
  unfold Program.keyLits
  rw [Try.underlying5]
  simp [hw]
theorem mapM_some {α β : Type} (f : α → Option β) (g : α → β) : ∀ l : List α, (∀ x ∈ l, f x = some (g x)) → l.mapM f = some (l.map g)
  | [], _ => rfl
  | a :: l, h => by
    rw [List.mapM_cons, h a (by simp), mapM_some f g l (fun x hx => h x (by simp [hx]))]
    rfl
theorem lits15 (l : List Int) (hl : l.length = 15) (hb : ∀ z ∈ l, 0 ≤ z ∧ z ≤ 255) (d : Nat) : ∃ ls, Try.prog.keyLits (d + 2) 29 (l.map (Value.int .u8)) = some ls := by
  refine ⟨((List.range 15).map fun i => [Lit.int .u8 (l.getD i 0)]).flatten, ?_⟩
  unfold Program.keyLits
  rw [Try.underlying29]
  have c1 : Try.prog.cellsOf 29 = 15 := by kernel_rfl
  have c2 : Try.prog.cellsOf 5 = 1 := by kernel_rfl
  have e : (List.range 15).mapM (fun i => Try.prog.keyLits (d + 1) 5 (((l.map (Value.int .u8)).drop (i * 1)).take 1)) = some ((List.range 15).map fun i => [Lit.int .u8 (l.getD i 0)]) := by
    refine mapM_some _ _ _ fun i hi => ?_
    have hi2 : i < l.length := by rw [hl]; exact List.mem_range.1 hi
    have e1 : ((l.map (Value.int .u8)).drop (i * 1)).take 1 = [.int .u8 (l.getD i 0)] := by
      rw [Nat.mul_one, List.drop_eq_getElem_cons (by simpa using hi2), List.take_succ_cons, List.take_zero, List.getD_eq_getElem?_getD, List.getElem?_eq_getElem hi2]
      simp
    rw [e1]
    exact one_lit (by rw [List.getD_eq_getElem?_getD, List.getElem?_eq_getElem hi2]; exact hb _ (List.getElem_mem hi2)) d
  show (if (l.map (Value.int .u8)).length = Try.prog.cellsOf 29 then _ else none) = _
  rw [if_pos (by rw [c1]; simpa using hl), c2, e]
  rfl
theorem lits16 (l : List Int) (hl : l.length = 16) (hb : ∀ z ∈ l, 0 ≤ z ∧ z ≤ 255) : ∃ ls, Try.prog.keyLits 5 31 (l.map (Value.int .u8)) = some ls := by
  match l, hl with
  | c :: r, hl =>
    have hr : r.length = 15 := by simpa using hl
    have e0 := one_lit (hb c (by simp)) 3
    obtain ⟨ls, e1⟩ := lits15 r hr (fun z hz => hb z (by simp [hz])) 2
    have hr15 : (r.map (Value.int .u8)).take 15 = r.map (Value.int .u8) := List.take_of_length_le (by simp [hr])
    unfold Program.keyLits
    rw [Try.underlying31]
    have c1 : Try.prog.cellsOf 31 = 16 := by kernel_rfl
    have c2 : Try.prog.cellsOf 5 = 1 := by kernel_rfl
    have c3 : Try.prog.cellsOf 29 = 15 := by kernel_rfl
    simp [c1, c2, c3, hr, e0, e1, hr15, List.mapM_cons]
theorem slot_formed (l : List Int) (h : l.length = 16) : (Value.agg (va l)).formed Try.prog 31 = true := by
  have c : Try.prog.cellsOf 31 = 16 := by kernel_rfl
  unfold Value.formed
  rw [Try.underlying31]
  show ((va l).size == _) = true
  unfold va
  rw [c]; simp [h]
theorem va_cells (l : List Int) : (Value.agg (va l)).cells.toList = l.map (Value.int .u8) := by unfold va; rfl
theorem eq_slotN (N : Nat) (l : List Int) (hl : l.length = 16) (hb : ∀ z ∈ l, 0 ≤ z ∧ z ≤ 255) (w : World) : (Op.equalIn (N + 3) 31 (.agg (va l)) (.agg (va l))).run Try.prog w = .ok true w := by
  obtain ⟨ls, hls⟩ := lits16 l hl hb
  obtain ⟨r, h1, h2⟩ := run_equalIn_deep (P := Try.prog) N 3 31 (by kernel_rfl) w 5 5 (.agg (va l)) (.agg (va l)) _ _ (slot_formed l hl) (slot_formed l hl) (by rw [va_cells]; exact hls) (by rw [va_cells]; exact hls)
  rw [h1, h2.2 rfl]
theorem eq_slot (l : List Int) (hl : l.length = 16) (hb : ∀ z ∈ l, 0 ≤ z ∧ z ≤ 255) (w : World) : (Op.equalIn 10000 31 (.agg (va l)) (.agg (va l))).run Try.prog w = .ok true w := eq_slotN 9997 l hl hb w
theorem quiet_slot {o : Oper} {a : Act} {w : World} {C : World → Prop} {g off : Nat} {l : List Int} (x : Operand) (ho : o.op = .load 31 x) (k : w.rangeAt g off (l.map (Value.int .u8))) (h : l.length = 16)
    (hx : a.eval x = .pointer (some ⟨g, off, none⟩)) : Oper.quietAt Try.prog o a C w (.agg (va l)) := by
  unfold Oper.quietAt execOp
  simp only [ho, hx, Instr.loadAt, Instr.sureAddr, Sem.run_bind, Sem.run_pure, Result.andThen_ok, run_loadVar_mid w g off 31 (l.map (Value.int .u8)) _ k Try.underlying31 rfl (info16 h)]
  unfold va
  exact ⟨rfl, rfl⟩
theorem quiet_neq {o : Oper} {a : Act} {w : World} {C : World → Prop} {l : List Int} (x y : Operand) (t : TypeId) (ho : o.op = .binOp .neq 31 x y t) (hl : l.length = 16) (hb : ∀ z ∈ l, 0 ≤ z ∧ z ≤ 255)
    (hx : a.eval x = .agg (va l)) (hy : a.eval y = .agg (va l)) : Oper.quietAt Try.prog o a C w (.bool false) := by
  unfold Oper.quietAt execOp
  simp only [ho, hx, hy, Sem.run_bind, Sem.run_pure, Result.andThen_ok, run_neq_struct, run_eqGuard_agg _ _ _ _ _ _ _ (show Try.prog.eqGuardType Try.prog.depth 31 = false by kernel_rfl), eq_slot l hl hb]
  exact ⟨rfl, rfl⟩
end Go.Proofs.Ytkklmclnjmafaaa.slW
