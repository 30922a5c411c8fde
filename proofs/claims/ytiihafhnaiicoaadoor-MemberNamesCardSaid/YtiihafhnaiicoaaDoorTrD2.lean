/- Digests: stored, loaded, compared, appended, made. -/
import Derived.Test.YtiihafhnaiicoaaDoorTrD
import Derived.DeepKeys
namespace Go.Proofs.YtiihafhnaiicoaaDoor.trW
set_option maxRecDepth 100000
open Go.RowKit Go.Proofs.YtiihafhnaiicoaaDoor.base Go.Proofs.YtiihafhnaiicoaaDoor.shP Go.Proofs.YtiihafhnaiicoaaDoor.shW
set_option linter.unusedVariables false
set_option linter.unusedSimpArgs false
set_option maxRecDepth 100000
theorem sv_arr (l : List Int) : (sv l).toArray = darr l := rfl
theorem below_cells {B g : Nat} (hg : B ≤ g) {w : World} : ∀ (vs : List Value) (o : Nat) {w' : World}, Below B w w' → Below B w (w'.setCells g o vs)
  | [], o, w', k => k
  | v :: r, o, w', k => by
    rw [World.setCells]
    exact below_cells hg r (o + 1) (Below.setCell k (p := ⟨g, o, none⟩) hg v)
theorem far_cells {g : Nat} {w : World} : ∀ (vs : List Value) (o : Nat) {w' : World}, w.grownBy w' (some g) → w.grownBy (w'.setCells g o vs) (some g)
  | [], o, w', k => k
  | v :: r, o, w', k => by
    rw [World.setCells]
    exact far_cells r (o + 1) (far_set k v)
theorem size_cells (g : Nat) : ∀ (vs : List Value) (o : Nat) (w : World), (w.setCells g o vs).heap.size = w.heap.size := base.size_cells g
/-- A whole digest stored in its block. -/
theorem wp_st {ops : Array Oper} {rest : List Oper} {o : Oper} {a : Act} {w : World} {Q : Exit → Act → World → Prop} {g : Nat} {l0 l : List Int} (hw : Region.wanted o (yielded ops a.tmps) = true) (p x : Operand) (ho : o.op = .store 52 p x) (k : Lies w g 52 (sv l0)) (e0 : l0.length = 20) (e : l.length = 20)
    (hp : a.eval p = .pointer (some ⟨g, 0, none⟩)) (hx : a.eval x = .agg (darr l)) (H : ∀ w', Lies w' g 52 (sv l) → w.grownBy w' (some g) → Below g w w' → w'.heap.size = w.heap.size → wpList Tryd.prog ops Q rest (a.put o.dst undef) w') : wpList Tryd.prog ops Q (o :: rest) a w := by
  refine wpList_step fun K hK => ?_
  rw [if_pos hw]
  refine wp_store_mid (P := Tryd.prog) 52 p x ho g 0 _ hp hx (fun j hj => ⟨?_, k.free _⟩) (by rw [show (darr l).size = (sv l).length from by simp [darr, sv]]; exact info20l e) (sv_all l) (hK _ _ (H _ ?_ (far_cells _ _ (World.grownBy.refl _ _)) (below_cells (Nat.le_refl _) _ _ (Below.refl _ _)) (size_cells _ _ _ _)))
  · rw [k.cell, List.getElem?_eq_getElem (by simp only [darr, List.size_toArray, List.length_map] at hj; simp [sv]; omega)]; rfl
  · have := heap_setCells_row g 52 (darr l).toList 0 w _ k
    unfold Lies
    rw [this, setMany_all _ _ (by simp [sv, darr, e0, e])]; rfl
theorem rng_lies {w : World} {g : Nat} {t : TypeId} {cs : List Value} (k : Lies w g t cs) : w.rangeAt g 0 cs := fun j v hv => by rw [Nat.zero_add, k.cell, hv]
theorem wp_ld {ops : Array Oper} {rest : List Oper} {o : Oper} {a : Act} {w : World} {Q : Exit → Act → World → Prop} {g off : Nat} {l : List Int} (hw : Region.wanted o (yielded ops a.tmps) = true) (x : Operand) (ho : o.op = .load 52 x) (k : w.rangeAt g off (sv l)) (e : l.length = 20)
    (hx : a.eval x = .pointer (some ⟨g, off, none⟩)) (H : wpList Tryd.prog ops Q rest (a.put o.dst (.agg (darr l))) w) : wpList Tryd.prog ops Q (o :: rest) a w :=
  wpList_step fun K hK => by rw [if_pos hw]; exact wp_load_mid 52 x ho g off hx (sv l) _ k Tryd.underlying52 rfl (info20l e) (hK _ _ H)
theorem wp_l0 {ops : Array Oper} {rest : List Oper} {o : Oper} {a : Act} {w : World} {Q : Exit → Act → World → Prop} {g : Nat} {l : List Int} (hw : Region.wanted o (yielded ops a.tmps) = true) (x : Operand) (ho : o.op = .load 52 x) (k : Lies w g 52 (sv l)) (e : l.length = 20)
    (hx : a.eval x = .pointer (some ⟨g, 0, none⟩)) (H : wpList Tryd.prog ops Q rest (a.put o.dst (.agg (darr l))) w) : wpList Tryd.prog ops Q (o :: rest) a w := wp_ld hw x ho (rng_lies k) e hx H
theorem quiet_ld {o : Oper} {a : Act} {w : World} {C : World → Prop} {g off : Nat} {l : List Int} (x : Operand) (ho : o.op = .load 52 x) (k : w.rangeAt g off (sv l)) (h : l.length = 20)
    (hx : a.eval x = .pointer (some ⟨g, off, none⟩)) : Oper.quietAt Tryd.prog o a C w (.agg (darr l)) := by
  unfold Oper.quietAt execOp
  simp only [ho, hx, Instr.loadAt, Instr.sureAddr, Sem.run_bind, Sem.run_pure, Result.andThen_ok, run_loadVar_mid w g off 52 (sv l) _ k Tryd.underlying52 rfl (info20l h)]
  exact ⟨rfl, rfl⟩
theorem ret_d {fn : Func} {p t : Tmp} {l : List Int} (hr : fn.results = #[.cell p 52, .tmp t]) (tmps : Array Value) (w : World) (g : Nat) (e : l.length = 20) (hp : tmps.getD p undef = .pointer (some ⟨g, 0, none⟩)) (k : Lies w g 52 (sv l)) :
    (results fn tmps).run Tryd.prog w = .ok (.tuple #[.agg (darr l), tmps.getD t undef]) w :=
  shW.results_cell_tmp (P := Tryd.prog) hr tmps w g 52 (darr l) (0, 0) _ hp k Tryd.underlying52 rfl (by rw [show (darr l).size = (sv l).length from by simp [darr, sv]]; exact info20l e)
theorem ret_1 {fn : Func} {p : Tmp} {l : List Int} (hr : fn.results = #[.cell p 52]) (tmps : Array Value) (w : World) (g : Nat) (e : l.length = 20) (hp : tmps.getD p undef = .pointer (some ⟨g, 0, none⟩)) (k : Lies w g 52 (sv l)) :
    (results fn tmps).run Tryd.prog w = .ok (.agg (darr l)) w :=
  results_cell_row (P := Tryd.prog) hr tmps w g 52 (darr l) (0, 0) _ hp k Tryd.underlying52 rfl (by rw [show (darr l).size = (sv l).length from by simp [darr, sv]]; exact info20l e)
theorem z20_at (w : World) {g : Nat} (hg : w.heap.size = g) : Lies (w.alloc (.cells #[.int .u8 0, .int .u8 0, .int .u8 0, .int .u8 0, .int .u8 0, .int .u8 0, .int .u8 0, .int .u8 0, .int .u8 0, .int .u8 0, .int .u8 0, .int .u8 0, .int .u8 0, .int .u8 0, .int .u8 0, .int .u8 0, .int .u8 0, .int .u8 0, .int .u8 0, .int .u8 0] 52)) g 52 (sv zd) := z20_new w hg
/-! Compared. -/
theorem byte_wf {x : Int} (h : 0 ≤ x ∧ x ≤ 255) : (Lit.int .u8 x).wf = true := WalkArith.wf_u8 h
theorem one_lit {x : Int} (h : 0 ≤ x ∧ x ≤ 255) (d : Nat) : Tryd.prog.keyLits (d + 1) 5 [.int .u8 x] = some [.int .u8 x] := by
  have hw := byte_wf h
  unfold Program.keyLits
  rw [Tryd.underlying5]
  simp [hw]
theorem mapM_some {α β : Type} (f : α → Option β) (g : α → β) : ∀ l : List α, (∀ x ∈ l, f x = some (g x)) → l.mapM f = some (l.map g)
  | [], _ => rfl
  | a :: l, h => by
    rw [List.mapM_cons, h a (by simp), mapM_some f g l (fun x hx => h x (by simp [hx]))]
    rfl
theorem flat_lits : ∀ (l : List Int), ((List.range l.length).map fun i => [Lit.int .u8 (l.getD i 0)]).flatten = l.map (Lit.int .u8)
  | [] => rfl
  | a :: r => by
    rw [List.length_cons, List.range_succ_eq_map, List.map_cons, List.flatten_cons, List.map_map]
    have := flat_lits r
    show Lit.int .u8 a :: _ = _ :: _
    congr 1
theorem lits_sum {l : List Int} (h : IsD l) (d : Nat) : Tryd.prog.keyLits (d + 2) 52 (sv l) = some (l.map (Lit.int .u8)) := by
  have hl := h.len
  unfold Program.keyLits
  rw [Tryd.underlying52]
  have c1 : Tryd.prog.cellsOf 52 = 20 := by kernel_rfl
  have c2 : Tryd.prog.cellsOf 5 = 1 := by kernel_rfl
  have e : (List.range 20).mapM (fun i => Tryd.prog.keyLits (d + 1) 5 (((sv l).drop (i * 1)).take 1)) = some ((List.range 20).map fun i => [Lit.int .u8 (l.getD i 0)]) := by
    refine mapM_some _ _ _ fun i hi => ?_
    have hi2 : i < l.length := by rw [hl]; exact List.mem_range.1 hi
    have e1 : ((sv l).drop (i * 1)).take 1 = [.int .u8 (l.getD i 0)] := by
      rw [Nat.mul_one, List.drop_eq_getElem_cons (by simpa [sv] using hi2), List.take_succ_cons, List.take_zero, List.getD_eq_getElem?_getD, List.getElem?_eq_getElem hi2]
      simp [sv]
    rw [e1]
    exact one_lit (by rw [List.getD_eq_getElem?_getD, List.getElem?_eq_getElem hi2]; exact h.bd _ (List.getElem_mem hi2)) d
  show (if (sv l).length = Tryd.prog.cellsOf 52 then _ else none) = _
  rw [if_pos (by rw [c1]; simpa [sv] using hl), c2, e, ← flat_lits l, hl]
  rfl
theorem lit_inj (a b : List Int) : a = b ↔ a.map (Lit.int .u8) = b.map (Lit.int .u8) := by
  constructor
  · rintro rfl; rfl
  · intro h
    have h2 := congrArg (List.map fun x : Lit => match x with | .int _ z => z | _ => 0) h
    simpa [List.map_map, Function.comp_def] using h2
theorem d_formed {l : List Int} (h : l.length = 20) : (Value.agg (darr l)).formed Tryd.prog 52 = true := by
  have c : Tryd.prog.cellsOf 52 = 20 := by kernel_rfl
  unfold Value.formed
  rw [Tryd.underlying52]
  show ((darr l).size == _) = true
  unfold darr
  rw [c]; simp [h]
theorem eq_sum {a b : List Int} (ha : IsD a) (hb : IsD b) (w : World) : (Op.equalIn 10000 52 (.agg (darr a)) (.agg (darr b))).run Tryd.prog w = .ok (decide (a = b)) w := by
  obtain ⟨r, h1, h2⟩ := run_equalIn_deep (P := Tryd.prog) 9998 2 52 (by kernel_rfl) w 5 5 (.agg (darr a)) (.agg (darr b)) _ _ (d_formed ha.len) (d_formed hb.len) (lits_sum ha 3) (lits_sum hb 3)
  rw [h1]
  congr 1
  by_cases c : a = b
  · rw [decide_eq_true c]; exact h2.2 ((lit_inj a b).1 c)
  · rw [decide_eq_false c]
    cases r
    · rfl
    · exact absurd ((lit_inj a b).2 (h2.1 rfl)) c
theorem quiet_eql {o : Oper} {a : Act} {w : World} {C : World → Prop} {l m : List Int} (x y : Operand) (t : TypeId) (ho : o.op = .binOp .eql 52 x y t) (hl : IsD l) (hm : IsD m)
    (hx : a.eval x = .agg (darr l)) (hy : a.eval y = .agg (darr m)) : Oper.quietAt Tryd.prog o a C w (.bool (decide (l = m))) := by
  unfold Oper.quietAt execOp
  simp only [ho, hx, hy, Sem.run_bind, Sem.run_pure, Result.andThen_ok, run_eql_struct, run_eqGuard_agg _ _ _ _ _ _ _ (show Tryd.prog.eqGuardType Tryd.prog.depth 52 = false by kernel_rfl), eq_sum hl hm]
  exact ⟨rfl, rfl⟩
theorem quiet_neq {o : Oper} {a : Act} {w : World} {C : World → Prop} {l m : List Int} (x y : Operand) (t : TypeId) (ho : o.op = .binOp .neq 52 x y t) (hl : IsD l) (hm : IsD m)
    (hx : a.eval x = .agg (darr l)) (hy : a.eval y = .agg (darr m)) : Oper.quietAt Tryd.prog o a C w (.bool (!decide (l = m))) := by
  unfold Oper.quietAt execOp
  simp only [ho, hx, hy, Sem.run_bind, Sem.run_pure, Result.andThen_ok, run_neq_struct, run_eqGuard_agg _ _ _ _ _ _ _ (show Tryd.prog.eqGuardType Tryd.prog.depth 52 = false by kernel_rfl), eq_sum hl hm]
  exact ⟨rfl, rfl⟩
theorem wp_eql {ops : Array Oper} {rest : List Oper} {o : Oper} {a : Act} {w : World} {Q : Exit → Act → World → Prop} {l m : List Int} (hw : Region.wanted o (yielded ops a.tmps) = true) (x y : Operand) (t : TypeId) (ho : o.op = .binOp .eql 52 x y t) (hl : IsD l) (hm : IsD m)
    (hx : a.eval x = .agg (darr l)) (hy : a.eval y = .agg (darr m)) (H : wpList Tryd.prog ops Q rest (a.put o.dst (.bool (decide (l = m)))) w) : wpList Tryd.prog ops Q (o :: rest) a w := by
  refine wpList_step fun K hK => ?_
  rw [if_pos hw]
  unfold Oper.wp execOp
  simp only [ho, hx, hy, Sem.run_bind, Sem.run_pure, Result.andThen_ok, run_eql_struct, run_eqGuard_agg _ _ _ _ _ _ _ (show Tryd.prog.eqGuardType Tryd.prog.depth 52 = false by kernel_rfl), eq_sum hl hm]
  exact hK _ _ H
/-! A digest stored in a row of the call's own. -/
def setVs (fl : List Value) : Nat → List Value → List Value
  | _, [] => fl
  | o, x :: r => setVs (fl.set o x) (o + 1) r
theorem setVs_eq : ∀ (xs : List Value) (o : Nat) (fl : List Value), o + xs.length ≤ fl.length → setVs fl o xs = fl.take o ++ xs ++ fl.drop (o + xs.length)
  | [], o, fl, h => by simp [setVs]
  | x :: r, o, fl, h => by
    have h' : o < fl.length := by simp at h; omega
    rw [setVs, setVs_eq r (o + 1) _ (by rw [List.length_set]; simp at h; omega), List.set_eq_take_append_cons_drop, if_pos h']
    have l1 : (fl.take o).length = o := by rw [List.length_take]; omega
    rw [List.take_append, l1, List.take_of_length_le (by rw [l1]; omega), show o + 1 - o = 1 by omega, List.take_succ_cons, List.take_zero,
      List.drop_append, l1, List.drop_eq_nil_of_le (by rw [l1]; omega), show o + 1 + r.length - o = r.length + 1 by omega, List.drop_succ_cons, List.drop_drop, List.length_cons]
    simp only [List.append_assoc, List.cons_append, List.nil_append]
    rw [show o + 1 + r.length = o + (r.length + 1) by omega]
theorem own_many {B g n cap m : Nat} : ∀ (xs : List Value) (o : Nat) (fl : List Value) (w : World), w.ownsRow B 52 20 (.slice (some ⟨g, 0, none⟩) n cap) n fl → (w.setCells g o xs).ownsRow B 52 20 (.slice (some ⟨g, 0, none⟩) n cap) n (setVs fl o xs)
  | [], o, fl, w, h => h
  | x :: r, o, fl, w, h => own_many (m := m) r (o + 1) _ _ (World.ownsRow.stored h o x).1
theorem dL_set {ls : List (List Int)} (h : AllD ls) {i : Nat} (hi : i < ls.length) {d : List Int} (hd : IsD d) : setVs (sv (dL ls)) (i * 20) (sv d) = sv (dL (ls.set i d)) := by
  have hl := dL_len h
  rw [setVs_eq _ _ _ (by simp only [sv, List.length_map, hl, hd.len]; omega), List.set_eq_take_append_cons_drop, if_pos hi, dL_app, show d :: ls.drop (i + 1) = [d] ++ ls.drop (i + 1) from rfl, dL_app, dL_one, ← dL_take i h, ← dL_drop (i + 1) h]
  simp only [sv, List.map_append, List.map_take, List.map_drop, List.length_map, hd.len, List.append_assoc]
  rw [show (i + 1) * 20 = i * 20 + 20 by omega]
theorem wp_sd {ops : Array Oper} {rest : List Oper} {o : Oper} {a : Act} {w : World} {Q : Exit → Act → World → Prop} {B g n c i : Nat} {ls : List (List Int)} {d : List Int} (hw : Region.wanted o (yielded ops a.tmps) = true) (p x : Operand) (ho : o.op = .store 52 p x)
    (k : OwnD w B (.slice (some ⟨g, 0, none⟩) n c) ls) (hi : i < n) (hd : IsD d) (hp : a.eval p = .pointer (some ⟨g, i * 20, none⟩)) (hx : a.eval x = .agg (darr d))
    (H : ∀ w', OwnD w' B (.slice (some ⟨g, 0, none⟩) n c) (ls.set i d) → w.grownBy w' (some g) → Below g w w' → w'.heap.size = w.heap.size → wpList Tryd.prog ops Q rest (a.put o.dst undef) w') : wpList Tryd.prog ops Q (o :: rest) a w := by
  have hn := k.len.1
  refine wpList_step fun K hK => ?_
  rw [if_pos hw]
  refine wp_store_mid (P := Tryd.prog) 52 p x ho g (i * 20) _ hp hx (by rw [show (darr d).size = 20 by simp [darr, hd.len]]; exact k.there hi) (by rw [show (darr d).size = (sv d).length from by simp [darr, sv]]; exact info20l hd.len) (sv_all d) (hK _ _ (H _ ⟨?_, k.d.set i hd⟩ (far_cells _ _ (World.grownBy.refl _ _)) (below_cells (Nat.le_refl _) _ _ (Below.refl _ _)) (size_cells _ _ _ _)))
  have := own_many (m := 0) (sv d) (i * 20) (sv (dL ls)) w (by have := k.o; rw [← hn] at this; exact this)
  rw [dL_set k.d (by omega) hd] at this
  rw [List.length_set, ← hn]
  exact this
/-! append, make. -/
theorem infoD : ∃ i z, Tryd.prog.info? 52 = some i ∧ i.zero = some z ∧ i.size = 20 ∧ i.bytes = 20 ∧ z.cells.size = 20 := by
  obtain ⟨i, h1, h2, h3, h4⟩ := info_parts (P := Tryd.prog) (e := 52) (z := .agg (darr zd)) (size := 20) (bytes := 20) (by kernel_rfl)
  exact ⟨i, _, h1, h2, h3, h4, rfl⟩
/-- A literal of one digest. -/
theorem lit_one {w : World} {g : Nat} {d : List Int} (hg : w.heap.size = g) (hd : IsD d) : HasD (w.alloc (.cells (darr d) 52)) (some ⟨g, 0, none⟩) [d] := by
  refine ⟨?_, AllD.one hd⟩
  rw [dL_one]
  exact has_lit hg (by rw [hd.len]; simp only [maxLen]; omega)
theorem match20 {s : List Int} (h : s.length = 20) : ∃ a b c d e f g i j k l m n o p q r t u v : Int, s = [a, b, c, d, e, f, g, i, j, k, l, m, n, o, p, q, r, t, u, v] := by
  match s, h with
  | [a, b, c, d, e, f, g, i, j, k, l, m, n, o, p, q, r, t, u, v], _ => exact ⟨a, b, c, d, e, f, g, i, j, k, l, m, n, o, p, q, r, t, u, v, rfl⟩
theorem zd_at (i : Nat) (h : i < 20) : (darr zd)[i]! = .int .u8 0 := by
  rcases (show i = 0 ∨ i = 1 ∨ i = 2 ∨ i = 3 ∨ i = 4 ∨ i = 5 ∨ i = 6 ∨ i = 7 ∨ i = 8 ∨ i = 9 ∨ i = 10 ∨ i = 11 ∨ i = 12 ∨ i = 13 ∨ i = 14 ∨ i = 15 ∨ i = 16 ∨ i = 17 ∨ i = 18 ∨ i = 19 by omega) with rfl | rfl | rfl | rfl | rfl | rfl | rfl | rfl | rfl | rfl | rfl | rfl | rfl | rfl | rfl | rfl | rfl | rfl | rfl | rfl <;> rfl
def zSv (n : Nat) : Array Value := (sv (dL (List.replicate n zd))).toArray
theorem zrep (n : Nat) : AllD (List.replicate n zd) := fun d hd => by rw [List.eq_of_mem_replicate hd]; exact zd_isD
theorem dL_zrep : ∀ n, dL (List.replicate n zd) = List.replicate (n * 20) 0
  | 0 => rfl
  | n + 1 => by
    rw [List.replicate_succ, show (n + 1) * 20 = 20 + n * 20 by omega, ← List.replicate_append_replicate, ← dL_zrep n]; rfl
theorem made_zS (n : Nat) : madeCells (darr zd) (n * 20) = zSv n := by
  apply Array.ext'
  have e1 : (madeCells (darr zd) (n * 20)).toList = (List.range (n * 20)).map fun _ => Value.int .u8 0 := by
    unfold madeCells
    rw [Array.toList_map, Array.toList_range]
    exact List.map_congr_left (fun x _ => zd_at (x % 20) (Nat.mod_lt _ (by decide)))
  rw [e1, zSv, dL_zrep]
  simp only [sv, List.map_replicate]
  exact List.eq_replicate_iff.2 ⟨by rw [List.length_map, List.length_range], fun b hb => by obtain ⟨x, _, rfl⟩ := List.mem_map.1 hb; rfl⟩
theorem own_zS (w : World) (n : Nat) (hn : n ≤ 1000000) {B g : Nat} (hB : B ≤ g) (hg : w.heap.size = g) : OwnD (w.alloc (.cells (zSv n) 52)) B (.slice (some ⟨g, 0, none⟩) n n) (List.replicate n zd) := by
  subst hg
  refine ⟨⟨by simp only [sv, List.length_map, dL_len (zrep n)], .inr ⟨w.heap.size, n, zSv n, by rw [List.length_replicate], hB, ?_, by simp, by unfold maxLen; omega, by simp only [zSv, List.size_toArray, sv, List.length_map, dL_len (zrep n), List.length_replicate], ?_⟩⟩, zrep n⟩
  · exact Array.getElem?_push_size
  · unfold zSv; exact List.take_of_length_le (by simp only [sv, List.length_map, dL_len (zrep n), List.length_replicate]; exact Nat.le_refl _)
attribute [irreducible] zSv
end Go.Proofs.YtiihafhnaiicoaaDoor.trW
