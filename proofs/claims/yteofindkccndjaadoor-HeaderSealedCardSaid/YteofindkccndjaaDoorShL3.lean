/- Digests compared. -/
import Derived.Test.YteofindkccndjaaDoorShL1
import Derived.DeepKeys
namespace Go.Proofs.YteofindkccndjaaDoor.shL
set_option maxRecDepth 100000
open Go.RowKit Go.Proofs.YteofindkccndjaaDoor.base Go.Proofs.YteofindkccndjaaDoor.shP Go.Proofs.YteofindkccndjaaDoor.shW
set_option maxRecDepth 100000
theorem byte_wf {x : Int} (h : 0 ≤ x ∧ x ≤ 255) : (Lit.int .u8 x).wf = true := WalkArith.wf_u8 h
theorem one_lit {x : Int} (h : 0 ≤ x ∧ x ≤ 255) (d : Nat) : Tryd.prog.keyLits (d + 1) 5 [.int .u8 x] = some [.int .u8 x] := by
  have hw := byte_wf h
  unfold Program.keyLits
  rw [Tryd.underlying5]
  simp [hw]
theorem mapM_some {α β : Type} (f : α → Option β) (g : α → β) : ∀ l : List α, (∀ x ∈ l, f x = some (g x)) → l.mapM f = some (l.map g)
  | [], _ => rfl
  | a :: l, h => by
    rw [List.mapM_cons, h a (by simp), mapM_some f g l (fun x hx => h x (by simp [hx]))]
    rfl
theorem lits20 (l : List Int) (hl : l.length = 20) (hb : ∀ z ∈ l, 0 ≤ z ∧ z ≤ 255) : ∃ ls, Tryd.prog.keyLits 5 23 (l.map (Value.int .u8)) = some ls := by
  refine ⟨((List.range 20).map fun i => [Lit.int .u8 (l.getD i 0)]).flatten, ?_⟩
  unfold Program.keyLits
  rw [Tryd.underlying23]
  have c1 : Tryd.prog.cellsOf 23 = 20 := by kernel_rfl
  have c2 : Tryd.prog.cellsOf 5 = 1 := by kernel_rfl
  have e : (List.range 20).mapM (fun i => Tryd.prog.keyLits 4 5 (((l.map (Value.int .u8)).drop (i * 1)).take 1)) = some ((List.range 20).map fun i => [Lit.int .u8 (l.getD i 0)]) := by
    refine mapM_some _ _ _ fun i hi => ?_
    have hi2 : i < l.length := by rw [hl]; exact List.mem_range.1 hi
    have e1 : ((l.map (Value.int .u8)).drop (i * 1)).take 1 = [.int .u8 (l.getD i 0)] := by
      rw [Nat.mul_one, List.drop_eq_getElem_cons (by simpa using hi2), List.take_succ_cons, List.take_zero, List.getElem_map, List.getD_eq_getElem?_getD, List.getElem?_eq_getElem hi2]
      rfl
    rw [e1]
    exact one_lit (by rw [List.getD_eq_getElem?_getD, List.getElem?_eq_getElem hi2]; exact hb _ (List.getElem_mem hi2)) 3
  show (if (l.map (Value.int .u8)).length = Tryd.prog.cellsOf 23 then _ else none) = _
  rw [if_pos (by rw [c1]; simpa using hl), c2, e]
  rfl
theorem wbytes_bd (v : W5) : ∀ z ∈ wbytes v, 0 ≤ z ∧ z ≤ 255 := by
  intro z hz
  simp only [wbytes, List.map_cons, List.map_nil, List.flatten_cons, List.flatten_nil, List.append_nil, List.mem_append, List.mem_cons, List.not_mem_nil, or_false] at hz
  omega
theorem arr_same (v : W5) (w : World) : (Op.equalIn 10000 23 (.agg (darr (wbytes v))) (.agg (darr (wbytes v)))).run Tryd.prog w = .ok true w := by
  obtain ⟨ls, hls⟩ := lits20 (wbytes v) rfl (wbytes_bd v)
  obtain ⟨r, h1, h2⟩ := run_equalIn_deep (P := Tryd.prog) 9998 2 23 (by kernel_rfl) w 5 5 (.agg (darr (wbytes v))) (.agg (darr (wbytes v))) ls ls (by kernel_rfl) (by kernel_rfl) hls hls
  rw [h2.2 rfl] at h1
  exact h1
end Go.Proofs.YteofindkccndjaaDoor.shL
