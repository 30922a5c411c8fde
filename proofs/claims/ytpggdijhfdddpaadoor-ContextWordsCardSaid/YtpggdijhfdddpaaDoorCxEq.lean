/- Arrays of context numbers compared. -/
import Derived.Test.YtpggdijhfdddpaaDoorCxW4
import Derived.DeepKeys
namespace Go.Proofs.YtpggdijhfdddpaaDoor.cxW
open Go.RowKit Go.Proofs.YtpggdijhfdddpaaDoor.base Go.Proofs.YtpggdijhfdddpaaDoor.rgP Go.Proofs.YtpggdijhfdddpaaDoor.cxP Go.Proofs.YtpggdijhfdddpaaDoor.hashP Go.Proofs.YtpggdijhfdddpaaDoor.hashW
set_option linter.unusedVariables false
set_option linter.unusedSimpArgs false
theorem u32_wf {x : Int} (h : 0 ≤ x ∧ x ≤ 4294967295) : (Lit.int .u32 x).wf = true := WalkArith.wf_u32 h
theorem one_lit32 {x : Int} (h : 0 ≤ x ∧ x ≤ 4294967295) (d : Nat) : Tryd.prog.keyLits (d + 1) 25 [.int .u32 x] = some [.int .u32 x] := by
  have hw := u32_wf h
  unfold Program.keyLits
  rw [Tryd.underlying25]
  simp [hw]
theorem mapM_some6 {α β : Type} (f : α → Option β) (g : α → β) : ∀ l : List α, (∀ x ∈ l, f x = some (g x)) → l.mapM f = some (l.map g)
  | [], _ => rfl
  | a :: l, h => by
    rw [List.mapM_cons, h a (by simp), mapM_some6 f g l (fun x hx => h x (by simp [hx]))]
    rfl
theorem lits6 (l : List Int) (hl : l.length = 6) (hb : ∀ z ∈ l, 0 ≤ z ∧ z ≤ 4294967295) : ∃ ls, Tryd.prog.keyLits 5 28 (l.map (Value.int .u32)) = some ls := by
  refine ⟨((List.range 6).map fun i => [Lit.int .u32 (l.getD i 0)]).flatten, ?_⟩
  unfold Program.keyLits
  rw [Tryd.underlying28]
  have c1 : Tryd.prog.cellsOf 28 = 6 := by kernel_rfl
  have c2 : Tryd.prog.cellsOf 25 = 1 := by kernel_rfl
  have e : (List.range 6).mapM (fun i => Tryd.prog.keyLits 4 25 (((l.map (Value.int .u32)).drop (i * 1)).take 1)) = some ((List.range 6).map fun i => [Lit.int .u32 (l.getD i 0)]) := by
    refine mapM_some6 _ _ _ fun i hi => ?_
    have hi2 : i < l.length := by rw [hl]; exact List.mem_range.1 hi
    have e1 : ((l.map (Value.int .u32)).drop (i * 1)).take 1 = [.int .u32 (l.getD i 0)] := by
      rw [Nat.mul_one, List.drop_eq_getElem_cons (by simpa using hi2), List.take_succ_cons, List.take_zero, List.getElem_map, List.getD_eq_getElem?_getD, List.getElem?_eq_getElem hi2]
      rfl
    rw [e1]
    exact one_lit32 (by rw [List.getD_eq_getElem?_getD, List.getElem?_eq_getElem hi2]; exact hb _ (List.getElem_mem hi2)) 3
  show (if (l.map (Value.int .u32)).length = Tryd.prog.cellsOf 28 then _ else none) = _
  rw [if_pos (by rw [c1]; simpa using hl), c2, e]
  rfl
theorem mkV_bd {r : Rg} (h : ∀ z ∈ r.b, 0 ≤ z ∧ z ≤ 255) (k : Nat) (hk : k < 8) : 0 ≤ mkV r k ∧ mkV r k ≤ 4294967295 := by
  unfold mkV
  split
  · exact mk_bd h k hk
  · decide
def l6 (r : Rg) : List Int := [mkV r 0, mkV r 1, mkV r 2, mkV r 3, mkV r 4, mkV r 5]
theorem a6_same (r : Rg) (h : ∀ z ∈ r.b, 0 ≤ z ∧ z ≤ 255) (w : World) : (Op.equalIn 10000 28 (.agg #[.int .u32 (mkV r 0), .int .u32 (mkV r 1), .int .u32 (mkV r 2), .int .u32 (mkV r 3), .int .u32 (mkV r 4), .int .u32 (mkV r 5)]) (.agg #[.int .u32 (mkV r 0), .int .u32 (mkV r 1), .int .u32 (mkV r 2), .int .u32 (mkV r 3), .int .u32 (mkV r 4), .int .u32 (mkV r 5)])).run Tryd.prog w = .ok true w := by
  obtain ⟨ls, hls⟩ := lits6 (l6 r) rfl (by
    intro z hz
    simp only [l6, List.mem_cons, List.not_mem_nil, or_false] at hz
    rcases hz with rfl | rfl | rfl | rfl | rfl | rfl <;> exact mkV_bd h _ (by omega))
  obtain ⟨x, h1, h2⟩ := run_equalIn_deep (P := Tryd.prog) 9998 2 28 (by kernel_rfl) w 5 5 (.agg ((l6 r).map (Value.int .u32)).toArray) (.agg ((l6 r).map (Value.int .u32)).toArray) ls ls (by kernel_rfl) (by kernel_rfl) hls hls
  rw [h2.2 rfl] at h1
  exact h1
end Go.Proofs.YtpggdijhfdddpaaDoor.cxW
