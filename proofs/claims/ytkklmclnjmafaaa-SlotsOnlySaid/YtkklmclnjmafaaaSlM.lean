/- Slices of new slots. -/
import Derived.Test.YtkklmclnjmafaaaSlF4
import Derived.Laws.MakeOwn
namespace Go.Proofs.Ytkklmclnjmafaaa.slW
set_option maxRecDepth 100000
open Go.RowKit Go.Proofs.Ytkklmclnjmafaaa.base Go.Proofs.Ytkklmclnjmafaaa.slP
set_option linter.unusedVariables false
set_option linter.unusedSimpArgs false
def zS (n : Nat) : Array Value := ((List.replicate (n * 16) (0 : Int)).map (Value.int .u8)).toArray
def zC16 : Array Value := #[.int .u8 0, .int .u8 0, .int .u8 0, .int .u8 0, .int .u8 0, .int .u8 0, .int .u8 0, .int .u8 0, .int .u8 0, .int .u8 0, .int .u8 0, .int .u8 0, .int .u8 0, .int .u8 0, .int .u8 0, .int .u8 0]
theorem zc16 (i : Nat) (h : i < 16) : zC16[i]! = .int .u8 0 := by
  rcases (show i = 0 ∨ i = 1 ∨ i = 2 ∨ i = 3 ∨ i = 4 ∨ i = 5 ∨ i = 6 ∨ i = 7 ∨ i = 8 ∨ i = 9 ∨ i = 10 ∨ i = 11 ∨ i = 12 ∨ i = 13 ∨ i = 14 ∨ i = 15 by omega) with rfl | rfl | rfl | rfl | rfl | rfl | rfl | rfl | rfl | rfl | rfl | rfl | rfl | rfl | rfl | rfl <;> rfl
theorem made_zS (n : Nat) : madeCells zC16 (n * 16) = zS n := by
  have hz : zC16.size = 16 := rfl
  apply Array.ext'
  have e1 : (madeCells zC16 (n * 16)).toList = (List.range (n * 16)).map fun _ => Value.int .u8 0 := by
    unfold madeCells
    rw [Array.toList_map, Array.toList_range]
    exact List.map_congr_left (fun x _ => zc16 (x % 16) (Nat.mod_lt _ (by decide)))
  rw [e1]
  unfold zS
  simp
  exact List.eq_replicate_iff.2 ⟨by rw [List.length_map, List.length_range], fun b hb => by obtain ⟨x, _, rfl⟩ := List.mem_map.1 hb; rfl⟩
theorem mkS (n : Nat) (hn : n ≤ 1000000) (w : World) : (Instr.makeSlice 22 (.int .i64 (n : Int)) (.int .i64 (n : Int))).run Try.prog w = .ok (.slice (some ⟨w.heap.size, 0, none⟩) n n) (w.alloc (.cells (zS n) 31)) := by
  obtain ⟨i, h1, h2, h3, h4⟩ := info_parts (P := Try.prog) (e := 31) (z := .agg zC16) (size := 16) (bytes := 16) (by kernel_rfl)
  have hr := run_make (P := Try.prog) w 22 31 i (.agg zC16) Try.underlying22 h1 h2 .i64 .i64 n n (by omega) (by omega) (by rw [h4]; omega) (by omega)
  simp only [Int.toNat_natCast] at hr
  rw [hr]
  have e1 : madeCells (Value.agg zC16).cells (n * i.size) = zS n := by
    rw [h3]; exact made_zS n
  rw [e1]
theorem own_zS (w : World) (n : Nat) (hn : n ≤ 1000000) {B g : Nat} (hB : B ≤ g) (hg : w.heap.size = g) : OwnS (w.alloc (.cells (zS n) 31)) B (.slice (some ⟨g, 0, none⟩) n n) n (List.replicate (n * 16) 0) := by
  subst hg
  refine ⟨by simp, .inr ⟨w.heap.size, n, zS n, rfl, hB, ?_, Nat.le_refl _, by unfold maxLen; omega, by unfold zS; rw [List.size_toArray, List.length_map, List.length_replicate], ?_⟩⟩
  · exact Array.getElem?_push_size
  · unfold zS; exact List.take_of_length_le (by rw [List.length_map, List.length_replicate]; exact Nat.le_refl _)
attribute [irreducible] zS
end Go.Proofs.Ytkklmclnjmafaaa.slW
