/- The program's Cut: made rows. -/
import Derived.Test.YthckpenindchlaaSpC3
import Derived.Test.YthckpenindchlaaMake
namespace Go.Proofs.Ythckpenindchlaa.spW
set_option maxRecDepth 100000
open Go.RowKit Go.Proofs.Ythckpenindchlaa.base Go.Proofs.Ythckpenindchlaa.mbW
set_option linter.unusedVariables false
set_option linter.unusedSimpArgs false
set_option maxRecDepth 100000
def fillC {α : Type} (d : α) (xs : List α) (k : Nat) : List α := xs.take k ++ List.replicate (xs.length - k) d
theorem fillC_zero {α : Type} (d : α) (xs : List α) : fillC d xs 0 = List.replicate xs.length d := by simp [fillC]
theorem fillC_all {α : Type} (d : α) {xs : List α} {k : Nat} (h : xs.length ≤ k) : fillC d xs k = xs := by
  unfold fillC
  rw [List.take_of_length_le h, show xs.length - k = 0 by omega]; simp
theorem fillC_set {α : Type} (d : α) {xs : List α} {k : Nat} (h : k < xs.length) : (fillC d xs k).set k (xs.getD k d) = fillC d xs (k + 1) := by
  unfold fillC
  have l1 : (xs.take k).length = k := by rw [List.length_take]; omega
  rw [List.set_append_right _ _ (by omega), l1, Nat.sub_self, show xs.length - k = (xs.length - (k + 1)) + 1 by omega, List.replicate_succ, List.set_cons_zero, List.take_add_one, List.getElem?_eq_getElem h, List.getD_eq_getElem?_getD, List.getElem?_eq_getElem h]
  simp only [Option.toList_some, Option.getD_some, List.append_assoc, List.cons_append, List.nil_append]
theorem made_rowC {α : Type} (E : Enc α) (n : Nat) : madeCells (E.enc E.d).toArray (n * E.n) = (E.row (List.replicate n E.d)).toArray := by
  apply Array.ext'
  have e1 : (madeCells (E.enc E.d).toArray (n * E.n)).toList = (List.range (n * E.n)).map fun q => (E.enc E.d).toArray[q % (E.enc E.d).toArray.size]! := by
    unfold madeCells
    rw [Array.toList_map, Array.toList_range]
  rw [e1]
  simp only [List.size_toArray, E.len]
  apply List.ext_getElem?
  intro q
  have hl := E.row_len (List.replicate n E.d)
  rw [List.length_replicate] at hl
  rcases Nat.lt_or_ge q (n * E.n) with hq | hq
  · rw [List.getElem?_map, List.getElem?_range hq]
    have hp := E.pos
    have hi : q / E.n < n := (Nat.div_lt_iff_lt_mul hp).2 hq
    have hr := E.row_at (xs := List.replicate n E.d) (i := q / E.n) (by rw [List.length_replicate]; exact hi)
    have hd : (List.replicate n E.d).getD (q / E.n) E.d = E.d := by
      rw [List.getD_eq_getElem?_getD, List.getElem?_replicate]; split <;> rfl
    rw [hd] at hr
    have hm : q % E.n < E.n := Nat.mod_lt _ hp
    have h3 : (E.enc E.d)[q % E.n]? = (E.row (List.replicate n E.d))[q]? := by
      rw [← hr, List.getElem?_take, if_pos hm, List.getElem?_drop, Nat.mul_comm, Nat.div_add_mod]
    show Option.map _ (some q) = (E.row (List.replicate n E.d))[q]?
    rw [← h3]
    have h4 : q % E.n < (E.enc E.d).length := by rw [E.len]; exact hm
    rw [List.getElem?_eq_getElem h4]
    simp [h4]
  · rw [List.getElem?_eq_none (by simpa using hq), List.getElem?_eq_none (by omega)]
def tCellsC (n : Nat) : Array Value := (TE.row (List.replicate n pt0)).toArray
theorem mkP (n : Nat) (hn : n ≤ 1000000) (w : World) : (Instr.makeSlice 33 (.int .i64 (n : Int)) (.int .i64 (n : Int))).run Try.prog w = .ok (.slice (some ⟨w.heap.size, 0, none⟩) n n) (w.alloc (.cells (tCellsC n) 59)) := by
  obtain ⟨i, z, h1, h2, h3, h4, h5, h6⟩ := infoT
  have hr := run_make (P := Try.prog) w 33 59 i z Try.underlying33 h1 h2 .i64 .i64 n n (by omega) (by omega) (by rw [h4]; omega) (by omega)
  simp only [Int.toNat_natCast] at hr
  rw [hr, h3, h6]
  have := made_rowC TE n
  rw [show tCellsC n = madeCells (ptE pt0).toArray (n * 4) from this.symm]
theorem own_p (w : World) (n : Nat) (hn : n ≤ 1000000) {B g : Nat} (hB : B ≤ g) (hg : w.heap.size = g) : TE.Own (w.alloc (.cells (tCellsC n) 59)) B (.slice (some ⟨g, 0, none⟩) n n) (List.replicate n pt0) := by
  subst hg
  have hl := TE.row_len (List.replicate n pt0)
  rw [List.length_replicate] at hl
  refine ⟨by rw [TE.row_len], .inr ⟨w.heap.size, n, tCellsC n, by rw [List.length_replicate], hB, Array.getElem?_push_size, by simp, by unfold maxLen; omega, by simp only [tCellsC, List.size_toArray]; exact hl, ?_⟩⟩
  unfold tCellsC
  exact List.take_of_length_le (by rw [List.length_replicate, hl]; exact Nat.le_refl _)
attribute [irreducible] tCellsC
theorem mkI (n : Nat) (hn : n ≤ 1000000) (w : World) : (Instr.makeSlice 22 (.int .i64 (n : Int)) (.int .i64 (n : Int))).run Try.prog w = .ok (.slice (some ⟨w.heap.size, 0, none⟩) n n) (w.alloc (.cells (iCells n) 3)) := by
  obtain ⟨i, hi, hz, h1, h2⟩ := infoI
  rw [iCells_map, List.map_replicate]
  exact run_make_cells _ _ i (.int .i64 0) Try.underlying22 hi hz h1 rfl n (by rw [h2]; omega) (by omega) w
theorem own_i (w : World) (n : Nat) (hn : n ≤ 1000000) {B g : Nat} (hB : B ≤ g) (hg : w.heap.size = g) : OwnI (w.alloc (.cells (iCells n) 3)) B 3 .i64 (.slice (some ⟨g, 0, none⟩) n n) (List.replicate n 0) := by
  subst hg
  rw [iCells_map]
  have := OwnI.lit w 3 .i64 (List.replicate n 0) B hB (by rw [List.length_replicate]; unfold maxLen; omega)
  simpa using this
end Go.Proofs.Ythckpenindchlaa.spW
