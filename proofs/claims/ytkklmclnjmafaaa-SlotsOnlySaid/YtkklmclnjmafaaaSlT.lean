/- What the laws want: bounds of results, tables laid anew. -/
import Derived.Test.YtkklmclnjmafaaaSlS
import Derived.Test.YtkklmclnjmafaaaSlR
namespace Go.Proofs.Ytkklmclnjmafaaa.slW
set_option maxRecDepth 100000
open Go.RowKit Go.Proofs.Ytkklmclnjmafaaa.base Go.Proofs.Ytkklmclnjmafaaa.slP
set_option linter.unusedVariables false
set_option linter.unusedSimpArgs false
theorem set_mem {fl : List Int} {i : Nat} {x : Int} (hb : ∀ z ∈ fl, 0 ≤ z ∧ z ≤ 255) (h0 : 0 ≤ x) (h1 : x ≤ 255) : ∀ z ∈ fl.set i x, 0 ≤ z ∧ z ≤ 255 := fun z hz => by
  rcases List.mem_or_eq_of_mem_set hz with h | h
  · exact hb z h
  · rw [h]; exact ⟨h0, h1⟩
theorem setT_bd {lv : Int} {n : Nat} {fl : List Int} {p k x : Int} (hb : ∀ z ∈ fl, 0 ≤ z ∧ z ≤ 255) (h0 : 0 ≤ x) (h1 : x ≤ 255) : ∀ z ∈ (setT lv n fl p k x).fl, 0 ≤ z ∧ z ≤ 255 := by
  unfold setT wiT zT
  split
  · exact set_mem hb h0 h1
  · simp
theorem bitT_bd {lv : Int} {n : Nat} {fl : List Int} {p k x : Int} (hb : ∀ z ∈ fl, 0 ≤ z ∧ z ≤ 255) (h0 : 0 ≤ x) : ∀ z ∈ (bitT lv n fl p k x).fl, 0 ≤ z ∧ z ≤ 255 := by
  unfold bitT wiT zT
  split
  · rename_i h
    have ha : atE lv n fl p k = 0 ∧ x ≤ 1 := by
      unfold bitE at h
      split at h
      · rename_i h1
        split at h
        · rename_i h2; exact ⟨h1, h2⟩
        · cases h
      · rename_i h1; exact absurd h h1
    obtain ⟨h1, h2⟩ := at_zero ha.1
    obtain ⟨p0, p1, k0, k1⟩ := h2
    have h3 := ((ok_iff lv n fl).1 h1).2.2 p.toNat (by omega) (k.toNat - 1) (by omega)
    have h4 : 0 ≤ stA fl p.toNat (k.toNat - 1) := by
      unfold stA
      rw [List.getD_eq_getElem?_getD]
      rcases Nat.lt_or_ge (16 * p.toNat + 1 + (k.toNat - 1)) fl.length with h | h
      · rw [List.getElem?_eq_getElem h]; exact (hb _ (List.getElem_mem h)).1
      · rw [List.getElem?_eq_none h]; decide
    have h5 := stP.sNext_bd h4 h3 (show x = 0 ∨ x = 1 by omega)
    exact set_mem hb h5.1 (by omega)
  · simp
theorem tb_fresh (w : World) (lv : Int) (A : Option Addr) (n c : Nat) : TbAt (((w.alloc (.cells #[.int .i64 0, .slice none 0 0] 24)).setCell ⟨w.heap.size, 0, none⟩ (.int .i64 lv)).setCell ⟨w.heap.size, 1, none⟩ (.slice A n c)) w.heap.size lv A n c := tb_set (tb_new w 0 none 0 0)
theorem tb_grow (w : World) (lv : Int) (A : Option Addr) (n c : Nat) : Below w.heap.size w (((w.alloc (.cells #[.int .i64 0, .slice none 0 0] 24)).setCell ⟨w.heap.size, 0, none⟩ (.int .i64 lv)).setCell ⟨w.heap.size, 1, none⟩ (.slice A n c)) := below_set2 (tb_box w 0 none 0 0) (Nat.le_refl _) _ _
end Go.Proofs.Ytkklmclnjmafaaa.slW
