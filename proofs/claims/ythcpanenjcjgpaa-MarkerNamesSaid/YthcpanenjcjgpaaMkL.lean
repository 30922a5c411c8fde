/- What came in; strings made bytes; MarkerFinds, by a walk. -/
import Derived.Test.YthcpanenjcjgpaaMkW7
import Derived.Test.YthcpanenjcjgpaaMkSI
import Derived.Laws.IdiomStrings
import Derived.HandedShaped
namespace Go.Proofs.Ythcpanenjcjgpaa.mkL
open Go.RowKit Go.Proofs.Ythcpanenjcjgpaa.base Go.Proofs.Ythcpanenjcjgpaa.mkP Go.Proofs.Ythcpanenjcjgpaa.mkW
set_option linter.unusedVariables false
set_option linter.unusedSimpArgs false
theorem tab_of {W : World} (h : W.ShapedOpen Try.prog) : Tab W := mkS.laysM185.s1_3 W h
theorem ib_of {w : World} {a : Option Addr} {len cap : Nat} {z : List Int} (h : IsRow .u8 w a len cap z) : Ib w a len cap (z.take len) := by
  obtain ⟨h1, h2, h3, h4⟩ := has_of_row h
  refine ⟨⟨h1, h2, ?_, ?_, fun x hx => bounds_u8 (h4 x hx)⟩, ?_⟩
  · rcases h with ⟨_, e1, e2, _⟩ | ⟨x, _, e1, _⟩
    · show len ≤ cap; omega
    · exact e1
  · rcases h with ⟨_, e1, e2, _⟩ | ⟨x, _, _, e2, _⟩
    · show cap ≤ _; omega
    · unfold maxLen at e2; show cap ≤ _; omega
  · intro e
    rcases h with ⟨_, e1, e2, _⟩ | ⟨x, e1, _⟩
    · exact e2
    · rw [e1] at e; cases e
theorem has_brow (w : World) (b : List Int) (hb : ∀ z ∈ b, 0 ≤ z ∧ z ≤ 255) (c : Nat) (e : TypeId) (fr : Nat × Nat) {g : Nat} (hg : w.heap.size = g) : Has .u8 (w.alloc (.cells (bytesRow (bstr b) c) e fr)) (some ⟨g, 0, none⟩) b := by
  refine .inr ⟨g, 0, rfl, by rw [← hg]; simp, fun i hi => ?_⟩
  rw [Joins.cell_alloc_mark_at w _ e fr g _ hg.symm, Nat.zero_add]
  have hd : (bstr b).data = (Lib.bytesOf b).toArray := by apply Array.ext'; rw [bstr_list]
  have h2 : i < (bstr b).data.size := by rw [hd]; simpa [Lib.bytesOf] using hi
  unfold bytesRow
  rw [Array.getElem?_append_left (by simpa using h2), Array.getElem?_map, Array.getElem?_eq_getElem h2]
  have e1 : (bstr b).data[i] = UInt8.ofNat (b.getD i 0).toNat := by
    simp only [hd]
    simp [Lib.bytesOf, List.getD_eq_getElem?_getD, List.getElem?_eq_getElem hi]
  rw [e1]
  have h3 := hb (b.getD i 0) (by rw [List.getD_eq_getElem?_getD, List.getElem?_eq_getElem hi]; exact List.getElem_mem hi)
  simp only [Option.map_some]
  congr 2
  have e3 : ∀ v : Int, 0 ≤ v ∧ v ≤ 255 → (((UInt8.ofNat v.toNat).toNat : Nat) : Int) = v := fun v hv => by
    have : (UInt8.ofNat v.toNat).toNat = v.toNat % 256 := by simp
    rw [this]; omega
  exact e3 _ h3
theorem bstr_size (b : List Int) : (bstr b).size = b.length := by
  have := congrArg List.length (bstr_list b)
  simpa [Lib.bytesOf] using this
/-- '[]byte(s)' of bytes that were made a string. -/
theorem conv_b (b : List Int) (n : Nat) (hn : b.length = n) (hb : ∀ z ∈ b, 0 ≤ z ∧ z ≤ 255) (h9 : n ≤ 9223372036854775807) (w : World) :
    ∃ c wB, (convert 9 22 (.string (bstr b))).run Try.prog w = .ok (.slice (some ⟨w.heap.size, 0, none⟩) n c) wB ∧ Ib wB (some ⟨w.heap.size, 0, none⟩) n c b ∧ Below w.heap.size w wB := by
  have hr := run_bytes_of_string (P := Try.prog) w 9 22 5 (bstr b) Try.underlying9 Try.underlying22 Try.underlying5
  rw [bstr_size, hn] at hr
  refine ⟨_, _, hr, ⟨⟨?_, hn, grownCap_ge _ _ _ _, ?_, hb⟩, fun e => by cases e⟩, ((Below.refl _ _).drew).alloc (Nat.le_refl _) _⟩
  · exact has_brow w.drew b hb _ _ _ rfl
  · have := grownCap_le_maxLen w n 0 5 (by unfold maxLen; omega)
    unfold maxLen at this
    show grownCap _ _ _ _ ≤ _
    omega
end Go.Proofs.Ythcpanenjcjgpaa.mkL
