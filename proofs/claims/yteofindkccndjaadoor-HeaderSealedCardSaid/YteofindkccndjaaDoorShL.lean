/- The examples, by walks. -/
import Derived.Test.YteofindkccndjaaDoorShWF
import Derived.Laws.IdiomStrings
import Derived.Lib.SmallJoins
namespace Go.Proofs.YteofindkccndjaaDoor.shL
set_option maxRecDepth 100000
open Go.RowKit Go.Proofs.YteofindkccndjaaDoor.base Go.Proofs.YteofindkccndjaaDoor.shP Go.Proofs.YteofindkccndjaaDoor.shW
set_option linter.unusedVariables false
set_option linter.unusedSimpArgs false
/-- A string's bytes as numbers. -/
def bl (s : ByteArray) : List Int := s.data.toList.map fun b => (b.toNat : Int)
theorem bl_len (s : ByteArray) : (bl s).length = s.size := by simp [bl]
theorem bl_bd (s : ByteArray) : ∀ z ∈ bl s, 0 ≤ z ∧ z ≤ 255 := by
  intro z hz
  obtain ⟨b, _, rfl⟩ := List.mem_map.1 hz
  have := b.toNat_lt
  omega
def brow (s : ByteArray) (c : Nat) : Array Value := bytesRow s c
theorem has_brow (w : World) (s : ByteArray) (c : Nat) (e : TypeId) (fr : Nat × Nat) {g : Nat} (hg : w.heap.size = g) : Has .u8 (w.alloc (.cells (brow s c) e fr)) (some ⟨g, 0, none⟩) (bl s) := by
  refine .inr ⟨g, 0, rfl, by rw [← hg]; simp, fun i hi => ?_⟩
  rw [Joins.cell_alloc_mark_at w _ e fr g _ hg.symm, Nat.zero_add]
  have h1 : i < s.data.toList.length := by simpa [bl] using hi
  have h2 : i < s.data.size := by simpa using h1
  unfold brow bytesRow bl
  rw [Array.getElem?_append_left (by simpa using h2), Array.getElem?_map, Array.getElem?_eq_getElem h2, List.getD_eq_getElem?_getD, List.getElem?_map, List.getElem?_eq_getElem h1]
  simp
theorem has_drew1 {k : IntKind} {w : World} {A : Option Addr} {zs : List Int} (h : Has k w A zs) : Has k w.drew A zs := h
theorem conv_s (s : ByteArray) (w : World) : ∃ c, s.size ≤ c ∧ (convert 9 26 (.string s)).run Tryd.prog w = .ok (.slice (some ⟨w.heap.size, 0, none⟩) s.size c) (w.drew.alloc (.cells (brow s c) 5 ((brow s c).size, (brow s c).size + 1))) :=
  ⟨_, grownCap_ge _ _ _ _, run_bytes_of_string w 9 26 5 s Tryd.underlying9 Tryd.underlying26 Tryd.underlying5⟩
attribute [irreducible] brow
theorem d20 {w : World} {g : Nat} {l : List Int} (h : w.heap[g]? = some (.cells (darr l) 23 (0, 0))) (i : Nat) (hi : i < l.length) : w.cell? ⟨g, i, none⟩ = some (.int .u8 (l.getD i 0)) := by
  have e : Lies w g 23 (l.map (Value.int .u8)) := h
  rw [e.cell, List.getElem?_map, List.getD_eq_getElem?_getD, List.getElem?_eq_getElem hi]
  rfl
theorem digest_len (b : List Int) : (digest b).length = 20 := rfl
end Go.Proofs.YteofindkccndjaaDoor.shL
