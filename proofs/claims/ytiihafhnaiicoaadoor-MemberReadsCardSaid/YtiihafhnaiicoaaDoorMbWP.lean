/- The bytes of records, by plain facts; a name made bytes. -/
import Derived.Test.YtiihafhnaiicoaaDoorPk1
import Derived.Test.YtiihafhnaiicoaaDoorAppK
import Derived.Test.YtiihafhnaiicoaaDoorPk2
import Derived.Laws.IdiomStrings
import Derived.Lib.SmallJoins
namespace Go.Proofs.YtiihafhnaiicoaaDoor.mbW
set_option maxRecDepth 100000
open Go.RowKit Go.Proofs.YtiihafhnaiicoaaDoor.base Go.Proofs.YtiihafhnaiicoaaDoor.shP Go.Proofs.YtiihafhnaiicoaaDoor.shW Go.Proofs.YtiihafhnaiicoaaDoor.ocP Go.Proofs.YtiihafhnaiicoaaDoor.ocW
open Go.Proofs.YtiihafhnaiicoaaDoor.trW (IsD sv zd_isD digest_isD z20_at)
set_option linter.unusedVariables false
set_option linter.unusedSimpArgs false
set_option maxRecDepth 100000
def bl (s : ByteArray) : List Int := s.data.toList.map fun b => (b.toNat : Int)
theorem bl_len (s : ByteArray) : (bl s).length = s.size := by simp [bl]
theorem bl_bd (s : ByteArray) : ∀ z ∈ bl s, 0 ≤ z ∧ z ≤ 255 := by
  intro z hz
  obtain ⟨b, _, rfl⟩ := List.mem_map.1 hz
  have := b.toNat_lt
  omega
theorem has_brow (w : World) (s : ByteArray) (c : Nat) (e : TypeId) (fr : Nat × Nat) {g : Nat} (hg : w.heap.size = g) : Has .u8 (w.alloc (.cells (bytesRow s c) e fr)) (some ⟨g, 0, none⟩) (bl s) := by
  refine .inr ⟨g, 0, rfl, by rw [← hg]; simp, fun i hi => ?_⟩
  rw [Joins.cell_alloc_mark_at w _ e fr g _ hg.symm, Nat.zero_add]
  have h1 : i < s.data.toList.length := by simpa [bl] using hi
  have h2 : i < s.data.size := by simpa using h1
  unfold bytesRow bl
  rw [Array.getElem?_append_left (by simpa using h2), Array.getElem?_map, Array.getElem?_eq_getElem h2, List.getD_eq_getElem?_getD, List.getElem?_map, List.getElem?_eq_getElem h1]
  simp
theorem conv_m (s : ByteArray) (w : World) (hs : s.size ≤ 1000) : ∃ c wB, (convert 9 35 (.string s)).run Tryd.prog w = .ok (.slice (some ⟨w.heap.size, 0, none⟩) s.size c) wB ∧ Has .u8 wB (some ⟨w.heap.size, 0, none⟩) (bl s) ∧ s.size ≤ c ∧ c ≤ 9223372036854775807 ∧ Below w.heap.size w wB ∧ w.heap.size < wB.heap.size := by
  have hr := run_bytes_of_string (P := Tryd.prog) w 9 35 5 s Tryd.underlying9 Tryd.underlying35 Tryd.underlying5
  refine ⟨_, _, hr, has_brow w.drew s _ _ _ rfl, grownCap_ge _ _ _ _, ?_, ((Below.refl _ _).drew).alloc (Nat.le_refl _) _, by simp⟩
  have := grownCap_le_maxLen w s.size 0 5 (by unfold maxLen; omega)
  unfold maxLen at this
  omega
/-- A record's bytes. -/
def rcB (r : Rc) : List Int := digs r.nm.size 1 ++ bl r.nm ++ digs r.sz 2 ++ r.sum
def tabB (rs : List Rc) : List Int := (rs.map rcB).flatten
theorem tabB_snoc (rs : List Rc) {k : Nat} (h : k < rs.length) : tabB (rs.take (k + 1)) = tabB (rs.take k) ++ rcB (rs.getD k rc0) := by
  unfold tabB
  rw [List.take_add_one, List.getElem?_eq_getElem h, List.getD_eq_getElem?_getD, List.getElem?_eq_getElem h]
  simp only [Option.toList_some, Option.getD_some, List.map_append, List.map_cons, List.map_nil, List.flatten_append, List.flatten_cons, List.flatten_nil, List.append_nil]
theorem rcB_len {r : Rc} (h : r.sum.length = 20) : (rcB r).length = r.nm.size + 23 := by
  unfold rcB
  rw [List.length_append, List.length_append, List.length_append, digs_len, digs_len, bl_len, h]; omega
theorem str_name {s : ByteArray} (h : s.size ≤ 40) : strE (bl s) 1 = 0 ∧ strV (bl s) 1 = digs s.size 1 ++ bl s := by
  have e : strE (bl s) 1 = 0 := by
    have e2 : numE (s.size : Int) 1 = 0 := by
      unfold numE
      rw [if_pos (by decide), if_pos (by show (s.size : Int) < 256; omega)]
    unfold strE
    rw [if_pos (by decide), if_pos (by rw [bl_len]; omega), bl_len]
    exact e2
  refine ⟨e, ?_⟩
  unfold strV
  rw [if_pos e, bl_len]; rfl
theorem num_size {z : Int} (h1 : 0 ≤ z) (h2 : z ≤ 8192) : numE z 2 = 0 ∧ numV z 2 = digs z 2 := by
  have e : numE z 2 = 0 := by
    unfold numE
    rw [if_pos (by decide), if_pos (by show z < 65536; omega)]
  exact ⟨e, by unfold numV; rw [if_pos e]; rfl⟩
noncomputable def wrV (rs : List Rc) : List Int := if vlE rs = 0 then tabB rs else []
theorem wr_ok {rs : List Rc} (h : vlE rs = 0) : wrV rs = tabB rs := by unfold wrV; rw [if_pos h]
theorem wr_no {rs : List Rc} (h : vlE rs ≠ 0) : wrV rs = [] := by unfold wrV; rw [if_neg h]
/-- The digest's cells within a record's. -/
theorem sum_cell {w : World} {g : Nat} {nm : ByteArray} {sz : Int} {sm : List Int} (h : Lies w g 54 (rcE ⟨nm, sz, sm⟩)) (hs : sm.length = 20) : ∀ i, i < 20 → w.cell? ⟨g, 2 + i, none⟩ = some (.int .u8 (sm.getD i 0)) := by
  intro i hi
  refine rec_sum h hs i _ ?_
  rw [sv, List.getElem?_map, List.getElem?_eq_getElem (by omega), List.getD_eq_getElem?_getD, List.getElem?_eq_getElem (by omega)]; rfl
theorem own_ne {w : World} {B : Nat} {v : Value} {zs : List Int} (h : OwnI w B 5 .u8 v zs) {g : Nat} (hg : w.heap.size ≤ g) : some g ≠ v.ownBlock := fun e => by
  have := (World.ownsRow.lt h g e.symm).2
  omega
theorem ownI_past {w w' : World} {B : Nat} {v : Value} {zs : List Int} (h : OwnI w B 5 .u8 v zs) (hb : Below w.heap.size w w') : OwnI w' B 5 .u8 v zs := h.below hb (Nat.le_refl _)
theorem ne_own {v v' : Value} {g s : Nat} (h : v'.ownBlock = v.ownBlock ∨ v'.ownBlock = some s) (h1 : some g ≠ v.ownBlock) (h2 : g < s) : some g ≠ v'.ownBlock := fun e => by
  rcases h with h | h
  · exact h1 (e.trans h)
  · rw [h] at e; injection e with e; omega
/-- What Write answers. -/
def WrP (rs : List Rc) (w : World) (e : Ending) (w' : World) : Prop := ∃ A n c, e = .returned (.tuple #[.slice A n c, .int .i64 (vlE rs)]) ∧ n = (wrV rs).length ∧ n ≤ c ∧ c ≤ 9223372036854775807 ∧ Has .u8 w' A (wrV rs) ∧ Below w.heap.size w w'
end Go.Proofs.YtiihafhnaiicoaaDoor.mbW
