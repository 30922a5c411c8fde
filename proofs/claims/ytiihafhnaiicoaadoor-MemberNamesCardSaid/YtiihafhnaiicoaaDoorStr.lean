/- Strings made of bytes and back ('string(b)', '[]byte(s)'). -/
import Derived.Lib.Bytes
import Derived.Laws.IdiomStrings
import Derived.Lib.SmallJoins
import Derived.Test.YtiihafhnaiicoaaDoorMem8
namespace Go.Proofs.YtiihafhnaiicoaaDoor.base
set_option maxRecDepth 100000
open Go.RowKit
set_option linter.unusedVariables false
set_option linter.unusedSimpArgs false
theorem bstr_go (zs : List Int) : ∀ a : ByteArray, (zs.foldl (fun r n => r.push (UInt8.ofNat n.toNat)) a).data.toList = a.data.toList ++ Lib.bytesOf zs := by
  induction zs with
  | nil => intro a; simp [Lib.bytesOf]
  | cons z zs ih =>
    intro a
    rw [List.foldl_cons, ih]
    simp [Lib.bytesOf, ByteArray.push]
theorem bstr_list (zs : List Int) : (bstr zs).data.toList = Lib.bytesOf zs := by
  have := bstr_go zs .empty
  simpa [bstr] using this
theorem bytes_inj {xs ys : List Int} (hx : ∀ z ∈ xs, 0 ≤ z ∧ z ≤ 255) (hy : ∀ z ∈ ys, 0 ≤ z ∧ z ≤ 255) (h : Lib.bytesOf xs = Lib.bytesOf ys) : xs = ys := by
  have e3 : ∀ v : Int, 0 ≤ v ∧ v ≤ 255 → (((UInt8.ofNat v.toNat).toNat : Nat) : Int) = v := fun v hv => by
    have : (UInt8.ofNat v.toNat).toNat = v.toNat % 256 := by simp
    rw [this]; omega
  have key : ∀ zs : List Int, (∀ z ∈ zs, 0 ≤ z ∧ z ≤ 255) → (Lib.bytesOf zs).map (fun b => ((b.toNat : Nat) : Int)) = zs := by
    intro zs
    induction zs with
    | nil => intro _; rfl
    | cons z zs ih =>
      intro hz
      have i1 := ih (fun y hy => hz y (List.mem_cons_of_mem _ hy))
      simp only [Lib.bytesOf, List.map_cons] at i1 ⊢
      rw [i1, e3 z (hz z List.mem_cons_self)]
  rw [← key xs hx, ← key ys hy, h]
theorem bstr_inj {xs ys : List Int} (hx : ∀ z ∈ xs, 0 ≤ z ∧ z ≤ 255) (hy : ∀ z ∈ ys, 0 ≤ z ∧ z ≤ 255) (h : bstr xs = bstr ys) : xs = ys :=
  bytes_inj hx hy (by rw [← bstr_list, ← bstr_list, h])
theorem bstr_toList (zs : List Int) : (bstr zs).toList = Lib.bytesOf zs := by rw [ByteArray.toList_eq, bstr_list]
theorem bstr_beq {xs ys : List Int} (hx : ∀ z ∈ xs, 0 ≤ z ∧ z ≤ 255) (hy : ∀ z ∈ ys, 0 ≤ z ∧ z ≤ 255) : ((bstr xs).toList == (bstr ys).toList) = decide (xs = ys) := by
  rw [bstr_toList, bstr_toList]
  by_cases h : xs = ys
  · subst h; simp
  · rw [decide_eq_false h]
    cases e : (Lib.bytesOf xs == Lib.bytesOf ys)
    · rfl
    · exact absurd (bytes_inj hx hy (eq_of_beq e)) h
theorem has_brow (w : World) (b : List Int) (hb : ∀ z ∈ b, 0 ≤ z ∧ z ≤ 255) (c : Nat) (e : TypeId) (fr : Nat × Nat) {g : Nat} (hg : w.heap.size = g) : Has .u8 (w.alloc (.cells (bytesRow (bstr b) c) e fr)) (some ⟨g, 0, none⟩) b := by
  refine .inr ⟨g, 0, rfl, by rw [← hg]; simp, fun i hi => ?_⟩
  rw [Joins.cell_alloc_mark_at w _ e fr g _ hg.symm, Nat.zero_add]
  have hd : (bstr b).data = (Lib.bytesOf b).toArray := by apply Array.ext'; rw [bstr_list]
  have h2 : i < (bstr b).data.size := by rw [hd]; simpa [Lib.bytesOf] using hi
  unfold bytesRow
  rw [Array.getElem?_append_left (by simpa using h2), Array.getElem?_map, Array.getElem?_eq_getElem h2]
  have e1 : (bstr b).data[i] = UInt8.ofNat (b.getD i 0).toNat := by
    simp only [hd]
    simp [Lib.bytesOf, List.getD_eq_getElem?_getD, List.getElem?_eq_getElem hi]
  rw [e1]
  have h3 := hb (b.getD i 0) (by rw [List.getD_eq_getElem?_getD, List.getElem?_eq_getElem hi]; exact List.getElem_mem hi)
  simp only [Option.map_some]
  congr 2
  have e3 : ∀ v : Int, 0 ≤ v ∧ v ≤ 255 → (((UInt8.ofNat v.toNat).toNat : Nat) : Int) = v := fun v hv => by
    have : (UInt8.ofNat v.toNat).toNat = v.toNat % 256 := by simp
    rw [this]; omega
  exact e3 _ h3
theorem bstr_size (b : List Int) : (bstr b).size = b.length := by
  have := congrArg List.length (bstr_list b)
  simpa [Lib.bytesOf] using this
/-- '[]byte(s)' of bytes that were made a string. -/
theorem conv_b (b : List Int) (n : Nat) (hn : b.length = n) (hb : ∀ z ∈ b, 0 ≤ z ∧ z ≤ 255) (h9 : n ≤ 9223372036854775807) (w : World) :
    ∃ c wB, (convert 9 35 (.string (bstr b))).run Tryd.prog w = .ok (.slice (some ⟨w.heap.size, 0, none⟩) n c) wB ∧ Has .u8 wB (some ⟨w.heap.size, 0, none⟩) b ∧ n ≤ c ∧ Below w.heap.size w wB := by
  have hr := run_bytes_of_string (P := Tryd.prog) w 9 35 5 (bstr b) Tryd.underlying9 Tryd.underlying35 Tryd.underlying5
  rw [bstr_size, hn] at hr
  exact ⟨_, _, hr, has_brow w.drew b hb _ _ _ rfl, grownCap_ge _ _ _ _, ((Below.refl _ _).drew).alloc (Nat.le_refl _) _⟩
end Go.Proofs.YtiihafhnaiicoaaDoor.base
