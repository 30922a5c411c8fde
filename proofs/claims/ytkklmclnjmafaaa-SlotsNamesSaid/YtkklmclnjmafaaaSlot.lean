/- Slices of slots (16 cells each, all of them bytes) in memory. -/
import Derived.Test.YtkklmclnjmafaaaMem8
import Derived.Test.YtkklmclnjmafaaaBlock
import Derived.Deep.MidRow
import Derived.Laws.MakeOwn
namespace Go.Proofs.Ytkklmclnjmafaaa.base
set_option maxRecDepth 100000
open Go.RowKit
set_option linter.unusedVariables false
set_option linter.unusedSimpArgs false
/-- The slice 'v' of n slots is a row of the call's own, from block B on, its cells the bytes fl. -/
def OwnS (w : World) (B : Nat) (v : Value) (n : Nat) (fl : List Int) : Prop := w.ownsRow B 31 16 v n (fl.map (Value.int .u8))
section
variable {w w' : World} {B g n cap : Nat} {v : Value} {A : Option Addr} {fl : List Int}
theorem OwnS.len (h : OwnS w B v n fl) : fl.length = n * 16 := by have := h.1; simpa using this
theorem OwnS.val (h : OwnS w B v n fl) : ∃ A cap, v = .slice A n cap ∧ Has .u8 w A fl ∧ n ≤ cap ∧ cap ≤ maxLen ∧ (∀ a, A = some a → B ≤ a.block) := by
  have hlen := h.len
  obtain ⟨hl, h2⟩ := h
  rcases h2 with ⟨rfl, h0⟩ | ⟨g, cap, cur, rfl, hB, hh, hnc, hcm, hcs, ht⟩
  · subst h0; exact ⟨none, 0, rfl, .inl (List.eq_nil_of_length_eq_zero (by omega)), by omega, Nat.zero_le _, by simp⟩
  · refine ⟨_, cap, rfl, .inr ⟨g, 0, rfl, lt_of_block hh, fun i hi => ?_⟩, hnc, hcm, ?_⟩
    · have : w.cell? ⟨g, 0 + i, none⟩ = cur[0 + i]? := by simp [World.cell?, hh]
      rw [this, Nat.zero_add, ← Array.getElem?_toList]
      have e1 : (cur.toList.take (n * 16))[i]? = cur.toList[i]? := by rw [List.getElem?_take, if_pos (by omega)]
      rw [← e1, ht, List.getElem?_map, List.getElem?_eq_getElem hi]
      simp [List.getD_eq_getElem?_getD, List.getElem?_eq_getElem hi]
    · intro a ha; injection ha with ha; subst ha; exact hB
theorem OwnS.has (h : OwnS w B (.slice A n cap) n fl) : Has .u8 w A fl := by
  obtain ⟨A', cap', e1, h1, _⟩ := h.val
  injection e1 with e1 _ _
  rw [e1]; exact h1
theorem OwnS.cap_le (h : OwnS w B (.slice A n cap) n fl) : n ≤ cap ∧ cap ≤ maxLen := by
  obtain ⟨A', cap', e1, h1, h2, h3, _⟩ := h.val
  injection e1 with _ _ e1
  rw [e1]; exact ⟨h2, h3⟩
theorem OwnS.form (h : OwnS w B (.slice A n cap) n fl) (hp : 0 < n) : ∃ g, A = some ⟨g, 0, none⟩ ∧ B ≤ g ∧ g < w.heap.size := by
  rcases h.2 with ⟨h', h0⟩ | ⟨g, cap', cur, h', hb, hg, _⟩
  · omega
  · injection h' with h1 h2 h3
    exact ⟨g, h1, hb, lt_of_block hg⟩
theorem OwnS.cell (h : OwnS w B (.slice (some ⟨g, 0, none⟩) n cap) n fl) (i : Nat) (hi : i < fl.length) : w.cell? ⟨g, i, none⟩ = some (.int .u8 (fl.getD i 0)) := by
  rcases h.has with rfl | ⟨b, off, ha, _, hc⟩
  · simp at hi
  · injection ha with ha
    injection ha with h1 h2 h3
    subst h1 h2
    have := hc i hi
    rwa [Nat.zero_add] at this
theorem OwnS.frozen (h : OwnS w B (.slice (some ⟨g, 0, none⟩) n cap) n fl) (i : Nat) : w.frozen? ⟨g, i, none⟩ = false := by
  obtain ⟨hl, h2⟩ := h
  rcases h2 with ⟨h', _⟩ | ⟨g', cap', cur, h', hb, hg, _⟩
  · cases h'
  · injection h' with h1 _ _
    injection h1 with h1
    injection h1 with h1
    subst h1
    exact frozen_of_row w g i cur _ hg
theorem OwnS.store (h : OwnS w B (.slice (some ⟨g, 0, none⟩) n cap) n fl) (i : Nat) (x : Int) : OwnS (w.setCell ⟨g, i, none⟩ (.int .u8 x)) B (.slice (some ⟨g, 0, none⟩) n cap) n (fl.set i x) := by
  have := (World.ownsRow.stored h i (.int .u8 x)).1
  unfold OwnS
  rw [List.map_set]
  exact this
theorem OwnS.below {C : Nat} (h : OwnS w B v n fl) (hb : Below C w w') (hC : w.heap.size ≤ C) : OwnS w' B v n fl := by
  refine ⟨h.1, ?_⟩
  rcases h.2 with h2 | ⟨g, cap, cur, hv, hB, hg, r⟩
  · exact .inl h2
  · exact .inr ⟨g, cap, cur, hv, hB, by rw [hb.block g (Nat.lt_of_lt_of_le (lt_of_block hg) hC)]; exact hg, r⟩
theorem OwnS.past (h : OwnS w B v n fl) (hb : Below w.heap.size w w') : OwnS w' B v n fl := h.below hb (Nat.le_refl _)
theorem OwnS.mono {B' : Nat} (h : OwnS w B v n fl) (hB : B' ≤ B) : OwnS w B' v n fl := by
  refine ⟨h.1, ?_⟩
  rcases h.2 with h2 | ⟨g, cap, cur, hv, hg, r⟩
  · exact .inl h2
  · exact .inr ⟨g, cap, cur, hv, by omega, r⟩
/-- Many cells stored. -/
def setL (fl : List Int) : Nat → List Int → List Int
  | _, [] => fl
  | o, x :: r => setL (fl.set o x) (o + 1) r
theorem OwnS.many (o : Nat) (xs : List Int) : ∀ {w : World} {o : Nat} {fl : List Int}, OwnS w B (.slice (some ⟨g, 0, none⟩) n cap) n fl → OwnS (w.setCells g o (xs.map (Value.int .u8))) B (.slice (some ⟨g, 0, none⟩) n cap) n (setL fl o xs) := by
  induction xs with
  | nil => intro w o fl h; exact h
  | cons x r ih => intro w o fl h; exact ih (h.store o x)
end
theorem infoS : ∃ i z, Try.prog.info? 31 = some i ∧ i.zero = some z ∧ i.size = 16 ∧ i.bytes = 16 ∧ z.cells.size = 16 := by
  obtain ⟨i, h1, h2, h3, h4⟩ := info_parts (P := Try.prog) (e := 31) (z := .agg #[.int .u8 0, .int .u8 0, .int .u8 0, .int .u8 0, .int .u8 0, .int .u8 0, .int .u8 0, .int .u8 0, .int .u8 0, .int .u8 0, .int .u8 0, .int .u8 0, .int .u8 0, .int .u8 0, .int .u8 0, .int .u8 0]) (size := 16) (bytes := 16) (by kernel_rfl)
  exact ⟨i, _, h1, h2, h3, h4, rfl⟩
theorem ones {fl : List Int} : ∀ u ∈ fl.map (Value.int .u8), u.oneCell' = true := by
  intro u hu
  obtain ⟨z, _, rfl⟩ := List.mem_map.1 hu
  rfl
/-- append of slots onto a slice without room and without elements: a copy. -/
theorem run_append_slots {w : World} (ty : TypeId) (D : Option Addr) (A : Option Addr) (m c : Nat) (fl : List Int) (hr : Has .u8 w A fl) (hl : fl.length = m * 16) (hm : m ≤ 1000000) :
    ∃ A' c' w', (Builtin.append_ #[22, 22] ty #[.slice D 0 0, .slice A m c]).run Try.prog w = .ok (.slice A' m c') w' ∧ Has .u8 w' A' fl ∧ Below w.heap.size w w' ∧ (m = 0 ∧ A' = D ∧ c' = 0 ∧ w' = w ∨ OwnS w' w.heap.size (.slice A' m c') m fl) := by
  obtain ⟨i, z, hi, hz, hsize, hby, hzs⟩ := infoS
  have ht := Try.underlying22
  by_cases h0 : m = 0
  · subst h0
    have hf : fl = [] := List.eq_nil_of_length_eq_zero (by omega)
    subst hf
    refine ⟨D, 0, w, ?_, .inl rfl, Below.refl _ _, .inl ⟨rfl, rfl, rfl, rfl⟩⟩
    rcases A with _ | ad <;> rcases D with _ | d <;> simp [Builtin.append_, run_underlying ht, sizeOf, typeInfo, hi, Builtin.lenOf, Builtin.firstCells, loadCells, loadCellsFrom, storeCells]
  · obtain ⟨ad, rfl⟩ : ∃ ad, A = some ad := by
      rcases hr with h | ⟨b, off, ha, _⟩
      · subst h; simp at hl; omega
      · exact ⟨_, ha⟩
    have h63 : m ≤ maxLen := by unfold maxLen; omega
    obtain ⟨v', w', hrun, h2, h3, _, _⟩ := run_append_own_at (P := Try.prog) w w.heap.size 22 ty 31 i z 16 16 ht hi hz hsize hby hzs (by omega) (.slice none 0 0) 0 [] (World.ownsRow_nil w _ _ 16) ad m c (fl.map (Value.int .u8)) (by simpa using hl) hr.cells ones (by omega) (by omega) (Nat.le_refl _)
    have h2' : OwnS w' w.heap.size v' m fl := by
      unfold OwnS; simpa using h2
    obtain ⟨A', c', e1, hh, _⟩ := h2'.val
    subst e1
    refine ⟨A', c', w', ?_, hh, (Below.refl _ _).grown h3 (Nat.le_refl _) (by simp [Value.ownBlock]), .inr h2'⟩
    rw [← hrun]
    rcases D with _ | d
    · rfl
    · have hsrc : Src Try.prog i.size 22 (.slice (some ad) m c) m (fl.map (Value.int .u8)) w := Src.ofSlice (w := w) (size := i.size) ht ad m c _ (by rw [hsize]; simpa using hl) hr.cells ones
      have hfit : Builtin.nextslicecap (0 + m) 0 * i.bytes ≤ 281474976710656 := by
        have e0 : Builtin.nextslicecap (0 + m) 0 = m := by simp [Builtin.nextslicecap]; omega
        rw [e0, hby]; omega
      have r1 := run_append_grow_src (P := Try.prog) w 22 22 ty 31 i z ht hi hz (some d) 0 0 [] (by simp [Builtin.firstCells, loadCells, loadCellsFrom]) (.slice (some ad) m c) m _ hsrc (by omega) (by omega) hfit
      have r2 := run_append_grow_src (P := Try.prog) w 22 22 ty 31 i z ht hi hz none 0 0 [] (by simp [Builtin.firstCells]) (.slice (some ad) m c) m _ hsrc (by omega) (by omega) hfit
      exact r1.trans r2.symm
theorem cloneS {w : World} {ops : Array Oper} {rest : List Oper} {o : Oper} {a : Act} {Q : Exit → Act → World → Prop} (hgd : o.guard = none) (s x : Operand)
    (ho : o.op = .call { callee := .builtin .append, args := #[s, x], argTypes := #[22, 22] })
    (D : Option Addr) (hs : a.eval s = .slice D 0 0) (A : Option Addr) (m c : Nat) (fl : List Int) (hx : a.eval x = .slice A m c) (hr : Has .u8 w A fl) (hl : fl.length = m * 16) (hm : m ≤ 1000000)
    (h : ∀ A' c' w', Has .u8 w' A' fl → Below w.heap.size w w' → (m = 0 ∧ A' = D ∧ c' = 0 ∧ w' = w ∨ OwnS w' w.heap.size (.slice A' m c') m fl) → wpList Try.prog ops Q rest (a.put o.dst (.slice A' m c')) w') : wpList Try.prog ops Q (o :: rest) a w := by
  refine wpList_plain hgd fun K hK => ?_
  obtain ⟨A', c', w', hrun, h2, h3, h4⟩ := run_append_slots o.type D A m c fl hr hl hm
  unfold Oper.wp execOp
  simp only [ho, resolve, invoke, builtin, Sem.run_bind, Sem.run_pure, Result.andThen_ok, List.map_toArray, List.map_cons, List.map_nil, hs, hx, hrun]
  exact hK _ _ (h A' c' w' h2 h3 h4)
end Go.Proofs.Ytkklmclnjmafaaa.base
