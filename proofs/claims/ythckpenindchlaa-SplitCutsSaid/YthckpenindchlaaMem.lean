/- Rows of integers in memory that a call makes: append, make, copies, as rules of the walk. Over any program. -/
import Derived.Test.YthckpenindchlaaBase
import Derived.Maps.AppendAt
import Derived.Deep.AppendLies
import Derived.Deep.AppendSrc
import Derived.Laws.AppendOwnNone
import Derived.RegionTactic
import Derived.OwnWalk
import Derived.OneCell
namespace Go.Proofs.Ythckpenindchlaa.base
set_option maxRecDepth 100000
open Go.RowKit

/-- The slice 'v' has a row of the call's own, from block B on, with the integers zs. -/
def OwnI (w : World) (B : Nat) (e : TypeId) (k : IntKind) (v : Value) (zs : List Int) : Prop :=
  w.ownsRow B e 1 v zs.length (zs.map (Value.int k))

theorem OwnI.val {w : World} {B : Nat} {e : TypeId} {k : IntKind} {v : Value} {zs : List Int} (h : OwnI w B e k v zs) :
    ∃ A cap, v = .slice A zs.length cap ∧ Has k w A zs ∧ zs.length ≤ cap ∧ (∀ a, A = some a → B ≤ a.block) := by
  obtain ⟨hl, h2⟩ := h
  rcases h2 with ⟨rfl, h0⟩ | ⟨g, cap, cur, rfl, hB, hh, hnc, hcm, hcs, ht⟩
  · rw [h0]; exact ⟨none, 0, rfl, .inl (List.eq_nil_of_length_eq_zero h0), by omega, by simp⟩
  · refine ⟨_, cap, rfl, .inr ⟨g, 0, rfl, lt_of_block hh, fun i hi => ?_⟩, hnc, ?_⟩
    · have : w.cell? ⟨g, 0 + i, none⟩ = cur[0 + i]? := by simp [World.cell?, hh]
      rw [this, Nat.zero_add, ← Array.getElem?_toList]
      have e1 : (cur.toList.take (zs.length * 1))[i]? = cur.toList[i]? := by rw [List.getElem?_take, if_pos (by omega)]
      rw [← e1, ht, List.getElem?_map, List.getElem?_eq_getElem hi]
      simp [List.getD_eq_getElem?_getD, List.getElem?_eq_getElem hi]
    · intro a ha; injection ha with ha; subst ha; exact hB

theorem OwnI.has {w : World} {B : Nat} {e : TypeId} {k : IntKind} {A : Option Addr} {n cap : Nat} {zs : List Int} (h : OwnI w B e k (.slice A n cap) zs) : Has k w A zs := by
  obtain ⟨A', cap', e1, h1, _⟩ := h.val
  injection e1 with e1 _ _
  rw [e1]; exact h1

/-- What a 'Has' gives as cells behind an address. -/
theorem Has.cells {k : IntKind} {w : World} {ad : Addr} {zs : List Int} (h : Has k w (some ad) zs) : ∀ j u, (zs.map (Value.int k))[j]? = some u → w.cell? (ad.add j) = some u := by
  intro j u hu
  rcases h with rfl | ⟨b, off, ha, _, hc⟩
  · simp at hu
  · injection ha with ha; subst ha
    have hj : j < zs.length := by
      rcases Nat.lt_or_ge j zs.length with h | h
      · exact h
      · rw [List.getElem?_eq_none (by simpa using h)] at hu; cases hu
    rw [addr_add, hc j hj]
    rw [List.getElem?_map, List.getElem?_eq_getElem hj] at hu
    simp only [List.getD_eq_getElem?_getD, List.getElem?_eq_getElem hj]
    simpa using hu

theorem one_ints {k : IntKind} {zs : List Int} : ∀ u ∈ zs.map (Value.int k), u.oneCell' = true := by
  intro u hu
  obtain ⟨z, _, rfl⟩ := List.mem_map.1 hu
  rfl

/-- A row of the call's own that has an element stands at the head of a block. -/
theorem OwnI.form {w : World} {B : Nat} {e : TypeId} {k : IntKind} {A : Option Addr} {n cap : Nat} {zs : List Int} (h : OwnI w B e k (.slice A n cap) zs) (hp : zs ≠ []) :
    ∃ g, A = some ⟨g, 0, none⟩ ∧ B ≤ g ∧ g < w.heap.size ∧ n = zs.length := by
  rcases h.2 with ⟨h', h0⟩ | ⟨g, cap', cur, h', hb, hg, _⟩
  · exact absurd (List.eq_nil_of_length_eq_zero h0) hp
  · injection h' with h1 h2 h3
    exact ⟨g, h1, hb, lt_of_block hg, h2⟩

theorem OwnI.cell {w : World} {B g : Nat} {e : TypeId} {k : IntKind} {n cap : Nat} {zs : List Int} (h : OwnI w B e k (.slice (some ⟨g, 0, none⟩) n cap) zs) (i : Nat) (hi : i < zs.length) :
    w.cell? ⟨g, i, none⟩ = some (.int k (zs.getD i 0)) := by
  rcases h.has with rfl | ⟨b, off, ha, _, hc⟩
  · simp at hi
  · injection ha with ha
    injection ha with h1 h2 h3
    subst h1 h2
    have := hc i hi
    rwa [Nat.zero_add] at this

theorem OwnI.frozen {w : World} {B g : Nat} {e : TypeId} {k : IntKind} {n cap : Nat} {zs : List Int} (h : OwnI w B e k (.slice (some ⟨g, 0, none⟩) n cap) zs) (i : Nat) : w.frozen? ⟨g, i, none⟩ = false := by
  obtain ⟨hl, h2⟩ := h
  rcases h2 with ⟨h', _⟩ | ⟨g', cap', cur, h', hb, hg, _⟩
  · cases h'
  · injection h' with h1 _ _
    injection h1 with h1
    injection h1 with h1
    subst h1
    exact frozen_of_row w g i cur e hg

/-- A store into a row of the call's own. -/
theorem OwnI.store {w : World} {B g : Nat} {e : TypeId} {k : IntKind} {n cap : Nat} {zs : List Int} (h : OwnI w B e k (.slice (some ⟨g, 0, none⟩) n cap) zs) (i : Nat) (x : Int) :
    OwnI (w.setCell ⟨g, i, none⟩ (.int k x)) B e k (.slice (some ⟨g, 0, none⟩) n cap) (zs.set i x) := by
  have hn : n = zs.length := by
    rcases h.2 with ⟨h', _⟩ | ⟨g', cap', cur, h', _⟩
    · cases h'
    · injection h' with _ h2 _
  subst hn
  have := (World.ownsRow.stored h i (.int k x)).1
  unfold OwnI
  rw [List.length_set, List.map_set]
  exact this

theorem OwnI.base_le {w : World} {B g : Nat} {e : TypeId} {k : IntKind} {n cap : Nat} {zs : List Int} (h : OwnI w B e k (.slice (some ⟨g, 0, none⟩) n cap) zs) : B ≤ g ∧ g < w.heap.size :=
  World.ownsRow.lt h g rfl

/-- What the call owns is still owned in a world that is the same below a block number above it. -/
theorem OwnI.below {w w' : World} {B C : Nat} {e : TypeId} {k : IntKind} {v : Value} {zs : List Int} (h : OwnI w B e k v zs) (hb : Below C w w') (hC : w.heap.size ≤ C) : OwnI w' B e k v zs := by
  refine ⟨h.1, ?_⟩
  rcases h.2 with h2 | ⟨g, cap, cur, hv, hB, hg, r⟩
  · exact .inl h2
  · exact .inr ⟨g, cap, cur, hv, hB, by rw [hb.block g (Nat.lt_of_lt_of_le (lt_of_block hg) hC)]; exact hg, r⟩

theorem OwnI.mono {w : World} {B B' : Nat} {e : TypeId} {k : IntKind} {v : Value} {zs : List Int} (h : OwnI w B e k v zs) (hB : B' ≤ B) : OwnI w B' e k v zs := by
  refine ⟨h.1, ?_⟩
  rcases h.2 with h2 | ⟨g, cap, cur, hv, hg, r⟩
  · exact .inl h2
  · exact .inr ⟨g, cap, cur, hv, by omega, r⟩

/-- The nil slice owns nothing. -/
theorem OwnI.nil (w : World) (B : Nat) (e : TypeId) (k : IntKind) : OwnI w B e k (.slice none 0 0) [] := ⟨rfl, .inl ⟨rfl, rfl⟩⟩

/-- A new block of integers. -/
theorem OwnI.lit (w : World) (e : TypeId) (k : IntKind) (zs : List Int) (B : Nat) (hB : B ≤ w.heap.size) (hl : zs.length ≤ maxLen) :
    OwnI (w.alloc (.cells (zs.map (Value.int k)).toArray e)) B e k (.slice (some ⟨w.heap.size, 0, none⟩) zs.length zs.length) zs := by
  have := World.ownsRow_lit (e := e) (size := 1) w (zs.map (Value.int k)).toArray zs.length hB hl (by simp)
  simpa [OwnI] using this

theorem Has.front {k : IntKind} {w : World} {a : Option Addr} {zs : List Int} (h : Has k w a zs) (n : Nat) : Has k w a (zs.take n) := by
  rcases h with rfl | ⟨b, off, ha, hb, hc⟩
  · exact .inl (by simp)
  · refine .inr ⟨b, off, ha, hb, fun i hi => ?_⟩
    have hi' : i < n ∧ i < zs.length := by rw [List.length_take] at hi; omega
    have e : (zs.take n).getD i 0 = zs.getD i 0 := by simp only [List.getD_eq_getElem?_getD, List.getElem?_take]; rw [if_pos hi'.1]
    rw [e]; exact hc i hi'.2
/-- 's[n:]' as the walk spells it. -/
theorem Has.cut {k : IntKind} {w : World} {a : Option Addr} {zs : List Int} (h : Has k w a zs) {n cap : Nat} (hn : n ≤ zs.length) (hc : zs.length ≤ cap) : Has k w (if cap = n then a else a.map (·.add n)) (zs.drop n) := by
  rcases Nat.lt_or_ge n zs.length with hlt | hge
  · rw [if_neg (by omega)]
    rcases h with rfl | ⟨b, off, rfl, hb, hcl⟩
    · simp at hlt
    · refine .inr ⟨b, off + n, by simp [addr_add], hb, fun i hi => ?_⟩
      have hi' : n + i < zs.length := by have : i < zs.length - n := by simpa using hi
                                         omega
      have e : (zs.drop n).getD i 0 = zs.getD (n + i) 0 := by simp only [List.getD_eq_getElem?_getD, List.getElem?_drop]
      rw [e, Nat.add_assoc]; exact hcl _ hi'
  · exact .inl (by simp; omega)
theorem has_some {k : IntKind} {w : World} {a : Option Addr} {zs : List Int} (h : Has k w a zs) (hp : 0 < zs.length) : ∃ b off, a = some ⟨b, off, none⟩ ∧ b < w.heap.size ∧ ∀ i, i < zs.length → w.cell? ⟨b, off + i, none⟩ = some (.int k (zs.getD i 0)) := by
  rcases h with rfl | h
  · simp at hp
  · exact h

/-- A slice that was just written out reads as its list, wherever its number is spelled. -/
theorem has_lit {w : World} {e : TypeId} {k : IntKind} {zs : List Int} {g : Nat} (hg : w.heap.size = g) (hl : zs.length ≤ maxLen) : Has k (w.alloc (.cells (zs.map (Value.int k)).toArray e)) (some ⟨g, 0, none⟩) zs := by
  subst hg
  exact (OwnI.lit w e k zs w.heap.size (Nat.le_refl _) hl).has

/-- Behind a step that has written one row alone, another row of the call's own. -/
theorem OwnI.kept {w w' : World} {B : Nat} {e : TypeId} {k : IntKind} {v : Value} {zs : List Int} {row : Option Nat} (h : OwnI w B e k v zs) (hg : w.grownBy w' row) (hne : v.ownBlock = none ∨ v.ownBlock ≠ row) : OwnI w' B e k v zs :=
  World.ownsRow.kept h hg hne

section
variable {P : Program} (w : World)

/-- append of integers onto a row of the call's own. -/
theorem run_append_I (t ty e : TypeId) (i : TypeInfo) (z : Value) (bytes : Nat) (ht : P.underlying t = some (.slice e)) (hi : P.info? e = some i) (hz : i.zero = some z) (hsize : i.size = 1) (hby : i.bytes = bytes) (hzs : z.cells.size = 1)
    (base : Nat) (k : IntKind) (v : Value) (zs : List Int) (hown : OwnI w base e k v zs) (A : Option Addr) (c : Nat) (ys : List Int) (hr : Has k w A ys)
    (h63 : zs.length + ys.length ≤ maxLen) (hbytes : (zs.length + ys.length) * bytes ≤ 140737488355328) (hbase : base ≤ w.heap.size) :
    ∃ A' c' w', (Builtin.append_ #[t, t] ty #[v, .slice A ys.length c]).run P w = .ok (.slice A' (zs.length + ys.length) c') w' ∧ OwnI w' base e k (.slice A' (zs.length + ys.length) c') (zs ++ ys) ∧ w.grownBy w' v.ownBlock ∧ Below base w w' := by
  have hB : ∀ g, v.ownBlock = some g → base ≤ g := fun g hg => (World.ownsRow.lt hown g hg).1
  rcases A with _ | ad
  · have hys : ys = [] := by
      rcases hr with h | ⟨b, off, ha, _⟩
      · exact h
      · cases ha
    subst hys
    have hrun : (Builtin.append_ #[t, t] ty #[v, .slice none 0 c]).run P w = .ok v w := by
      rcases hown.2 with ⟨rfl, h0⟩ | ⟨g, cap, cur, rfl, _, _, hnc, _⟩
      · simp [Builtin.append_, run_underlying ht, sizeOf, typeInfo, hi, Builtin.lenOf, Builtin.firstCells]
      · simp [Builtin.append_, run_underlying ht, sizeOf, typeInfo, hi, Builtin.lenOf, Builtin.firstCells, hnc, storeCells]
    obtain ⟨A', c', rfl, _⟩ := hown.val
    exact ⟨A', c', w, by simpa using hrun, by simpa using hown, World.grownBy.refl w _, Below.refl _ _⟩
  · obtain ⟨v', w', hrun, h2, h3, _, h5⟩ := run_append_own_at (P := P) w base t ty e i z 1 bytes ht hi hz hsize hby hzs (by omega) v zs.length _ hown ad ys.length c (ys.map (Value.int k)) (by simp) hr.cells one_ints h63 hbytes hbase
    have h2' : OwnI w' base e k v' (zs ++ ys) := by
      unfold OwnI; rw [List.map_append, List.length_append]; exact h2
    obtain ⟨A', c', e1, _⟩ := h2'.val
    rw [List.length_append] at e1
    subst e1
    exact ⟨A', c', w', hrun, h2', h3, (Below.refl _ _).grown h3 hbase hB⟩

theorem wpList_append_I {ops : Array Oper} {rest : List Oper} {o : Oper} {a : Act} {Q : Exit → Act → World → Prop} (hgd : o.guard = none) (s x : Operand) (t : TypeId)
    (ho : o.op = .call { callee := .builtin .append, args := #[s, x], argTypes := #[t, t] })
    (e : TypeId) (i : TypeInfo) (z : Value) (bytes : Nat) (ht : P.underlying t = some (.slice e)) (hi : P.info? e = some i) (hz : i.zero = some z) (hsize : i.size = 1) (hby : i.bytes = bytes) (hzs : z.cells.size = 1)
    (base : Nat) (k : IntKind) (v : Value) (zs : List Int) (hs : a.eval s = v) (hown : OwnI w base e k v zs) (A : Option Addr) (m c : Nat) (ys : List Int) (hx : a.eval x = .slice A m c) (hm : ys.length = m) (hr : Has k w A ys)
    (tot : Nat) (htot : zs.length + m = tot) (h63 : tot ≤ maxLen) (hbytes : tot * bytes ≤ 140737488355328) (hbase : base ≤ w.heap.size)
    (h : ∀ A' c' w', OwnI w' base e k (.slice A' tot c') (zs ++ ys) → w.grownBy w' v.ownBlock → Below base w w' → wpList P ops Q rest (a.put o.dst (.slice A' tot c')) w') : wpList P ops Q (o :: rest) a w := by
  subst hm
  subst htot
  refine wpList_plain hgd fun K hK => ?_
  obtain ⟨A', c', w', hrun, h2, h3, h4⟩ := run_append_I (P := P) w t o.type e i z bytes ht hi hz hsize hby hzs base k v zs hown A c ys hr h63 hbytes hbase
  unfold Oper.wp execOp
  simp only [ho, resolve, invoke, builtin, Sem.run_bind, Sem.run_pure, Result.andThen_ok, List.map_toArray, List.map_cons, List.map_nil, hs, hx, hrun]
  exact hK _ _ (h A' c' w' h2 h3 h4)

/-- append of integers onto a slice without room and without elements: a copy. -/
theorem run_append_zero (t ty e : TypeId) (i : TypeInfo) (z : Value) (bytes : Nat) (ht : P.underlying t = some (.slice e)) (hi : P.info? e = some i) (hz : i.zero = some z) (hsize : i.size = 1) (hby : i.bytes = bytes) (hzs : z.cells.size = 1)
    (k : IntKind) (D : Option Addr) (A : Option Addr) (c : Nat) (ys : List Int) (hr : Has k w A ys)
    (h63 : ys.length ≤ maxLen) (hbytes : ys.length * bytes ≤ 140737488355328) :
    ∃ A' c' w', (Builtin.append_ #[t, t] ty #[.slice D 0 0, .slice A ys.length c]).run P w = .ok (.slice A' ys.length c') w' ∧ Has k w' A' ys ∧ Below w.heap.size w w' ∧ (ys = [] ∧ A' = D ∧ c' = 0 ∧ w' = w ∨ OwnI w' w.heap.size e k (.slice A' ys.length c') ys) := by
  by_cases h0 : ys = []
  · subst h0
    refine ⟨D, 0, w, ?_, .inl rfl, Below.refl _ _, .inl ⟨rfl, rfl, rfl, rfl⟩⟩
    rcases A with _ | ad <;> rcases D with _ | d <;> simp [Builtin.append_, run_underlying ht, sizeOf, typeInfo, hi, Builtin.lenOf, Builtin.firstCells, loadCells, loadCellsFrom, storeCells]
  · have hp : 0 < ys.length := List.length_pos_iff.2 h0
    obtain ⟨ad, rfl⟩ : ∃ ad, A = some ad := by
      rcases hr with h | ⟨b, off, ha, _⟩
      · exact absurd h h0
      · exact ⟨_, ha⟩
    obtain ⟨v', w', hrun, h2, h3, _, _⟩ := run_append_own_at (P := P) w w.heap.size t ty e i z 1 bytes ht hi hz hsize hby hzs (by omega) (.slice none 0 0) 0 [] (World.ownsRow_nil w _ e 1) ad ys.length c (ys.map (Value.int k)) (by simp) hr.cells one_ints (by omega) (by rw [Nat.zero_add]; exact hbytes) (Nat.le_refl _)
    have h2' : OwnI w' w.heap.size e k v' ys := by
      unfold OwnI; simpa using h2
    obtain ⟨A', c', e1, hh, _⟩ := h2'.val
    subst e1
    refine ⟨A', c', w', ?_, hh, (Below.refl _ _).grown h3 (Nat.le_refl _) (by simp [Value.ownBlock]), .inr h2'⟩
    rw [← hrun]
    rcases D with _ | d
    · rfl
    · have hsrc : Src P i.size t (.slice (some ad) ys.length c) ys.length (ys.map (Value.int k)) w := Src.ofSlice (w := w) (size := i.size) ht ad ys.length c _ (by rw [hsize]; simp) hr.cells one_ints
      have h63' : ((0 + ys.length : Nat) : Int) ≤ 9223372036854775807 := by simp only [maxLen] at h63; omega
      have hfit : Builtin.nextslicecap (0 + ys.length) 0 * i.bytes ≤ 281474976710656 := by
        have e0 : Builtin.nextslicecap (0 + ys.length) 0 = ys.length := by simp [Builtin.nextslicecap, hp]
        rw [e0, hby]; omega
      have r1 := run_append_grow_src (P := P) w t t ty e i z ht hi hz (some d) 0 0 [] (by simp [Builtin.firstCells, loadCells, loadCellsFrom]) (.slice (some ad) ys.length c) ys.length _ hsrc (by omega) h63' hfit
      have r2 := run_append_grow_src (P := P) w t t ty e i z ht hi hz none 0 0 [] (by simp [Builtin.firstCells]) (.slice (some ad) ys.length c) ys.length _ hsrc (by omega) h63' hfit
      exact r1.trans r2.symm

theorem wpList_append_zero {ops : Array Oper} {rest : List Oper} {o : Oper} {a : Act} {Q : Exit → Act → World → Prop} (hgd : o.guard = none) (s x : Operand) (t : TypeId)
    (ho : o.op = .call { callee := .builtin .append, args := #[s, x], argTypes := #[t, t] })
    (e : TypeId) (i : TypeInfo) (z : Value) (bytes : Nat) (ht : P.underlying t = some (.slice e)) (hi : P.info? e = some i) (hz : i.zero = some z) (hsize : i.size = 1) (hby : i.bytes = bytes) (hzs : z.cells.size = 1)
    (k : IntKind) (D : Option Addr) (hs : a.eval s = .slice D 0 0) (A : Option Addr) (m c : Nat) (ys : List Int) (hx : a.eval x = .slice A m c) (hm : ys.length = m) (hr : Has k w A ys)
    (h63 : m ≤ maxLen) (hbytes : m * bytes ≤ 140737488355328)
    (h : ∀ A' c' w', Has k w' A' ys → Below w.heap.size w w' → (ys = [] ∧ A' = D ∧ c' = 0 ∧ w' = w ∨ OwnI w' w.heap.size e k (.slice A' m c') ys) → wpList P ops Q rest (a.put o.dst (.slice A' m c')) w') : wpList P ops Q (o :: rest) a w := by
  subst hm
  refine wpList_plain hgd fun K hK => ?_
  obtain ⟨A', c', w', hrun, h2, h3, h4⟩ := run_append_zero (P := P) w t o.type e i z bytes ht hi hz hsize hby hzs k D A c ys hr h63 hbytes
  unfold Oper.wp execOp
  simp only [ho, resolve, invoke, builtin, Sem.run_bind, Sem.run_pure, Result.andThen_ok, List.map_toArray, List.map_cons, List.map_nil, hs, hx, hrun]
  exact hK _ _ (h A' c' w' h2 h3 h4)
end

/-- 's[n:]' of a slice whose address is known. -/
theorem Has.dropAt {k : IntKind} {w : World} {b off : Nat} {zs : List Int} (h : Has k w (some ⟨b, off, none⟩) zs) (n : Nat) : Has k w (some ⟨b, off + n, none⟩) (zs.drop n) := by
  rcases Nat.lt_or_ge n zs.length with hlt | hge
  · rcases h with rfl | ⟨b', off', ha, hb, hcl⟩
    · simp at hlt
    · injection ha with ha
      injection ha with e1 e2 _
      subst e1 e2
      refine .inr ⟨b, off + n, rfl, hb, fun i hi => ?_⟩
      have hi' : n + i < zs.length := by have : i < zs.length - n := by simpa using hi
                                         omega
      have e : (zs.drop n).getD i 0 = zs.getD (n + i) 0 := by simp only [List.getD_eq_getElem?_getD, List.getElem?_drop]
      rw [e, Nat.add_assoc]; exact hcl _ hi'
  · exact .inl (by simp; omega)
theorem has_gone {k : IntKind} {w : World} {A : Option Addr} {zs : List Int} {n : Nat} (h : zs.length ≤ n) : Has k w A (zs.drop n) := .inl (by simp; omega)
/-- A store into another block leaves it. -/
theorem Has.set {k : IntKind} {w : World} {A : Option Addr} {zs : List Int} (h : Has k w A zs) {p : Addr} (hne : ∀ a, A = some a → a.block ≠ p.block) (v : Value) : Has k (w.setCell p v) A zs := by
  rcases h with rfl | ⟨b, off, rfl, hb, hc⟩
  · exact .inl rfl
  · refine .inr ⟨b, off, rfl, by simpa [World.setCell] using hb, fun i hi => ?_⟩
    have e := Below.heap_setCell w p v b (hne _ rfl)
    have := hc i hi
    simp only [World.cell?] at *
    rw [e]; exact this
end Go.Proofs.Ythckpenindchlaa.base
