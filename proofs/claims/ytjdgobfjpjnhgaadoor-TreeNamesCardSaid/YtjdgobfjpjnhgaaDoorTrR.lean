/- Lists of strings cut; the examples' values; digests that equal themselves. -/
import Derived.Test.YtjdgobfjpjnhgaaDoorPk0
import Derived.Lib.SmallJoins
import Derived.Lib.SlBytesConst
namespace Go.Proofs.YtjdgobfjpjnhgaaDoor.trW
set_option maxRecDepth 100000
open Go.RowKit Go.Proofs.YtjdgobfjpjnhgaaDoor.base Go.Proofs.YtjdgobfjpjnhgaaDoor.shP Go.Proofs.YtjdgobfjpjnhgaaDoor.shW Go.Proofs.YtjdgobfjpjnhgaaDoor.trP
set_option linter.unusedVariables false
set_option linter.unusedSimpArgs false
set_option maxRecDepth 100000
theorem has_mark {w : World} {e : TypeId} {zs : List Int} {g : Nat} {fr : Nat × Nat} (hg : w.heap.size = g) : Has .u8 (w.alloc (.cells (zs.map (Value.int .u8)).toArray e fr)) (some ⟨g, 0, none⟩) zs := by
  refine .inr ⟨g, 0, rfl, by rw [← hg]; simp, fun i hi => ?_⟩
  rw [Joins.cell_alloc_mark_at w _ e fr g _ hg.symm, Nat.zero_add]
  simp [List.getD_eq_getElem?_getD, List.getElem?_eq_getElem hi]
theorem inr_mark (w : World) (zs : List Int) (fr : Nat × Nat) (hl : zs.length ≤ 10000) (hb : ∀ z ∈ zs, 0 ≤ z ∧ z ≤ 255) {g n : Nat} (hg : w.heap.size = g) (hn : zs.length = n) : InR (w.alloc (.cells (zs.map (Value.int .u8)).toArray 5 fr)) ⟨some ⟨g, 0, none⟩, n, n, zs⟩ :=
  ⟨has_mark hg, hn, Nat.le_refl _, by show n ≤ 9223372036854775807; omega, hb⟩
theorem hasL_take {w : World} {P : Option Addr} {rs : List R8} (h : HasL w P rs) (k : Nat) : HasL w P (rs.take k) := by
  refine ⟨?_, fun r hr => h.all r (List.mem_of_mem_take hr)⟩
  rcases h.at_ with h0 | ⟨b, off, rfl, hb, hc⟩
  · left; rw [h0]; simp
  · right
    refine ⟨b, off, rfl, hb, fun i hi => ?_⟩
    have h1 : i < rs.length := by rw [List.length_take] at hi; omega
    rw [hc i h1]
    have : (rs.take k).getD i r80 = rs.getD i r80 := by
      rw [List.getD_eq_getElem?_getD, List.getD_eq_getElem?_getD, List.getElem?_take, if_pos (by rw [List.length_take] at hi; omega)]
    rw [this]
theorem rowCell {w : World} {b off m d : Nat} {rs : List R8} (h : RowsB w (some ⟨b, off, none⟩) m d rs) (k : Nat) (hk : k < m) (w' : World) (hb : Below w.heap.size w w') : w'.cell? ⟨b, off + k, none⟩ = some (.slice (rs.getD k r80).A (rs.getD k r80).n (rs.getD k r80).c) := by
  have h' := h.below hb (Nat.le_refl _)
  have hl := h.l
  obtain ⟨b', off', e, _, hc⟩ := h'.h.some (by omega)
  injection e with e
  injection e with e1 e2
  subst e1 e2
  exact hc k (by omega)
theorem hasL_drop {w : World} {b off : Nat} {rs : List R8} (h : HasL w (some ⟨b, off, none⟩) rs) (k : Nat) (hk : k < rs.length) : HasL w (some ⟨b, off + k, none⟩) (rs.drop k) := by
  refine ⟨?_, fun r hr => h.all r (List.mem_of_mem_drop hr)⟩
  obtain ⟨b', off', e, hb, hc⟩ := h.some (by omega)
  injection e with e
  injection e with e1 e2
  subst e1 e2
  right
  refine ⟨b, off + k, rfl, hb, fun i hi => ?_⟩
  have h1 : k + i < rs.length := by rw [List.length_drop] at hi; omega
  rw [Nat.add_assoc, hc (k + i) h1]
  have : (rs.drop k).getD i r80 = rs.getD (k + i) r80 := by
    rw [List.getD_eq_getElem?_getD, List.getD_eq_getElem?_getD, List.getElem?_drop]
  rw [this]
theorem rowsB_take {w : World} {P : Option Addr} {m d k : Nat} {rs : List R8} (h : RowsB w P m d rs) (hk : k ≤ m) : RowsB w P k d (rs.take k) :=
  ⟨by rw [List.length_take, h.l]; omega, by have := h.c1; omega, h.c2, hasL_take h.h k⟩
theorem rowsB_drop {w : World} {b off m d k : Nat} {rs : List R8} (h : RowsB w (some ⟨b, off, none⟩) m d rs) (hk : k < m) : RowsB w (some ⟨b, off + k, none⟩) (m - k) (d - k) (rs.drop k) :=
  ⟨by rw [List.length_drop, h.l], by have := h.c1; omega, by have := h.c2; omega, hasL_drop h.h k (by rw [h.l]; exact hk)⟩
theorem ch_take {rs : List R8} (h : chB rs = true) (k : Nat) : chB (rs.take k) = true := by
  unfold chB at h ⊢
  rw [Bool.and_eq_true] at h ⊢
  exact ⟨by have := h.1; simp at this ⊢; omega, List.all_eq_true.2 fun x hx => List.all_eq_true.1 h.2 x (List.mem_of_mem_take hx)⟩
theorem ch_drop {rs : List R8} (h : chB rs = true) (k : Nat) : chB (rs.drop k) = true := by
  unfold chB at h ⊢
  rw [Bool.and_eq_true] at h ⊢
  exact ⟨by have := h.1; simp at this ⊢; omega, List.all_eq_true.2 fun x hx => List.all_eq_true.1 h.2 x (List.mem_of_mem_drop hx)⟩
theorem lvs_take (rs : List R8) (k : Nat) : lvs (rs.take k) = (lvs rs).take k := by unfold lvs; rw [List.map_take]
theorem lvs_drop (rs : List R8) (k : Nat) : lvs (rs.drop k) = (lvs rs).drop k := by unfold lvs; rw [List.map_drop]
theorem half3 : half 3 = 2 := by decide +kernel
theorem half2 : half 2 = 1 := by decide +kernel
theorem st30 : (sdL 3 0).length = 2 ∧ sdE 3 0 = 0 := by
  rw [(sd_yes (n := 3) (i := 0) (by decide)).1, (sd_yes (n := 3) (i := 0) (by decide)).2]
  refine ⟨?_, rfl⟩
  show (sidesT 3 0).length = 2
  rw [sides_step (by omega), half3, if_pos (by omega), sides_step (by omega), half2, if_pos (by omega), sides_one (by omega)]; rfl
theorem st31 : (sdL 3 1).length = 2 ∧ sdE 3 1 = 0 := by
  rw [(sd_yes (n := 3) (i := 1) (by decide)).1, (sd_yes (n := 3) (i := 1) (by decide)).2]
  refine ⟨?_, rfl⟩
  show (sidesT 3 1).length = 2
  rw [sides_step (by omega), half3, if_pos (by omega), sides_step (by omega), half2, if_neg (by omega), sides_one (by omega)]; rfl
theorem st32 : (sdL 3 2).length = 1 ∧ sdE 3 2 = 0 := by
  rw [(sd_yes (n := 3) (i := 2) (by decide)).1, (sd_yes (n := 3) (i := 2) (by decide)).2]
  refine ⟨?_, rfl⟩
  show (sidesT 3 2).length = 1
  rw [sides_step (by omega), half3, if_neg (by omega), sides_one (by omega)]; rfl
theorem ch_of {rs : List R8} (h1 : rs.length ≤ 600) (h2 : ∀ r ∈ rs, r.b.length ≤ 10000) : chB rs = true := by
  refine ch_yes h1 (fun k hk => ?_)
  rw [List.getD_eq_getElem?_getD, List.getElem?_eq_getElem hk]
  exact h2 _ (List.getElem_mem hk)
theorem root0 : rtV [] = zd ∧ chE [] = 0 := by
  have h : chB [] = true := ch_of (by simp) (by simp)
  exact ⟨by rw [rtV_yes h]; exact rootT_nil _ _, chE_yes h⟩
theorem root1 {r : R8} (h : r.b.length ≤ 10000) : rtV [r] = leafD r.b ∧ chE [r] = 0 := by
  have h : chB [r] = true := ch_of (by simp) (by simp; exact h)
  exact ⟨by rw [rtV_yes h]; exact rootT_one _ _ _, chE_yes h⟩
theorem root3 {r s t : R8} (h1 : r.b.length ≤ 10000) (h2 : s.b.length ≤ 10000) (h3 : t.b.length ≤ 10000) : rtV [r, s, t] = nodeD (nodeD (leafD r.b) (leafD s.b)) (leafD t.b) ∧ chE [r, s, t] = 0 := by
  have h : chB [r, s, t] = true := ch_of (by simp) (by simp; exact ⟨h1, h2, h3⟩)
  refine ⟨?_, chE_yes h⟩
  rw [rtV_yes h]
  show rtD [leafD r.b, leafD s.b, leafD t.b] = _
  rw [rt_two (ls := [leafD r.b, leafD s.b, leafD t.b]) (k := 2) (by simp) half3]
  show nodeD (rtD [leafD r.b, leafD s.b]) (rtD [leafD t.b]) = _
  rw [rt_two (ls := [leafD r.b, leafD s.b]) (k := 1) (by simp) half2]
  show nodeD (nodeD (rtD [leafD r.b]) (rtD [leafD s.b])) (rtD [leafD t.b]) = _
  rw [rt_one rfl, rt_one rfl, rt_one rfl]; rfl
theorem wp_eqs {ops : Array Oper} {rest : List Oper} {o : Oper} {a : Act} {w : World} {Q : Exit → Act → World → Prop} {l : List Int} (hw : Region.wanted o (yielded ops a.tmps) = true) (x y : Operand) (t : TypeId) (ho : o.op = .binOp .eql 26 x y t) (hl : IsD l)
    (hx : a.eval x = .agg (darr l)) (hy : a.eval y = .agg (darr l)) (H : wpList Tryd.prog ops Q rest (a.put o.dst (.bool true)) w) : wpList Tryd.prog ops Q (o :: rest) a w := by
  refine wp_eql hw x y t ho hl hl hx hy ?_
  rw [decide_eq_true rfl]; exact H
end Go.Proofs.YtjdgobfjpjnhgaaDoor.trW
