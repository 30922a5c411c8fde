/- The chapter's examples, by a walk. -/
import Derived.Test.YteofindkccndjaaDoorShL
namespace Go.Proofs.YteofindkccndjaaDoor.shL
set_option maxRecDepth 100000
open Go.RowKit Go.Proofs.YteofindkccndjaaDoor.base Go.Proofs.YteofindkccndjaaDoor.shP Go.Proofs.YteofindkccndjaaDoor.shW
set_option linter.unusedVariables false
set_option linter.unusedSimpArgs false
theorem has_mark {w : World} {e : TypeId} {zs : List Int} {g : Nat} {fr : Nat × Nat} (hg : w.heap.size = g) : Has .u8 (w.alloc (.cells (zs.map (Value.int .u8)).toArray e fr)) (some ⟨g, 0, none⟩) zs := by
  refine .inr ⟨g, 0, rfl, by rw [← hg]; simp, fun i hi => ?_⟩
  rw [Joins.cell_alloc_mark_at w _ e fr g _ hg.symm, Nat.zero_add]
  simp [List.getD_eq_getElem?_getD, List.getElem?_eq_getElem hi]
def rv (r : R8) : Value := .slice r.A r.n r.c
theorem hasL_lit {w : World} {rs : List R8} {g : Nat} (T : TypeId) (hg : w.heap.size = g) (h : ∀ r ∈ rs, InR w r) : HasL (w.alloc (.cells (rs.map rv).toArray T)) (some ⟨g, 0, none⟩) rs := by
  refine ⟨.inr ⟨g, 0, rfl, by rw [← hg]; simp, fun i hi => ?_⟩, fun r hr => (h r hr).below ((Below.refl _ _).alloc (Nat.le_refl _) _) (Nat.le_refl _)⟩
  have L := Lies.fresh_at (t := T) (cs := rs.map rv) hg
  rw [L.cell, Nat.zero_add, List.getElem?_map, List.getD_eq_getElem?_getD, List.getElem?_eq_getElem hi]
  rfl
theorem three_in {w : World} {a c : R8} (h1 : InR w a) (h2 : InR w c) : ∀ r ∈ [a, r80, c], InR w r := by
  intro r hr
  simp only [List.mem_cons, List.not_mem_nil, or_false] at hr
  rcases hr with rfl | rfl | rfl
  · exact h1
  · exact ⟨.inl rfl, rfl, Nat.le_refl _, by decide, by intro z hz; cases hz⟩
  · exact h2
theorem wpList_load_row_g {P : Program} {ops : Array Oper} {rest : List Oper} {o : Oper} {a : Act} {w : World} {Q : Exit → Act → World → Prop} (hw : Region.wanted o (yielded ops a.tmps) = true) (ty : TypeId) (x : Operand) (ho : o.op = .load ty x)
    (g : Nat) (hx : a.eval x = .pointer (some ⟨g, 0, none⟩)) (t : TypeId) (cs : Array Value) (fr : Nat × Nat) (d : TypeDesc) (hg : w.heap[g]? = some (.cells cs t fr))
    (hu : P.underlying ty = some d) (hd : (match d with | .struct _ | .array _ _ => true | _ => false) = true) (hi : (P.info? ty).map (·.size) = some cs.size)
    (h : wpList P ops Q rest (a.put o.dst (.agg cs)) w) : wpList P ops Q (o :: rest) a w :=
  wpList_step fun K hK => by rw [if_pos hw]; exact wp_load_row ty x ho g hx t cs fr d hg hu hd hi (hK _ _ h)
theorem inR_nil (w : World) : InR w r80 := ⟨.inl rfl, rfl, Nat.le_refl _, by decide, by intro z hz; cases hz⟩
def dAbc : List Int := [169, 153, 62, 54, 71, 6, 129, 106, 186, 62, 37, 113, 120, 80, 194, 108, 156, 208, 216, 157]
def aAbc : Array Value := darr dAbc
theorem aAbc_eq (w : World) : (Op.equalIn 10000 23 (.agg aAbc) (.agg aAbc)).run Tryd.prog w = .ok true w := by kernel_rfl
theorem aAbc_one : ∀ u ∈ aAbc.toList, u.oneCell' = true := by
  intro u hu
  simp only [aAbc, darr, List.mem_map] at hu
  obtain ⟨i, _, rfl⟩ := hu
  rfl
theorem aAbc_size : z20.toArray.size = aAbc.size := rfl
theorem aAbc_info : (Tryd.prog.info? 23).map (·.size) = some aAbc.size := by kernel_rfl
theorem sum_abc : sumE [97, 98, 99] = 0 ∧ darr (sumV [97, 98, 99]) = aAbc := by
  refine ⟨by decide +kernel, ?_⟩
  rw [show sumV [97, 98, 99] = dAbc by decide +kernel]; rfl
set_option maxRecDepth 100000 in
theorem dig_abc : digest [97, 98, 99] = dAbc := by decide +kernel
set_option maxRecDepth 100000 in
theorem dig_no : digest [] = [218, 57, 163, 238, 94, 107, 75, 13, 50, 85, 191, 239, 149, 96, 24, 144, 175, 216, 7, 9] := by decide +kernel
theorem pi_abc (A B : Option Addr) (rs : List R8) (h : rs = [⟨A, 1, 1, [97]⟩, r80, ⟨B, 2, 2, [98, 99]⟩]) : piE rs = 0 ∧ darr (piV rs) = aAbc := by
  subst h
  have e : wholeL [⟨A, 1, 1, [97]⟩, r80, ⟨B, 2, 2, [98, 99]⟩] = [97, 98, 99] := rfl
  have := pi_yes (rs := [⟨A, 1, 1, [97]⟩, r80, ⟨B, 2, 2, [98, 99]⟩]) (by simp) (by rw [e]; simp)
  rw [e, dig_abc] at this
  rw [this.1, this.2]; exact ⟨rfl, rfl⟩
attribute [irreducible] aAbc
end Go.Proofs.YteofindkccndjaaDoor.shL
