/- The chapter's examples of rings, by a walk. -/
import Derived.Test.YtbdipdnnjbpibaaRgL2
import Derived.BigQuiet
namespace Go.Proofs.Ytbdipdnnjbpibaa.rgL
open Go.RowKit Go.Proofs.Ytbdipdnnjbpibaa.base Go.Proofs.Ytbdipdnnjbpibaa.rgP Go.Proofs.Ytbdipdnnjbpibaa.rgW
set_option linter.unusedVariables false
set_option linter.unusedSimpArgs false

theorem has_mark {w : World} {e : TypeId} {zs : List Int} {g : Nat} {fr : Nat × Nat} (hg : w.heap.size = g) : Has .u8 (w.alloc (.cells (zs.map (Value.int .u8)).toArray e fr)) (some ⟨g, 0, none⟩) zs := by
  refine .inr ⟨g, 0, rfl, by rw [← hg]; simp, fun i hi => ?_⟩
  rw [Joins.cell_alloc_mark_at w _ e fr g _ hg.symm, Nat.zero_add]
  simp [List.getD_eq_getElem?_getD, List.getElem?_eq_getElem hi]
theorem has_drew {w : World} {k : IntKind} {A : Option Addr} {zs : List Int} (h : Has k w A zs) : Has k w.drew A zs := h
theorem has_alloc {w : World} {k : IntKind} {A : Option Addr} {zs : List Int} (h : Has k w A zs) (o : Obj) : Has k (w.alloc o) A zs := h.below ((Below.refl _ _).alloc (Nat.le_refl _) _) (Nat.le_refl _)
theorem _root_.Go.Proofs.Ytbdipdnnjbpibaa.base.RgIn.own {w w' : World} {A : Option Addr} {n c B : Nat} {r : Rg} (h : RgIn w A n c r) (o : OwnZ w' B (.slice A n c) r.b) : RgIn w' A n c r := ⟨h.l1, h.l2, h.n1, h.n2, o.has, h.e, h.c1, h.c2, h.b⟩
theorem y3 {w : World} {g : Nat} {t : TypeId} {a b c : Value} (h : Lies w g t [a, b, c]) : w.cell? ⟨g, 0, none⟩ = some a ∧ w.cell? ⟨g, 1, none⟩ = some b ∧ w.cell? ⟨g, 2, none⟩ = some c := ⟨h.three.1, h.three.2.1, h.three.2.2.1⟩
end Go.Proofs.Ytbdipdnnjbpibaa.rgL
