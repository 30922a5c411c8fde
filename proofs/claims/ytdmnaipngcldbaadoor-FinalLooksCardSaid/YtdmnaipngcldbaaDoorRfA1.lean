/- A refiner in a variable's block. -/
import Derived.Test.YtdmnaipngcldbaaDoorRfWH
namespace Go.Proofs.YtdmnaipngcldbaaDoor.rfW
set_option maxRecDepth 100000
open Go.RowKit Go.Proofs.YtdmnaipngcldbaaDoor.base Go.Proofs.YtdmnaipngcldbaaDoor.rfP
set_option linter.unusedVariables false
structure RfAt (w : World) (g : Nat) (A : Option Addr) (n d : Nat) (qs : List RY) : Prop where
  lies : Lies w g 24 [.slice A n d]
  rows : RowsY w A n d qs
section
variable {w w' : World} {g : Nat} {A : Option Addr} {n d : Nat} {qs : List RY}
theorem RfAt.past (h : RfAt w g A n d qs) (hb : Below w.heap.size w w') : RfAt w' g A n d qs := ⟨h.lies.past hb, h.rows.past hb⟩
theorem RfAt.alloc (h : RfAt w g A n d qs) (o : Obj) : RfAt (w.alloc o) g A n d qs := h.past ((Below.refl _ _).alloc (Nat.le_refl _) _)
theorem RfAt.cell (h : RfAt w g A n d qs) : w.cell? ⟨g, 0, none⟩ = some (.slice A n d) := h.lies.cell 0
theorem rfAt_new (h : RowsY w A n d qs) : RfAt (w.alloc (.cells #[.slice A n d] 24)) w.heap.size A n d qs := ⟨Lies.fresh _ _ _, h.past ((Below.refl _ _).alloc (Nat.le_refl _) _)⟩
end
theorem below_b {w w1 w2 : World} {B : Nat} (h : Below B w w1) (hB : B ≤ w1.heap.size) (hb : Below w1.heap.size w1 w2) : Below B w w2 := h.trans (hb.mono hB)
theorem below_bs {w w1 w2 : World} (h : Below w.heap.size w w1) (hb : Below w1.heap.size w1 w2) : Below w.heap.size w w2 := h.trans (hb.mono h.size)
theorem below_al {w w1 : World} (h : Below w.heap.size w w1) (o : Obj) : Below w.heap.size w (w1.alloc o) := h.alloc h.size o
end Go.Proofs.YtdmnaipngcldbaaDoor.rfW
