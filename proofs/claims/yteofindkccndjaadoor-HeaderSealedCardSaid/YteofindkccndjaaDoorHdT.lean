/- The variables' cells, out of what the rows list. -/
import Derived.Test.YteofindkccndjaaDoorHdL1
import Derived.Lib.LaidTab
import Derived.LaidSub
namespace Go.Proofs.YteofindkccndjaaDoor.hdL
set_option maxRecDepth 100000
open Go.ChangeShapes Go.WideShapes Go.ChangeAt Go.RowKit
open Go.Proofs.YteofindkccndjaaDoor.base Go.Proofs.YteofindkccndjaaDoor.hdP Go.Proofs.YteofindkccndjaaDoor.hdW
set_option maxRecDepth 100000
def pD {H : Type} (a b : Int) : DataW H := .agg [.lit (.int .i64 a), .lit (.int .i64 b)]
def partsD {H : Type} : DataW H := .agg [pD 0 1, pD 1 1, pD 2 2, pD 4 2, pD 6 2]
theorem row_cells {H : Type} {enc : TypeId × Value → H} {W : World} {base : Nat} {sp : Nat → Bool} {held : Bool} {fuel : Nat} {cs : List Value} {a b : Int} {p : List MemPlace}
    (h : DataW.trod enc Tryd.prog W base sp held fuel 58 cs = some (pD a b, p)) : cs = [.int .i64 a, .int .i64 b] := by
  obtain ⟨y0, y1, n, hx, hl, h0, h1⟩ := trod_struct2 Tryd.underlying58 h
  have hc : Tryd.prog.cellsOf 58 = 2 := by kernel_rfl
  have hc1 : Tryd.prog.cellsOf 3 = 1 := by kernel_rfl
  rw [hc] at hl
  injection hx with hx1 hx2
  injection hx1 with hx3
  injection hx3 with e0 hx4
  injection hx4 with e1 _
  obtain ⟨c0, q0, d0, w0⟩ := DataW.trod_int Tryd.underlying3 h0
  obtain ⟨c1, q1, d1, w1⟩ := DataW.trod_int Tryd.underlying3 h1
  subst d0 d1
  injection e0 with e0
  injection e0 with _ e0
  injection e1 with e1
  injection e1 with _ e1
  subst e0 e1
  have hc1' : Tryd.prog.cellsOf 3 = 1 := hc1
  match cs, hl with
  | [x, y], _ =>
    have q0 : List.take (Tryd.prog.cellsOf 3) (List.drop 0 [x, y]) = [.int .i64 a] := q0
    have q1 : List.take (Tryd.prog.cellsOf 3) (List.drop 1 [x, y]) = [.int .i64 b] := q1
    rw [hc1] at q0 q1
    injection q0 with q0
    injection q1 with q1
    rw [q0, q1]
theorem parts_cells {H : Type} {enc : TypeId × Value → H} {W : World} {base : Nat} {sp : Nat → Bool} {held : Bool} {fuel : Nat} {cs : List Value} {p : List MemPlace}
    (h : DataW.trod enc Tryd.prog W base sp held fuel 59 cs = some (partsD, p)) : cs = parts.map (Value.int .i64) := by
  obtain ⟨xs, m, -, hx, hl, hn, hall⟩ := DataW.trod_array Tryd.underlying59 h
  have hc : Tryd.prog.cellsOf 59 = 10 := by kernel_rfl
  have hc2 : Tryd.prog.cellsOf 58 = 2 := by kernel_rfl
  rw [hc] at hl
  rw [hc2] at hall
  match xs, hn with
  | [x0, x1, x2, x3, x4], _ =>
    injection hx with hx1 hx2
    injection hx1 with hx3
    simp only [List.map_cons, List.map_nil, List.cons.injEq, and_true] at hx3
    obtain ⟨e0, e1, e2, e3, e4⟩ := hx3
    obtain ⟨d0, p0⟩ := x0
    obtain ⟨d1, p1⟩ := x1
    obtain ⟨d2, p2⟩ := x2
    obtain ⟨d3, p3⟩ := x3
    obtain ⟨d4, p4⟩ := x4
    simp only [] at e0 e1 e2 e3 e4
    subst e0 e1 e2 e3 e4
    have h0 := row_cells (hall 0 (by omega))
    have h1 := row_cells (hall 1 (by omega))
    have h2 := row_cells (hall 2 (by omega))
    have h3 := row_cells (hall 3 (by omega))
    have h4 := row_cells (hall 4 (by omega))
    match cs, hl with
    | [c0, c1, c2, c3, c4, c5, c6, c7, c8, c9], _ =>
      simp at h0 h1 h2 h3 h4
      simp [parts, h0, h1, h2, h3, h4]
def layP : Obj → Obj
  | .cells _ t frozen => .cells (parts.map (Value.int .i64)).toArray t frozen
  | o => o
def layS : Obj → Obj
  | .cells _ t frozen => .cells (shW.rows5.map (Value.int .u32)).toArray t frozen
  | o => o
theorem tab_of {W : World} {g : Nat} (hg : Tryd.prog.globalNamed "bitloft/header.parts" = some g) (hty : (Tryd.prog.globals[g]?).map (·.type) = some 59) (he : g = 0)
    (h : laidMet Tryd.prog [("bitloft/header.parts", partsD)] W) : TabP W := by
  subst he
  obtain ⟨ps, ⟨g', t', cs, fuel, p, q, hg', ht', hvar, hd, _, _⟩, _⟩ := h
  obtain rfl := Option.some.inj (hg.symm.trans hg')
  obtain rfl := Option.some.inj (hty.symm.trans ht')
  have hc := parts_cells hd
  have key : ∀ i, i < 10 → W.cell? ⟨0, i, none⟩ = some (.int .i64 (parts.getD i 0)) := by
    intro i hi
    rw [World.var?_cell hg hvar i, ← Array.getElem?_toList, hc, List.getElem?_map, List.getD_eq_getElem?_getD, List.getElem?_eq_getElem (by simp [parts]; omega)]
    rfl
  exact ⟨lt_of_cell (key 0 (by omega)), key⟩
end Go.Proofs.YteofindkccndjaaDoor.hdL
