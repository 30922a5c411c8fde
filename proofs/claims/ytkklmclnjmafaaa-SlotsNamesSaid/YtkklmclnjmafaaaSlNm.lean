/- What SlotsNames asks, by itself; what region 9 builds. -/
import Derived.Test.YtkklmclnjmafaaaSlA2
import Derived.Test.YtkklmclnjmafaaaFlow
namespace Go.Proofs.Ytkklmclnjmafaaa.slP
set_option maxRecDepth 100000
open Go.Proofs.Ytkklmclnjmafaaa.base
set_option linter.unusedVariables false
set_option maxRecDepth 100000
def nm7 : TV := nwT 7
def nm0 : TV := nwT 0
def nmB : List Int := nm0.fl.set 255 193
theorem nm_e : nwE (-1) = 2 ∧ nwE 8 = 2 ∧ nwE 7 = 0 ∧ nwE 0 = 0 := by decide +kernel
theorem nm_n : nm7.n = 2048 ∧ nm0.n = 16 ∧ nm0.lv = 0 ∧ nm7.lv = 7 ∧ nm0.fl.length = 256 := by decide +kernel
theorem nm_ok : okB 0 16 nm0.fl = true := by decide +kernel
theorem nm_bd : (∀ z ∈ nm0.fl, 0 ≤ z ∧ z ≤ 255) ∧ ∀ z ∈ nmB, 0 ≤ z ∧ z ≤ 255 := by decide +kernel
theorem nm_bad4 : okB 0 16 nmB = false := by decide +kernel
theorem nm_bad0 : okB 0 0 [] = false := by decide +kernel
theorem nm_bad1 (fl : List Int) : okB 8 4096 fl = false := rfl
theorem nm_bad2 (fl : List Int) : okB (-1) 8 fl = false := rfl
theorem nm_bad3 (fl : List Int) : okB 1 16 fl = false := rfl
/-- The tables that follow from the zero one. -/
def nmS : TV := setT 0 16 nm0.fl 15 15 192
def nmF : TV := fdT 0 16 nm0.fl 9
def nmG : TV := fdT 0 16 nm0.fl 4294967289
def nmH : TV := bitT nmG.lv nmG.n nmG.fl 9 1 0
theorem nm_g : atE 0 16 nm0.fl 16 1 = 2 ∧ atE 0 16 nm0.fl 0 16 = 2 ∧ atE 0 16 nm0.fl 0 0 = 2 ∧ stE' 0 16 nm0.fl (-1) 1 0 = 2 ∧ stE' 0 16 nm0.fl 0 1 193 = 2 ∧ bitE 0 16 nm0.fl 0 1 2 = 2 := by decide +kernel
theorem nm_s : stE' 0 16 nm0.fl 15 15 192 = 0 ∧ atE nmS.lv nmS.n nmS.fl 15 15 = 0 ∧ gtV nmS.lv nmS.n nmS.fl 15 15 = 192 := by decide +kernel
theorem nm_f : fdP 0 16 nm0.fl 9 = 9 ∧ okE 0 16 nm0.fl = 0 ∧ fdP 0 16 nm0.fl 4294967289 = 9 := by decide +kernel
theorem nm_f2 : nmF.lv = 0 ∧ nmF.n = 16 ∧ nmF.fl = nm0.fl := by decide +kernel
theorem nm_h : bitE nmG.lv nmG.n nmG.fl 9 1 0 = 0 ∧ fdP nmH.lv nmH.n nmH.fl 16777225 = 8 ∧ okE nmH.lv nmH.n nmH.fl = 0 := by decide +kernel
theorem nm_lv : nmS.lv = 0 ∧ nmG.lv = 0 ∧ nmH.lv = 0 := by decide +kernel
theorem nm_bd2 : (∀ z ∈ nmS.fl, 0 ≤ z ∧ z ≤ 255) ∧ (∀ z ∈ nmG.fl, 0 ≤ z ∧ z ≤ 255) ∧ (∀ z ∈ nmH.fl, 0 ≤ z ∧ z ≤ 255) := by decide +kernel
/-- Where a table is not valid every answer is 8. -/
theorem all8 {lv : Int} {n : Nat} {fl : List Int} (h : okB lv n fl = false) (p k x y : Int) : atE lv n fl p k = 8 ∧ stE' lv n fl p k x = 8 ∧ bitE lv n fl p k y = 8 ∧ okE lv n fl = 8 := by
  have h' : ¬ okB lv n fl = true := by rw [h]; decide
  have a := at_bad (p := p) (k := k) h'
  exact ⟨a, (set_bad (x := x) (by rw [a]; decide)).1.trans a, (bit_bad (x := y) (by rw [a]; decide)).1.trans a, okE_bad h'⟩
end Go.Proofs.Ytkklmclnjmafaaa.slP
namespace Go.Proofs.Ytkklmclnjmafaaa.slW
set_option maxRecDepth 100000
open Go.RowKit Go.Proofs.Ytkklmclnjmafaaa.base Go.Proofs.Ytkklmclnjmafaaa.slP
theorem InS.other {w : World} {A : Option Addr} {n c : Nat} {fl : List Int} (k : InS w A n c fl) {p : Addr} (hp : ∀ b off, A = some ⟨b, off, none⟩ → p.block ≠ b) (v : Value) : InS (w.setCell p v) A n c fl := by
  refine ⟨?_, k.e, k.c1, k.c2, k.b⟩
  rcases k.h with h | ⟨b, off, ha, hlt, hc⟩
  · exact .inl h
  · refine .inr ⟨b, off, ha, by simpa [World.setCell] using hlt, fun i hi => ?_⟩
    rw [← hc i hi]
    simp [World.cell?, Below.heap_setCell w p v b (fun e => hp b off ha e.symm)]
end Go.Proofs.Ytkklmclnjmafaaa.slW
