/- The examples. -/
import Derived.Test.YtkklmclnjmafaaaSlT2
namespace Go.Proofs.Ytkklmclnjmafaaa.slP
set_option maxRecDepth 100000
def al0 : TV := nwT 0
def al1 : TV := fdT al0.lv al0.n al0.fl 16777221
def al2 : TV := bitT al1.lv al1.n al1.fl 5 1 1
def al3 : TV := fdT al2.lv al2.n al2.fl 33554437
def al4 : TV := fdT al3.lv al3.n al3.fl 16777221
set_option maxRecDepth 100000
theorem al_e0 : nwE 0 = 0 := by decide +kernel
theorem al_e1 : fdP al0.lv al0.n al0.fl 16777221 = 5 ∧ okE al0.lv al0.n al0.fl = 0 := by decide +kernel
theorem al_e2 : bitE al1.lv al1.n al1.fl 5 1 1 = 0 := by decide +kernel
theorem al_e3 : fdP al2.lv al2.n al2.fl 33554437 = 4 ∧ okE al2.lv al2.n al2.fl = 0 := by decide +kernel
theorem al_e4 : fdP al3.lv al3.n al3.fl 16777221 = 5 ∧ okE al3.lv al3.n al3.fl = 0 := by decide +kernel
theorem al_lv : al0.lv = 0 ∧ al1.lv = 0 ∧ al2.lv = 0 ∧ al3.lv = 0 ∧ al4.lv = 0 := by decide +kernel
theorem al_bd : (∀ z ∈ al0.fl, 0 ≤ z ∧ z ≤ 255) ∧ (∀ z ∈ al1.fl, 0 ≤ z ∧ z ≤ 255) ∧ (∀ z ∈ al2.fl, 0 ≤ z ∧ z ≤ 255) ∧ (∀ z ∈ al3.fl, 0 ≤ z ∧ z ≤ 255) ∧ (∀ z ∈ al4.fl, 0 ≤ z ∧ z ≤ 255) := by decide +kernel
end Go.Proofs.Ytkklmclnjmafaaa.slP
