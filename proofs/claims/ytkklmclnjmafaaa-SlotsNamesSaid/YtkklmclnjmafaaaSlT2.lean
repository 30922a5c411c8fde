/- Bounds of what finding gives; stores that another row does not see. -/
import Derived.Test.YtkklmclnjmafaaaSlN
namespace Go.Proofs.Ytkklmclnjmafaaa.slW
set_option maxRecDepth 100000
open Go.RowKit Go.Proofs.Ytkklmclnjmafaaa.base Go.Proofs.Ytkklmclnjmafaaa.slP
set_option linter.unusedVariables false
set_option linter.unusedSimpArgs false
theorem setL_bd : ∀ (xs : List Int) (o : Nat) {fl : List Int}, (∀ z ∈ fl, 0 ≤ z ∧ z ≤ 255) → (∀ z ∈ xs, 0 ≤ z ∧ z ≤ 255) → ∀ z ∈ setL fl o xs, 0 ≤ z ∧ z ≤ 255
  | [], o, fl, h, _ => h
  | x :: r, o, fl, h, hx => setL_bd r (o + 1) (set_mem h (hx x (by simp)).1 (hx x (by simp)).2) (fun z hz => hx z (by simp [hz]))
theorem newS_bd {h : Int} (h0 : 0 ≤ h) (h1 : h ≤ 4294967295) : ∀ z ∈ newS h, 0 ≤ z ∧ z ≤ 255 := by
  intro z hz
  have hc : 0 ≤ ckN h ∧ ckN h ≤ 255 := by unfold ckN; omega
  unfold newS at hz
  rcases List.mem_cons.1 hz with rfl | hz
  · exact hc
  · have : z = 0 := by simpa using hz
    rw [this]; decide
theorem fdT_bd {lv : Int} {n : Nat} {fl : List Int} {h : Int} (hb : ∀ z ∈ fl, 0 ≤ z ∧ z ≤ 255) (h0 : 0 ≤ h) (h1 : h ≤ 4294967295) : ∀ z ∈ (fdT lv n fl h).fl, 0 ≤ z ∧ z ≤ 255 := by
  unfold fdT zT
  split
  · show ∀ z ∈ fdL fl n h, _
    unfold fdL
    split
    · exact hb
    · exact setL_bd _ _ hb (newS_bd h0 h1)
  · simp
theorem nwT_bd {lv : Int} : ∀ z ∈ (nwT lv).fl, 0 ≤ z ∧ z ≤ 255 := by
  unfold nwT zT
  split
  · intro z hz
    have := List.eq_of_mem_replicate hz
    rw [this]; decide
  · simp
theorem own_low {w : World} {B n c : Nat} {A : Option Addr} {fl : List Int} (k : OwnS w B (.slice A n c) n fl) {p : Addr} (hp : p.block < B) (v : Value) : OwnS (w.setCell p v) B (.slice A n c) n fl := by
  refine ⟨k.1, ?_⟩
  rcases k.2 with h2 | ⟨g', cap, cur, hv, hB, hg, r⟩
  · exact .inl h2
  · exact .inr ⟨g', cap, cur, hv, hB, by rw [Below.heap_setCell w p v g' (by omega)]; exact hg, r⟩
end Go.Proofs.Ytkklmclnjmafaaa.slW
