/- Setting and setting back, by itself. -/
import Derived.Test.YtkklmclnjmafaaaSlPl3
namespace Go.Proofs.Ytkklmclnjmafaaa.slP
set_option maxRecDepth 100000
open Go.Proofs.Ytkklmclnjmafaaa.base
set_option linter.unusedVariables false
set_option linter.unusedSimpArgs false
theorem wi_at (lv : Int) (n : Nat) (fl : List Int) (pn kn : Nat) (x : Int) : wiT lv n fl (pn : Int) ((kn : Int) + 1) x = ⟨lv, n, fl.set (16 * pn + 1 + kn) x⟩ := by
  unfold wiT
  rw [show (pn : Int).toNat = pn by omega, show ((kn : Int) + 1).toNat - 1 = kn by omega]
theorem pos_at {n pn kn : Nat} (hp : pn < n) (hk : kn < 15) : posB n (pn : Int) ((kn : Int) + 1) := ⟨by omega, by omega, by omega, by omega⟩
theorem only_set {lv : Int} {n : Nat} {fl : List Int} {pn kn : Nat} {x : Int} (hok : okB lv n fl = true) (hp : pn < n) (hk : kn < 15) (hx : x < 193) :
    stE' lv n fl (pn : Int) ((kn : Int) + 1) x = 0 ∧ setT lv n fl (pn : Int) ((kn : Int) + 1) x = ⟨lv, n, fl.set (16 * pn + 1 + kn) x⟩ := by
  have h := set_ok (at_ok hok (pos_at hp hk)) hx
  rw [wi_at] at h; exact h
theorem only_get {lv : Int} {n : Nat} {fl : List Int} {pn kn : Nat} (hok : okB lv n fl = true) (hp : pn < n) (hk : kn < 15) :
    atE lv n fl (pn : Int) ((kn : Int) + 1) = 0 ∧ gtV lv n fl (pn : Int) ((kn : Int) + 1) = stA fl pn kn := by
  have h := at_ok hok (pos_at hp hk)
  refine ⟨h, ?_⟩
  rw [gtV, if_pos h, show (pn : Int).toNat = pn by omega, show ((kn : Int) + 1).toNat - 1 = kn by omega]
theorem only_bit {lv : Int} {n : Nat} {fl : List Int} {pn kn : Nat} {y : Int} (hok : okB lv n fl = true) (hp : pn < n) (hk : kn < 15) (hy : y ≤ 1) :
    bitE lv n fl (pn : Int) ((kn : Int) + 1) y = 0 ∧ bitT lv n fl (pn : Int) ((kn : Int) + 1) y = ⟨lv, n, fl.set (16 * pn + 1 + kn) (stP.sNext (stA fl pn kn) y)⟩ := by
  have h := bit_ok (at_ok hok (pos_at hp hk)) hy
  rw [wi_at, show (pn : Int).toNat = pn by omega, show ((kn : Int) + 1).toNat - 1 = kn by omega] at h; exact h
theorem set_back {fl : List Int} {n pn kn : Nat} {x : Int} (he : fl.length = n * 16) (hp : pn < n) (hk : kn < 15) : (fl.set (16 * pn + 1 + kn) x).set (16 * pn + 1 + kn) (stA fl pn kn) = fl := by
  rw [List.set_set, stA, List.getD_eq_getElem?_getD, List.getElem?_eq_getElem (by omega)]
  exact List.set_getElem_self _
end Go.Proofs.Ytkklmclnjmafaaa.slP
namespace Go.Proofs.Ytkklmclnjmafaaa.slW
set_option maxRecDepth 100000
open Go.RowKit Go.Proofs.Ytkklmclnjmafaaa.base Go.Proofs.Ytkklmclnjmafaaa.slP
theorem InS.other {w : World} {A : Option Addr} {n c : Nat} {fl : List Int} (k : InS w A n c fl) {p : Addr} (hp : ∀ b off, A = some ⟨b, off, none⟩ → p.block ≠ b) (v : Value) : InS (w.setCell p v) A n c fl := by
  refine ⟨?_, k.e, k.c1, k.c2, k.b⟩
  rcases k.h with h | ⟨b, off, ha, hlt, hc⟩
  · exact .inl h
  · refine .inr ⟨b, off, ha, by simpa [World.setCell] using hlt, fun i hi => ?_⟩
    rw [← hc i hi]
    simp [World.cell?, Below.heap_setCell w p v b (fun e => hp b off ha e.symm)]
end Go.Proofs.Ytkklmclnjmafaaa.slW
