/- Statements of layer 3 (fixed): dot products, turned. -/
import Derived.Test.YtciefnmocndddaaFixLawsC
import Derived.Test.YtciefnmocndddaaOwnY
import Derived.Deep.RegionLaw
import Derived.Deep.DeepCutAuto
import Derived.Handy
namespace Go.Proofs.Ytciefnmocndddaa.fixL
open Go.RowKit Go.Proofs.Ytciefnmocndddaa.base Go.Proofs.Ytciefnmocndddaa.fixP Go.Proofs.Ytciefnmocndddaa.fixW
set_option linter.unusedVariables false

theorem getD_drop (zs : List Int) (n i : Nat) : (zs.drop n).getD i 0 = zs.getD (n + i) 0 := by
  simp [List.getD_eq_getElem?_getD, List.getElem?_drop]
theorem getD_take (zs : List Int) (n i : Nat) (h : i < n) : (zs.take n).getD i 0 = zs.getD i 0 := by
  simp only [List.getD_eq_getElem?_getD, List.getElem?_take]; rw [if_pos h]

/-- A cut of a row. -/
theorem has_drop {k : IntKind} {w : World} {b off : Nat} {zs : List Int} (n : Nat) (hb : b < w.heap.size) (hc : ∀ i, i < zs.length → w.cell? ⟨b, off + i, none⟩ = some (.int k (zs.getD i 0))) :
    Has k w (some ⟨b, off + n, none⟩) (zs.drop n) :=
  .inr ⟨b, off + n, rfl, hb, fun i hi => by rw [getD_drop, Nat.add_assoc]; exact hc (n + i) (by rw [List.length_drop] at hi; omega)⟩
theorem has_take {k : IntKind} {w : World} {b off : Nat} {zs : List Int} (n : Nat) (hb : b < w.heap.size) (hc : ∀ i, i < zs.length → w.cell? ⟨b, off + i, none⟩ = some (.int k (zs.getD i 0))) :
    Has k w (some ⟨b, off, none⟩) (zs.take n) :=
  .inr ⟨b, off, rfl, hb, fun i hi => by rw [List.length_take] at hi; rw [getD_take zs n i (by omega)]; exact hc i (by omega)⟩

theorem turn_sum (xs ys : List Int) (n : Nat) (h : xs.length = ys.length) : (prods (xs.drop n ++ xs.take n) (ys.drop n ++ ys.take n)).sum = (prods xs ys).sum := by
  unfold prods
  rw [List.zipWith_append (by simp [h]), List.sum_append]
  have e : List.zipWith (· * ·) xs ys = List.zipWith (· * ·) (xs.take n ++ xs.drop n) (ys.take n ++ ys.drop n) := by rw [List.take_append_drop, List.take_append_drop]
  rw [e, List.zipWith_append (by simp [h]), List.sum_append]
  omega
theorem more_sum (xs ys : List Int) (y : Int) (h : xs.length = ys.length) : (prods (xs ++ [0]) (ys ++ [y])).sum = (prods xs ys).sum := by
  unfold prods
  rw [List.zipWith_append h, List.sum_append]
  simp
theorem own_sum : ∀ xs : List Int, 0 ≤ (prods xs xs).sum
  | [] => by simp [prods]
  | x :: xs => by
    have := own_sum xs
    have h : 0 ≤ x * x := by
      by_cases c : 0 ≤ x
      · exact Int.mul_nonneg c c
      · have := Int.mul_nonneg (show 0 ≤ -x by omega) (show 0 ≤ -x by omega); rwa [Int.neg_mul_neg] at this
    show 0 ≤ (x * x :: prods xs xs).sum
    rw [List.sum_cons]; omega
theorem sat_nonneg {n : Int} (h : 0 ≤ n) : 0 ≤ sat n := by unfold sat; (repeat split) <;> omega
theorem in32_app {xs ys : List Int} (h1 : In32 xs) (h2 : In32 ys) : In32 (xs ++ ys) := fun z hz => by rcases List.mem_append.1 hz with h | h; exact h1 z h; exact h2 z h
theorem in32_drop {xs : List Int} (n : Nat) (h : In32 xs) : In32 (xs.drop n) := fun z hz => h z (List.mem_of_mem_drop hz)
theorem in32_take {xs : List Int} (n : Nat) (h : In32 xs) : In32 (xs.take n) := fun z hz => h z (List.mem_of_mem_take hz)

theorem sat_bd (n : Int) : -2147483648 ≤ sat n ∧ sat n ≤ 2147483647 := by unfold sat; (repeat split) <;> omega
/-- What the walk asks of the two rows and the place. -/
structure Turn (w : World) (A B A1 B1 : Option Addr) (N n : Nat) (xs ys : List Int) : Prop where
  lx : xs.length = N
  ly : ys.length = N
  hx : In32 xs
  hy : In32 ys
  ha : Has .i32 w A xs
  hb : Has .i32 w B ys
  ha1 : Has .i32 w A1 (xs.drop n)
  hb1 : Has .i32 w B1 (ys.drop n)
  ha0 : Has .i32 w A (xs.take n)
  hb0 : Has .i32 w B (ys.take n)
end Go.Proofs.Ytciefnmocndddaa.fixL
