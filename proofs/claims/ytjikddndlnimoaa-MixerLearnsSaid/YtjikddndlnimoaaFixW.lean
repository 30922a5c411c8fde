/- What the functions of package fixed and of its reference return, by walks. -/
import Derived.Test.YtjikddndlnimoaaMem
import Derived.Test.YtjikddndlnimoaaBits
import Derived.Test.YtjikddndlnimoaaFixPlain
import Derived.Lib.Hide
import Derived.Deep.QuietTactic
import Derived.BigQuiet
import Derived.WalkSpells
import Derived.WalkLawsBesides
namespace Go.Proofs.Ytjikddndlnimoaa.fixW
set_option maxRecDepth 100000
open Go.RowKit Go.Proofs.Ytjikddndlnimoaa.base Go.Proofs.Ytjikddndlnimoaa.fixP
set_option linter.unusedVariables false

set_option maxHeartbeats 400000 in
theorem sat_any (n : Int) (w : World) :
    Calls Try.prog 17 #[.int .i64 n] w fun e w' => e = .returned (.int .i32 (sat n)) ∧ w = w' := by
  go_enter Try.func17, Try.ntmps17
  go_wp2
  all_goals
    go_ret
    exact ⟨ret1 (by unfold sat; (repeat split) <;> omega), rfl⟩

set_option maxHeartbeats 400000 in
theorem add_any (a b : Int) (w : World) (a1 : -2147483648 ≤ a) (a2 : a ≤ 2147483647) (b1 : -2147483648 ≤ b) (b2 : b ≤ 2147483647) :
    Calls Try.prog 16 #[.int .i32 a, .int .i32 b] w fun e w' => e = .returned (.int .i32 (sat (a + b))) ∧ w = w' := by
  go_enter Try.func16, Try.ntmps16
  go_wp2_with (first | (go_at_call 17; refine (sat_any _ _).mono ?_; rintro e w' ⟨rfl, rfl⟩))
  go_ret
  exact ⟨rfl, rfl⟩
set_option maxHeartbeats 400000 in
theorem round_in (n : Int) (k : Nat) (w : World) (h1 : -9223372036854775808 ≤ n) (h2 : n ≤ 9223372036854775807) (hk : k ≤ 61) :
    Calls Try.prog 15 #[.int .i64 n, .int .i64 ((k : Int) + 1)] w fun e w' => e = .returned (.tuple #[.int .i64 (rnd n (k + 1)), .int .i64 0]) ∧ Below w.heap.size w w' := by
  have hb := rnd_bd n (k + 1) h1 h2
  rw [rnd_succ] at hb
  have HB := Lib.hid hb
  clear hb
  have HM := Lib.hid (and_mask64 (n / 2 ^ k) 1 (by omega) 1 rfl)
  go_enter Try.func15, Try.ntmps15
  go_wp2
  go_quiet (fail)
  go_wp2
  go_ret2
  exact ⟨ret2 (by
    rw [HM.out, rnd_succ]
    have := HB.out
    have e : (2 : Int) ^ 1 = 2 := rfl
    rw [e]
    unfold wrap64; omega) rfl, below_drewN (Below.refl _ _) _⟩

set_option maxHeartbeats 400000 in
theorem round_any (n k : Int) (w : World) (h1 : -9223372036854775808 ≤ n) (h2 : n ≤ 9223372036854775807) :
    Calls Try.prog 15 #[.int .i64 n, .int .i64 k] w fun e w' => e = .returned (.tuple #[.int .i64 (rndV n k), .int .i64 (rndE k)]) ∧ Below w.heap.size w w' := by
  by_cases c1 : k < 0
  · have h : kOk k = false := by simp [kOk]; omega
    go_enter Try.func15, Try.ntmps15
    go_wp2
    go_ret2
    exact ⟨ret2 (by simp [rndV, h]) (by simp [rndE, h]), Below.refl _ _⟩
  · by_cases c2 : 62 < k
    · have h : kOk k = false := by simp [kOk]; omega
      go_enter Try.func15, Try.ntmps15
      go_wp2
      go_ret2
      exact ⟨ret2 (by simp [rndV, h]) (by simp [rndE, h]), Below.refl _ _⟩
    · have h : kOk k = true := by simp [kOk]; omega
      by_cases c3 : k = 0
      · subst c3
        go_enter Try.func15, Try.ntmps15
        go_wp2
        go_ret2
        exact ⟨ret2 (by rw [rndV, if_pos h]; rfl) (by simp [rndE, h]), Below.refl _ _⟩
      · obtain ⟨m, rfl⟩ : ∃ m : Nat, k = (m : Int) + 1 := ⟨(k - 1).toNat, by omega⟩
        refine (round_in n m w h1 h2 (by omega)).mono fun e w' ⟨he, hb⟩ => ⟨?_, hb⟩
        rw [he]
        exact ret2 (by rw [rndV, if_pos h, show ((m : Int) + 1).toNat = m + 1 from by omega]) (by simp [rndE, h])

theorem mem_getD {zs : List Int} {k : Nat} (h : k < zs.length) : zs.getD k 0 ∈ zs := by
  rw [List.getD_eq_getElem?_getD, List.getElem?_eq_getElem h]; simp

/-- What the loop of a dot product is told. -/
structure Two (w : World) (b1 o1 b2 o2 N : Nat) (xs ys : List Int) : Prop where
  lx : xs.length = N
  ly : ys.length = N
  hb1 : b1 < w.heap.size
  hb2 : b2 < w.heap.size
  hc1 : ∀ i, i < N → w.cell? ⟨b1, o1 + i, none⟩ = some (.int .i32 (xs.getD i 0))
  hc2 : ∀ i, i < N → w.cell? ⟨b2, o2 + i, none⟩ = some (.int .i32 (ys.getD i 0))
  hx : ∀ x ∈ xs, -2147483648 ≤ x ∧ x ≤ 2147483647
  hy : ∀ y ∈ ys, -2147483648 ≤ y ∧ y ≤ 2147483647

theorem prod_step {xs ys : List Int} {N k : Nat} (lx : xs.length = N) (ly : ys.length = N) (hk : k < N) :
    hi ((prods xs ys).take (k + 1)) = hi ((prods xs ys).take k) + xs.getD k 0 * ys.getD k 0 / 4294967296 ∧
    lo ((prods xs ys).take (k + 1)) = lo ((prods xs ys).take k) + xs.getD k 0 * ys.getD k 0 % 4294967296 := by
  have h : k < (prods xs ys).length := by rw [prods_length (by omega)]; omega
  rw [take_snoc 0 _ k h, hi_snoc, lo_snoc, prods_getD (by omega) k (by omega)]
  exact ⟨rfl, rfl⟩

/-- Rows of numbers of 32 bits. -/
def In32 (zs : List Int) : Prop := ∀ z ∈ zs, -2147483648 ≤ z ∧ z ≤ 2147483647

theorem two_of {w : World} {A B : Option Addr} {xs ys : List Int} (hl : xs.length = ys.length) (hA : Has .i32 w A xs) (hB : Has .i32 w B ys) (hx : In32 xs) (hy : In32 ys) :
    xs = [] ∧ ys = [] ∨ ∃ b1 o1 b2 o2, A = some ⟨b1, o1, none⟩ ∧ B = some ⟨b2, o2, none⟩ ∧ Two w b1 o1 b2 o2 xs.length xs ys := by
  rcases hA with rfl | ⟨b1, o1, rfl, h1, c1⟩
  · exact .inl ⟨rfl, List.eq_nil_of_length_eq_zero (by simpa using hl.symm)⟩
  · rcases hB with rfl | ⟨b2, o2, rfl, h2, c2⟩
    · exact .inl ⟨List.eq_nil_of_length_eq_zero (by simpa using hl), rfl⟩
    · exact .inr ⟨b1, o1, b2, o2, rfl, rfl, ⟨rfl, hl.symm, h1, h2, c1, fun i hi => c2 i (by omega), hx, hy⟩⟩

theorem tprod_step {xs ys : List Int} {N k : Nat} (lx : xs.length = N) (ly : ys.length = N) (hk : k < N) :
    thi ((prods xs ys).take (k + 1)) = thi ((prods xs ys).take k) + (xs.getD k 0 * ys.getD k 0).tdiv 4294967296 ∧
    tlo ((prods xs ys).take (k + 1)) = tlo ((prods xs ys).take k) + (xs.getD k 0 * ys.getD k 0).tmod 4294967296 := by
  have h : k < (prods xs ys).length := by rw [prods_length (by omega)]; omega
  rw [take_snoc 0 _ k h, thi_snoc, tlo_snoc, prods_getD (by omega) k (by omega)]
  exact ⟨rfl, rfl⟩

end Go.Proofs.Ytjikddndlnimoaa.fixW
