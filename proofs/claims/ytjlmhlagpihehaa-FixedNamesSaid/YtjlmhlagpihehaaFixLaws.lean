/- Statements of layer 3 (fixed), by walks. -/
import Derived.Test.YtjlmhlagpihehaaFixW
namespace Go.Proofs.Ytjlmhlagpihehaa.fixL
open Go.RowKit Go.Proofs.Ytjlmhlagpihehaa.base Go.Proofs.Ytjlmhlagpihehaa.fixP Go.Proofs.Ytjlmhlagpihehaa.fixW
set_option linter.unusedVariables false

set_option maxHeartbeats 400000 in
theorem rounds_any (n k want : Int) (w : World) (h1 : -9223372036854775808 ≤ n) (h2 : n ≤ 9223372036854775807) (b : Bool) (hb : (decide (rndE k = 0) && decide (rndV n k = want)) = b) :
    Calls Try.prog 14 #[.int .i64 n, .int .i64 k, .int .i64 want] w fun e w' => e = .returned (.bool b) ∧ Below w.heap.size w w' := by
  by_cases c1 : rndE k = 0
  · have e1 : (rndE k == 0) = true := by simp [c1]
    have H := Lib.hid hb
    have HC := Lib.hid c1
    clear hb c1
    go_enter Try.func14, Try.ntmps14
    go_wp2_with (first | (go_at_call 15; refine (round_any _ _ _ h1 h2).mono ?_; rintro e w' ⟨rfl, hb⟩))
    go_ret
    exact ⟨retb (by rw [← H.out, HC.out]; simp [BEq.beq]), hb⟩
  · have e1 : (rndE k == 0) = false := by simp [c1]
    have H := Lib.hid hb
    have HC := Lib.hid c1
    clear hb c1
    go_enter Try.func14, Try.ntmps14
    go_wp2_with (first | (go_at_call 15; refine (round_any _ _ _ h1 h2).mono ?_; rintro e w' ⟨rfl, hb⟩))
    go_ret
    exact ⟨retb (by rw [← H.out]; simp [HC.out]), hb⟩

set_option maxHeartbeats 400000 in
theorem dots_any (A B : Option Addr) (n c1 c2 : Nat) (want : Int) (xs ys : List Int) (w : World) (h16 : n ≤ 16) (lx : xs.length = n) (ly : ys.length = n) (hA : Has .i32 w A xs) (hB : Has .i32 w B ys) (hx : In32 xs) (hy : In32 ys) (b : Bool) (hb : decide (sat (prods xs ys).sum = want) = b) :
    Calls Try.prog 17 #[.slice A n c1, .slice B n c2, .int .i32 want] w fun e w' => e = .returned (.bool b) ∧ w = w' := by
  have HD := Lib.hid (dot_any A B n c1 c2 xs ys w h16 lx ly hA hB hx hy)
  have H := Lib.hid hb
  clear lx ly hA hB hb hx hy
  go_enter Try.func17, Try.ntmps17
  go_wp2_with (first | (go_at_call 16; refine HD.out.mono ?_; rintro e w' ⟨rfl, rfl⟩; clear HD))
  go_ret
  exact ⟨retb (by rw [← H.out]; simp [BEq.beq]), rfl⟩

theorem has_alloc {k : IntKind} (w : World) (e : TypeId) (zs : List Int) : Has k (w.alloc (.cells (zs.map (Value.int k)).toArray e)) (some ⟨w.heap.size, 0, none⟩) zs := by
  by_cases h : zs = []
  · exact .inl h
  · refine .inr ⟨w.heap.size, 0, rfl, by simp, fun i hi => ?_⟩
    have := cell_of_row (w.alloc (.cells (zs.map (Value.int k)).toArray e)) w.heap.size (0 + i) _ _ _ (heap_alloc_new w _)
    rw [this]
    simp [List.getD_eq_getElem?_getD, List.getElem?_eq_getElem hi]

theorem has_alloc' {k : IntKind} {w : World} {A : Option Addr} {zs : List Int} (h : Has k w A zs) (o : Obj) : Has k (w.alloc o) A zs := h.below ((Below.refl w.heap.size w).alloc (Nat.le_refl _) o) (Nat.le_refl _)

theorem acc2 {w W : World} (h : Below w.heap.size w W) (o1 o2 : Obj) : Below w.heap.size w ((W.alloc o1).alloc o2) :=
  (h.alloc h.size o1).alloc (Nat.le_trans h.size (by simp)) o2

/-- Two rows written out, and their dot product. -/
theorem dots_lit (xs ys : List Int) (n : Nat) (want : Int) (w : World) (h16 : n ≤ 16) (lx : xs.length = n) (ly : ys.length = n) (hx : In32 xs) (hy : In32 ys) (hw : sat (prods xs ys).sum = want) :
    Calls Try.prog 17 #[.slice (some ⟨w.heap.size, 0, none⟩) n n, .slice (some ⟨w.heap.size + 1, 0, none⟩) n n, .int .i32 want] ((w.alloc (.cells (xs.map (Value.int .i32)).toArray 21)).alloc (.cells (ys.map (Value.int .i32)).toArray 21)) fun e w' => e = .returned (.bool true) ∧ (w.alloc (.cells (xs.map (Value.int .i32)).toArray 21)).alloc (.cells (ys.map (Value.int .i32)).toArray 21) = w' := by
  have h2 := has_alloc (k := .i32) (w.alloc (.cells (xs.map (Value.int .i32)).toArray 21)) 21 ys
  have e : (w.alloc (.cells (xs.map (Value.int .i32)).toArray 21)).heap.size = w.heap.size + 1 := by simp
  rw [e] at h2
  exact dots_any _ _ n n n want xs ys _ h16 lx ly (has_alloc' (has_alloc w 21 xs) _) h2 hx hy true (by simp [hw])

set_option maxHeartbeats 4000000 in
theorem alive (w : World) :
    Calls Try.prog 18 #[] w fun e w' => e = .returned (.bool true) ∧ Below w.heap.size w w' := by
  have s1 : sat 2147483648 = 2147483647 := by decide
  have acc := Below.refl w.heap.size w
  go_enter Try.func18, Try.ntmps18
  go_wp2_with (first | (go_at_call 11; refine (add_any _ _ _ (by omega) (by omega) (by omega) (by omega)).mono ?_; rintro e w' ⟨rfl, rfl⟩) | (go_at_call 13; refine (mul_any _ _ _ (by omega) (by omega) (by omega) (by omega)).mono ?_; rintro e w' ⟨rfl, rfl⟩))
  refine (rounds_any 5 1 3 _ (by omega) (by omega) true (by decide)).mono ?_
  rintro e w1 ⟨rfl, hb1⟩
  replace acc := acc.trans (hb1.mono acc.size)
  clear hb1
  go_wp2_with fail
  refine (rounds_any (-5) 1 (-2) _ (by omega) (by omega) true (by decide)).mono ?_
  rintro e w2 ⟨rfl, hb1⟩
  replace acc := acc.trans (hb1.mono acc.size)
  clear hb1
  go_wp2_with fail
  refine (dots_lit [1, 2, 3] [4, -5, 6] 3 12 w2 (by omega) rfl rfl (by unfold In32; decide) (by unfold In32; decide) (by decide)).mono ?_
  rintro e w3 ⟨rfl, hw3⟩
  replace acc : Below w.heap.size w w3 := by rw [← hw3]; exact acc2 acc _ _
  clear hw3
  go_wp2_with fail
  refine (dots_lit [65536, 65536] [32768, -32768] 2 0 w3 (by omega) rfl rfl (by unfold In32; decide) (by unfold In32; decide) (by decide)).mono ?_
  rintro e w4 ⟨rfl, hw4⟩
  replace acc : Below w.heap.size w w4 := by rw [← hw4]; exact acc2 acc _ _
  clear hw4
  go_wp2_with fail
  go_ret
  exact ⟨rfl, acc⟩

set_option maxHeartbeats 1000000 in
theorem makes (n k a b : Int) (w : World) (n1 : -9223372036854775808 ≤ n) (n2 : n ≤ 9223372036854775807) (_ : -9223372036854775808 ≤ k) (_ : k ≤ 9223372036854775807) (a1 : -2147483648 ≤ a) (a2 : a ≤ 2147483647) (b1 : -2147483648 ≤ b) (b2 : b ≤ 2147483647) :
    Calls Try.prog 4 #[.int .i64 n, .int .i64 k, .int .i32 a, .int .i32 b] w fun e w' => e = .returned (.bool true) ∧ Below w.heap.size w w' := by
  have g := rndE_bd k
  have g1 := g.1
  have g2 := g.2
  clear g
  go_enter Try.func4, Try.ntmps4
  go_wp2_with (first | (go_at_call 15; refine (round_any _ _ _ n1 n2).mono ?_; rintro e w' ⟨rfl, hb⟩) | (go_at_call 19; refine (rround_any _ _ _ n1 n2).mono ?_; rintro e w' ⟨rfl, rfl⟩) | (go_at_call 10; refine (sat_any _ _).mono ?_; rintro e w' ⟨rfl, rfl⟩) | (go_at_call 20; refine (rsat_any _ _).mono ?_; rintro e w' ⟨rfl, rfl⟩) | (go_at_call 11; refine (add_any _ _ _ a1 a2 b1 b2).mono ?_; rintro e w' ⟨rfl, rfl⟩) | (go_at_call 21; refine (radd_any _ _ _ a1 a2 b1 b2).mono ?_; rintro e w' ⟨rfl, rfl⟩) | (go_at_call 12; refine (sub_any _ _ _ a1 a2 b1 b2).mono ?_; rintro e w' ⟨rfl, rfl⟩) | (go_at_call 22; refine (rsub_any _ _ _ a1 a2 b1 b2).mono ?_; rintro e w' ⟨rfl, rfl⟩) | (go_at_call 13; refine (mul_any _ _ _ a1 a2 b1 b2).mono ?_; rintro e w' ⟨rfl, rfl⟩) | (go_at_call 23; refine (rmul_any _ _ _ a1 a2 b1 b2).mono ?_; rintro e w' ⟨rfl, rfl⟩))
  go_ret
  exact ⟨rfl, hb⟩

set_option maxHeartbeats 1000000 in
theorem near_any (n : Int) (w : World) :
    Calls Try.prog 25 #[.int .i32 (sat n), .int .i64 n] w fun e w' => e = .returned (.bool true) ∧ w = w' := by
  by_cases c1 : 2147483647 < n
  · have h : sat n = 2147483647 := by unfold sat; (repeat split) <;> omega
    rw [h]
    go_enter Try.func25, Try.ntmps25
    go_wp2
    go_ret
    exact ⟨rfl, rfl⟩
  · by_cases c2 : n < -2147483648
    · have h : sat n = -2147483648 := by unfold sat; (repeat split) <;> omega
      rw [h]
      go_enter Try.func25, Try.ntmps25
      go_wp2
      go_ret
      exact ⟨rfl, rfl⟩
    · have h : sat n = n := by unfold sat; (repeat split) <;> omega
      rw [h]
      clear h
      go_enter Try.func25, Try.ntmps25
      go_wp2
      go_ret
      exact ⟨rfl, rfl⟩

theorem sat_mono {x y : Int} (h : x ≤ y) : sat x ≤ sat y := by unfold sat; (repeat split) <;> omega

set_option maxHeartbeats 2000000 in
theorem range (a b c : Int) (w : World) (a1 : -2147483648 ≤ a) (a2 : a ≤ 2147483647) (b1 : -2147483648 ≤ b) (b2 : b ≤ 2147483647) (c1 : -2147483648 ≤ c) (c2 : c ≤ 2147483647) :
    Calls Try.prog 6 #[.int .i32 a, .int .i32 b, .int .i32 c] w fun e w' => e = .returned (.bool true) ∧ Below w.heap.size w w' := by
  have m := mul_bd32 a1 a2 b1 b2
  have m1 := m.1
  have m2 := m.2
  have e1 : (sat (a + b) == sat (b + a)) = true := by rw [Int.add_comm]; simp
  have e2 : (sat (a * b) == sat (b * a)) = true := by rw [Int.mul_comm]; simp
  have e3 : sat (b + a) = sat (a + b) := by rw [Int.add_comm]
  have e4 : sat (b * a) = sat (a * b) := by rw [Int.mul_comm]
  clear m
  have acc := Below.refl w.heap.size w
  by_cases h : c < b
  · go_enter Try.func6, Try.ntmps6
    go_wp2_with (first | (go_at_call 25; refine (near_any _ _).mono ?_; rintro e w' ⟨rfl, rfl⟩) | (go_at_call 10; refine (sat_any _ _).mono ?_; rintro e w' ⟨rfl, rfl⟩) | (go_at_call 11; refine (add_any _ _ _ (by omega) (by omega) (by omega) (by omega)).mono ?_; rintro e w' ⟨rfl, rfl⟩) | (go_at_call 12; refine (sub_any _ _ _ (by omega) (by omega) (by omega) (by omega)).mono ?_; rintro e w' ⟨rfl, rfl⟩) | (go_at_call 13; refine (mul_any _ _ _ (by omega) (by omega) (by omega) (by omega)).mono ?_; rintro e w' ⟨rfl, rfl⟩) | (go_at_call 18; refine (alive _).mono ?_; rintro e w' ⟨rfl, hb⟩))
    go_ret
    exact ⟨rfl, hb⟩
  · have g1 : sat (a + b) ≤ sat (a + c) := sat_mono (by omega)
    have g2 : sat (a - c) ≤ sat (a - b) := sat_mono (by omega)
    go_enter Try.func6, Try.ntmps6
    go_wp2_with (first | (go_at_call 25; refine (near_any _ _).mono ?_; rintro e w' ⟨rfl, rfl⟩) | (go_at_call 10; refine (sat_any _ _).mono ?_; rintro e w' ⟨rfl, rfl⟩) | (go_at_call 11; refine (add_any _ _ _ (by omega) (by omega) (by omega) (by omega)).mono ?_; rintro e w' ⟨rfl, rfl⟩) | (go_at_call 12; refine (sub_any _ _ _ (by omega) (by omega) (by omega) (by omega)).mono ?_; rintro e w' ⟨rfl, rfl⟩) | (go_at_call 13; refine (mul_any _ _ _ (by omega) (by omega) (by omega) (by omega)).mono ?_; rintro e w' ⟨rfl, rfl⟩) | (go_at_call 18; refine (alive _).mono ?_; rintro e w' ⟨rfl, hb⟩))
    go_ret
    exact ⟨rfl, hb⟩
end Go.Proofs.Ytjlmhlagpihehaa.fixL
