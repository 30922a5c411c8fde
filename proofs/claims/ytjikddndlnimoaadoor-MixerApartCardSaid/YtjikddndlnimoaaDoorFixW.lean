/- What the functions of package fixed and of its reference return, by walks. -/
import Derived.Test.YtjikddndlnimoaaDoorMem
import Derived.Test.YtjikddndlnimoaaDoorBits
import Derived.Test.YtjikddndlnimoaaDoorFixPlain
import Derived.Lib.Hide
import Derived.Deep.QuietTactic
import Derived.BigQuiet
import Derived.WalkSpells
import Derived.WalkLawsBesides
namespace Go.Proofs.YtjikddndlnimoaaDoor.fixW
set_option maxRecDepth 100000
open Go.RowKit Go.Proofs.YtjikddndlnimoaaDoor.base Go.Proofs.YtjikddndlnimoaaDoor.fixP
set_option linter.unusedVariables false

set_option maxHeartbeats 400000 in
theorem sat_any (n : Int) (w : World) :
    Calls Tryd.prog 36 #[.int .i64 n] w fun e w' => e = .returned (.int .i32 (sat n)) ∧ w = w' := by
  go_enter Tryd.func36, Tryd.ntmps36
  go_wp2
  all_goals
    go_ret
    exact ⟨ret1 (by unfold sat; (repeat split) <;> omega), rfl⟩

set_option maxHeartbeats 400000 in
theorem add_any (a b : Int) (w : World) (a1 : -2147483648 ≤ a) (a2 : a ≤ 2147483647) (b1 : -2147483648 ≤ b) (b2 : b ≤ 2147483647) :
    Calls Tryd.prog 35 #[.int .i32 a, .int .i32 b] w fun e w' => e = .returned (.int .i32 (sat (a + b))) ∧ w = w' := by
  go_enter Tryd.func35, Tryd.ntmps35
  go_wp2_with (first | (go_at_call 36; refine (sat_any _ _).mono ?_; rintro e w' ⟨rfl, rfl⟩))
  go_ret
  exact ⟨rfl, rfl⟩
set_option maxHeartbeats 400000 in
theorem round_in (n : Int) (k : Nat) (w : World) (h1 : -9223372036854775808 ≤ n) (h2 : n ≤ 9223372036854775807) (hk : k ≤ 61) :
    Calls Tryd.prog 34 #[.int .i64 n, .int .i64 ((k : Int) + 1)] w fun e w' => e = .returned (.tuple #[.int .i64 (rnd n (k + 1)), .int .i64 0]) ∧ Below w.heap.size w w' := by
  have hb := rnd_bd n (k + 1) h1 h2
  rw [rnd_succ] at hb
  have HB := Lib.hid hb
  clear hb
  have HM := Lib.hid (and_mask64 (n / 2 ^ k) 1 (by omega) 1 rfl)
  go_enter Tryd.func34, Tryd.ntmps34
  go_wp2
  go_quiet (fail)
  go_wp2
  go_ret2
  exact ⟨ret2 (by
    rw [HM.out, rnd_succ]
    have := HB.out
    have e : (2 : Int) ^ 1 = 2 := rfl
    rw [e]
    unfold wrap64; omega) rfl, below_drewN (Below.refl _ _) _⟩

set_option maxHeartbeats 400000 in
theorem round_any (n k : Int) (w : World) (h1 : -9223372036854775808 ≤ n) (h2 : n ≤ 9223372036854775807) :
    Calls Tryd.prog 34 #[.int .i64 n, .int .i64 k] w fun e w' => e = .returned (.tuple #[.int .i64 (rndV n k), .int .i64 (rndE k)]) ∧ Below w.heap.size w w' := by
  by_cases c1 : k < 0
  · have h : kOk k = false := by simp [kOk]; omega
    go_enter Tryd.func34, Tryd.ntmps34
    go_wp2
    go_ret2
    exact ⟨ret2 (by simp [rndV, h]) (by simp [rndE, h]), Below.refl _ _⟩
  · by_cases c2 : 62 < k
    · have h : kOk k = false := by simp [kOk]; omega
      go_enter Tryd.func34, Tryd.ntmps34
      go_wp2
      go_ret2
      exact ⟨ret2 (by simp [rndV, h]) (by simp [rndE, h]), Below.refl _ _⟩
    · have h : kOk k = true := by simp [kOk]; omega
      by_cases c3 : k = 0
      · subst c3
        go_enter Tryd.func34, Tryd.ntmps34
        go_wp2
        go_ret2
        exact ⟨ret2 (by rw [rndV, if_pos h]; rfl) (by simp [rndE, h]), Below.refl _ _⟩
      · obtain ⟨m, rfl⟩ : ∃ m : Nat, k = (m : Int) + 1 := ⟨(k - 1).toNat, by omega⟩
        refine (round_in n m w h1 h2 (by omega)).mono fun e w' ⟨he, hb⟩ => ⟨?_, hb⟩
        rw [he]
        exact ret2 (by rw [rndV, if_pos h, show ((m : Int) + 1).toNat = m + 1 from by omega]) (by simp [rndE, h])

theorem mem_getD {zs : List Int} {k : Nat} (h : k < zs.length) : zs.getD k 0 ∈ zs := by
  rw [List.getD_eq_getElem?_getD, List.getElem?_eq_getElem h]; simp

/-- What the loop of a dot product is told. -/
structure Two (w : World) (b1 o1 b2 o2 N : Nat) (xs ys : List Int) : Prop where
  lx : xs.length = N
  ly : ys.length = N
  hb1 : b1 < w.heap.size
  hb2 : b2 < w.heap.size
  hc1 : ∀ i, i < N → w.cell? ⟨b1, o1 + i, none⟩ = some (.int .i32 (xs.getD i 0))
  hc2 : ∀ i, i < N → w.cell? ⟨b2, o2 + i, none⟩ = some (.int .i32 (ys.getD i 0))
  hx : ∀ x ∈ xs, -2147483648 ≤ x ∧ x ≤ 2147483647
  hy : ∀ y ∈ ys, -2147483648 ≤ y ∧ y ≤ 2147483647

theorem prod_step {xs ys : List Int} {N k : Nat} (lx : xs.length = N) (ly : ys.length = N) (hk : k < N) :
    hi ((prods xs ys).take (k + 1)) = hi ((prods xs ys).take k) + xs.getD k 0 * ys.getD k 0 / 4294967296 ∧
    lo ((prods xs ys).take (k + 1)) = lo ((prods xs ys).take k) + xs.getD k 0 * ys.getD k 0 % 4294967296 := by
  have h : k < (prods xs ys).length := by rw [prods_length (by omega)]; omega
  rw [take_snoc 0 _ k h, hi_snoc, lo_snoc, prods_getD (by omega) k (by omega)]
  exact ⟨rfl, rfl⟩

set_option maxHeartbeats 1000000 in
theorem dot_some (b1 o1 c1 b2 o2 c2 N : Nat) (xs ys : List Int) (w : World) (h16 : N ≤ 16) (h : Two w b1 o1 b2 o2 N xs ys) :
    Calls Tryd.prog 23 #[.slice (some ⟨b1, o1, none⟩) N c1, .slice (some ⟨b2, o2, none⟩) N c2] w fun e w' => e = .returned (.tuple #[.int .i32 (sat (prods xs ys).sum), .int .i64 0]) ∧ w = w' := by
  have H := Lib.hid h
  clear h
  have HL : Hid ((prods xs ys).length = N) := Lib.hid (by rw [prods_length (by rw [H.out.lx, H.out.ly]), H.out.lx])
  have HPB := Lib.hid (prods_bd H.out.hx H.out.hy)
  go_enter Tryd.func23, Tryd.ntmps23
  go_wp2_with fail
  go_loop [6, 7, 26] (fun a b i => ∃ j : Nat, j ≤ N ∧ i = .int .i64 j ∧ a = .int .i64 (hi ((prods xs ys).take j)) ∧ b = .int .i64 (lo ((prods xs ys).take j))) (fun _ _ i => N - (intOf i).toNat)
  case atStart => exact ⟨0, Nat.zero_le _, rfl, rfl, rfl⟩
  case round =>
    obtain ⟨j, hj, rfl, rfl, rfl⟩ := hrel
    have hbd := hi_bd ((prods xs ys).take j) (fun p hp => HPB.out p (List.mem_of_mem_take hp))
    have lbd := lo_bd ((prods xs ys).take j)
    have hlen : ((prods xs ys).take j).length ≤ j := List.length_take_le _ _
    by_cases hlt : j < N
    · have x1 := (H.out.hx _ (mem_getD (by rw [H.out.lx]; exact hlt : j < xs.length))).1
      have x2 := (H.out.hx _ (mem_getD (by rw [H.out.lx]; exact hlt : j < xs.length))).2
      have y1 := (H.out.hy _ (mem_getD (by rw [H.out.ly]; exact hlt : j < ys.length))).1
      have y2 := (H.out.hy _ (mem_getD (by rw [H.out.ly]; exact hlt : j < ys.length))).2
      have cx := H.out.hc1 j hlt
      have cy := H.out.hc2 j hlt
      have HST := Lib.hid (prod_step H.out.lx H.out.ly hlt)
      have mb := mul_bd32 x1 x2 y1 y2
      generalize xs.getD j 0 = x at *
      generalize ys.getD j 0 = y at *
      have HMA := Lib.hid (and_mask64 (x * y) 32 (by omega) 4294967295 (by decide))
      have m1 := mb.1
      have m2 := mb.2
      have p1 : -17179869184 ≤ hi ((prods xs ys).take j) := by omega
      have p2 : hi ((prods xs ys).take j) ≤ 17179869184 := by omega
      have p3 := lbd.1
      have p4 : lo ((prods xs ys).take j) ≤ 68719476736 := by omega
      clear hbd lbd hlen mb
      generalize hhi : hi ((prods xs ys).take j) = a at *
      generalize hlo : lo ((prods xs ys).take j) = b at *
      go_wp2
      go_round
      case rel =>
        refine ⟨j + 1, by omega, by go_num, by rw [HST.out.1], ?_⟩
        have e : (2 : Int) ^ 32 = 4294967296 := by decide
        have := HMA.out
        rw [e] at this
        rw [this, HST.out.2]
        have w1 : wrap64 (b + x * y % 4294967296) = b + x * y % 4294967296 := by unfold wrap64; omega
        rw [w1]
      case measure => simp [intOf] <;> omega
    · obtain rfl : j = N := by omega
      have HT : Hid ((prods xs ys).take j = prods xs ys) := Lib.hid (List.take_of_length_le (by rw [HL.out]; exact Nat.le_refl _))
      rw [HT.out] at hbd lbd hlen ⊢
      have p1 : -17179869184 ≤ hi (prods xs ys) := by omega
      have p2 : hi (prods xs ys) ≤ 17179869184 := by omega
      have p3 := lbd.1
      have p4 : lo (prods xs ys) ≤ 68719476736 := by omega
      clear hbd lbd hlen
      have HS := Lib.hid (hi_lo (prods xs ys))
      generalize hhi : hi (prods xs ys) = a at *
      generalize hlo : lo (prods xs ys) = b at *
      have Hh := Lib.hid hhi
      have Hl := Lib.hid hlo
      clear hhi hlo
      have EM : bits .and .i64 b 4294967295 = b % 4294967296 := and_mask64 b 32 (by omega) 4294967295 (by decide)
      have sb := sat_bd (a + b / 4294967296)
      have s1 := sb.1
      have s2 := sb.2
      clear sb
      have HJ := Lib.hid (or_join64 (sat (a + b / 4294967296)) (b % 4294967296) s1 s2 (by omega) (by omega))
      have HP := Lib.hid (sat_parts (a + b / 4294967296) (b % 4294967296) (by omega) (by omega))
      go_wp2_with (first | (go_at_call 36; refine (sat_any _ _).mono ?_; rintro e w' ⟨rfl, rfl⟩))
      go_ret2
      refine ⟨ret2 ?_ rfl, rfl⟩
      rw [HS.out]
      rw [HJ.out, HP.out]
      congr 1
      omega

set_option maxHeartbeats 1000000 in
theorem dot_nil (A B : Option Addr) (c1 c2 : Nat) (w : World) :
    Calls Tryd.prog 23 #[.slice A 0 c1, .slice B 0 c2] w fun e w' => e = .returned (.tuple #[.int .i32 0, .int .i64 0]) ∧ w = w' := by
  have s0 : sat 0 = 0 := rfl
  have EM : bits .and .i64 0 4294967295 = 0 := and_mask64 0 32 (by omega) 4294967295 (by decide)
  have EO : bits .or .i64 0 0 = 0 := or_join64 0 0 (by omega) (by omega) (by omega) (by omega)
  go_enter Tryd.func23, Tryd.ntmps23
  go_wp2_with fail
  go_loop [6, 7, 26] (fun a b i => i = .int .i64 0 ∧ a = .int .i64 0 ∧ b = .int .i64 0) (fun _ _ i => 0)
  case atStart => exact ⟨rfl, rfl, rfl⟩
  case round =>
    obtain ⟨rfl, rfl, rfl⟩ := hrel
    go_wp2_with (first | (go_at_call 36; refine (sat_any _ _).mono ?_; rintro e w' ⟨rfl, rfl⟩))
    go_ret2
    exact ⟨rfl, rfl⟩

/-- Rows of numbers of 32 bits. -/
def In32 (zs : List Int) : Prop := ∀ z ∈ zs, -2147483648 ≤ z ∧ z ≤ 2147483647

theorem two_of {w : World} {A B : Option Addr} {xs ys : List Int} (hl : xs.length = ys.length) (hA : Has .i32 w A xs) (hB : Has .i32 w B ys) (hx : In32 xs) (hy : In32 ys) :
    xs = [] ∧ ys = [] ∨ ∃ b1 o1 b2 o2, A = some ⟨b1, o1, none⟩ ∧ B = some ⟨b2, o2, none⟩ ∧ Two w b1 o1 b2 o2 xs.length xs ys := by
  rcases hA with rfl | ⟨b1, o1, rfl, h1, c1⟩
  · exact .inl ⟨rfl, List.eq_nil_of_length_eq_zero (by simpa using hl.symm)⟩
  · rcases hB with rfl | ⟨b2, o2, rfl, h2, c2⟩
    · exact .inl ⟨List.eq_nil_of_length_eq_zero (by simpa using hl), rfl⟩
    · exact .inr ⟨b1, o1, b2, o2, rfl, rfl, ⟨rfl, hl.symm, h1, h2, c1, fun i hi => c2 i (by omega), hx, hy⟩⟩

theorem dot_any (A B : Option Addr) (n c1 c2 : Nat) (xs ys : List Int) (w : World) (h16 : n ≤ 16) (lx : xs.length = n) (ly : ys.length = n) (hA : Has .i32 w A xs) (hB : Has .i32 w B ys) (hx : In32 xs) (hy : In32 ys) :
    Calls Tryd.prog 23 #[.slice A n c1, .slice B n c2] w fun e w' => e = .returned (.tuple #[.int .i32 (sat (prods xs ys).sum), .int .i64 0]) ∧ w = w' := by
  rcases two_of (by omega) hA hB hx hy with ⟨rfl, rfl⟩ | ⟨b1, o1, b2, o2, rfl, rfl, h⟩
  · obtain rfl : n = 0 := by simpa using lx.symm
    exact dot_nil A B c1 c2 w
  · rw [lx] at h
    exact dot_some b1 o1 c1 b2 o2 c2 n xs ys w h16 h

set_option maxHeartbeats 1000000 in
theorem dot_many (A B : Option Addr) (n m c1 c2 : Nat) (w : World) (h : 16 < n ∨ n ≤ 16 ∧ 16 < m) :
    Calls Tryd.prog 23 #[.slice A n c1, .slice B m c2] w fun e w' => e = .returned (.tuple #[.int .i32 0, .int .i64 4]) ∧ w = w' := by
  rcases h with h | ⟨h0, h⟩
  · go_enter Tryd.func23, Tryd.ntmps23
    go_wp2_with fail
    go_ret2
    exact ⟨rfl, rfl⟩
  · go_enter Tryd.func23, Tryd.ntmps23
    go_wp2_with fail
    go_ret2
    exact ⟨rfl, rfl⟩
set_option maxHeartbeats 1000000 in
theorem dot_arg (A B : Option Addr) (n m c1 c2 : Nat) (w : World) (h1 : n ≤ 16) (h2 : m ≤ 16) (h : ((n : Int) != (m : Int)) = true) :
    Calls Tryd.prog 23 #[.slice A n c1, .slice B m c2] w fun e w' => e = .returned (.tuple #[.int .i32 0, .int .i64 2]) ∧ w = w' := by
  go_enter Tryd.func23, Tryd.ntmps23
  go_wp2_with fail
  go_ret2
  exact ⟨rfl, rfl⟩
theorem tprod_step {xs ys : List Int} {N k : Nat} (lx : xs.length = N) (ly : ys.length = N) (hk : k < N) :
    thi ((prods xs ys).take (k + 1)) = thi ((prods xs ys).take k) + (xs.getD k 0 * ys.getD k 0).tdiv 4294967296 ∧
    tlo ((prods xs ys).take (k + 1)) = tlo ((prods xs ys).take k) + (xs.getD k 0 * ys.getD k 0).tmod 4294967296 := by
  have h : k < (prods xs ys).length := by rw [prods_length (by omega)]; omega
  rw [take_snoc 0 _ k h, thi_snoc, tlo_snoc, prods_getD (by omega) k (by omega)]
  exact ⟨rfl, rfl⟩

end Go.Proofs.YtjikddndlnimoaaDoor.fixW
