/- What the functions of package nibble return, by walks. -/
import Derived.Test.YtjhfamoldppclaaBase
import Derived.Test.YtjhfamoldppclaaBits
import Derived.Test.YtjhfamoldppclaaBlock
import Derived.Test.YtjhfamoldppclaaReg
import Derived.Test.YtjhfamoldppclaaBool
import Derived.Test.YtjhfamoldppclaaNibPlain
import Derived.WalkKit
import Derived.Lib.Hide
import Derived.WalkSpells
import Derived.WalkLawsBesides
import Derived.Handy
import Derived.Outline
import Derived.Deep.DeepMust
import Derived.Deep.QuietTactic
import Derived.BigQuiet
import Derived.Lib.BitFns
namespace Go.Proofs.Ytjhfamoldppclaa.nibW
open Go.RowKit Go.Proofs.Ytjhfamoldppclaa.base Go.Proofs.Ytjhfamoldppclaa.nibP
set_option linter.unusedVariables false
set_option linter.unusedSimpArgs false

theorem wE_no {p : Int} (h : wOk p = false) : wE p = 8 := by simp [wE, h]
theorem wE_yes {p : Int} (h : wOk p = true) : wE p = 0 := by simp [wE, h]

set_option maxHeartbeats 400000 in
theorem Check_any (p : Int) (w : World) : Calls Try.prog 19 #[.agg #[.int .i64 p]] w fun e w' => e = .returned (.int .i64 (wE p)) ∧ Below w.heap.size w w' := by
  by_cases h1 : p < 1
  · go_enter Try.func19, Try.ntmps19
    go_wp2
    go_ret
    exact ⟨ret1 (by rw [wE_no]; simp [wOk]; omega), by (repeat' (first | (with_reducible exact Below.refl _ _) | (with_reducible assumption) | (with_reducible refine below_drewN ?_ _) | (with_reducible refine below_new ?_ _) | (with_reducible refine Below.alloc ?_ ?_ _) | (with_reducible refine Below.drew ?_) | (with_reducible refine Below.setCell ?_ ?_ _) | (with_reducible apply below_on; (with_reducible assumption)) | (go_size; done) | (with_reducible apply size_of)))⟩
  · by_cases h2 : 256 ≤ p
    · go_enter Try.func19, Try.ntmps19
      go_wp2
      go_ret
      exact ⟨ret1 (by rw [wE_no]; simp [wOk]; omega), by (repeat' (first | (with_reducible exact Below.refl _ _) | (with_reducible assumption) | (with_reducible refine below_drewN ?_ _) | (with_reducible refine below_new ?_ _) | (with_reducible refine Below.alloc ?_ ?_ _) | (with_reducible refine Below.drew ?_) | (with_reducible refine Below.setCell ?_ ?_ _) | (with_reducible apply below_on; (with_reducible assumption)) | (go_size; done) | (with_reducible apply size_of)))⟩
    · go_enter Try.func19, Try.ntmps19
      go_wp2
      go_ret
      exact ⟨ret1 (by rw [wE_yes]; simp [wOk]; omega), by (repeat' (first | (with_reducible exact Below.refl _ _) | (with_reducible assumption) | (with_reducible refine below_drewN ?_ _) | (with_reducible refine below_new ?_ _) | (with_reducible refine Below.alloc ?_ ?_ _) | (with_reducible refine Below.drew ?_) | (with_reducible refine Below.setCell ?_ ?_ _) | (with_reducible apply below_on; (with_reducible assumption)) | (go_size; done) | (with_reducible apply size_of)))⟩
set_option maxHeartbeats 400000 in
theorem rCheck_any (p : Int) (w : World) : Calls Try.prog 20 #[.agg #[.int .i64 p]] w fun e w' => e = .returned (.int .i64 (wE p)) ∧ Below w.heap.size w w' := by
  by_cases h1 : p < 1
  · go_enter Try.func20, Try.ntmps20
    go_wp2
    go_ret
    exact ⟨ret1 (by rw [wE_no]; simp [wOk]; omega), by (repeat' (first | (with_reducible exact Below.refl _ _) | (with_reducible assumption) | (with_reducible refine below_drewN ?_ _) | (with_reducible refine below_new ?_ _) | (with_reducible refine Below.alloc ?_ ?_ _) | (with_reducible refine Below.drew ?_) | (with_reducible refine Below.setCell ?_ ?_ _) | (with_reducible apply below_on; (with_reducible assumption)) | (go_size; done) | (with_reducible apply size_of)))⟩
  · by_cases h2 : 255 < p
    · go_enter Try.func20, Try.ntmps20
      go_wp2
      go_ret
      exact ⟨ret1 (by rw [wE_no]; simp [wOk]; omega), by (repeat' (first | (with_reducible exact Below.refl _ _) | (with_reducible assumption) | (with_reducible refine below_drewN ?_ _) | (with_reducible refine below_new ?_ _) | (with_reducible refine Below.alloc ?_ ?_ _) | (with_reducible refine Below.drew ?_) | (with_reducible refine Below.setCell ?_ ?_ _) | (with_reducible apply below_on; (with_reducible assumption)) | (go_size; done) | (with_reducible apply size_of)))⟩
    · go_enter Try.func20, Try.ntmps20
      go_wp2
      go_ret
      exact ⟨ret1 (by rw [wE_yes]; simp [wOk]; omega), by (repeat' (first | (with_reducible exact Below.refl _ _) | (with_reducible assumption) | (with_reducible refine below_drewN ?_ _) | (with_reducible refine below_new ?_ _) | (with_reducible refine Below.alloc ?_ ?_ _) | (with_reducible refine Below.drew ?_) | (with_reducible refine Below.setCell ?_ ?_ _) | (with_reducible apply below_on; (with_reducible assumption)) | (go_size; done) | (with_reducible apply size_of)))⟩
set_option maxHeartbeats 400000 in
theorem extended_any (p : Nat) (b : Bool) (w : World) (h : p ≤ 1000) : Calls Try.prog 26 #[.int .i64 p, .bool b] w fun e w' => e = .returned (.int .i64 ((2 * p + b.toNat : Nat) : Int)) ∧ w = w' := by
  cases b
  all_goals
    go_enter Try.func26, Try.ntmps26
    go_wp2
    go_ret
    exact ⟨ret1 (by simp), rfl⟩
set_option maxHeartbeats 400000 in
theorem New_any (w : World) : Calls Try.prog 18 #[] w fun e w' => e = .returned (.agg #[.int .i64 1]) ∧ Below w.heap.size w w' := by
  go_enter Try.func18, Try.ntmps18
  go_wp2
  refine bodyPost_ret (by simp [results, Try.results18, go_sem, ]; try rfl) rfl ?_
  exact ⟨rfl, by (repeat' (first | (with_reducible exact Below.refl _ _) | (with_reducible assumption) | (with_reducible refine below_drewN ?_ _) | (with_reducible refine below_new ?_ _) | (with_reducible refine Below.alloc ?_ ?_ _) | (with_reducible refine Below.drew ?_) | (with_reducible refine Below.setCell ?_ ?_ _) | (with_reducible apply below_on; (with_reducible assumption)) | (go_size; done) | (with_reducible apply size_of)))⟩
theorem len8_size : Lib.len8tab.size = 256 := by kernel_rfl
theorem len8_rd : ∀ n, n < 256 → 1 ≤ n → ∀ h : n < Lib.len8tab.size, (Lib.len8tab[n]'h).toNat = (rd n).length + 1 := by
  intro n h1 h2 h
  have all : ∀ n, n < 256 → 1 ≤ n → ((Lib.len8tab[n]?).getD 0).toNat = (rd n).length + 1 := by decide +kernel
  have := all n h1 h2
  rw [getElem?_pos Lib.len8tab n h] at this
  exact this
set_option maxHeartbeats 1000000 in
set_option maxRecDepth 1000000 in
theorem len64_small (x : Int) (w : World) (h0 : 0 ≤ x) (h1 : x < 256) (h2 : 1 ≤ x) : Calls Try.prog 34 #[.int .u64 x] w fun e w' => e = .returned (.int .i64 (((rd x.toNat).length + 1 : Nat) : Int)) ∧ w = w' := by
  go_enter Try.func34, Try.ntmps34
  go_wp2
  all_goals first
    | (go_ret; refine ⟨ret1 ?_, rfl⟩; rw [len8_rd x.toNat (by omega) (by omega)]; have hl := rd_len x.toNat (by omega); unfold wrap64; omega)
    | (exfalso; have hs := len8_size; omega)
theorem len64_any (n : Nat) (w : World) (h1 : 1 ≤ n) (h2 : n < 256) : Calls Try.prog 34 #[.int .u64 n] w fun e w' => e = .returned (.int .i64 (((rd n).length + 1 : Nat) : Int)) ∧ w = w' :=
  len64_small n w (by omega) (by omega) (by omega)
set_option maxHeartbeats 400000 in
theorem len_any (n : Nat) (w : World) (h1 : 1 ≤ n) (h2 : n < 256) : Calls Try.prog 32 #[.int .u64 n] w fun e w' => e = .returned (.int .i64 (((rd n).length + 1 : Nat) : Int)) ∧ w = w' := by
  go_enter Try.func32, Try.ntmps32
  go_wp2_with (go_at_call 34; refine (len64_any _ _ h1 h2).mono ?_; rintro e w' ⟨rfl, rfl⟩)
  go_ret
  exact ⟨rfl, rfl⟩
set_option maxHeartbeats 400000 in
theorem read_any (n : Nat) (w : World) (h1 : 1 ≤ n) (h2 : n < 256) : Calls Try.prog 30 #[.int .i64 n] w fun e w' => e = .returned (.int .i64 (((rd n).length : Nat) : Int)) ∧ w = w' := by
  have hl := rd_len n (by omega)
  go_enter Try.func30, Try.ntmps30
  go_wp2_with (go_at_call 32; refine (len_any _ _ h1 h2).mono ?_; rintro e w' ⟨rfl, rfl⟩)
  go_ret
  exact ⟨ret1 (by omega), rfl⟩
theorem node_4 : ∀ n, n < 256 → 16 ≤ n → (rd n).length = 4 → bits .or .i64 1 (bits .and .i64 n 0) = nd n := by decide +kernel
theorem node_5 : ∀ n, n < 256 → 16 ≤ n → (rd n).length = 5 → bits .or .i64 2 (bits .and .i64 n 1) = nd n := by decide +kernel
theorem node_6 : ∀ n, n < 256 → 16 ≤ n → (rd n).length = 6 → bits .or .i64 4 (bits .and .i64 n 3) = nd n := by decide +kernel
theorem node_7 : ∀ n, n < 256 → 16 ≤ n → (rd n).length = 7 → bits .or .i64 8 (bits .and .i64 n 7) = nd n := by decide +kernel
set_option maxHeartbeats 1000000 in
theorem node_any (n : Nat) (w : World) (h1 : 1 ≤ n) (h2 : n < 256) : Calls Try.prog 28 #[.int .i64 n] w fun e w' => e = .returned (.int .i64 ((nd n : Nat) : Int)) ∧ w = w' := by
  have hl := rd_len n (by omega)
  by_cases c : n < 16
  · have e : nd n = n := by simp [nd, c]
    have E := Lib.hid e
    clear e
    go_enter Try.func28, Try.ntmps28
    go_wp2
    go_ret
    exact ⟨ret1 (by rw [E.out]), rfl⟩
  · have hk : (rd n).length = 4 ∨ (rd n).length = 5 ∨ (rd n).length = 6 ∨ (rd n).length = 7 := by omega
    rcases hk with hk | hk | hk | hk
    · have E := Lib.hid (node_4 n h2 (by omega) hk)
      have R := read_any n w h1 h2
      rw [hk] at R
      clear hk hl
      go_enter Try.func28, Try.ntmps28
      go_wp2_with (go_at_call 30; refine (R).mono ?_; rintro e w' ⟨rfl, rfl⟩)
      go_ret
      exact ⟨ret1 (by rw [← E.out]), rfl⟩
    · have E := Lib.hid (node_5 n h2 (by omega) hk)
      have R := read_any n w h1 h2
      rw [hk] at R
      clear hk hl
      go_enter Try.func28, Try.ntmps28
      go_wp2_with (go_at_call 30; refine (R).mono ?_; rintro e w' ⟨rfl, rfl⟩)
      go_ret
      exact ⟨ret1 (by rw [← E.out]), rfl⟩
    · have E := Lib.hid (node_6 n h2 (by omega) hk)
      have R := read_any n w h1 h2
      rw [hk] at R
      clear hk hl
      go_enter Try.func28, Try.ntmps28
      go_wp2_with (go_at_call 30; refine (R).mono ?_; rintro e w' ⟨rfl, rfl⟩)
      go_ret
      exact ⟨ret1 (by rw [← E.out]), rfl⟩
    · have E := Lib.hid (node_7 n h2 (by omega) hk)
      have R := read_any n w h1 h2
      rw [hk] at R
      clear hk hl
      go_enter Try.func28, Try.ntmps28
      go_wp2_with (go_at_call 30; refine (R).mono ?_; rintro e w' ⟨rfl, rfl⟩)
      go_ret
      exact ⟨ret1 (by rw [← E.out]), rfl⟩
end Go.Proofs.Ytjhfamoldppclaa.nibW
