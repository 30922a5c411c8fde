/- Several texts as one: NibW, NibW2. -/
import Derived.Test.YtemiecghdmagnaaBase
import Derived.Test.YtemiecghdmagnaaGB
import Derived.Test.YtemiecghdmagnaaBlock
import Derived.Test.YtemiecghdmagnaaReg
import Derived.Test.YtemiecghdmagnaaBool
import Derived.Test.YtemiecghdmagnaaGA
import Derived.WalkKit
import Derived.Lib.Hide
import Derived.WalkSpells
import Derived.WalkLawsBesides
import Derived.Handy
import Derived.Outline
import Derived.Deep.DeepMust
import Derived.Deep.QuietTactic
import Derived.BigQuiet
import Derived.Lib.BitFns
namespace Go.Proofs.Ytemiecghdmagnaa.nibW
set_option maxRecDepth 100000
open Go.RowKit Go.Proofs.Ytemiecghdmagnaa.base Go.Proofs.Ytemiecghdmagnaa.nibP
set_option linter.unusedVariables false
set_option linter.unusedSimpArgs false

theorem wE_no {p : Int} (h : wOk p = false) : wE p = 8 := by simp [wE, h]
theorem wE_yes {p : Int} (h : wOk p = true) : wE p = 0 := by simp [wE, h]

set_option maxHeartbeats 400000 in
theorem Check_any (p : Int) (w : World) : Calls Try.prog 35 #[.agg #[.int .i64 p]] w fun e w' => e = .returned (.int .i64 (wE p)) ∧ Below w.heap.size w w' := by
  by_cases h1 : p < 1
  · go_enter Try.func35, Try.ntmps35
    go_wp2
    go_ret
    exact ⟨ret1 (by rw [wE_no]; simp [wOk]; omega), by (repeat' (first | (with_reducible exact Below.refl _ _) | (with_reducible assumption) | (with_reducible refine below_drewN ?_ _) | (with_reducible refine below_new ?_ _) | (with_reducible refine Below.alloc ?_ ?_ _) | (with_reducible refine Below.drew ?_) | (with_reducible refine Below.setCell ?_ ?_ _) | (with_reducible apply below_at; (case k => (with_reducible assumption)); (case hB => omega)) | (with_reducible apply below_on; (with_reducible assumption)) | (go_size; done) | (with_reducible apply size_of)))⟩
  · by_cases h2 : 256 ≤ p
    · go_enter Try.func35, Try.ntmps35
      go_wp2
      go_ret
      exact ⟨ret1 (by rw [wE_no]; simp [wOk]; omega), by (repeat' (first | (with_reducible exact Below.refl _ _) | (with_reducible assumption) | (with_reducible refine below_drewN ?_ _) | (with_reducible refine below_new ?_ _) | (with_reducible refine Below.alloc ?_ ?_ _) | (with_reducible refine Below.drew ?_) | (with_reducible refine Below.setCell ?_ ?_ _) | (with_reducible apply below_at; (case k => (with_reducible assumption)); (case hB => omega)) | (with_reducible apply below_on; (with_reducible assumption)) | (go_size; done) | (with_reducible apply size_of)))⟩
    · go_enter Try.func35, Try.ntmps35
      go_wp2
      go_ret
      exact ⟨ret1 (by rw [wE_yes]; simp [wOk]; omega), by (repeat' (first | (with_reducible exact Below.refl _ _) | (with_reducible assumption) | (with_reducible refine below_drewN ?_ _) | (with_reducible refine below_new ?_ _) | (with_reducible refine Below.alloc ?_ ?_ _) | (with_reducible refine Below.drew ?_) | (with_reducible refine Below.setCell ?_ ?_ _) | (with_reducible apply below_at; (case k => (with_reducible assumption)); (case hB => omega)) | (with_reducible apply below_on; (with_reducible assumption)) | (go_size; done) | (with_reducible apply size_of)))⟩
set_option maxHeartbeats 400000 in
theorem rCheck_any (p : Int) (w : World) : Calls Try.prog 37 #[.agg #[.int .i64 p]] w fun e w' => e = .returned (.int .i64 (wE p)) ∧ Below w.heap.size w w' := by
  by_cases h1 : p < 1
  · go_enter Try.func37, Try.ntmps37
    go_wp2
    go_ret
    exact ⟨ret1 (by rw [wE_no]; simp [wOk]; omega), by (repeat' (first | (with_reducible exact Below.refl _ _) | (with_reducible assumption) | (with_reducible refine below_drewN ?_ _) | (with_reducible refine below_new ?_ _) | (with_reducible refine Below.alloc ?_ ?_ _) | (with_reducible refine Below.drew ?_) | (with_reducible refine Below.setCell ?_ ?_ _) | (with_reducible apply below_at; (case k => (with_reducible assumption)); (case hB => omega)) | (with_reducible apply below_on; (with_reducible assumption)) | (go_size; done) | (with_reducible apply size_of)))⟩
  · by_cases h2 : 255 < p
    · go_enter Try.func37, Try.ntmps37
      go_wp2
      go_ret
      exact ⟨ret1 (by rw [wE_no]; simp [wOk]; omega), by (repeat' (first | (with_reducible exact Below.refl _ _) | (with_reducible assumption) | (with_reducible refine below_drewN ?_ _) | (with_reducible refine below_new ?_ _) | (with_reducible refine Below.alloc ?_ ?_ _) | (with_reducible refine Below.drew ?_) | (with_reducible refine Below.setCell ?_ ?_ _) | (with_reducible apply below_at; (case k => (with_reducible assumption)); (case hB => omega)) | (with_reducible apply below_on; (with_reducible assumption)) | (go_size; done) | (with_reducible apply size_of)))⟩
    · go_enter Try.func37, Try.ntmps37
      go_wp2
      go_ret
      exact ⟨ret1 (by rw [wE_yes]; simp [wOk]; omega), by (repeat' (first | (with_reducible exact Below.refl _ _) | (with_reducible assumption) | (with_reducible refine below_drewN ?_ _) | (with_reducible refine below_new ?_ _) | (with_reducible refine Below.alloc ?_ ?_ _) | (with_reducible refine Below.drew ?_) | (with_reducible refine Below.setCell ?_ ?_ _) | (with_reducible apply below_at; (case k => (with_reducible assumption)); (case hB => omega)) | (with_reducible apply below_on; (with_reducible assumption)) | (go_size; done) | (with_reducible apply size_of)))⟩
set_option maxHeartbeats 400000 in
theorem extended_any (p : Nat) (b : Bool) (w : World) (h : p ≤ 1000) : Calls Try.prog 56 #[.int .i64 p, .bool b] w fun e w' => e = .returned (.int .i64 ((2 * p + b.toNat : Nat) : Int)) ∧ w = w' := by
  cases b
  all_goals
    go_enter Try.func56, Try.ntmps56
    go_wp2
    go_ret
    exact ⟨ret1 (by simp), rfl⟩
set_option maxHeartbeats 400000 in
theorem New_any (w : World) : Calls Try.prog 25 #[] w fun e w' => e = .returned (.agg #[.int .i64 1]) ∧ Below w.heap.size w w' := by
  go_enter Try.func25, Try.ntmps25
  go_wp2
  refine bodyPost_ret (by simp [results, Try.results25, go_sem, ]; try rfl) rfl ?_
  exact ⟨rfl, by (repeat' (first | (with_reducible exact Below.refl _ _) | (with_reducible assumption) | (with_reducible refine below_drewN ?_ _) | (with_reducible refine below_new ?_ _) | (with_reducible refine Below.alloc ?_ ?_ _) | (with_reducible refine Below.drew ?_) | (with_reducible refine Below.setCell ?_ ?_ _) | (with_reducible apply below_at; (case k => (with_reducible assumption)); (case hB => omega)) | (with_reducible apply below_on; (with_reducible assumption)) | (go_size; done) | (with_reducible apply size_of)))⟩
theorem len8_size : Lib.len8tab.size = 256 := by kernel_rfl
theorem len8_rd : ∀ n, n < 256 → 1 ≤ n → ∀ h : n < Lib.len8tab.size, (Lib.len8tab[n]'h).toNat = (rd n).length + 1 := by
  intro n h1 h2 h
  have all : ∀ n, n < 256 → 1 ≤ n → ((Lib.len8tab[n]?).getD 0).toNat = (rd n).length + 1 := by decide +kernel
  have := all n h1 h2
  rw [getElem?_pos Lib.len8tab n h] at this
  exact this
set_option maxHeartbeats 1000000 in
set_option maxRecDepth 1000000 in
theorem len64_small (x : Int) (w : World) (h0 : 0 ≤ x) (h1 : x < 256) (h2 : 1 ≤ x) : Calls Try.prog 93 #[.int .u64 x] w fun e w' => e = .returned (.int .i64 (((rd x.toNat).length + 1 : Nat) : Int)) ∧ w = w' := by
  go_enter Try.func93, Try.ntmps93
  go_wp2
  all_goals first
    | (go_ret; refine ⟨ret1 ?_, rfl⟩; rw [len8_rd x.toNat (by omega) (by omega)]; have hl := rd_len x.toNat (by omega); unfold wrap64; omega)
    | (exfalso; have hs := len8_size; omega)
theorem len64_any (n : Nat) (w : World) (h1 : 1 ≤ n) (h2 : n < 256) : Calls Try.prog 93 #[.int .u64 n] w fun e w' => e = .returned (.int .i64 (((rd n).length + 1 : Nat) : Int)) ∧ w = w' :=
  len64_small n w (by omega) (by omega) (by omega)
set_option maxHeartbeats 400000 in
theorem len_any (n : Nat) (w : World) (h1 : 1 ≤ n) (h2 : n < 256) : Calls Try.prog 80 #[.int .u64 n] w fun e w' => e = .returned (.int .i64 (((rd n).length + 1 : Nat) : Int)) ∧ w = w' := by
  go_enter Try.func80, Try.ntmps80
  go_wp2_with (go_at_call 93; refine (len64_any _ _ h1 h2).mono ?_; rintro e w' ⟨rfl, rfl⟩)
  go_ret
  exact ⟨rfl, rfl⟩
set_option maxHeartbeats 400000 in
theorem read_any (n : Nat) (w : World) (h1 : 1 ≤ n) (h2 : n < 256) : Calls Try.prog 61 #[.int .i64 n] w fun e w' => e = .returned (.int .i64 (((rd n).length : Nat) : Int)) ∧ w = w' := by
  have hl := rd_len n (by omega)
  go_enter Try.func61, Try.ntmps61
  go_wp2_with (go_at_call 80; refine (len_any _ _ h1 h2).mono ?_; rintro e w' ⟨rfl, rfl⟩)
  go_ret
  exact ⟨ret1 (by omega), rfl⟩
theorem node_4 : ∀ n, n < 256 → 16 ≤ n → (rd n).length = 4 → bits .or .i64 1 (bits .and .i64 n 0) = nd n := by decide +kernel
theorem node_5 : ∀ n, n < 256 → 16 ≤ n → (rd n).length = 5 → bits .or .i64 2 (bits .and .i64 n 1) = nd n := by decide +kernel
theorem node_6 : ∀ n, n < 256 → 16 ≤ n → (rd n).length = 6 → bits .or .i64 4 (bits .and .i64 n 3) = nd n := by decide +kernel
theorem node_7 : ∀ n, n < 256 → 16 ≤ n → (rd n).length = 7 → bits .or .i64 8 (bits .and .i64 n 7) = nd n := by decide +kernel
end Go.Proofs.Ytemiecghdmagnaa.nibW

namespace Go.Proofs.Ytemiecghdmagnaa.nibW
set_option maxRecDepth 100000
open Go.RowKit Go.Proofs.Ytemiecghdmagnaa.base Go.Proofs.Ytemiecghdmagnaa.nibP
set_option linter.unusedVariables false
set_option linter.unusedSimpArgs false

def ndV (p : Int) : Int := if wOk p then nd p.toNat else 0
def scV (p : Int) : Bool := wOk p && decide (16 ≤ p)
def stP (p : Int) (b : Bool) : Int := if wOk p then (if p < 128 then 2 * p + b.toInt else 1) else 0
def stD (p : Int) : Bool := wOk p && decide (128 ≤ p)
def stB (p : Int) (b : Bool) : Int := if wOk p then (if p < 128 then 0 else 2 * p + b.toInt - 256) else 0
def ofV (l : List Bool) : Int := if l.length ≤ 7 then prt l else 0
def ofE (l : List Bool) : Int := if l.length ≤ 7 then 0 else 4

set_option maxHeartbeats 400000 in
theorem extendedI_any (p : Int) (b : Bool) (w : World) (h1 : 1 ≤ p) (h2 : p ≤ 1000) : Calls Try.prog 56 #[.int .i64 p, .bool b] w fun e w' => e = .returned (.int .i64 (2 * p + b.toInt)) ∧ w = w' := by
  obtain ⟨n, rfl⟩ : ∃ n : Nat, p = n := ⟨p.toNat, by omega⟩
  have := extended_any n b w (by omega)
  rw [show ((2 * n + b.toNat : Nat) : Int) = 2 * (n : Int) + b.toInt by cases b <;> simp] at this
  exact this
set_option maxHeartbeats 1000000 in
theorem Step_any (p : Int) (b : Bool) (w : World) : Calls Try.prog 30 #[.agg #[.int .i64 (p)], .bool b] w fun e w' => e = .returned (.tuple #[.agg #[.int .i64 (stP p b)], .bool (stD p), .int .u8 (stB p b), .int .i64 (wE p)]) ∧ Below w.heap.size w w' := by
  cases hk : wOk p
  · have e1 : wE p = 8 := wE_no hk
    have HK := Lib.hid hk
    clear hk
    go_enter Try.func30, Try.ntmps30
    go_wp2_with (go_at_call 35; refine (Check_any _ _).mono ?_; rintro e w1 ⟨rfl, hb1⟩; obtain ⟨cl1, fr1⟩ := bcell hb1; have sz1 := hb1.size; (try simp at sz1); (try have sy1 : w.heap.size + 1 < (w1).heap.size := (by omega)); have sx1 : w.heap.size < (w1).heap.size := (by omega))
    refine bodyPost_ret (by simp [results, Try.results30, go_sem, cl1, sy1]; try rfl) rfl ?_
    exact ⟨by simp [stP, stD, stB, HK.out, e1], by (repeat' (first | (with_reducible exact Below.refl _ _) | (with_reducible assumption) | (with_reducible refine below_drewN ?_ _) | (with_reducible refine below_new ?_ _) | (with_reducible refine Below.alloc ?_ ?_ _) | (with_reducible refine Below.drew ?_) | (with_reducible refine Below.setCell ?_ ?_ _) | (with_reducible apply below_at; (case k => (with_reducible assumption)); (case hB => omega)) | (with_reducible apply below_on; (with_reducible assumption)) | (go_size; done) | (with_reducible apply size_of)))⟩
  · have e1 : wE p = 0 := wE_yes hk
    have h := (wOk_iff p).1 hk
    have h1 := h.1
    have h2 := h.2
    have HK := Lib.hid hk
    have hb : 0 ≤ b.toInt ∧ b.toInt ≤ 1 := by cases b <;> decide
    clear hk h
    obtain ⟨m, hm⟩ : ∃ m : Int, m = 2 * p + b.toInt := ⟨_, rfl⟩
    have R := fun w => extendedI_any p b w h1 (by omega)
    rw [← hm] at R
    have g3 : m ≤ 511 := by omega
    have g4 : p < 128 ↔ m < 256 := by omega
    have HM := Lib.hid hm
    have G4 := Lib.hid g4
    clear hm g4 hb
    by_cases c : m < 256
    · go_enter Try.func30, Try.ntmps30
      go_wp2_with (first | (go_at_call 35; refine (Check_any _ _).mono ?_; rintro e w1 ⟨rfl, hb1⟩; obtain ⟨cl1, fr1⟩ := bcell hb1; have sz1 := hb1.size; (try simp at sz1); (try have sy1 : w.heap.size + 1 < (w1).heap.size := (by omega)); have sx1 : w.heap.size < (w1).heap.size := (by omega)) | (go_at_call 56; refine (R _).mono ?_; rintro e w' ⟨rfl, rfl⟩))
      refine bodyPost_ret (by simp [results, Try.results30, go_sem, cl1, sy1]; try rfl) rfl ?_
      have hn := G4.out.2 c
      refine ⟨?_, by (repeat' (first | (with_reducible exact Below.refl _ _) | (with_reducible assumption) | (with_reducible refine below_drewN ?_ _) | (with_reducible refine below_new ?_ _) | (with_reducible refine Below.alloc ?_ ?_ _) | (with_reducible refine Below.drew ?_) | (with_reducible refine Below.setCell ?_ ?_ _) | (with_reducible apply below_at; (case k => (with_reducible assumption)); (case hB => omega)) | (with_reducible apply below_on; (with_reducible assumption)) | (go_size; done) | (with_reducible apply size_of)))⟩
      rw [stP, stD, stB, e1, if_pos HK.out, if_pos HK.out, if_pos hn, if_pos hn, HK.out, ← HM.out, decide_eq_false (by omega)]
      rfl
    · have hn : ¬ p < 128 := fun h => c (G4.out.1 h)
      have HW : Hid (m - 256 = stB p b) := Lib.hid (by rw [stB, if_pos HK.out, if_neg hn, HM.out])
      go_enter Try.func30, Try.ntmps30
      go_wp2_with (first | (go_at_call 35; refine (Check_any _ _).mono ?_; rintro e w1 ⟨rfl, hb1⟩; obtain ⟨cl1, fr1⟩ := bcell hb1; have sz1 := hb1.size; (try simp at sz1); (try have sy1 : w.heap.size + 1 < (w1).heap.size := (by omega)); have sx1 : w.heap.size < (w1).heap.size := (by omega)) | (go_at_call 56; refine (R _).mono ?_; rintro e w' ⟨rfl, rfl⟩) | (go_at_call 25; refine (New_any _).mono ?_; rintro e w2 ⟨rfl, hb2⟩; obtain ⟨cl2, fr2⟩ := bcell hb2; have sz2 := hb2.size; (try simp at sz2); (try have sy2 : w.heap.size + 1 < (w2).heap.size := (by omega)); have sx2 : w.heap.size < (w2).heap.size := (by omega)))
      refine bodyPost_ret (by simp [results, Try.results30, go_sem, cl1, sy1, cl2, sy2]; try rfl) rfl ?_
      refine ⟨?_, by (repeat' (first | (with_reducible exact Below.refl _ _) | (with_reducible assumption) | (with_reducible refine below_drewN ?_ _) | (with_reducible refine below_new ?_ _) | (with_reducible refine Below.alloc ?_ ?_ _) | (with_reducible refine Below.drew ?_) | (with_reducible refine Below.setCell ?_ ?_ _) | (with_reducible apply below_at; (case k => (with_reducible assumption)); (case hB => omega)) | (with_reducible apply below_on; (with_reducible assumption)) | (go_size; done) | (with_reducible apply size_of)))⟩
      rw [stP, stD, ← HW.out, e1, if_pos HK.out, if_neg (by omega), HK.out, decide_eq_true (by omega)]
      rfl
end Go.Proofs.Ytemiecghdmagnaa.nibW
