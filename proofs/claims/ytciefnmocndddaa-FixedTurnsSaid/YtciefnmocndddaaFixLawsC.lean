/- Statements of layer 3 (fixed) on rows of numbers. -/
import Derived.Test.YtciefnmocndddaaFixLawsB
import Derived.Test.YtciefnmocndddaaMem32
namespace Go.Proofs.Ytciefnmocndddaa.fixL
open Go.RowKit Go.Proofs.Ytciefnmocndddaa.base Go.Proofs.Ytciefnmocndddaa.fixP Go.Proofs.Ytciefnmocndddaa.fixW
set_option linter.unusedVariables false

theorem mul_bd27 {x y : Int} (h1 : -134217728 ≤ x) (h2 : x ≤ 134217728) (h3 : -134217728 ≤ y) (h4 : y ≤ 134217728) : -18014398509481984 ≤ x * y ∧ x * y ≤ 18014398509481984 := by
  have f : ∀ a b : Int, 0 ≤ a → a ≤ 134217728 → 0 ≤ b → b ≤ 134217728 → 0 ≤ a * b ∧ a * b ≤ 18014398509481984 := by
    intro a b a1 a2 b1 b2
    have := Int.mul_le_mul a2 b2 b1 (by omega)
    exact ⟨Int.mul_nonneg a1 b1, by omega⟩
  by_cases cx : 0 ≤ x <;> by_cases cy : 0 ≤ y
  · have := f x y cx (by omega) cy (by omega); omega
  · have := f x (-y) cx (by omega) (by omega) (by omega); rw [Int.mul_neg] at this; omega
  · have := f (-x) y (by omega) (by omega) cy (by omega); rw [Int.neg_mul] at this; omega
  · have := f (-x) (-y) (by omega) (by omega) (by omega) (by omega); rw [Int.neg_mul_neg] at this; omega

theorem psum_step {xs ys : List Int} {N k : Nat} (lx : xs.length = N) (ly : ys.length = N) (hk : k < N) :
    ((prods xs ys).take (k + 1)).sum = ((prods xs ys).take k).sum + xs.getD k 0 * ys.getD k 0 := by
  have h : k < (prods xs ys).length := by rw [prods_length (by omega)]; omega
  rw [take_snoc 0 _ k h, prods_getD (by omega) k (by omega)]
  simp

theorem has_two {w : World} {b1 o1 b2 o2 N : Nat} {xs ys : List Int} (h : Two w b1 o1 b2 o2 N xs ys) : Has .i32 w (some ⟨b1, o1, none⟩) xs ∧ Has .i32 w (some ⟨b2, o2, none⟩) ys :=
  ⟨.inr ⟨b1, o1, rfl, h.hb1, fun i hi => h.hc1 i (by rw [← h.lx]; exact hi)⟩, .inr ⟨b2, o2, rfl, h.hb2, fun i hi => h.hc2 i (by rw [← h.ly]; exact hi)⟩⟩

set_option maxHeartbeats 2000000 in
theorem exact_some (b1 o1 c1 b2 o2 c2 N : Nat) (xs ys : List Int) (w : World) (h16 : N ≤ 16) (h : Two w b1 o1 b2 o2 N xs ys) :
    Calls Try.prog 9 #[.slice (some ⟨b1, o1, none⟩) N c1, .slice (some ⟨b2, o2, none⟩) N c2] w fun e w' => e = .returned (.bool true) ∧ Below w.heap.size w w' := by
  have H := Lib.hid h
  clear h
  have HL : Hid ((prods xs ys).length = N) := Lib.hid (by rw [prods_length (by rw [H.out.lx, H.out.ly]), H.out.lx])
  go_enter Try.func9, Try.ntmps9
  go_wp2_with fail
  go_loopw [5, 6] (fun s i wr => ∃ j : Nat, j ≤ N ∧ i = .int .i64 j ∧ s = .int .i64 ((prods xs ys).take j).sum ∧ -18014398509481984 * (j : Int) ≤ ((prods xs ys).take j).sum ∧ ((prods xs ys).take j).sum ≤ 18014398509481984 * (j : Int) ∧ Below w.heap.size w wr) (fun _ i _ => N - (intOf i).toNat)
  case atStart => exact ⟨0, Nat.zero_le _, rfl, rfl, by simp, by simp, Below.refl _ _⟩
  case round =>
    obtain ⟨j, hj, rfl, rfl, sb1, sb2, acc⟩ := hrel
    by_cases hlt : j < N
    · have x1 := (H.out.hx _ (mem_getD (by rw [H.out.lx]; exact hlt : j < xs.length))).1
      have x2 := (H.out.hx _ (mem_getD (by rw [H.out.lx]; exact hlt : j < xs.length))).2
      have y1 := (H.out.hy _ (mem_getD (by rw [H.out.ly]; exact hlt : j < ys.length))).1
      have y2 := (H.out.hy _ (mem_getD (by rw [H.out.ly]; exact hlt : j < ys.length))).2
      have cx : wr.cell? ⟨b1, o1 + j, none⟩ = some (.int .i32 (xs.getD j 0)) := by rw [(bcell acc).1 b1 _ H.out.hb1]; exact H.out.hc1 j hlt
      have cy : wr.cell? ⟨b2, o2 + j, none⟩ = some (.int .i32 (ys.getD j 0)) := by rw [(bcell acc).1 b2 _ H.out.hb2]; exact H.out.hc2 j hlt
      have HST := Lib.hid (psum_step H.out.lx H.out.ly hlt)
      generalize xs.getD j 0 = x at *
      generalize ys.getD j 0 = y at *
      generalize hs : ((prods xs ys).take j).sum = s at *
      have HS := Lib.hid hs
      clear hs
      have cases : (134217728 < x) ∨ (x ≤ 134217728 ∧ x < -134217728) ∨ (x ≤ 134217728 ∧ -134217728 ≤ x ∧ 134217728 < y) ∨ (x ≤ 134217728 ∧ -134217728 ≤ x ∧ y ≤ 134217728 ∧ y < -134217728) ∨ (x ≤ 134217728 ∧ -134217728 ≤ x ∧ y ≤ 134217728 ∧ -134217728 ≤ y) := by omega
      rcases cases with q | ⟨q1, q⟩ | ⟨q1, q2, q⟩ | ⟨q1, q2, q3, q⟩ | ⟨q1, q2, q3, q⟩
      · go_wp2_with (first | (go_at_call 18; refine (alive _).mono ?_; rintro e w' ⟨rfl, hb⟩; replace acc := acc.trans (hb.mono acc.size); clear hb))
        go_ret
        exact ⟨rfl, acc⟩
      · go_wp2_with (first | (go_at_call 18; refine (alive _).mono ?_; rintro e w' ⟨rfl, hb⟩; replace acc := acc.trans (hb.mono acc.size); clear hb))
        go_ret
        exact ⟨rfl, acc⟩
      · go_wp2_with (first | (go_at_call 18; refine (alive _).mono ?_; rintro e w' ⟨rfl, hb⟩; replace acc := acc.trans (hb.mono acc.size); clear hb))
        go_ret
        exact ⟨rfl, acc⟩
      · go_wp2_with (first | (go_at_call 18; refine (alive _).mono ?_; rintro e w' ⟨rfl, hb⟩; replace acc := acc.trans (hb.mono acc.size); clear hb))
        go_ret
        exact ⟨rfl, acc⟩
      · have mb := mul_bd27 q2 q1 q q3
        have m1 := mb.1
        have m2 := mb.2
        clear mb
        generalize hp : x * y = p at *
        have HP := Lib.hid hp
        have n1 : -288230376151711744 ≤ s := by omega
        have n2 : s ≤ 288230376151711744 := by omega
        go_wp2
        go_quiet (fail)
        go_wp2
        go_roundw
        case rel => exact ⟨j + 1, by omega, by go_num, by rw [HST.out], by rw [HST.out]; omega, by rw [HST.out]; omega, below_drewN acc _⟩
        case measure => simp [intOf] <;> omega
    · obtain rfl : j = N := by omega
      have HT : Hid ((prods xs ys).take j = prods xs ys) := Lib.hid (List.take_of_length_le (by rw [HL.out]; exact Nat.le_refl _))
      rw [HT.out] at sb1 sb2 ⊢
      have hh := has_two H.out
      have HD := Lib.hid (dot_any (some ⟨b1, o1, none⟩) (some ⟨b2, o2, none⟩) j c1 c2 xs ys wr h16 H.out.lx H.out.ly (hh.1.below acc (Nat.le_refl _)) (hh.2.below acc (Nat.le_refl _)) H.out.hx H.out.hy)
      clear hh
      go_wp2_with (first | (go_at_call 16; refine HD.out.mono ?_; rintro e w' ⟨rfl, rfl⟩; clear HD) | (go_at_call 25; refine (near_any _ _).mono ?_; rintro e w' ⟨rfl, rfl⟩) | (go_at_call 18; refine (alive _).mono ?_; rintro e w' ⟨rfl, hb⟩; replace acc := acc.trans (hb.mono acc.size); clear hb))
      go_ret
      exact ⟨rfl, acc⟩

set_option maxHeartbeats 2000000 in
theorem exact_nil (A B : Option Addr) (c1 c2 : Nat) (w : World) :
    Calls Try.prog 9 #[.slice A 0 c1, .slice B 0 c2] w fun e w' => e = .returned (.bool true) ∧ Below w.heap.size w w' := by
  have acc := Below.refl w.heap.size w
  have s0 : sat 0 = 0 := rfl
  have hn : ∀ w, Calls Try.prog 25 #[.int .i32 0, .int .i64 0] w fun e w' => e = .returned (.bool true) ∧ w = w' := fun w => near_any 0 w
  have HNE := Lib.hid hn
  clear hn
  go_enter Try.func9, Try.ntmps9
  go_wp2_with fail
  go_loop [5, 6] (fun s i => i = .int .i64 0 ∧ s = .int .i64 0) (fun _ i => 0)
  case atStart => exact ⟨rfl, rfl⟩
  case round =>
    obtain ⟨rfl, rfl⟩ := hrel
    go_wp2_with (first | (go_at_call 16; refine (dot_nil _ _ _ _ _).mono ?_; rintro e w' ⟨rfl, rfl⟩) | (go_at_call 25; refine (HNE.out _).mono ?_; rintro e w' ⟨rfl, rfl⟩) | (go_at_call 18; refine (alive _).mono ?_; rintro e w' ⟨rfl, hb⟩; replace acc := acc.trans (hb.mono acc.size); clear hb))
    go_ret
    exact ⟨rfl, acc⟩

set_option maxHeartbeats 2000000 in
theorem exact_out (A B : Option Addr) (n m c1 c2 : Nat) (w : World) (h : 16 < n ∨ n ≤ 16 ∧ ((m : Int) != (n : Int)) = true) :
    Calls Try.prog 9 #[.slice A n c1, .slice B m c2] w fun e w' => e = .returned (.bool true) ∧ Below w.heap.size w w' := by
  have acc := Below.refl w.heap.size w
  rcases h with h | ⟨h0, h⟩
  · go_enter Try.func9, Try.ntmps9
    go_wp2_with (first | (go_at_call 18; refine (alive _).mono ?_; rintro e w' ⟨rfl, hb⟩; replace acc := acc.trans (hb.mono acc.size); clear hb))
    go_ret
    exact ⟨rfl, acc⟩
  · go_enter Try.func9, Try.ntmps9
    go_wp2_with (first | (go_at_call 18; refine (alive _).mono ?_; rintro e w' ⟨rfl, hb⟩; replace acc := acc.trans (hb.mono acc.size); clear hb))
    go_ret
    exact ⟨rfl, acc⟩

theorem exact_law (A : Option Addr) (n c1 : Nat) (z1 : List Int) (B : Option Addr) (m c2 : Nat) (z2 : List Int) (w : World) (r1 : IsRow .i32 w A n c1 z1) (r2 : IsRow .i32 w B m c2 z2) :
    Calls Try.prog 9 #[.slice A n c1, .slice B m c2] w fun e w' => e = .returned (.bool true) ∧ Below w.heap.size w w' := by
  obtain ⟨hA, lA, _, wA⟩ := has_of_row r1
  obtain ⟨hB, lB, _, wB⟩ := has_of_row r2
  by_cases h0 : 16 < n ∨ n ≤ 16 ∧ ((m : Int) != (n : Int)) = true
  · exact exact_out A B n m c1 c2 w h0
  · obtain rfl : n = m := by
      have : ¬ ((m : Int) != (n : Int)) = true := fun h => h0 (.inr ⟨by omega, h⟩)
      simp at this; omega
    rcases two_of (by omega) hA hB (wf32 wA) (wf32 wB) with ⟨e1, e2⟩ | ⟨b1, o1, b2, o2, rfl, rfl, h⟩
    · obtain rfl : n = 0 := by rw [e1] at lA; simpa using lA.symm
      exact exact_nil A B c1 c2 w
    · rw [lA] at h
      exact exact_some b1 o1 c1 b2 o2 c2 n _ _ w (by omega) h
end Go.Proofs.Ytciefnmocndddaa.fixL
