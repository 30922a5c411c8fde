/- Statements of layer 6 (hashes), by walks. -/
import Derived.Test.YtnikphjhcicgbabHashW
namespace Go.Proofs.Ytnikphjhcicgbab.hashL
open Go.RowKit Go.Proofs.Ytnikphjhcicgbab.base Go.Proofs.Ytnikphjhcicgbab.hashP Go.Proofs.Ytnikphjhcicgbab.hashW
set_option linter.unusedVariables false

set_option maxHeartbeats 1000000 in
theorem rplace_any (h s : Int) (w : World) (h1 : 0 ≤ h) (h2 : h ≤ 4294967295) :
    Calls Try.prog 39 #[.int .u32 h, .int .i64 s] w fun e w' => e = .returned (.tuple #[.int .i64 (placeV h s), .int .i64 (placeE s)]) ∧ w = w' := by
  cases hs : sizeB s
  · go_enter Try.func39, Try.ntmps39
    go_wp2_with (first | (go_at_call 41; refine (rsize_any _ _).mono ?_; rintro e w' ⟨rfl, rfl⟩) | go_in)
    go_ret2
    exact ⟨ret2 (by simp [placeV, hs]) (by simp [placeE, hs]), rfl⟩
  · obtain ⟨k, hk, rfl⟩ := (sizeB_iff s).1 hs
    have p := pow20 hk
    have p1 := p.1
    have p2 := p.2
    clear p
    have eb : h % 2 ^ k < 2 ^ k := Int.emod_lt_of_pos _ (by omega)
    have ea : 0 ≤ h % 2 ^ k := Int.emod_nonneg _ (by omega)
    go_enter Try.func39, Try.ntmps39
    go_wp2_with (first | (go_at_call 41; refine (rsize_any _ _).mono ?_; rintro e w' ⟨rfl, rfl⟩) | go_in)
    go_ret2
    exact ⟨ret2 (by simp [placeV, hs]) (by simp [placeE, hs]), rfl⟩

theorem placeE_bd (s : Int) : 0 ≤ placeE s ∧ placeE s ≤ 2 := by unfold placeE; split <;> omega

set_option maxHeartbeats 1000000 in
theorem alive (w : World) :
    Calls Try.prog 31 #[] w fun e w' => e = .returned (.bool true) ∧ Below w.heap.size w w' := by
  have a1 : placeV 1013904242 16 = 2 := by decide +kernel
  have a2 : placeE 16 = 0 := by decide +kernel
  have a3 : kStart 0 = 2654435769 := by decide +kernel
  have a4 : kStart 1 = 1013904242 := by decide +kernel
  have a5 : kE 0 = 0 := by decide +kernel
  have a6 : kE 1 = 0 := by decide +kernel
  have a7 : hStep 0 0 = 0 := by decide +kernel
  have a8 : hStep 0 1 = 16778131 := by decide +kernel
  have acc := Below.refl w.heap.size w
  go_enter Try.func31, Try.ntmps31
  go_wp2_with (first | (go_at_call 27; refine (start_any _ _).mono ?_; rintro e w' ⟨rfl, rfl⟩) | (go_at_call 29; refine (place_any _ _ _ (by omega) (by omega)).mono ?_; rintro e w' ⟨rfl, rfl⟩) | (go_at_call 30; refine (check_any _ _ (by omega) (by omega)).mono ?_; rintro e w' ⟨rfl, rfl⟩) | (go_at_call 33; refine (step_any _ _ _ (by omega) (by omega) (by omega) (by omega)).mono ?_; rintro e w' ⟨rfl, hb⟩; replace acc := acc.trans (hb.mono acc.size); clear hb) | go_in)
  go_ret
  exact ⟨rfl, acc⟩

set_option maxHeartbeats 1000000 in
theorem makes (k h c : Int) (w : World) (_ : -9223372036854775808 ≤ k) (_ : k ≤ 9223372036854775807) (h1 : 0 ≤ h) (h2 : h ≤ 4294967295) (c1 : 0 ≤ c) (c2 : c ≤ 255) :
    Calls Try.prog 10 #[.int .i64 k, .int .u32 h, .int .u8 c] w fun e w' => e = .returned (.bool true) ∧ Below w.heap.size w w' := by
  have g := kE_bd k
  have g1 := g.1
  have g2 := g.2
  clear g
  have acc := Below.refl w.heap.size w
  go_enter Try.func10, Try.ntmps10
  go_wp2_with (first | (go_at_call 27; refine (start_any _ _).mono ?_; rintro e w' ⟨rfl, rfl⟩) | (go_at_call 32; refine (rstart_any _ _).mono ?_; rintro e w' ⟨rfl, rfl⟩) | (go_at_call 30; refine (check_any _ _ (by omega) (by omega)).mono ?_; rintro e w' ⟨rfl, rfl⟩) | (go_at_call 37; refine (rcheck_any _ _ (by omega) (by omega)).mono ?_; rintro e w' ⟨rfl, rfl⟩) | (go_at_call 35; refine (back_any _ _ _ h1 h2 c1 c2).mono ?_; rintro e w' ⟨rfl, rfl⟩) | (go_at_call 36; refine (rback_any _ _ _ h1 h2 c1 c2).mono ?_; rintro e w' ⟨rfl, rfl⟩) | (go_at_call 34; refine (rstep_any _ _ _ h1 h2 c1 c2).mono ?_; rintro e w' ⟨rfl, rfl⟩) | (go_at_call 33; refine (step_any _ _ _ (by omega) (by omega) (by omega) (by omega)).mono ?_; rintro e w' ⟨rfl, hb⟩; replace acc := acc.trans (hb.mono acc.size); clear hb) | go_in)
  go_ret
  exact ⟨rfl, acc⟩

set_option maxHeartbeats 1000000 in
theorem back (h g c d : Int) (w : World) (h1 : 0 ≤ h) (h2 : h ≤ 4294967295) (g1 : 0 ≤ g) (g2 : g ≤ 4294967295) (c1 : 0 ≤ c) (c2 : c ≤ 255) (d1 : 0 ≤ d) (d2 : d ≤ 255) :
    Calls Try.prog 12 #[.int .u32 h, .int .u32 g, .int .u8 c, .int .u8 d] w fun e w' => e = .returned (.bool true) ∧ Below w.heap.size w w' := by
  have x1 := (hStep_bd h1 h2 c1 c2).1
  have x2 := (hStep_bd h1 h2 c1 c2).2
  have y1 := (hStep_bd g1 g2 c1 c2).1
  have y2 := (hStep_bd g1 g2 c1 c2).2
  have z1 := (hStep_bd h1 h2 d1 d2).1
  have z2 := (hStep_bd h1 h2 d1 d2).2
  have b1 := (hBack_bd h1 h2 c1 c2).1
  have b2 := (hBack_bd h1 h2 c1 c2).2
  have e1 := hBack_hStep h1 h2 c1 c2
  have e2 := hStep_hBack h1 h2 c1 c2
  have acc := Below.refl w.heap.size w
  by_cases hg : h = g
  · subst hg
    by_cases hd : c = d
    · subst hd
      go_enter Try.func12, Try.ntmps12
      go_wp2_with (first | (go_at_call 33; refine (step_any _ _ _ (by omega) (by omega) (by omega) (by omega)).mono ?_; rintro e w' ⟨rfl, hb⟩; replace acc := acc.trans (hb.mono acc.size); clear hb) | (go_at_call 35; refine (back_any _ _ _ (by omega) (by omega) (by omega) (by omega)).mono ?_; rintro e w' ⟨rfl, rfl⟩) | (go_at_call 31; refine (alive _).mono ?_; rintro e w' ⟨rfl, hb⟩; replace acc := acc.trans (hb.mono acc.size); clear hb) | go_in)
      go_ret
      exact ⟨rfl, acc⟩
    · have e4 : (hStep h c == hStep h d) = false := by simpa using fun e => hd ((hStep_inj' h1 h2 c1 c2 d1 d2).1 e)
      have e5 : (c == d) = false := by simpa using hd
      clear hd
      go_enter Try.func12, Try.ntmps12
      go_wp2_with (first | (go_at_call 33; refine (step_any _ _ _ (by omega) (by omega) (by omega) (by omega)).mono ?_; rintro e w' ⟨rfl, hb⟩; replace acc := acc.trans (hb.mono acc.size); clear hb) | (go_at_call 35; refine (back_any _ _ _ (by omega) (by omega) (by omega) (by omega)).mono ?_; rintro e w' ⟨rfl, rfl⟩) | (go_at_call 31; refine (alive _).mono ?_; rintro e w' ⟨rfl, hb⟩; replace acc := acc.trans (hb.mono acc.size); clear hb) | go_in)
      go_ret
      exact ⟨rfl, acc⟩
  · have e3 : (hStep h c == hStep g c) = false := by simpa using fun e => hg ((hStep_inj h1 h2 g1 g2 c1 c2).1 e)
    have e6 : (h == g) = false := by simpa using hg
    clear hg
    by_cases hd : c = d
    · subst hd
      go_enter Try.func12, Try.ntmps12
      go_wp2_with (first | (go_at_call 33; refine (step_any _ _ _ (by omega) (by omega) (by omega) (by omega)).mono ?_; rintro e w' ⟨rfl, hb⟩; replace acc := acc.trans (hb.mono acc.size); clear hb) | (go_at_call 35; refine (back_any _ _ _ (by omega) (by omega) (by omega) (by omega)).mono ?_; rintro e w' ⟨rfl, rfl⟩) | (go_at_call 31; refine (alive _).mono ?_; rintro e w' ⟨rfl, hb⟩; replace acc := acc.trans (hb.mono acc.size); clear hb) | go_in)
      go_ret
      exact ⟨rfl, acc⟩
    · have e4 : (hStep h c == hStep h d) = false := by simpa using fun e => hd ((hStep_inj' h1 h2 c1 c2 d1 d2).1 e)
      have e5 : (c == d) = false := by simpa using hd
      clear hd
      go_enter Try.func12, Try.ntmps12
      go_wp2_with (first | (go_at_call 33; refine (step_any _ _ _ (by omega) (by omega) (by omega) (by omega)).mono ?_; rintro e w' ⟨rfl, hb⟩; replace acc := acc.trans (hb.mono acc.size); clear hb) | (go_at_call 35; refine (back_any _ _ _ (by omega) (by omega) (by omega) (by omega)).mono ?_; rintro e w' ⟨rfl, rfl⟩) | (go_at_call 31; refine (alive _).mono ?_; rintro e w' ⟨rfl, hb⟩; replace acc := acc.trans (hb.mono acc.size); clear hb) | go_in)
      go_ret
      exact ⟨rfl, acc⟩

theorem emod_pow {h : Int} {j k : Nat} (hjk : j ≤ k) : h % 2 ^ k % 2 ^ j = h % 2 ^ j := by
  apply Int.emod_emod_of_dvd
  exact ⟨2 ^ (k - j), by rw [← Int.pow_add, Nat.add_sub_cancel' hjk]⟩
theorem add_size {h : Int} {k : Nat} (hk : k ≤ 20) : (h + 2 ^ k) % 4294967296 % 2 ^ k = h % 2 ^ k := by
  have : (4294967296 : Int) = 2 ^ 32 := rfl
  rw [this, emod_pow (by omega), Int.add_emod_right]

set_option maxHeartbeats 1000000 in
theorem places (h s f : Int) (w : World) (h1 : 0 ≤ h) (h2 : h ≤ 4294967295) (_ : -9223372036854775808 ≤ s) (_ : s ≤ 9223372036854775807) (_ : -9223372036854775808 ≤ f) (_ : f ≤ 9223372036854775807) :
    Calls Try.prog 15 #[.int .u32 h, .int .i64 s, .int .i64 f] w fun e w' => e = .returned (.bool true) ∧ Below w.heap.size w w' := by
  have acc := Below.refl w.heap.size w
  cases hs : sizeB s
  · have e1 : placeE s = 2 := by simp [placeE, hs]
    go_enter Try.func15, Try.ntmps15
    go_wp2_with (first | (go_at_call 29; refine (place_any _ _ _ (by omega) (by omega)).mono ?_; rintro e w' ⟨rfl, rfl⟩) | (go_at_call 41; refine (rsize_any _ _).mono ?_; rintro e w' ⟨rfl, rfl⟩) | (go_at_call 30; refine (check_any _ _ (by omega) (by omega)).mono ?_; rintro e w' ⟨rfl, rfl⟩) | (go_at_call 31; refine (alive _).mono ?_; rintro e w' ⟨rfl, hb⟩; replace acc := acc.trans (hb.mono acc.size); clear hb) | go_in)
    go_ret
    exact ⟨rfl, acc⟩
  · obtain ⟨k, hk, rfl⟩ := (sizeB_iff s).1 hs
    have p := pow20 hk
    have p1 := p.1
    have p2 := p.2
    clear p
    have eb : h % 2 ^ k < 2 ^ k := Int.emod_lt_of_pos _ (by omega)
    have ea : 0 ≤ h % 2 ^ k := Int.emod_nonneg _ (by omega)
    have e1 : placeE (2 ^ k) = 0 := by simp [placeE, hs]
    have e2 : placeV h (2 ^ k) = h % 2 ^ k := by simp [placeV, hs]
    have ew : (2 : Int) ^ k % 4294967296 = 2 ^ k := Int.emod_eq_of_lt (by omega) (by omega)
    have e3 : placeV ((h + 2 ^ k) % 4294967296) (2 ^ k) = h % 2 ^ k := by rw [placeV, if_pos hs, add_size hk]
    cases hf : sizeB f
    · go_enter Try.func15, Try.ntmps15
      go_wp2_with (first | (go_at_call 29; refine (place_any _ _ _ (by omega) (by omega)).mono ?_; rintro e w' ⟨rfl, rfl⟩) | (go_at_call 41; refine (rsize_any _ _).mono ?_; rintro e w' ⟨rfl, rfl⟩) | (go_at_call 30; refine (check_any _ _ (by omega) (by omega)).mono ?_; rintro e w' ⟨rfl, rfl⟩) | (go_at_call 31; refine (alive _).mono ?_; rintro e w' ⟨rfl, hb⟩; replace acc := acc.trans (hb.mono acc.size); clear hb) | go_in)
      go_ret
      exact ⟨rfl, acc⟩
    · obtain ⟨j, hj, rfl⟩ := (sizeB_iff f).1 hf
      have q := pow20 hj
      have q1 := q.1
      have q2 := q.2
      clear q
      have e6 : placeE (2 ^ j) = 0 := by simp [placeE, hf]
      by_cases hjk : (2 : Int) ^ k < 2 ^ j
      · go_enter Try.func15, Try.ntmps15
        go_wp2_with (first | (go_at_call 29; refine (place_any _ _ _ (by omega) (by omega)).mono ?_; rintro e w' ⟨rfl, rfl⟩) | (go_at_call 41; refine (rsize_any _ _).mono ?_; rintro e w' ⟨rfl, rfl⟩) | (go_at_call 30; refine (check_any _ _ (by omega) (by omega)).mono ?_; rintro e w' ⟨rfl, rfl⟩) | (go_at_call 31; refine (alive _).mono ?_; rintro e w' ⟨rfl, hb⟩; replace acc := acc.trans (hb.mono acc.size); clear hb) | go_in)
        go_ret
        exact ⟨rfl, acc⟩
      · have hle : j ≤ k := by
          rcases Nat.lt_or_ge k j with c | c
          · exact absurd (Int.pow_lt_pow_of_lt (a := 2) (by omega) c) hjk
          · exact c
        have e7 : placeV h (2 ^ j) = h % 2 ^ k % 2 ^ j := by rw [placeV, if_pos hf, emod_pow hle]
        go_enter Try.func15, Try.ntmps15
        go_wp2_with (first | (go_at_call 29; refine (place_any _ _ _ (by omega) (by omega)).mono ?_; rintro e w' ⟨rfl, rfl⟩) | (go_at_call 41; refine (rsize_any _ _).mono ?_; rintro e w' ⟨rfl, rfl⟩) | (go_at_call 30; refine (check_any _ _ (by omega) (by omega)).mono ?_; rintro e w' ⟨rfl, rfl⟩) | (go_at_call 31; refine (alive _).mono ?_; rintro e w' ⟨rfl, hb⟩; replace acc := acc.trans (hb.mono acc.size); clear hb) | go_in)
        go_ret
        exact ⟨rfl, acc⟩
end Go.Proofs.Ytnikphjhcicgbab.hashL
