/- Statements of layer 6 (hashes): one byte that differs; names and limits. -/
import Derived.Test.YtnikphjhcicgbabHashLawsC
namespace Go.Proofs.Ytnikphjhcicgbab.hashL
open Go.RowKit Go.Proofs.Ytnikphjhcicgbab.base Go.Proofs.Ytnikphjhcicgbab.hashP Go.Proofs.Ytnikphjhcicgbab.hashW
set_option linter.unusedVariables false

theorem hSteps_inj : ∀ (zs : List Int) {s t : Int}, 0 ≤ s → s ≤ 4294967295 → 0 ≤ t → t ≤ 4294967295 → (∀ z ∈ zs, 0 ≤ z ∧ z ≤ 255) → (hSteps s zs = hSteps t zs ↔ s = t)
  | [], _, _, _, _, _, _, _ => Iff.rfl
  | z :: zs, s, t, s1, s2, t1, t2, hz => by
    have hz0 := hz z (by simp)
    have b := hStep_bd s1 s2 hz0.1 hz0.2
    have c := hStep_bd t1 t2 hz0.1 hz0.2
    show hSteps (hStep s z) zs = hSteps (hStep t z) zs ↔ _
    rw [hSteps_inj zs b.1 b.2 c.1 c.2 fun y hy => hz y (by simp [hy]), hStep_inj s1 s2 t1 t2 hz0.1 hz0.2]

theorem hSteps_set : ∀ (zs : List Int) (n : Nat) {s c : Int}, 0 ≤ s → s ≤ 4294967295 → (∀ z ∈ zs, 0 ≤ z ∧ z ≤ 255) → 0 ≤ c → c ≤ 255 → n < zs.length → (hSteps s zs = hSteps s (zs.set n c) ↔ zs.getD n 0 = c)
  | [], n, _, _, _, _, _, _, _, h => by simp at h
  | z :: zs, 0, s, c, s1, s2, hz, c1, c2, _ => by
    have hz0 := hz z (by simp)
    have b := hStep_bd s1 s2 hz0.1 hz0.2
    have d := hStep_bd s1 s2 c1 c2
    show hSteps (hStep s z) zs = hSteps (hStep s c) zs ↔ _
    rw [hSteps_inj zs b.1 b.2 d.1 d.2 fun y hy => hz y (by simp [hy]), hStep_inj' s1 s2 hz0.1 hz0.2 c1 c2]
    simp
  | z :: zs, n + 1, s, c, s1, s2, hz, c1, c2, h => by
    have hz0 := hz z (by simp)
    have b := hStep_bd s1 s2 hz0.1 hz0.2
    show hSteps (hStep s z) zs = hSteps (hStep s z) (zs.set n c) ↔ _
    rw [hSteps_set zs n b.1 b.2 (fun y hy => hz y (by simp [hy])) c1 c2 (by simpa using h)]
    simp

theorem kStart_inj {k j : Int} (k1 : 0 ≤ k) (k2 : k < 8) (j1 : 0 ≤ j) (j2 : j < 8) : kStart k = kStart j ↔ k = j := by
  have a : k = 0 ∨ k = 1 ∨ k = 2 ∨ k = 3 ∨ k = 4 ∨ k = 5 ∨ k = 6 ∨ k = 7 := by omega
  have b : j = 0 ∨ j = 1 ∨ j = 2 ∨ j = 3 ∨ j = 4 ∨ j = 5 ∨ j = 6 ∨ j = 7 := by omega
  rcases a with rfl | rfl | rfl | rfl | rfl | rfl | rfl | rfl <;> rcases b with rfl | rfl | rfl | rfl | rfl | rfl | rfl | rfl <;> decide +kernel

set_option maxHeartbeats 1000000 in
theorem one_in (kind other : Int) (n : Nat) (b off cap : Nat) (zs : List Int) (c : Int) (w : World) (hb : b < w.heap.size) (hc : ∀ i, i < zs.length → w.cell? ⟨b, off + i, none⟩ = some (.int .u8 (zs.getD i 0))) (hl : zs.length ≤ 300) (hcap : zs.length ≤ cap) (k1 : 0 ≤ kind) (k2 : kind < 8) (j1 : 0 ≤ other) (j2 : other < 8) (hz : ∀ z ∈ zs, 0 ≤ z ∧ z ≤ 255) (c1 : 0 ≤ c) (c2 : c ≤ 255) (hn : n < zs.length) :
    Calls Try.prog 13 #[.int .i64 kind, .int .i64 other, .slice (some ⟨b, off, none⟩) zs.length cap, .int .i64 n, .int .u8 c] w fun e w' => e = .returned (.bool true) ∧ Below w.heap.size w w' := by
  have HZ := Lib.hid hz
  have HC := Lib.hid hc
  clear hz hc
  have HH : Hid (Has .u8 w (some ⟨b, off, none⟩) zs) := Lib.hid (.inr ⟨b, off, rfl, hb, HC.out⟩)
  have e1 : kOk kind = true := (kOk_iff kind).2 ⟨k1, k2⟩
  have e2 : kOk other = true := (kOk_iff other).2 ⟨j1, j2⟩
  have sb := kStart_bd kind
  have s1 := sb.1
  have s2 := sb.2
  have tb := kStart_bd other
  have t1 := tb.1
  have t2 := tb.2
  clear sb tb
  have E3 : Hid ((hSteps (kStart kind) zs == hSteps (kStart other) zs) = (kind == other)) := Lib.hid (by
    rw [Bool.eq_iff_iff]; simp only [beq_iff_eq]; rw [hSteps_inj zs s1 s2 t1 t2 HZ.out, kStart_inj k1 k2 j1 j2])
  have E4 : Hid ((hSteps (kStart kind) zs == hSteps (kStart kind) (zs.set n c)) = (zs.getD n 0 == c)) := Lib.hid (by
    rw [Bool.eq_iff_iff]; simp only [beq_iff_eq]; rw [hSteps_set zs n s1 s2 HZ.out c1 c2 hn])
  have hne : zs ≠ [] := by intro h; rw [h] at hn; simp at hn
  have HNE := Lib.hid hne
  clear hne
  have HZS : Hid (∀ z ∈ zs.set n c, 0 ≤ z ∧ z ≤ 255) := Lib.hid fun z hz => by
    rcases List.mem_or_eq_of_mem_set hz with h | rfl
    · exact HZ.out z h
    · exact ⟨c1, c2⟩
  have HLS : Hid ((zs.set n c).length = zs.length) := Lib.hid (by simp)
  have h1b := (hSteps_bd zs s1 s2 HZ.out).1
  have hcn := HC.out n hn
  generalize hv : zs.getD n 0 = v at *
  have HV := Lib.hid hv
  clear hv
  cases h3 : (kind == other)
  all_goals
    rw [h3] at E3
    have e3 := E3.out
    cases h4 : (v == c)
    all_goals
      rw [h4] at E4
      have e4 := E4.out
      go_enter Try.func13, Try.ntmps13
      go_wp2_with (first | (go_at_call 40; refine (rkind_any _ _).mono ?_; rintro e w' ⟨rfl, rfl⟩))
      refine (of_ok _ _ _ _ zs _ k1 k2 HZ.out HH.out rfl (by omega)).mono ?_
      rintro e w1 ⟨rfl, hb1⟩
      go_wp2_with fail
      refine (of_ok _ _ _ _ zs _ j1 j2 HZ.out (HH.out.below hb1 (Nat.le_refl _)) rfl (by omega)).mono ?_
      rintro e w2 ⟨rfl, hb2⟩
      have acc := hb1.trans (hb2.mono hb1.size)
      clear hb1 hb2
      go_wp2_with (first | (at_builtin; refine clone8 rfl _ _ rfl (some ⟨w2.heap.size, 0, none⟩) rfl _ _ _ zs rfl rfl (HH.out.below (acc.alloc acc.size _) (Nat.le_refl _)) (by omega) ?_; intro A1 cap1 w3 hh3 hb3 ho3))
      have own : OwnI w3 w2.heap.size 5 .u8 (.slice A1 zs.length cap1) zs := by
        rcases ho3 with ⟨h, _⟩ | h
        · exact absurd h HNE.out
        · exact h.mono (by simp)
      obtain ⟨g, rfl, hB, hlt, _⟩ := own.form HNE.out
      have acc3 : Below w.heap.size w w3 := (acc.alloc acc.size _).trans (hb3.mono (by have := acc.size; simp; omega))
      have hcell := own.cell n hn
      rw [HV.out] at hcell
      have hfr := own.frozen n
      have hgw : w.heap.size ≤ g := Nat.le_trans acc.size hB
      have acc4 : Below w.heap.size w (w3.setCell ⟨g, n, none⟩ (.int .u8 c)) := acc3.setCell hgw _
      have hs4 := (own.store n c).has
      clear ho3 hh3 hb3
      go_wp2_with fail
      refine (of_ok _ _ _ _ (zs.set n c) _ k1 k2 HZS.out hs4 HLS.out (by omega)).mono ?_
      rintro e w5 ⟨rfl, hb5⟩
      have acc5 := acc4.trans (hb5.mono acc4.size)
      have hcn5 : w5.cell? ⟨b, off + n, none⟩ = some (.int .u8 v) := by rw [(bcell acc5).1 b _ hb]; exact hcn
      clear acc acc3 acc4 hb5 hs4 hcell hfr
      go_wp2_with (first | (go_at_call 31; refine (alive _).mono ?_; rintro e w' ⟨rfl, hb⟩; have acc := acc5.trans (hb.mono acc5.size)))
      go_ret
      exact ⟨rfl, acc⟩


set_option maxHeartbeats 1000000 in
theorem one_noat (kind other n : Int) (A : Option Addr) (cap : Nat) (zs : List Int) (c : Int) (w : World) (hc : Has .u8 w A zs) (hl : zs.length ≤ 300) (k1 : 0 ≤ kind) (k2 : kind < 8) (j1 : 0 ≤ other) (j2 : other < 8) (hz : ∀ z ∈ zs, 0 ≤ z ∧ z ≤ 255) (hn : n < 0 ∨ 0 ≤ n ∧ (zs.length : Int) ≤ n) :
    Calls Try.prog 13 #[.int .i64 kind, .int .i64 other, .slice A zs.length cap, .int .i64 n, .int .u8 c] w fun e w' => e = .returned (.bool true) ∧ Below w.heap.size w w' := by
  have HZ := Lib.hid hz
  have HH := Lib.hid hc
  clear hz hc
  have e1 : kOk kind = true := (kOk_iff kind).2 ⟨k1, k2⟩
  have e2 : kOk other = true := (kOk_iff other).2 ⟨j1, j2⟩
  have sb := kStart_bd kind
  have s1 := sb.1
  have s2 := sb.2
  have tb := kStart_bd other
  have t1 := tb.1
  have t2 := tb.2
  clear sb tb
  have E3 : Hid ((hSteps (kStart kind) zs == hSteps (kStart other) zs) = (kind == other)) := Lib.hid (by
    rw [Bool.eq_iff_iff]; simp only [beq_iff_eq]; rw [hSteps_inj zs s1 s2 t1 t2 HZ.out, kStart_inj k1 k2 j1 j2])
  cases h3 : (kind == other)
  all_goals
    rw [h3] at E3
    have e3 := E3.out
    rcases hn with hn | ⟨hn0, hn⟩
    all_goals
      go_enter Try.func13, Try.ntmps13
      go_wp2_with (first | (go_at_call 40; refine (rkind_any _ _).mono ?_; rintro e w' ⟨rfl, rfl⟩))
      refine (of_ok _ _ _ _ zs _ k1 k2 HZ.out HH.out rfl (by omega)).mono ?_
      rintro e w1 ⟨rfl, hb1⟩
      go_wp2_with fail
      refine (of_ok _ _ _ _ zs _ j1 j2 HZ.out (HH.out.below hb1 (Nat.le_refl _)) rfl (by omega)).mono ?_
      rintro e w2 ⟨rfl, hb2⟩
      have acc := hb1.trans (hb2.mono hb1.size)
      clear hb1 hb2
      go_wp2_with (first | (go_at_call 31; refine (alive _).mono ?_; rintro e w' ⟨rfl, hb⟩; replace acc := acc.trans (hb.mono acc.size)))
      go_ret
      exact ⟨rfl, acc⟩

set_option maxHeartbeats 1000000 in
theorem one_out (kind other n : Int) (A : Option Addr) (len cap : Nat) (c : Int) (w : World) (h : kOk kind = false ∨ kOk kind = true ∧ (kOk other = false ∨ kOk other = true ∧ 300 < len)) :
    Calls Try.prog 13 #[.int .i64 kind, .int .i64 other, .slice A len cap, .int .i64 n, .int .u8 c] w fun e w' => e = .returned (.bool true) ∧ Below w.heap.size w w' := by
  have acc := Below.refl w.heap.size w
  rcases h with hk | ⟨hk, hj | ⟨hj, h⟩⟩
  · go_enter Try.func13, Try.ntmps13
    go_wp2_with (first | (go_at_call 40; refine (rkind_any _ _).mono ?_; rintro e w' ⟨rfl, rfl⟩) | (go_at_call 31; refine (alive _).mono ?_; rintro e w' ⟨rfl, hb⟩; replace acc := acc.trans (hb.mono acc.size)))
    go_ret
    exact ⟨rfl, acc⟩
  · go_enter Try.func13, Try.ntmps13
    go_wp2_with (first | (go_at_call 40; refine (rkind_any _ _).mono ?_; rintro e w' ⟨rfl, rfl⟩) | (go_at_call 31; refine (alive _).mono ?_; rintro e w' ⟨rfl, hb⟩; replace acc := acc.trans (hb.mono acc.size)))
    go_ret
    exact ⟨rfl, acc⟩
  · go_enter Try.func13, Try.ntmps13
    go_wp2_with (first | (go_at_call 40; refine (rkind_any _ _).mono ?_; rintro e w' ⟨rfl, rfl⟩) | (go_at_call 31; refine (alive _).mono ?_; rintro e w' ⟨rfl, hb⟩; replace acc := acc.trans (hb.mono acc.size)))
    go_ret
    exact ⟨rfl, acc⟩

theorem one_law (kind other : Int) (A : Option Addr) (len cap : Nat) (z : List Int) (n c : Int) (w : World) (_ : -9223372036854775808 ≤ kind) (_ : kind ≤ 9223372036854775807) (_ : -9223372036854775808 ≤ other) (_ : other ≤ 9223372036854775807) (hr : IsRow .u8 w A len cap z) (_ : -9223372036854775808 ≤ n) (_ : n ≤ 9223372036854775807) (c1 : 0 ≤ c) (c2 : c ≤ 255) :
    Calls Try.prog 13 #[.int .i64 kind, .int .i64 other, .slice A len cap, .int .i64 n, .int .u8 c] w fun e w' => e = .returned (.bool true) ∧ Below w.heap.size w w' := by
  have hcap : len ≤ cap := by rcases hr with ⟨_, rfl, rfl, _⟩ | ⟨_, _, h, _⟩ <;> omega
  obtain ⟨hc, hlen, _, hw⟩ := has_of_row hr
  have hz := wf8 hw
  generalize hzs : z.take len = zs at *
  subst hlen
  cases hk : kOk kind
  · exact one_out _ _ _ _ _ _ _ w (.inl hk)
  · cases hj : kOk other
    · exact one_out _ _ _ _ _ _ _ w (.inr ⟨hk, .inl hj⟩)
    · by_cases c3 : 300 < zs.length
      · exact one_out _ _ _ _ _ _ _ w (.inr ⟨hk, .inr ⟨hj, c3⟩⟩)
      · have k := (kOk_iff kind).1 hk
        have j := (kOk_iff other).1 hj
        by_cases c4 : 0 ≤ n ∧ n < zs.length
        · obtain ⟨m, rfl⟩ := Int.eq_ofNat_of_zero_le c4.1
          rcases hc with rfl | ⟨b, off, rfl, hb, hc⟩
          · simp at c4; omega
          · exact one_in kind other m b off cap zs c w hb hc (by omega) hcap k.1 k.2 j.1 j.2 hz c1 c2 (by omega)
        · exact one_noat kind other n A cap zs c w hc (by omega) k.1 k.2 j.1 j.2 hz (by omega)

theorem kStart7 : kStart 7 = 4055616968 := by decide +kernel

def szs : List Int := [0, -1, 3, 12, 2097152, 1048575, -9223372036854775808]
theorem szs_no : ∀ z ∈ szs, sizeB z = false := by decide +kernel

set_option maxHeartbeats 2000000 in
theorem names (w : World) :
    Calls Try.prog 9 #[] w fun e w' => e = .returned (.bool true) ∧ Below w.heap.size w w' := by
  have k1 : kE (-1) = 2 := by decide +kernel
  have k2 : kE 8 = 2 := by decide +kernel
  have k3 : kE 7 = 0 := by decide +kernel
  have k4 := kStart7
  have HZ0 : Hid (∀ z ∈ ([] : List Int), 0 ≤ z ∧ z ≤ 255) := Lib.hid (by simp)
  have HZN : Hid (∀ z ∈ List.replicate 20000 (0 : Int), 0 ≤ z ∧ z ≤ 255) := Lib.hid fun z hz => by rw [(List.mem_replicate.1 hz).2]; omega
  have o1 : kOk 8 = false := by decide +kernel
  have o2 : kOk 7 = true := by decide +kernel
  go_enter Try.func9, Try.ntmps9
  go_wp2_with (first | (go_at_call 27; refine (start_any _ _).mono ?_; rintro e w' ⟨rfl, rfl⟩) | (at_make; refine make8 rfl _ _ rfl _ _ 20001 rfl rfl (by omega) _ (Nat.le_refl _) ?_; intro w1 own1 hb1) )
  have acc := hb1
  clear own1 hb1
  refine (of_kind 8 _ _ _ _ o1).mono ?_
  rintro e w' ⟨rfl, rfl⟩
  go_wp2_with (first | (at_make; refine make8 rfl _ _ rfl _ _ 20001 rfl rfl (by omega) _ (Nat.le_refl _) ?_; intro w2 own2 hb2))
  replace acc := acc.trans (hb2.mono acc.size)
  clear own2 hb2
  refine (of_many 7 _ _ _ _ o2 (by omega)).mono ?_
  rintro e w' ⟨rfl, rfl⟩
  go_wp2_with fail
  refine (of_ok 7 _ _ _ [] _ (by omega) (by omega) HZ0.out (.inl rfl) rfl (by simp)).mono ?_
  rintro e w3 ⟨rfl, hb3⟩
  have e0 : hSteps (kStart 7) [] = kStart 7 := rfl
  rw [e0]
  clear e0
  replace acc := acc.trans (hb3.mono acc.size)
  clear hb3
  go_wp2_with (first | (at_make; refine make8 rfl _ _ rfl _ _ 20000 rfl rfl (by omega) _ (Nat.le_refl _) ?_; intro w4 own4 hb4))
  replace acc := acc.trans (hb4.mono acc.size)
  have hh := own4.has
  clear own4 hb4
  refine (of_ok 0 _ _ _ (List.replicate 20000 0) _ (by omega) (by omega) HZN.out hh List.length_replicate (by omega)).mono ?_
  rintro e w5 ⟨rfl, hb5⟩
  replace acc := acc.trans (hb5.mono acc.size)
  clear hb5 hh
  generalize hSteps (kStart 0) (List.replicate 20000 0) = g
  go_wp2_with fail
  have own : OwnI (w5.alloc (.cells #[.int .i64 0, .int .i64 (-1), .int .i64 3, .int .i64 12, .int .i64 2097152, .int .i64 1048575, .int .i64 (-9223372036854775808)] 3)) 0 3 .i64 (.slice (some ⟨w5.heap.size, 0, none⟩) 7 7) szs :=
    OwnI.lit w5 3 .i64 szs 0 (by omega) (by decide)
  have acc2 := acc.alloc acc.size (.cells #[.int .i64 0, .int .i64 (-1), .int .i64 3, .int .i64 12, .int .i64 2097152, .int .i64 1048575, .int .i64 (-9223372036854775808)] 3)
  generalize w5.alloc (.cells #[.int .i64 0, .int .i64 (-1), .int .i64 3, .int .i64 12, .int .i64 2097152, .int .i64 1048575, .int .i64 (-9223372036854775808)] 3) = w6 at *
  clear acc
  have acc := acc2
  clear acc2
  go_loop [16] (fun i => ∃ k : Nat, k ≤ 7 ∧ i = .int .i64 k) (fun i => 7 - (intOf i).toNat)
  case atStart => exact ⟨0, by omega, rfl⟩
  case round =>
    obtain ⟨k, hk, rfl⟩ := hrel
    by_cases hlt : k < 7
    · have hcell := own.cell k hlt
      have hno := szs_no _ (mem_getD (zs := szs) hlt)
      generalize szs.getD k 0 = v at *
      have e5 : placeE v = 2 := by simp [placeE, hno]
      clear hno
      go_wp2_with (first | (go_at_call 29; refine (place_any 5 _ _ (by omega) (by omega)).mono ?_; rintro e w' ⟨rfl, rfl⟩))
      go_round
      case rel => exact ⟨k + 1, by omega, by go_num⟩
      case measure => simp [intOf] <;> omega
    · obtain rfl : k = 7 := by omega
      have p1 : placeV 4294967295 1 = 0 := by decide +kernel
      have p2 : placeV 4294967295 1048576 = 1048575 := by decide +kernel
      have p3 : placeE 1 = 0 := by decide +kernel
      have p4 : placeE 1048576 = 0 := by decide +kernel
      go_wp2_with (first | (go_at_call 29; refine (place_any 4294967295 _ _ (by omega) (by omega)).mono ?_; rintro e w' ⟨rfl, rfl⟩) | (go_at_call 30; refine (check_any _ _ (by omega) (by omega)).mono ?_; rintro e w' ⟨rfl, rfl⟩) | (go_at_call 31; refine (alive _).mono ?_; rintro e w' ⟨rfl, hb⟩; replace acc := acc.trans (hb.mono acc.size)))
      go_ret
      exact ⟨rfl, acc⟩
end Go.Proofs.Ytnikphjhcicgbab.hashL
