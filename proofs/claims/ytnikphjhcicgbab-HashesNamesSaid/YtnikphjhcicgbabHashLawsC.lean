/- A statement of layer 6 (hashes): a hash of bytes goes on step by step, and back. -/
import Derived.Test.YtnikphjhcicgbabHashLawsB
namespace Go.Proofs.Ytnikphjhcicgbab.hashL
open Go.RowKit Go.Proofs.Ytnikphjhcicgbab.base Go.Proofs.Ytnikphjhcicgbab.hashP Go.Proofs.Ytnikphjhcicgbab.hashW
set_option linter.unusedVariables false

theorem mem_getD {zs : List Int} {k : Nat} (h : k < zs.length) : zs.getD k 0 ∈ zs := by
  rw [List.getD_eq_getElem?_getD, List.getElem?_eq_getElem h]; simp

set_option maxHeartbeats 1000000 in
theorem on_some (kind : Int) (b off cap : Nat) (zs : List Int) (w : World) (hb : b < w.heap.size) (hc : ∀ i, i < zs.length → w.cell? ⟨b, off + i, none⟩ = some (.int .u8 (zs.getD i 0)))  (hl : zs.length ≤ 300) (hcap : zs.length ≤ cap) (k1 : 0 ≤ kind) (k2 : kind < 8) (hz : ∀ z ∈ zs, 0 ≤ z ∧ z ≤ 255) (n : Nat) (hn : n ≤ zs.length) :
    Calls Try.prog 14 #[.int .i64 kind, .slice (some ⟨b, off, none⟩) zs.length cap, .int .i64 n] w fun e w' => e = .returned (.bool true) ∧ Below w.heap.size w w' := by
  have HZ := Lib.hid hz
  have HC := Lib.hid hc
  clear hz hc
  have HH : Hid (Has .u8 w (some ⟨b, off, none⟩) zs) := Lib.hid (.inr ⟨b, off, rfl, hb, HC.out⟩)
  have HT : Hid (Has .u8 w (some ⟨b, off, none⟩) (zs.take n)) := Lib.hid (.inr ⟨b, off, rfl, hb, fun i hi => by
    have hi' : i < n ∧ i < zs.length := by rw [List.length_take] at hi; omega
    have e : (zs.take n).getD i 0 = zs.getD i 0 := by simp only [List.getD_eq_getElem?_getD, List.getElem?_take]; rw [if_pos hi'.1]
    rw [e]; exact HC.out i hi'.2⟩)
  have HN : Hid ((zs.take n).length = n) := Lib.hid (by simp; omega)
  have HZT : Hid (∀ z ∈ zs.take n, 0 ≤ z ∧ z ≤ 255) := Lib.hid fun z hz => HZ.out z (List.mem_of_mem_take hz)
  have e1 : kOk kind = true := (kOk_iff kind).2 ⟨k1, k2⟩
  have e2 : kE kind = 0 := by simp [kE, e1]
  have sb := kStart_bd kind
  have s1 := sb.1
  have s2 := sb.2
  clear sb
  go_enter Try.func14, Try.ntmps14
  go_wp2_with (first | (go_at_call 40; refine (rkind_any _ _).mono ?_; rintro e w' ⟨rfl, rfl⟩))
  refine (of_ok _ _ _ _ zs _ k1 k2 HZ.out HH.out rfl (by omega)).mono ?_
  rintro e w1 ⟨rfl, hb1⟩
  go_wp2_with fail
  refine (of_ok _ _ _ _ (zs.take n) _ k1 k2 HZT.out (HT.out.below hb1 (Nat.le_refl _)) HN.out (by omega)).mono ?_
  rintro e w2 ⟨rfl, hb2⟩
  have acc := hb1.trans (hb2.mono hb1.size)
  clear hb1 hb2
  go_wp2_with (first | (go_at_call 27; refine (start_any _ _).mono ?_; rintro e w' ⟨rfl, rfl⟩))
  go_loopw [9, 13] (fun h i wr => ∃ j : Nat, n ≤ j ∧ j ≤ zs.length ∧ i = .int .i64 j ∧ h = .int .u32 (hSteps (kStart kind) (zs.take j)) ∧ Below w.heap.size w wr) (fun _ i _ => zs.length - (intOf i).toNat)
  case atStart => exact ⟨n, Nat.le_refl _, hn, rfl, rfl, acc⟩
  case round =>
    clear acc
    obtain ⟨j, hnj, hj, rfl, rfl, acc⟩ := hrel
    by_cases hlt : j < zs.length
    · have hcell : wr.cell? ⟨b, off + j, none⟩ = some (.int .u8 (zs.getD j 0)) := by rw [(bcell acc).1 b _ hb]; exact HC.out j hlt
      have hbd := HZ.out (zs.getD j 0) (mem_getD hlt)
      have hsb := hSteps_bd (zs.take j) s1 s2 (fun z hz => HZ.out z (List.mem_of_mem_take hz))
      generalize hv : zs.getD j 0 = v at *
      generalize hs : hSteps (kStart kind) (zs.take j) = g at *
      have v1 := hbd.1
      have v2 := hbd.2
      have g1 := hsb.1
      have g2 := hsb.2
      have HV := Lib.hid hv
      have HS := Lib.hid hs
      clear hbd hsb hv hs
      go_wp2_with (first | (go_at_call 33; refine (step_any _ _ _ g1 g2 v1 v2).mono ?_; rintro e w' ⟨rfl, hb3⟩))
      go_roundw
      case rel => exact ⟨j + 1, by omega, by omega, by go_num, by rw [take_snoc 0 zs j hlt, hSteps_snoc, HV.out, HS.out], acc.trans (hb3.mono acc.size)⟩
      case measure => simp [intOf]; omega
    · obtain rfl : j = zs.length := by omega
      rw [List.take_length]
      have acc2 := acc
      clear acc
      go_wp2_with fail
      go_loop [9, 14] (fun h i => ∃ q : Int, -1 ≤ q ∧ q < zs.length ∧ i = .int .i64 q ∧ h = .int .u32 (hSteps (kStart kind) (zs.take (q + 1).toNat))) (fun _ i => (intOf i + 1).toNat)
      case atStart => exact ⟨zs.length - 1, by omega, by omega, rfl, by rw [show ((zs.length : Int) - 1 + 1).toNat = zs.length from by omega, List.take_length]⟩
      case round =>
        obtain ⟨q, hq1, hq2, rfl, rfl⟩ := hrel
        by_cases hq : 0 ≤ q
        · obtain ⟨m, rfl⟩ := Int.eq_ofNat_of_zero_le hq
          have hlt : m < zs.length := by omega
          have hcell : wr.cell? ⟨b, off + m, none⟩ = some (.int .u8 (zs.getD m 0)) := by rw [(bcell acc2).1 b _ hb]; exact HC.out m hlt
          have hbd := HZ.out (zs.getD m 0) (mem_getD hlt)
          have hsb := hSteps_bd (zs.take m) s1 s2 (fun z hz => HZ.out z (List.mem_of_mem_take hz))
          have e5 : hSteps (kStart kind) (zs.take ((m : Int) + 1).toNat) = hStep (hSteps (kStart kind) (zs.take m)) (zs.getD m 0) := by
            rw [show ((m : Int) + 1).toNat = m + 1 from by omega, take_snoc 0 zs m hlt, hSteps_snoc]
          rw [e5]
          clear e5
          have e6 : hSteps (kStart kind) (zs.take ((m : Int) - 1 + 1).toNat) = hSteps (kStart kind) (zs.take m) := by
            rw [show ((m : Int) - 1 + 1).toNat = m from by omega]
          generalize hv : zs.getD m 0 = v at *
          generalize hs : hSteps (kStart kind) (zs.take m) = g at *
          have v1 := hbd.1
          have v2 := hbd.2
          have g1 := hsb.1
          have g2 := hsb.2
          have g3 := hStep_bd g1 g2 v1 v2
          have g4 := g3.1
          have g5 := g3.2
          have HI := Lib.hid (hBack_hStep g1 g2 v1 v2)
          have H6 := Lib.hid e6
          clear hbd hsb hv hs g3 e6
          go_wp2_with (first | (go_at_call 35; refine (back_any _ _ _ g4 g5 v1 v2).mono ?_; rintro e w' ⟨rfl, rfl⟩))
          go_round
          case rel => exact ⟨(m : Int) - 1, by omega, by omega, rfl, by rw [HI.out, H6.out]⟩
          case measure => simp [intOf] <;> omega
        · obtain rfl : q = -1 := by omega
          have e7 : hSteps (kStart kind) (zs.take (-1 + 1 : Int).toNat) = kStart kind := rfl
          rw [e7]
          clear e7
          go_wp2_with (first | (go_at_call 31; refine (alive _).mono ?_; rintro e w' ⟨rfl, hb⟩; replace acc2 := acc2.trans (hb.mono acc2.size)))
          go_ret
          exact ⟨rfl, acc2⟩

set_option maxHeartbeats 1000000 in
theorem on_nil (kind : Int) (A : Option Addr) (cap : Nat) (w : World) (k1 : 0 ≤ kind) (k2 : kind < 8) :
    Calls Try.prog 14 #[.int .i64 kind, .slice A 0 cap, .int .i64 0] w fun e w' => e = .returned (.bool true) ∧ Below w.heap.size w w' := by
  have HZ : Hid (∀ z ∈ ([] : List Int), 0 ≤ z ∧ z ≤ 255) := Lib.hid (by simp)
  have e1 : kOk kind = true := (kOk_iff kind).2 ⟨k1, k2⟩
  have e2 : kE kind = 0 := by simp [kE, e1]
  have H0 : Hid (hSteps (kStart kind) [] = kStart kind) := Lib.hid rfl
  go_enter Try.func14, Try.ntmps14
  go_wp2_with (first | (go_at_call 40; refine (rkind_any _ _).mono ?_; rintro e w' ⟨rfl, rfl⟩))
  refine (of_ok _ _ _ _ [] _ k1 k2 HZ.out (.inl rfl) rfl (by simp)).mono ?_
  rintro e w1 ⟨rfl, hb1⟩
  rw [H0.out]
  go_wp2_with fail
  refine (of_ok _ _ _ _ [] _ k1 k2 HZ.out (.inl rfl) rfl (by simp)).mono ?_
  rintro e w2 ⟨rfl, hb2⟩
  rw [H0.out]
  have acc := hb1.trans (hb2.mono hb1.size)
  clear hb1 hb2
  go_wp2_with (first | (go_at_call 27; refine (start_any _ _).mono ?_; rintro e w' ⟨rfl, rfl⟩))
  go_loop [9, 13] (fun h i => i = .int .i64 0 ∧ h = .int .u32 (kStart kind)) (fun _ i => 0)
  case atStart => exact ⟨rfl, rfl⟩
  case round =>
    obtain ⟨rfl, rfl⟩ := hrel
    go_wp2_with fail
    go_loop [9, 14] (fun h i => i = .int .i64 (-1) ∧ h = .int .u32 (kStart kind)) (fun _ i => 0)
    case atStart => exact ⟨rfl, rfl⟩
    case round =>
      obtain ⟨rfl, rfl⟩ := hrel
      go_wp2_with (first | (go_at_call 31; refine (alive _).mono ?_; rintro e w' ⟨rfl, hb⟩; replace acc := acc.trans (hb.mono acc.size)))
      go_ret
      exact ⟨rfl, acc⟩

set_option maxHeartbeats 1000000 in
theorem on_out (kind n : Int) (A : Option Addr) (len cap : Nat) (w : World) (h : kOk kind = false ∨ kOk kind = true ∧ (300 < len ∨ len ≤ 300 ∧ (n < 0 ∨ 0 ≤ n ∧ (len : Int) < n))) :
    Calls Try.prog 14 #[.int .i64 kind, .slice A len cap, .int .i64 n] w fun e w' => e = .returned (.bool true) ∧ Below w.heap.size w w' := by
  have acc := Below.refl w.heap.size w
  rcases h with hk | ⟨hk, h | ⟨h0, h | ⟨h1, h⟩⟩⟩
  · go_enter Try.func14, Try.ntmps14
    go_wp2_with (first | (go_at_call 40; refine (rkind_any _ _).mono ?_; rintro e w' ⟨rfl, rfl⟩) | (go_at_call 31; refine (alive _).mono ?_; rintro e w' ⟨rfl, hb⟩; replace acc := acc.trans (hb.mono acc.size)))
    go_ret
    exact ⟨rfl, acc⟩
  · go_enter Try.func14, Try.ntmps14
    go_wp2_with (first | (go_at_call 40; refine (rkind_any _ _).mono ?_; rintro e w' ⟨rfl, rfl⟩) | (go_at_call 31; refine (alive _).mono ?_; rintro e w' ⟨rfl, hb⟩; replace acc := acc.trans (hb.mono acc.size)))
    go_ret
    exact ⟨rfl, acc⟩
  · go_enter Try.func14, Try.ntmps14
    go_wp2_with (first | (go_at_call 40; refine (rkind_any _ _).mono ?_; rintro e w' ⟨rfl, rfl⟩) | (go_at_call 31; refine (alive _).mono ?_; rintro e w' ⟨rfl, hb⟩; replace acc := acc.trans (hb.mono acc.size)))
    go_ret
    exact ⟨rfl, acc⟩
  · go_enter Try.func14, Try.ntmps14
    go_wp2_with (first | (go_at_call 40; refine (rkind_any _ _).mono ?_; rintro e w' ⟨rfl, rfl⟩) | (go_at_call 31; refine (alive _).mono ?_; rintro e w' ⟨rfl, hb⟩; replace acc := acc.trans (hb.mono acc.size)))
    go_ret
    exact ⟨rfl, acc⟩

theorem on_law (kind : Int) (A : Option Addr) (len cap : Nat) (z : List Int) (n : Int) (w : World) (_ : -9223372036854775808 ≤ kind) (_ : kind ≤ 9223372036854775807) (hr : IsRow .u8 w A len cap z) (_ : -9223372036854775808 ≤ n) (_ : n ≤ 9223372036854775807) :
    Calls Try.prog 14 #[.int .i64 kind, .slice A len cap, .int .i64 n] w fun e w' => e = .returned (.bool true) ∧ Below w.heap.size w w' := by
  have hcap : len ≤ cap := by rcases hr with ⟨_, rfl, rfl, _⟩ | ⟨_, _, h, _⟩ <;> omega
  obtain ⟨hc, hlen, _, hw⟩ := has_of_row hr
  have hz := wf8 hw
  generalize hzs : z.take len = zs at *
  subst hlen
  cases hk : kOk kind
  · exact on_out _ _ _ _ _ w (.inl hk)
  · by_cases c1 : 300 < zs.length
    · exact on_out _ _ _ _ _ w (.inr ⟨hk, .inl c1⟩)
    · by_cases c2 : n < 0
      · exact on_out _ _ _ _ _ w (.inr ⟨hk, .inr ⟨by omega, .inl c2⟩⟩)
      · by_cases c3 : (zs.length : Int) < n
        · exact on_out _ _ _ _ _ w (.inr ⟨hk, .inr ⟨by omega, .inr ⟨by omega, c3⟩⟩⟩)
        · have k := (kOk_iff kind).1 hk
          obtain ⟨m, rfl⟩ := Int.eq_ofNat_of_zero_le (by omega : 0 ≤ n)
          rcases hc with rfl | ⟨b, off, rfl, hb, hc⟩
          · obtain rfl : m = 0 := by simp at c3; omega
            exact on_nil kind A cap w k.1 k.2
          · exact on_some kind b off cap zs w hb hc (by omega) hcap k.1 k.2 hz m (by omega)
end Go.Proofs.Ytnikphjhcicgbab.hashL
