/- CountsEqual, by a walk. -/
import Derived.Test.YtkpcopecndpfjaaCntL
import Derived.Test.YtkpcopecndpfjaaCntL3
import Derived.Test.YtkpcopecndpfjaaCntL5
import Derived.Test.YtkpcopecndpfjaaCntPlain2
namespace Go.Proofs.Ytkpcopecndpfjaa.cntL
open Go.RowKit Go.Proofs.Ytkpcopecndpfjaa.base Go.Proofs.Ytkpcopecndpfjaa.cntP Go.Proofs.Ytkpcopecndpfjaa.cntW
set_option linter.unusedVariables false
set_option linter.unusedSimpArgs false
set_option maxHeartbeats 1000000 in
theorem equal_bad (c : Cnt) (bit n : Int) (w : World) (hc : CntIn c) (h : ok c = false ∨ ok c = true ∧ 1 < bit ∨ ok c = true ∧ ¬ 1 < bit ∧ n < 1 ∨ ok c = true ∧ ¬ 1 < bit ∧ ¬ n < 1 ∧ 40 < n) :
    Calls Try.prog 9 #[.agg #[.int .i32 (c).a, .int .i32 (c).b, .int .u8 (c).l], .int .u8 bit, .int .i64 n] w fun e w' => e = .returned (.bool true) ∧ Below w.heap.size w w' := by
  rcases h with h | ⟨h, h1⟩ | ⟨h, h1, h2⟩ | ⟨h, h1, h2, h3⟩
  · have E' : chk ⟨c.a, c.b, c.l⟩ = 8 := chk_no h
    clear h
    go_enter Try.func9, Try.ntmps9
    go_wp2_with (first | (go_at_call 25; refine (rcheck_any ⟨_, _, _⟩ _ hc).mono ?_; rintro e w1 ⟨rfl, hb⟩; obtain ⟨cl1, fr1⟩ := bcell hb; have sz1 := hb.size; (try simp at sz1); (try have sy1 : w.heap.size + 1 < (w1).heap.size := (by omega)); have sx1 : w.heap.size < (w1).heap.size := (by omega)) | (go_at_call 21; refine (alive _).mono ?_; rintro e w' ⟨rfl, hb3⟩))
    go_ret
    exact ⟨rfl, by (repeat' (first | (with_reducible exact Below.refl _ _) | (with_reducible assumption) | (with_reducible refine below_drewN ?_ _) | (with_reducible refine below_new ?_ _) | (with_reducible refine Below.alloc ?_ ?_ _) | (with_reducible refine Below.drew ?_) | (with_reducible refine Below.setCell ?_ ?_ _) | (with_reducible apply below_on; (with_reducible assumption)) | (go_size; done) | (with_reducible apply size_of)))⟩
  all_goals
    have E' : chk ⟨c.a, c.b, c.l⟩ = 0 := chk_yes h
    clear h
    go_enter Try.func9, Try.ntmps9
    go_wp2_with (first | (go_at_call 25; refine (rcheck_any ⟨_, _, _⟩ _ hc).mono ?_; rintro e w1 ⟨rfl, hb⟩; obtain ⟨cl1, fr1⟩ := bcell hb; have sz1 := hb.size; (try simp at sz1); (try have sy1 : w.heap.size + 1 < (w1).heap.size := (by omega)); have sx1 : w.heap.size < (w1).heap.size := (by omega)) | (go_at_call 21; refine (alive _).mono ?_; rintro e w' ⟨rfl, hb3⟩))
    go_ret
    exact ⟨rfl, by (repeat' (first | (with_reducible exact Below.refl _ _) | (with_reducible assumption) | (with_reducible refine below_drewN ?_ _) | (with_reducible refine below_new ?_ _) | (with_reducible refine Below.alloc ?_ ?_ _) | (with_reducible refine Below.drew ?_) | (with_reducible refine Below.setCell ?_ ?_ _) | (with_reducible apply below_on; (with_reducible assumption)) | (go_size; done) | (with_reducible apply size_of)))⟩
theorem rep_next (v : Int) (n k : Nat) (h : k < n) : (List.replicate k v ++ List.replicate (n - k) 0).set k v = List.replicate (k + 1) v ++ List.replicate (n - (k + 1)) 0 := by
  have e : n - k = (n - (k + 1)) + 1 := by omega
  rw [e, List.replicate_succ, List.replicate_succ' (n := k), List.set_append_right _ _ (by simp)]
  simp
set_option maxRecDepth 100000 in
set_option maxHeartbeats 2000000 in
theorem equal_0 (c d : Cnt) (n : Nat) (w : World) (hok : ok c = true) (hd : ok d = true) (h1 : 1 ≤ n) (h2 : n ≤ 40) (r1 : runC c (List.replicate n 0) = d) (s1 : runE c (List.replicate n 0) = 0) (hm : d.a = growTo c.a n) (hre : 4 ≤ n → d.b ≤ 2) (hl : d.l = 0) : Calls Try.prog 9 #[.agg #[.int .i32 (c).a, .int .i32 (c).b, .int .u8 (c).l], .int .u8 0, .int .i64 n] w fun e w' => e = .returned (.bool true) ∧ Below w.heap.size w w' := by
  have E' : chk ⟨c.a, c.b, c.l⟩ = 0 := chk_yes hok
  have HK := Lib.hid hok
  have R1 := Lib.hid r1
  have S1 := Lib.hid s1
  obtain ⟨x1, x2, x3, x4, x5, x6⟩ := ok_bd hok
  obtain ⟨d1, d2, d3, d4, d5, d6⟩ := ok_bd hd
  have hm' : (c.a + n ≤ 12 ∧ d.a = c.a + n) ∨ (12 < c.a + n ∧ d.a = 12) := by
    rw [hm]; unfold growTo; split <;> omega
  have hre' : (n < 4) ∨ (4 ≤ n ∧ d.b ≤ 2) := by
    rcases Nat.lt_or_ge n 4 with h | h
    · exact .inl h
    · exact .inr ⟨h, hre h⟩
  have HL := Lib.hid hl
  have hc := cin hok
  have n1 : (1 : Int) ≤ n := by omega
  have n2 : (n : Int) ≤ 40 := by omega
  have HM := Lib.hid hm'
  have HRE := Lib.hid hre'
  clear hok r1 s1 hm hre hl hm' hre'
  go_enter Try.func9, Try.ntmps9
  go_wp2_with (first | (go_at_call 25; refine (rcheck_any ⟨_, _, _⟩ _ hc).mono ?_; rintro e w1 ⟨rfl, hb⟩; obtain ⟨cl1, fr1⟩ := bcell hb; have sz1 := hb.size; (try simp at sz1); (try have sy1 : w.heap.size + 1 < (w1).heap.size := (by omega)); have sx1 : w.heap.size < (w1).heap.size := (by omega)) | (at_make; refine make8 rfl _ _ rfl _ _ n rfl rfl (by omega) w1.heap.size (Nat.le_refl _) ?_; intro w2 own2 hb2))
  have HA1 : Hid (Lies w1 w.heap.size 23 [.int .i32 (c).a, .int .i32 (c).b, .int .u8 (c).l]) := Lib.hid (Lies.past (Lies.fresh _ _ _) hb)
  have HW : Hid (Below w.heap.size w w1) := Lib.hid (by (repeat' (first | (with_reducible exact Below.refl _ _) | (with_reducible assumption) | (with_reducible refine below_drewN ?_ _) | (with_reducible refine below_new ?_ _) | (with_reducible refine Below.alloc ?_ ?_ _) | (with_reducible refine Below.drew ?_) | (with_reducible refine Below.setCell ?_ ?_ _) | (with_reducible apply below_on; (with_reducible assumption)) | (go_size; done) | (with_reducible apply size_of))))
  have HO2 := Lib.hid own2
  have HB2 := Lib.hid hb2
  clear cl1 fr1 E' hb sz1 sx1 own2 hb2
  go_loopw [8] (fun i wr => ∃ k : Nat, k ≤ n ∧ i = .int .i64 k ∧ OwnI wr w1.heap.size 5 .u8 (.slice (some ⟨w1.heap.size, 0, none⟩) n n) (List.replicate k 0 ++ List.replicate (n - k) 0) ∧ Below w1.heap.size w1 wr) (fun i _ => n - (intOf i).toNat)
  case atStart => exact ⟨0, Nat.zero_le _, rfl, HO2.out, HB2.out⟩
  case round =>
    obtain ⟨k, hk, rfl, own, hbel⟩ := hrel
    have HO := Lib.hid own
    have HBL := Lib.hid hbel
    have hbs := own.base_le
    clear own hbel
    by_cases hlt : k < n
    · have hlen : (List.replicate k (0 : Int) ++ List.replicate (n - k) 0).length = n := by simp; omega
      have hcell := HO.out.cell k (by rw [hlen]; exact hlt)
      generalize hv : (List.replicate k (0 : Int) ++ List.replicate (n - k) 0).getD k 0 = v at hcell
      have hfr := HO.out.frozen k
      have HN := Lib.hid (rep_next 0 n k hlt)
      clear hlen hv
      go_wp2
      go_roundw
      case rel =>
        refine ⟨k + 1, by omega, by go_num, ?_, HBL.out.setCell (Nat.le_refl _) _⟩
        rw [← HN.out]; exact HO.out.store k 0
      case measure => simp [intOf]; omega
    · obtain rfl : k = n := by omega
      have hh := HO.out.has
      rw [show List.replicate k (0 : Int) ++ List.replicate (k - k) 0 = List.replicate k 0 by simp] at hh
      have HH := Lib.hid hh
      have HA := Lib.hid (HA1.out.below HBL.out HA1.out.lt)
      have HWR : Hid (Below w.heap.size w wr) := Lib.hid (HW.out.trans (HBL.out.mono HW.out.size))
      clear hh
      obtain ⟨a0, a1, a2, f0, f1, f2⟩ := Lies.three HA.out; have la := Lies.lt HA.out
      go_wp2_with fail
      refine (Run_any c _ _ _ (List.replicate k 0) _ hc (fun z h => by rw [List.eq_of_mem_replicate h]; omega) HH.out List.length_replicate (by omega)).mono ?_
      rintro e w3 ⟨rfl, hb3⟩
      rw [R1.out, S1.out]
      have HA3 := Lib.hid (HA.out.past hb3)
      have HW3 : Hid (Below w.heap.size w w3) := Lib.hid (by have := HWR.out; (repeat' (first | (with_reducible exact Below.refl _ _) | (with_reducible assumption) | (with_reducible refine below_drewN ?_ _) | (with_reducible refine below_new ?_ _) | (with_reducible refine Below.alloc ?_ ?_ _) | (with_reducible refine Below.drew ?_) | (with_reducible refine Below.setCell ?_ ?_ _) | (with_reducible apply below_on; (with_reducible assumption)) | (go_size; done) | (with_reducible apply size_of))))
      obtain ⟨a0, a1, a2, f0, f1, f2⟩ := Lies.three HA3.out; have la := Lies.lt HA3.out
      rcases HM.out with ⟨hx, hm'⟩ | ⟨hx, hm'⟩
      all_goals
        rcases HRE.out with hy | ⟨hy, hz⟩
        all_goals
          rw [hm', show d.l = 0 from HL.out]
          clear hm'
          go_wp2_with fail
          go_quiet (fail)
          go_wp2_with (first | (go_at_call 21; refine (alive _).mono ?_; rintro e w' ⟨rfl, hb8⟩))
          try (go_quiet (fail))
          try (go_wp2_with (first | (go_at_call 21; refine (alive _).mono ?_; rintro e w' ⟨rfl, hb8⟩)))
          go_ret
          exact ⟨rfl, by have := HW3.out; (repeat' (first | (with_reducible exact Below.refl _ _) | (with_reducible assumption) | (with_reducible refine below_drewN ?_ _) | (with_reducible refine below_new ?_ _) | (with_reducible refine Below.alloc ?_ ?_ _) | (with_reducible refine Below.drew ?_) | (with_reducible refine Below.setCell ?_ ?_ _) | (with_reducible apply below_on; (with_reducible assumption)) | (go_size; done) | (with_reducible apply size_of)))⟩
set_option maxRecDepth 100000 in
set_option maxHeartbeats 2000000 in
theorem equal_1 (c d : Cnt) (n : Nat) (w : World) (hok : ok c = true) (hd : ok d = true) (h1 : 1 ≤ n) (h2 : n ≤ 40) (r1 : runC c (List.replicate n 1) = d) (s1 : runE c (List.replicate n 1) = 0) (hm : d.b = growTo c.b n) (hre : 4 ≤ n → d.a ≤ 2) (hl : d.l = 1) : Calls Try.prog 9 #[.agg #[.int .i32 (c).a, .int .i32 (c).b, .int .u8 (c).l], .int .u8 1, .int .i64 n] w fun e w' => e = .returned (.bool true) ∧ Below w.heap.size w w' := by
  have E' : chk ⟨c.a, c.b, c.l⟩ = 0 := chk_yes hok
  have HK := Lib.hid hok
  have R1 := Lib.hid r1
  have S1 := Lib.hid s1
  obtain ⟨x1, x2, x3, x4, x5, x6⟩ := ok_bd hok
  obtain ⟨d1, d2, d3, d4, d5, d6⟩ := ok_bd hd
  have hm' : (c.b + n ≤ 12 ∧ d.b = c.b + n) ∨ (12 < c.b + n ∧ d.b = 12) := by
    rw [hm]; unfold growTo; split <;> omega
  have hre' : (n < 4) ∨ (4 ≤ n ∧ d.a ≤ 2) := by
    rcases Nat.lt_or_ge n 4 with h | h
    · exact .inl h
    · exact .inr ⟨h, hre h⟩
  have HL := Lib.hid hl
  have hc := cin hok
  have n1 : (1 : Int) ≤ n := by omega
  have n2 : (n : Int) ≤ 40 := by omega
  have HM := Lib.hid hm'
  have HRE := Lib.hid hre'
  clear hok r1 s1 hm hre hl hm' hre'
  go_enter Try.func9, Try.ntmps9
  go_wp2_with (first | (go_at_call 25; refine (rcheck_any ⟨_, _, _⟩ _ hc).mono ?_; rintro e w1 ⟨rfl, hb⟩; obtain ⟨cl1, fr1⟩ := bcell hb; have sz1 := hb.size; (try simp at sz1); (try have sy1 : w.heap.size + 1 < (w1).heap.size := (by omega)); have sx1 : w.heap.size < (w1).heap.size := (by omega)) | (at_make; refine make8 rfl _ _ rfl _ _ n rfl rfl (by omega) w1.heap.size (Nat.le_refl _) ?_; intro w2 own2 hb2))
  have HA1 : Hid (Lies w1 w.heap.size 23 [.int .i32 (c).a, .int .i32 (c).b, .int .u8 (c).l]) := Lib.hid (Lies.past (Lies.fresh _ _ _) hb)
  have HW : Hid (Below w.heap.size w w1) := Lib.hid (by (repeat' (first | (with_reducible exact Below.refl _ _) | (with_reducible assumption) | (with_reducible refine below_drewN ?_ _) | (with_reducible refine below_new ?_ _) | (with_reducible refine Below.alloc ?_ ?_ _) | (with_reducible refine Below.drew ?_) | (with_reducible refine Below.setCell ?_ ?_ _) | (with_reducible apply below_on; (with_reducible assumption)) | (go_size; done) | (with_reducible apply size_of))))
  have HO2 := Lib.hid own2
  have HB2 := Lib.hid hb2
  clear cl1 fr1 E' hb sz1 sx1 own2 hb2
  go_loopw [8] (fun i wr => ∃ k : Nat, k ≤ n ∧ i = .int .i64 k ∧ OwnI wr w1.heap.size 5 .u8 (.slice (some ⟨w1.heap.size, 0, none⟩) n n) (List.replicate k 1 ++ List.replicate (n - k) 0) ∧ Below w1.heap.size w1 wr) (fun i _ => n - (intOf i).toNat)
  case atStart => exact ⟨0, Nat.zero_le _, rfl, HO2.out, HB2.out⟩
  case round =>
    obtain ⟨k, hk, rfl, own, hbel⟩ := hrel
    have HO := Lib.hid own
    have HBL := Lib.hid hbel
    have hbs := own.base_le
    clear own hbel
    by_cases hlt : k < n
    · have hlen : (List.replicate k (1 : Int) ++ List.replicate (n - k) 0).length = n := by simp; omega
      have hcell := HO.out.cell k (by rw [hlen]; exact hlt)
      generalize hv : (List.replicate k (1 : Int) ++ List.replicate (n - k) 0).getD k 0 = v at hcell
      have hfr := HO.out.frozen k
      have HN := Lib.hid (rep_next 1 n k hlt)
      clear hlen hv
      go_wp2
      go_roundw
      case rel =>
        refine ⟨k + 1, by omega, by go_num, ?_, HBL.out.setCell (Nat.le_refl _) _⟩
        rw [← HN.out]; exact HO.out.store k 1
      case measure => simp [intOf]; omega
    · obtain rfl : k = n := by omega
      have hh := HO.out.has
      rw [show List.replicate k (1 : Int) ++ List.replicate (k - k) 0 = List.replicate k 1 by simp] at hh
      have HH := Lib.hid hh
      have HA := Lib.hid (HA1.out.below HBL.out HA1.out.lt)
      have HWR : Hid (Below w.heap.size w wr) := Lib.hid (HW.out.trans (HBL.out.mono HW.out.size))
      clear hh
      obtain ⟨a0, a1, a2, f0, f1, f2⟩ := Lies.three HA.out; have la := Lies.lt HA.out
      go_wp2_with fail
      refine (Run_any c _ _ _ (List.replicate k 1) _ hc (fun z h => by rw [List.eq_of_mem_replicate h]; omega) HH.out List.length_replicate (by omega)).mono ?_
      rintro e w3 ⟨rfl, hb3⟩
      rw [R1.out, S1.out]
      have HA3 := Lib.hid (HA.out.past hb3)
      have HW3 : Hid (Below w.heap.size w w3) := Lib.hid (by have := HWR.out; (repeat' (first | (with_reducible exact Below.refl _ _) | (with_reducible assumption) | (with_reducible refine below_drewN ?_ _) | (with_reducible refine below_new ?_ _) | (with_reducible refine Below.alloc ?_ ?_ _) | (with_reducible refine Below.drew ?_) | (with_reducible refine Below.setCell ?_ ?_ _) | (with_reducible apply below_on; (with_reducible assumption)) | (go_size; done) | (with_reducible apply size_of))))
      obtain ⟨a0, a1, a2, f0, f1, f2⟩ := Lies.three HA3.out; have la := Lies.lt HA3.out
      rcases HM.out with ⟨hx, hm'⟩ | ⟨hx, hm'⟩
      all_goals
        rcases HRE.out with hy | ⟨hy, hz⟩
        all_goals
          rw [hm', show d.l = 1 from HL.out]
          clear hm'
          go_wp2_with fail
          go_quiet (fail)
          go_wp2_with (first | (go_at_call 21; refine (alive _).mono ?_; rintro e w' ⟨rfl, hb8⟩))
          try (go_quiet (fail))
          try (go_wp2_with (first | (go_at_call 21; refine (alive _).mono ?_; rintro e w' ⟨rfl, hb8⟩)))
          go_ret
          exact ⟨rfl, by have := HW3.out; (repeat' (first | (with_reducible exact Below.refl _ _) | (with_reducible assumption) | (with_reducible refine below_drewN ?_ _) | (with_reducible refine below_new ?_ _) | (with_reducible refine Below.alloc ?_ ?_ _) | (with_reducible refine Below.drew ?_) | (with_reducible refine Below.setCell ?_ ?_ _) | (with_reducible apply below_on; (with_reducible assumption)) | (go_size; done) | (with_reducible apply size_of)))⟩
theorem equal (c : Cnt) (bit n : Int) (w : World) (hc : CntIn c) (h1 : 0 ≤ bit) (h2 : bit ≤ 255) (_ : -9223372036854775808 ≤ n) (_ : n ≤ 9223372036854775807) :
    Calls Try.prog 9 #[.agg #[.int .i32 (c).a, .int .i32 (c).b, .int .u8 (c).l], .int .u8 bit, .int .i64 n] w fun e w' => e = .returned (.bool true) ∧ Below w.heap.size w w' := by
  cases hok : ok c
  · exact equal_bad c bit n w hc (.inl hok)
  · by_cases hb : 1 < bit
    · exact equal_bad c bit n w hc (.inr (.inl ⟨hok, hb⟩))
    · by_cases hn : n < 1
      · exact equal_bad c bit n w hc (.inr (.inr (.inl ⟨hok, hb, hn⟩)))
      · by_cases hn2 : 40 < n
        · exact equal_bad c bit n w hc (.inr (.inr (.inr ⟨hok, hb, hn, hn2⟩)))
        · obtain ⟨m, rfl⟩ := Int.eq_ofNat_of_zero_le (show 0 ≤ n by omega)
          have bd := ok_bd hok
          rcases (show bit = 0 ∨ bit = 1 by omega) with rfl | rfl
          · have hb0 : bitsB (List.replicate m 0) = true := (bitsB_iff _).2 fun z h => by rw [List.eq_of_mem_replicate h]; omega
            have hz := run_zeros c bd.2.1 m
            have okd := run_ok (List.replicate m 0) hok fun z h => .inl (List.eq_of_mem_replicate h)
            exact equal_0 c (run c (List.replicate m 0)) m w hok okd (by omega) (by omega) (runC_yes hok (by simp; omega) hb0) (runE_yes hok (by simp; omega) hb0) hz.1 (fun h4 => by rw [hz.2.1]; exact shrN_four bd.2.2.2.1 h4) (hz.2.2 (by omega))
          · have hb0 : bitsB (List.replicate m 1) = true := (bitsB_iff _).2 fun z h => by rw [List.eq_of_mem_replicate h]; omega
            have hz := run_ones c bd.2.2.2.1 m
            have okd := run_ok (List.replicate m 1) hok fun z h => .inr (List.eq_of_mem_replicate h)
            exact equal_1 c (run c (List.replicate m 1)) m w hok okd (by omega) (by omega) (runC_yes hok (by simp; omega) hb0) (runE_yes hok (by simp; omega) hb0) hz.1 (fun h4 => by rw [hz.2.1]; exact shrN_four bd.2.1 h4) (hz.2.2 (by omega))
end Go.Proofs.Ytkpcopecndpfjaa.cntL
