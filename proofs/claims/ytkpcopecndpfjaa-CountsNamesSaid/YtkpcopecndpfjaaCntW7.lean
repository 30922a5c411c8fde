/- Runs, by walks. -/
import Derived.Test.YtkpcopecndpfjaaCntW3
import Derived.Test.YtkpcopecndpfjaaCntW4
import Derived.Test.YtkpcopecndpfjaaBlock
import Derived.Deep.LoopGhost
namespace Go.Proofs.Ytkpcopecndpfjaa.cntW
open Go.RowKit Go.Proofs.Ytkpcopecndpfjaa.base Go.Proofs.Ytkpcopecndpfjaa.cntP
set_option linter.unusedVariables false
set_option linter.unusedSimpArgs false
set_option maxHeartbeats 400000 in
theorem bits_any (a : Option Addr) (len cap : Nat) (zs : List Int) (w : World) (hz : ∀ z ∈ zs, 0 ≤ z ∧ z ≤ 255) (hc : Has .u8 w a zs) (hlen : zs.length = len) (hl : len ≤ 9223372036854775807) :
    Calls Try.prog 27 #[.slice a len cap] w fun e w' => e = .returned (.bool (bitsB zs)) ∧ w = w' := by
  subst hlen
  have HZ := Lib.hid hz
  clear hz
  rcases hc with rfl | ⟨b, off, rfl, hb, hc⟩
  · go_enter Try.func27, Try.ntmps27
    go_wp2_with fail
    go_loop [3] (fun i => i = .int .i64 0) (fun i => 0)
    case atStart => rfl
    case round =>
      subst hrel
      go_wp2
      go_ret
      exact ⟨rfl, rfl⟩
  · have HC := Lib.hid hc
    clear hc
    go_enter Try.func27, Try.ntmps27
    go_wp2_with fail
    go_loop [3] (fun i => ∃ k : Nat, k ≤ zs.length ∧ i = .int .i64 k ∧ bitsB (zs.take k) = true) (fun i => zs.length - (intOf i).toNat)
    case atStart => exact ⟨0, Nat.zero_le _, rfl, rfl⟩
    case round =>
      obtain ⟨k, hk, rfl, hall⟩ := hrel
      have HA := Lib.hid hall
      clear hall
      by_cases hlt : k < zs.length
      · have hcell := HC.out k hlt
        have hsn := bitsB_snoc (zs.take k) (zs.getD k 0)
        rw [← take_snoc 0 zs k hlt, HA.out, Bool.true_and] at hsn
        have HS := Lib.hid hsn
        clear hsn
        have hmem : zs.getD k 0 ∈ zs := by rw [List.getD_eq_getElem?_getD, List.getElem?_eq_getElem hlt]; simp
        have HM := Lib.hid hmem
        clear hmem
        generalize hv : zs.getD k 0 = v at *
        have HV := Lib.hid hv
        clear hv
        by_cases h1 : v ≤ 1
        · go_wp2
          go_round
          case rel => exact ⟨k + 1, by omega, by go_num, by rw [HS.out]; simpa using h1⟩
          case measure => simp [intOf]; omega
        · have hbad : bitsB zs = false := by
            cases h : bitsB zs with
            | false => rfl
            | true => exact absurd ((bitsB_iff zs).1 h v HM.out) h1
          have HB := Lib.hid hbad
          clear hbad
          go_wp2
          go_ret
          exact ⟨retb HB.out.symm, rfl⟩
      · have : zs.take k = zs := List.take_of_length_le (by omega)
        have HT := Lib.hid this
        clear this
        go_wp2
        go_ret
        exact ⟨retb (by rw [← HT.out, HA.out]), rfl⟩
theorem run_in {c0 : Cnt} {zs : List Int} (h : ok c0 = true) (hz : ∀ z ∈ zs, 0 ≤ z ∧ z ≤ 255) (hb : bitsB zs = true) (k : Nat) : ok (run c0 (zs.take k)) = true :=
  run_ok _ h (fun z hm => by
    have a1 := hz z (List.mem_of_mem_take hm)
    have a2 := (bitsB_iff zs).1 hb z (List.mem_of_mem_take hm)
    omega)
theorem bit_in {zs : List Int} (hz : ∀ z ∈ zs, 0 ≤ z ∧ z ≤ 255) (hb : bitsB zs = true) {k : Nat} (hk : k < zs.length) : (0 ≤ zs.getD k 0 ∧ zs.getD k 0 ≤ 1) ∧ (zs.getD k 0 = 0 ∨ zs.getD k 0 = 1) := by
  have hmem : zs.getD k 0 ∈ zs := by rw [List.getD_eq_getElem?_getD, List.getElem?_eq_getElem hk]; simp
  have a1 := hz _ hmem
  have a2 := (bitsB_iff zs).1 hb _ hmem
  omega
theorem run_next (c0 : Cnt) {zs : List Int} {k : Nat} (hk : k < zs.length) : run c0 (zs.take (k + 1)) = nx (run c0 (zs.take k)) (zs.getD k 0) := by
  rw [take_snoc 0 zs k hk]; exact run_snoc _ _ _
theorem bits_nil (A : Option Addr) (cap : Nat) (w : World) : Calls Try.prog 27 #[.slice A 0 cap] w fun e w' => e = .returned (.bool true) ∧ w = w' :=
  bits_any A 0 cap [] w (fun _ h => by cases h) (.inl rfl) rfl (by omega)
set_option maxHeartbeats 1000000 in
theorem rRun_nil (c0 : Cnt) (A : Option Addr) (cap : Nat) (w : World) (hc : CntIn c0) (hok : ok c0 = true) :
    Calls Try.prog 26 #[.agg #[.int .i32 (c0).a, .int .i32 (c0).b, .int .u8 (c0).l], .slice A 0 cap] w fun e w' => e = .returned (.tuple #[.agg #[.int .i32 (c0).a, .int .i32 (c0).b, .int .u8 (c0).l], .int .i64 0]) ∧ Below w.heap.size w w' := by
  have E' : chk ⟨c0.a, c0.b, c0.l⟩ = 0 := chk_yes hok
  clear hok
  go_enter Try.func26, Try.ntmps26
  go_wp2_with (first | (go_at_call 25; refine (rcheck_any ⟨_, _, _⟩ _ hc).mono ?_; rintro e w1 ⟨rfl, hb⟩; obtain ⟨cl1, fr1⟩ := bcell hb; have sz1 := hb.size; (try simp at sz1); (try have sy1 : w.heap.size + 1 < (w1).heap.size := (by omega)); have sx1 : w.heap.size < (w1).heap.size := (by omega)) | (go_at_call 27; refine (bits_nil _ _ _).mono ?_; rintro e w' ⟨rfl, rfl⟩))
  have L1 : Lies w1 w.heap.size 23 [.int .i32 c0.a, .int .i32 c0.b, .int .u8 c0.l] := ((Lies.fresh _ _ _).alloc _).past hb; have L2 : Lies w1 (w.heap.size + 1) 23 [.int .i32 0, .int .i32 0, .int .u8 0] := (by simpa using (Lies.fresh (w.alloc (.cells #[.int .i32 c0.a, .int .i32 c0.b, .int .u8 c0.l] 23)) _ _) : Lies _ (w.heap.size + 1) _ _).past hb; have hbw : Below w.heap.size w w1 := (by (repeat' (first | (with_reducible exact Below.refl _ _) | (with_reducible assumption) | (with_reducible refine below_drewN ?_ _) | (with_reducible refine below_new ?_ _) | (with_reducible refine Below.alloc ?_ ?_ _) | (with_reducible refine Below.drew ?_) | (with_reducible refine Below.setCell ?_ ?_ _) | (with_reducible apply below_on; (with_reducible assumption)) | (go_size; done) | (with_reducible apply size_of)))); clear cl1 fr1; have HL1 := Lib.hid L1; have HL2 := Lib.hid L2; have HW := Lib.hid hbw; clear L1 L2 hbw hb hc
  clear E'
  go_loopw [6] (fun i wr => i = .int .i64 0 ∧ Lies wr w.heap.size 23 [.int .i32 c0.a, .int .i32 c0.b, .int .u8 c0.l] ∧ Lies wr (w.heap.size + 1) 23 [.int .i32 0, .int .i32 0, .int .u8 0] ∧ Below w.heap.size w wr) (fun i _ => 0)
  case atStart => exact ⟨rfl, HL1.out, HL2.out, HW.out⟩
  case round =>
    obtain ⟨rfl, K1, K2, hbel⟩ := hrel
    obtain ⟨p0, p1, p2, f0, f1, f2⟩ := K1.three
    obtain ⟨q0, q1, q2, g0, g1, g2⟩ := K2.three
    have lt1 := K1.lt
    have lt2 := K2.lt
    clear K1 K2
    go_wp2
    refine bodyPost_ret (by simp [results, Try.results26, go_sem, q0, q1, q2]; try rfl) rfl ?_
    exact ⟨rfl, by (repeat' (first | (with_reducible exact Below.refl _ _) | (with_reducible assumption) | (with_reducible refine below_drewN ?_ _) | (with_reducible refine below_new ?_ _) | (with_reducible refine Below.alloc ?_ ?_ _) | (with_reducible refine Below.drew ?_) | (with_reducible refine Below.setCell ?_ ?_ _) | (with_reducible apply below_on; (with_reducible assumption)) | (go_size; done) | (with_reducible apply size_of)))⟩
set_option maxHeartbeats 1000000 in
theorem rRun_some (c0 : Cnt) (b off cap : Nat) (zs : List Int) (w : World) (hc : CntIn c0) (hok : ok c0 = true) (hz : ∀ z ∈ zs, 0 ≤ z ∧ z ≤ 255)
    (hB : b < w.heap.size) (hr : ∀ i, i < zs.length → w.cell? ⟨b, off + i, none⟩ = some (.int .u8 (zs.getD i 0))) (hl : zs.length ≤ 20000) (hbits : bitsB zs = true) :
    Calls Try.prog 26 #[.agg #[.int .i32 (c0).a, .int .i32 (c0).b, .int .u8 (c0).l], .slice (some ⟨b, off, none⟩) zs.length cap] w fun e w' => e = .returned (.tuple #[.agg #[.int .i32 (run c0 zs).a, .int .i32 (run c0 zs).b, .int .u8 (run c0 zs).l], .int .i64 0]) ∧ Below w.heap.size w w' := by
  have E' : chk ⟨c0.a, c0.b, c0.l⟩ = 0 := chk_yes hok
  have HZ := Lib.hid hz
  have HO := Lib.hid hok
  have HB := Lib.hid hbits
  have HR := Lib.hid hr
  have HH : Hid (Has .u8 w (some ⟨b, off, none⟩) zs) := .inr ⟨b, off, rfl, hB, hr⟩
  clear hz hok hr
  go_enter Try.func26, Try.ntmps26
  go_wp2_with (first | (go_at_call 25; refine (rcheck_any ⟨_, _, _⟩ _ hc).mono ?_; rintro e w1 ⟨rfl, hb⟩; obtain ⟨cl1, fr1⟩ := bcell hb; have sz1 := hb.size; (try simp at sz1); (try have sy1 : w.heap.size + 1 < (w1).heap.size := (by omega)); have sx1 : w.heap.size < (w1).heap.size := (by omega)) | (go_at_call 27; refine (bits_any _ _ _ zs _ HZ.out ((HH.out.below (((Below.refl _ _).alloc (Nat.le_refl _) _).alloc (by simp) _) (Nat.le_refl _)).below hb (by simp)) rfl (by omega)).mono ?_; rintro e w' ⟨rfl, rfl⟩))
  have L1 : Lies w1 w.heap.size 23 [.int .i32 c0.a, .int .i32 c0.b, .int .u8 c0.l] := ((Lies.fresh _ _ _).alloc _).past hb; have L2 : Lies w1 (w.heap.size + 1) 23 [.int .i32 0, .int .i32 0, .int .u8 0] := (by simpa using (Lies.fresh (w.alloc (.cells #[.int .i32 c0.a, .int .i32 c0.b, .int .u8 c0.l] 23)) _ _) : Lies _ (w.heap.size + 1) _ _).past hb; have hbw : Below w.heap.size w w1 := (by (repeat' (first | (with_reducible exact Below.refl _ _) | (with_reducible assumption) | (with_reducible refine below_drewN ?_ _) | (with_reducible refine below_new ?_ _) | (with_reducible refine Below.alloc ?_ ?_ _) | (with_reducible refine Below.drew ?_) | (with_reducible refine Below.setCell ?_ ?_ _) | (with_reducible apply below_on; (with_reducible assumption)) | (go_size; done) | (with_reducible apply size_of)))); clear cl1 fr1; have HL1 := Lib.hid L1; have HL2 := Lib.hid L2; have HW := Lib.hid hbw; clear L1 L2 hbw hb hc
  clear E' hbits HH
  go_loopw [6] (fun i wr => ∃ k : Nat, k ≤ zs.length ∧ i = .int .i64 k ∧ Lies wr w.heap.size 23 [.int .i32 (run c0 (zs.take k)).a, .int .i32 (run c0 (zs.take k)).b, .int .u8 (run c0 (zs.take k)).l] ∧ Lies wr (w.heap.size + 1) 23 [.int .i32 0, .int .i32 0, .int .u8 0] ∧ Below w.heap.size w wr) (fun i _ => zs.length - (intOf i).toNat)
  case atStart => exact ⟨0, Nat.zero_le _, rfl, HL1.out, HL2.out, HW.out⟩
  case round =>
    obtain ⟨k, hk, rfl, K1, K2, hbel⟩ := hrel
    obtain ⟨p0, p1, p2, f0, f1, f2⟩ := K1.three
    obtain ⟨q0, q1, q2, g0, g1, g2⟩ := K2.three
    have lt1 := K1.lt
    have lt2 := K2.lt
    have HK1 := Lib.hid K1
    have HK2 := Lib.hid K2
    clear K1 K2
    obtain ⟨x1, x2, x3, x4, x5, x6⟩ := ok_bd (run_in HO.out HZ.out HB.out k)
    by_cases hlt : k < zs.length
    · have HS := Lib.hid (run_next c0 hlt)
      obtain ⟨⟨v1, v2⟩, hv⟩ := bit_in HZ.out HB.out hlt
      have HV := Lib.hid hv
      clear hv
      have hcell : wr.cell? ⟨b, off + k, none⟩ = some (.int .u8 (zs.getD k 0)) := by rw [(bcell hbel).1 b _ hB]; exact HR.out k hlt
      have i1 : (0 : Int) ≤ (k : Int) := by omega
      have i2 : (k : Int) < zs.length := by omega
      generalize hv : zs.getD k 0 = v at *
      generalize hs : run c0 (zs.take k) = s at *
      have HG := Lib.hid hv
      have HG2 := Lib.hid hs
      clear hv hs
      go_wp2
      refine region_still_tail 5 (by kernel_rfl) (by kernel_rfl) ?_; simp only [List.take_succ_cons, List.take_zero, List.drop_succ_cons, List.drop_zero]
      still_step
      still_step
      still_step
      still_step
      still_step
      refine wpStill_nil ?_
      go_wp2_with (first | (go_at_call 42; refine (rafter_any _ _ _ _ _ x1 x2 x3 x4 HV.out).mono ?_; rintro e w' ⟨rfl, hb3⟩; obtain ⟨p0', p1', p2', f0', f1', f2'⟩ := (HK1.out.drew.past hb3).three))
      go_roundw
      case rel =>
        refine ⟨k + 1, by omega, by go_num, ?_, ?_, by (repeat' (first | (with_reducible exact Below.refl _ _) | (with_reducible assumption) | (with_reducible refine below_drewN ?_ _) | (with_reducible refine below_new ?_ _) | (with_reducible refine Below.alloc ?_ ?_ _) | (with_reducible refine Below.drew ?_) | (with_reducible refine Below.setCell ?_ ?_ _) | (with_reducible apply below_on; (with_reducible assumption)) | (go_size; done) | (with_reducible apply size_of)))⟩
        · rw [HS.out]
          exact (((HK1.out.drew.past hb3).set 0 _).set 1 _).set 2 _
        · exact (((HK2.out.drew.past hb3).other (by simp) _).other (by simp) _).other (by simp) _
      case measure => simp [intOf]; omega
    · have HT : Hid (run c0 (zs.take k) = run c0 zs) := Lib.hid (by rw [List.take_of_length_le (by omega)])
      go_wp2
      refine bodyPost_ret (by simp [results, Try.results26, go_sem, q0, q1, q2]; try rfl) rfl ?_
      exact ⟨by rw [HT.out], by (repeat' (first | (with_reducible exact Below.refl _ _) | (with_reducible assumption) | (with_reducible refine below_drewN ?_ _) | (with_reducible refine below_new ?_ _) | (with_reducible refine Below.alloc ?_ ?_ _) | (with_reducible refine Below.drew ?_) | (with_reducible refine Below.setCell ?_ ?_ _) | (with_reducible apply below_on; (with_reducible assumption)) | (go_size; done) | (with_reducible apply size_of)))⟩
end Go.Proofs.Ytkpcopecndpfjaa.cntW
