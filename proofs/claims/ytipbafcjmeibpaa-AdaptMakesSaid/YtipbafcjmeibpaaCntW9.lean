/- Runs of the program, by walks. -/
import Derived.Test.YtipbafcjmeibpaaCntW5
import Derived.Test.YtipbafcjmeibpaaCntW6
import Derived.Test.YtipbafcjmeibpaaCntW7
namespace Go.Proofs.Ytipbafcjmeibpaa.cntW
open Go.RowKit Go.Proofs.Ytipbafcjmeibpaa.base Go.Proofs.Ytipbafcjmeibpaa.cntP
set_option linter.unusedVariables false
set_option linter.unusedSimpArgs false
set_option maxHeartbeats 1000000 in
theorem Run_nil (c0 : Cnt) (A : Option Addr) (cap : Nat) (w : World) (hc : CntIn c0) (hok : ok c0 = true) :
    Calls Try.prog 40 #[.agg #[.int .i32 (c0).a, .int .i32 (c0).b, .int .u8 (c0).l], .slice A 0 cap] w fun e w' => e = .returned (.tuple #[.agg #[.int .i32 (c0).a, .int .i32 (c0).b, .int .u8 (c0).l], .int .i64 0]) ∧ Below w.heap.size w w' := by
  have E' : chk ⟨c0.a, c0.b, c0.l⟩ = 0 := chk_yes hok
  clear hok
  go_enter Try.func40, Try.ntmps40
  go_wp2_with (first | (go_at_call 50; refine (check_any ⟨_, _, _⟩ _ hc).mono ?_; rintro e w1 ⟨rfl, hb⟩; obtain ⟨cl1, fr1⟩ := bcell hb; have sz1 := hb.size; (try simp at sz1); (try have sy1 : w.heap.size + 1 < (w1).heap.size := (by omega)); have sx1 : w.heap.size < (w1).heap.size := (by omega)))
  have L1 : Lies w1 w.heap.size 70 [.int .i32 c0.a, .int .i32 c0.b, .int .u8 c0.l] := ((Lies.fresh _ _ _).alloc _).past hb; have L2 : Lies w1 (w.heap.size + 1) 70 [.int .i32 0, .int .i32 0, .int .u8 0] := (by simpa using (Lies.fresh (w.alloc (.cells #[.int .i32 c0.a, .int .i32 c0.b, .int .u8 c0.l] 70)) _ _) : Lies _ (w.heap.size + 1) _ _).past hb; have hbw : Below w.heap.size w w1 := (by (repeat' (first | (with_reducible exact Below.refl _ _) | (with_reducible assumption) | (with_reducible refine below_drewN ?_ _) | (with_reducible refine below_new ?_ _) | (with_reducible refine Below.alloc ?_ ?_ _) | (with_reducible refine Below.drew ?_) | (with_reducible refine Below.setCell ?_ ?_ _) | (with_reducible apply below_at; (case k => (with_reducible assumption)); (case hB => omega)) | (with_reducible apply below_on; (with_reducible assumption)) | (go_size; done) | (with_reducible apply size_of)))); clear cl1 fr1; have HL1 := Lib.hid L1; have HL2 := Lib.hid L2; have HW := Lib.hid hbw; clear L1 L2 hbw hb hc
  clear E'
  go_loopw [21] (fun i wr => i = .int .i64 0 ∧ Lies wr w.heap.size 70 [.int .i32 c0.a, .int .i32 c0.b, .int .u8 c0.l] ∧ Lies wr (w.heap.size + 1) 70 [.int .i32 0, .int .i32 0, .int .u8 0] ∧ Below w.heap.size w wr) (fun i _ => 0)
  case atStart => exact ⟨rfl, HL1.out, HL2.out, HW.out⟩
  case round =>
    obtain ⟨rfl, K1, K2, hbel⟩ := hrel
    obtain ⟨p0, p1, p2, f0, f1, f2⟩ := K1.three
    obtain ⟨q0, q1, q2, g0, g1, g2⟩ := K2.three
    have lt2 := K2.lt
    clear K1 K2
    go_wp2
    refine bodyPost_ret (by simp [results, Try.results40, go_sem, q0, q1, q2]; try rfl) rfl ?_
    exact ⟨rfl, by (repeat' (first | (with_reducible exact Below.refl _ _) | (with_reducible assumption) | (with_reducible refine below_drewN ?_ _) | (with_reducible refine below_new ?_ _) | (with_reducible refine Below.alloc ?_ ?_ _) | (with_reducible refine Below.drew ?_) | (with_reducible refine Below.setCell ?_ ?_ _) | (with_reducible apply below_at; (case k => (with_reducible assumption)); (case hB => omega)) | (with_reducible apply below_on; (with_reducible assumption)) | (go_size; done) | (with_reducible apply size_of)))⟩
theorem bits_bad {zs : List Int} {k : Nat} (hk : k < zs.length) (h : 1 < zs.getD k 0) : bitsB zs = false := by
  have hmem : zs.getD k 0 ∈ zs := by rw [List.getD_eq_getElem?_getD, List.getElem?_eq_getElem hk]; simp
  cases hb : bitsB zs with
  | false => rfl
  | true => have := (bitsB_iff zs).1 hb _ hmem; omega
set_option maxHeartbeats 1000000 in
theorem Run_some (c0 : Cnt) (b off cap : Nat) (zs : List Int) (w : World) (hc : CntIn c0) (hok : ok c0 = true) (hz : ∀ z ∈ zs, 0 ≤ z ∧ z ≤ 255)
    (hB : b < w.heap.size) (hr : ∀ i, i < zs.length → w.cell? ⟨b, off + i, none⟩ = some (.int .u8 (zs.getD i 0))) (hl : zs.length ≤ 20000) :
    Calls Try.prog 40 #[.agg #[.int .i32 (c0).a, .int .i32 (c0).b, .int .u8 (c0).l], .slice (some ⟨b, off, none⟩) zs.length cap] w fun e w' => e = .returned (.tuple #[.agg #[.int .i32 (runC c0 zs).a, .int .i32 (runC c0 zs).b, .int .u8 (runC c0 zs).l], .int .i64 (runE c0 zs)]) ∧ Below w.heap.size w w' := by
  have E' : chk ⟨c0.a, c0.b, c0.l⟩ = 0 := chk_yes hok
  have HZ := Lib.hid hz
  have HO := Lib.hid hok
  have HR := Lib.hid hr
  have HM : Hid (¬ 20000 < zs.length) := Lib.hid (by omega)
  clear hz hok hr
  go_enter Try.func40, Try.ntmps40
  go_wp2_with (first | (go_at_call 50; refine (check_any ⟨_, _, _⟩ _ hc).mono ?_; rintro e w1 ⟨rfl, hb⟩; obtain ⟨cl1, fr1⟩ := bcell hb; have sz1 := hb.size; (try simp at sz1); (try have sy1 : w.heap.size + 1 < (w1).heap.size := (by omega)); have sx1 : w.heap.size < (w1).heap.size := (by omega)))
  have L1 : Lies w1 w.heap.size 70 [.int .i32 c0.a, .int .i32 c0.b, .int .u8 c0.l] := ((Lies.fresh _ _ _).alloc _).past hb; have L2 : Lies w1 (w.heap.size + 1) 70 [.int .i32 0, .int .i32 0, .int .u8 0] := (by simpa using (Lies.fresh (w.alloc (.cells #[.int .i32 c0.a, .int .i32 c0.b, .int .u8 c0.l] 70)) _ _) : Lies _ (w.heap.size + 1) _ _).past hb; have hbw : Below w.heap.size w w1 := (by (repeat' (first | (with_reducible exact Below.refl _ _) | (with_reducible assumption) | (with_reducible refine below_drewN ?_ _) | (with_reducible refine below_new ?_ _) | (with_reducible refine Below.alloc ?_ ?_ _) | (with_reducible refine Below.drew ?_) | (with_reducible refine Below.setCell ?_ ?_ _) | (with_reducible apply below_at; (case k => (with_reducible assumption)); (case hB => omega)) | (with_reducible apply below_on; (with_reducible assumption)) | (go_size; done) | (with_reducible apply size_of)))); clear cl1 fr1; have HL1 := Lib.hid L1; have HL2 := Lib.hid L2; have HW := Lib.hid hbw; clear L1 L2 hbw hb hc
  clear E'
  go_loopw [21] (fun i wr => ∃ k : Nat, k ≤ zs.length ∧ i = .int .i64 k ∧ bitsB (zs.take k) = true ∧ Lies wr w.heap.size 70 [.int .i32 (run c0 (zs.take k)).a, .int .i32 (run c0 (zs.take k)).b, .int .u8 (run c0 (zs.take k)).l] ∧ Lies wr (w.heap.size + 1) 70 [.int .i32 0, .int .i32 0, .int .u8 0] ∧ Below w.heap.size w wr) (fun i _ => zs.length - (intOf i).toNat)
  case atStart => exact ⟨0, Nat.zero_le _, rfl, rfl, HL1.out, HL2.out, HW.out⟩
  case round =>
    obtain ⟨k, hk, rfl, hbt, K1, K2, hbel⟩ := hrel
    obtain ⟨p0, p1, p2, f0, f1, f2⟩ := K1.three
    obtain ⟨q0, q1, q2, g0, g1, g2⟩ := K2.three
    have lt1 := K1.lt
    have lt2 := K2.lt
    have HK1 := Lib.hid K1
    have HK2 := Lib.hid K2
    have HBT := Lib.hid hbt
    clear K1 K2 hbt
    have hin := run_in (zs := zs.take k) HO.out (fun z hz => HZ.out z (List.mem_of_mem_take hz)) HBT.out k
    rw [List.take_take, Nat.min_self] at hin
    obtain ⟨x1, x2, x3, x4, x5, x6⟩ := ok_bd hin
    clear hin
    by_cases hlt : k < zs.length
    · have HS := Lib.hid (run_next c0 hlt)
      have hcell : wr.cell? ⟨b, off + k, none⟩ = some (.int .u8 (zs.getD k 0)) := by rw [(bcell hbel).1 b _ hB]; exact HR.out k hlt
      have i1 : (0 : Int) ≤ (k : Int) := by omega
      have i2 : (k : Int) < zs.length := by omega
      have hmem : zs.getD k 0 ∈ zs := by rw [List.getD_eq_getElem?_getD, List.getElem?_eq_getElem hlt]; simp
      obtain ⟨v1, v2⟩ := HZ.out _ hmem
      have hsn := bitsB_snoc (zs.take k) (zs.getD k 0)
      rw [← take_snoc 0 zs k hlt, HBT.out, Bool.true_and] at hsn
      have HSN := Lib.hid hsn
      have HBAD := Lib.hid (bits_bad hlt)
      clear hmem hsn
      generalize hv : zs.getD k 0 = v at *
      generalize hs : run c0 (zs.take k) = s at *
      have HG := Lib.hid hv
      have HG2 := Lib.hid hs
      clear hv hs
      by_cases hv1 : v ≤ 1
      · have HV : Hid (v = 0 ∨ v = 1) := Lib.hid (by omega)
        go_wp2_with (first | (go_at_call 51; refine (next_any _ _ _ _ _ x1 x2 x3 x4 HV.out).mono ?_; rintro e w' ⟨rfl, hb3⟩; obtain ⟨p0', p1', p2', f0', f1', f2'⟩ := (HK1.out.past hb3).three))
        go_roundw
        case rel =>
          refine ⟨k + 1, by omega, by go_num, by rw [HSN.out]; simpa using hv1, ?_, ?_, by (repeat' (first | (with_reducible exact Below.refl _ _) | (with_reducible assumption) | (with_reducible refine below_drewN ?_ _) | (with_reducible refine below_new ?_ _) | (with_reducible refine Below.alloc ?_ ?_ _) | (with_reducible refine Below.drew ?_) | (with_reducible refine Below.setCell ?_ ?_ _) | (with_reducible apply below_at; (case k => (with_reducible assumption)); (case hB => omega)) | (with_reducible apply below_on; (with_reducible assumption)) | (go_size; done) | (with_reducible apply size_of)))⟩
          · rw [HS.out]
            exact (((HK1.out.past hb3).set 0 _).set 1 _).set 2 _
          · exact (((HK2.out.past hb3).other (by simp) _).other (by simp) _).other (by simp) _
        case measure => simp [intOf]; omega
      · have HF : Hid (bitsB zs = false) := Lib.hid (HBAD.out (by omega))
        go_wp2
        refine bodyPost_ret (by simp [results, Try.results40, go_sem, q0, q1, q2]; try rfl) rfl ?_
        exact ⟨by simp [runC, runE, HO.out, HM.out, HF.out], by (repeat' (first | (with_reducible exact Below.refl _ _) | (with_reducible assumption) | (with_reducible refine below_drewN ?_ _) | (with_reducible refine below_new ?_ _) | (with_reducible refine Below.alloc ?_ ?_ _) | (with_reducible refine Below.drew ?_) | (with_reducible refine Below.setCell ?_ ?_ _) | (with_reducible apply below_at; (case k => (with_reducible assumption)); (case hB => omega)) | (with_reducible apply below_on; (with_reducible assumption)) | (go_size; done) | (with_reducible apply size_of)))⟩
    · have hT : zs.take k = zs := List.take_of_length_le (by omega)
      have HT := Lib.hid hT
      clear hT
      have HF : Hid (bitsB zs = true) := Lib.hid (by rw [← HT.out]; exact HBT.out)
      go_wp2
      refine bodyPost_ret (by simp [results, Try.results40, go_sem, q0, q1, q2]; try rfl) rfl ?_
      exact ⟨by simp [runC, runE, HO.out, HM.out, HF.out, HT.out], by (repeat' (first | (with_reducible exact Below.refl _ _) | (with_reducible assumption) | (with_reducible refine below_drewN ?_ _) | (with_reducible refine below_new ?_ _) | (with_reducible refine Below.alloc ?_ ?_ _) | (with_reducible refine Below.drew ?_) | (with_reducible refine Below.setCell ?_ ?_ _) | (with_reducible apply below_at; (case k => (with_reducible assumption)); (case hB => omega)) | (with_reducible apply below_on; (with_reducible assumption)) | (go_size; done) | (with_reducible apply size_of)))⟩
set_option maxHeartbeats 1000000 in
theorem Run_any (c0 : Cnt) (A : Option Addr) (len cap : Nat) (zs : List Int) (w : World) (hc : CntIn c0) (hz : ∀ z ∈ zs, 0 ≤ z ∧ z ≤ 255) (hr : Has .u8 w A zs) (hlen : zs.length = len) (hl : len ≤ 9223372036854775807) :
    Calls Try.prog 40 #[.agg #[.int .i32 (c0).a, .int .i32 (c0).b, .int .u8 (c0).l], .slice A len cap] w fun e w' => e = .returned (.tuple #[.agg #[.int .i32 (runC c0 zs).a, .int .i32 (runC c0 zs).b, .int .u8 (runC c0 zs).l], .int .i64 (runE c0 zs)]) ∧ Below w.heap.size w w' := by
  cases hok : ok c0
  · have E' : chk ⟨c0.a, c0.b, c0.l⟩ = 8 := chk_no hok
    have HK := Lib.hid hok
    clear hok hr hlen
    go_enter Try.func40, Try.ntmps40
    go_wp2_with (first | (go_at_call 50; refine (check_any ⟨_, _, _⟩ _ hc).mono ?_; rintro e w1 ⟨rfl, hb⟩; obtain ⟨cl1, fr1⟩ := bcell hb; have sz1 := hb.size; (try simp at sz1); (try have sy1 : w.heap.size + 1 < (w1).heap.size := (by omega)); have sx1 : w.heap.size < (w1).heap.size := (by omega)))
    refine bodyPost_ret (by simp [results, Try.results40, go_sem, cl1, sy1]; try rfl) rfl ?_
    exact ⟨by simp [runC, runE, HK.out], by (repeat' (first | (with_reducible exact Below.refl _ _) | (with_reducible assumption) | (with_reducible refine below_drewN ?_ _) | (with_reducible refine below_new ?_ _) | (with_reducible refine Below.alloc ?_ ?_ _) | (with_reducible refine Below.drew ?_) | (with_reducible refine Below.setCell ?_ ?_ _) | (with_reducible apply below_at; (case k => (with_reducible assumption)); (case hB => omega)) | (with_reducible apply below_on; (with_reducible assumption)) | (go_size; done) | (with_reducible apply size_of)))⟩
  · by_cases hm : 20000 < len
    · have E' : chk ⟨c0.a, c0.b, c0.l⟩ = 0 := chk_yes hok
      have HK := Lib.hid hok
      have HL : Hid (20000 < zs.length) := Lib.hid (by omega)
      clear hok hr hlen
      go_enter Try.func40, Try.ntmps40
      go_wp2_with (first | (go_at_call 50; refine (check_any ⟨_, _, _⟩ _ hc).mono ?_; rintro e w1 ⟨rfl, hb⟩; obtain ⟨cl1, fr1⟩ := bcell hb; have sz1 := hb.size; (try simp at sz1); (try have sy1 : w.heap.size + 1 < (w1).heap.size := (by omega)); have sx1 : w.heap.size < (w1).heap.size := (by omega)))
      refine bodyPost_ret (by simp [results, Try.results40, go_sem, cl1, sy1]; try rfl) rfl ?_
      exact ⟨by simp [runC, runE, HK.out, HL.out], by (repeat' (first | (with_reducible exact Below.refl _ _) | (with_reducible assumption) | (with_reducible refine below_drewN ?_ _) | (with_reducible refine below_new ?_ _) | (with_reducible refine Below.alloc ?_ ?_ _) | (with_reducible refine Below.drew ?_) | (with_reducible refine Below.setCell ?_ ?_ _) | (with_reducible apply below_at; (case k => (with_reducible assumption)); (case hB => omega)) | (with_reducible apply below_on; (with_reducible assumption)) | (go_size; done) | (with_reducible apply size_of)))⟩
    · subst hlen
      rcases hr with rfl | ⟨b, off, rfl, hB, hr⟩
      · have e1 : runC c0 [] = c0 := by simp [runC, hok, bitsB, run]
        have e2 : runE c0 [] = 0 := by simp [runE, hok, bitsB]
        rw [e1, e2]
        exact Run_nil c0 A cap w hc hok
      · exact Run_some c0 b off cap zs w hc hok hz hB hr (by omega)
end Go.Proofs.Ytipbafcjmeibpaa.cntW
