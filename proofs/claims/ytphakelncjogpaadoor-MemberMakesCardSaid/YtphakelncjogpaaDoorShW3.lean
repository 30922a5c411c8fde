/- The schedule, by a walk. -/
import Derived.Test.YtphakelncjogpaaDoorShW2
import Derived.IntWalk
namespace Go.Proofs.YtphakelncjogpaaDoor.shW
set_option maxRecDepth 100000
open Go.RowKit Go.Proofs.YtphakelncjogpaaDoor.base Go.Proofs.YtphakelncjogpaaDoor.shP
set_option linter.unusedVariables false
set_option linter.unusedSimpArgs false
def sarr (b : List Int) : Array Value := ((sch b 80).map (Value.int .u32)).toArray
theorem sch_one (b : List Int) : ∀ v ∈ (sarr b).toList, v.oneCell' = true := by
  intro v hv
  simp only [sarr, List.mem_map] at hv
  obtain ⟨i, _, rfl⟩ := hv
  rfl
theorem sarr_len (b : List Int) : (sarr b).size = 80 := by simp [sarr, sch_len]
theorem sarr_size (b : List Int) : (List.replicate 80 (Value.int .u32 0)).toArray.size = (sarr b).size := by rw [sarr_len]; simp
theorem info80 (b : List Int) : (Tryd.prog.info? 146).map (·.size) = some (sarr b).size := by rw [sarr_len]; kernel_rfl
theorem sarr_lies {w : World} {g : Nat} {b : List Int} {k : Nat} (h : Lies (w) (g) 146 (swds b k)) (hk : k = 80) : w.heap[g]? = some (.cells (sarr b) 146 (0, 0)) := by
  subst hk
  have := h
  rw [swds_all] at this
  exact this
def z80 : List Value := List.replicate 80 (.int .u32 0)
def z80A : Array Value := z80.toArray
theorem z80A_size : z80A.size = 80 := rfl
theorem z80A_ne : ¬ z80A = #[] := fun h => by have := congrArg Array.size h; rw [z80A_size] at this; simp at this
theorem zv80 (w : World) : (zeroValue 146).run Tryd.prog w = .ok (.agg z80A) w := by kernel_rfl
theorem z80_new (w : World) {g : Nat} (hg : w.heap.size = g) : Lies (w.alloc (.cells z80A 146)) (g) 146 (z80) := Lies.fresh_at (t := 146) (cs := z80) hg
theorem z80_size (b : List Int) : z80.toArray.size = (sarr b).size := sarr_size b
theorem z80_0 (b : List Int) : z80 = swds b 0 := (swds_zero b).symm
attribute [irreducible] sarr z80 z80A
attribute [local irreducible] sch
set_option maxRecDepth 100000 in
set_option maxHeartbeats 4000000 in
theorem schedule (b : List Int) (A : Option Addr) (d : Nat) (w : World) (h : Has .u8 w A b) (hl : b.length = 64) (hd : 64 ≤ d) (hb : ∀ z ∈ b, 0 ≤ z ∧ z ≤ 255) :
    Calls Tryd.prog 69 #[.slice A 64 d] w fun e w' => e = .returned (.agg (sarr b)) ∧ Below w.heap.size w w' := by
  obtain ⟨B, off, rfl, hB, hc⟩ := has_some h (by omega)
  have HC := Lib.hid hc
  have HL := Lib.hid hl
  have HBD := Lib.hid hb
  clear h hc hl hb
  have hz1 := zv80
  have hz2 := z80A_size
  have hz3 := z80A_ne
  go_enter Tryd.func69, Tryd.ntmps69
  go_wp2_with fail
  clear hz1 hz2 hz3
  go_loopw [6] (fun i wr => ∃ k : Nat, k ≤ 16 ∧ i = .int .i64 k ∧ Lies (wr) (w.heap.size + 1) 146 (swds b k) ∧ Lies (wr) (w.heap.size) 146 (z80) ∧ Below w.heap.size w wr) (fun i _ => 16 - (intOf i).toNat)
  case atStart => exact ⟨0, by omega, rfl, by rw [← z80_0]; exact z80_new _ (by simp), (z80_new w rfl).alloc _, by (repeat' (first | (with_reducible exact Below.refl _ _) | (with_reducible assumption) | (with_reducible refine below_drewN ?_ _) | (with_reducible refine below_new ?_ _) | (with_reducible refine Below.alloc ?_ ?_ _) | (with_reducible refine Below.drew ?_) | (with_reducible refine Below.setCell ?_ ?_ _) | (with_reducible apply below_at; (case k => (with_reducible assumption)); (case hB => omega)) | (with_reducible apply below_on; (with_reducible assumption)) | (go_size; done) | (with_reducible apply size_of)))⟩
  case round =>
    obtain ⟨k, hk, rfl, K, R, acc⟩ := hrel
    have HK := Lib.hid K
    have HR := Lib.hid R
    have HACC := Lib.hid acc
    by_cases hlt : k < 16
    · obtain ⟨c0, c1, c2, c3⟩ := four_cells HC.out HL.out hlt
      rw [← acc.cell (p := ⟨B, _, none⟩) hB] at c0 c1 c2 c3
      have d0 := getD_bd HBD.out (4 * k)
      have d1 := getD_bd HBD.out (4 * k + 1)
      have d2 := getD_bd HBD.out (4 * k + 2)
      have d3 := getD_bd HBD.out (4 * k + 3)
      obtain ⟨e0, f0⟩ := d0
      obtain ⟨e1, f1⟩ := d1
      obtain ⟨e2, f2⟩ := d2
      obtain ⟨e3, f3⟩ := d3
      have HW : Hid (w16 b k = ((b.getD (4 * k) 0 * 256 + b.getD (4 * k + 1) 0) * 256 + b.getD (4 * k + 2) 0) * 256 + b.getD (4 * k + 3) 0) := Lib.hid rfl
      have q1 := K.free k
      obtain ⟨old, q0⟩ : ∃ old, wr.cell? ⟨w.heap.size + 1, k, none⟩ = some old := ⟨_, (K.cell k).trans (List.getElem?_eq_getElem (by rw [swds_len b (by omega)]; omega))⟩
      have zk := K.lt
      have HLT := Lib.hid hlt
      have k1 : (k : Int) < 16 := by omega
      clear acc K R hk hlt
      generalize b.getD (4 * k) 0 = y0 at *
      generalize b.getD (4 * k + 1) 0 = y1 at *
      generalize b.getD (4 * k + 2) 0 = y2 at *
      generalize b.getD (4 * k + 3) 0 = y3 at *
      have m0 : IntKind.i64.wrap (4 * (k : Int)) = 4 * (k : Int) := IntWalk.i64_in _ (by omega)
      have m1 : IntKind.i64.wrap (4 * (k : Int) + 1) = 4 * (k : Int) + 1 := IntWalk.i64_in _ (by omega)
      have m2 : IntKind.i64.wrap (4 * (k : Int) + 2) = 4 * (k : Int) + 2 := IntWalk.i64_in _ (by omega)
      have m3 : IntKind.i64.wrap (4 * (k : Int) + 3) = 4 * (k : Int) + 3 := IntWalk.i64_in _ (by omega)
      have n0 : (4 * (k : Int)).toNat = 4 * k := by omega
      have n1 : (4 * (k : Int) + 1).toNat = 4 * k + 1 := by omega
      have n2 : (4 * (k : Int) + 2).toNat = 4 * k + 2 := by omega
      have n3 : (4 * (k : Int) + 3).toNat = 4 * k + 3 := by omega
      have o0 : 0 ≤ 4 * (k : Int) := by omega
      have o1 : 0 ≤ 4 * (k : Int) + 1 := by omega
      have o2 : 0 ≤ 4 * (k : Int) + 2 := by omega
      have o3 : 0 ≤ 4 * (k : Int) + 3 := by omega
      have p0 : 4 * (k : Int) < 64 := by omega
      have p1 : 4 * (k : Int) + 1 < 64 := by omega
      have p2 : 4 * (k : Int) + 2 < 64 := by omega
      have p3 : 4 * (k : Int) + 3 < 64 := by omega
      have r0 : IntKind.u32.wrap y0 = y0 := by rw [IntKind.wrap_u32]; omega
      have r1 : IntKind.u32.wrap y1 = y1 := by rw [IntKind.wrap_u32]; omega
      have r2 : IntKind.u32.wrap y2 = y2 := by rw [IntKind.wrap_u32]; omega
      have r3 : IntKind.u32.wrap y3 = y3 := by rw [IntKind.wrap_u32]; omega
      have s0 : IntKind.u32.wrap (y0 * 16777216) = y0 * 16777216 := by rw [IntKind.wrap_u32]; omega
      have s1 : IntKind.u32.wrap (y1 * 65536) = y1 * 65536 := by rw [IntKind.wrap_u32]; omega
      have s2 : IntKind.u32.wrap (y2 * 256) = y2 * 256 := by rw [IntKind.wrap_u32]; omega
      have t0 : 0 ≤ (k : Int) := by omega
      have t1 : (k : Int) < 80 := by omega
      go_wp2_with fail
      go_still_tail 35, (by kernel_rfl)
      go_wp2
      refine ⟨⟨k + 1, by have := HLT.out; omega, by go_num, ?_, ?_, ?_⟩, ?_⟩
      · refine Lies.drew ?_
        rw [or4 ⟨e0, f0⟩ ⟨e1, f1⟩ ⟨e2, f2⟩ ⟨e3, f3⟩]
        have := HK.out.set k (.int .u32 (((y0 * 256 + y1) * 256 + y2) * 256 + y3))
        rwa [swds_set b (by have := HLT.out; omega) _ (by rw [sch_at b k 80 (by have := HLT.out; omega), if_pos HLT.out, HW.out])] at this
      · exact (HR.out.other (by simp) _).drew
      · have := HACC.out; (repeat' (first | (with_reducible exact Below.refl _ _) | (with_reducible assumption) | (with_reducible refine below_drewN ?_ _) | (with_reducible refine below_new ?_ _) | (with_reducible refine Below.alloc ?_ ?_ _) | (with_reducible refine Below.drew ?_) | (with_reducible refine Below.setCell ?_ ?_ _) | (with_reducible apply below_at; (case k => (with_reducible assumption)); (case hB => omega)) | (with_reducible apply below_on; (with_reducible assumption)) | (go_size; done) | (with_reducible apply size_of)))
      · simp [intOf]; have := HLT.out; omega
    · have e16 : k = 16 := by omega
      have HE := Lib.hid e16
      have k16 : ¬ (k : Int) < 16 := by omega
      clear K R acc hk hlt e16
      go_wp2_with fail
      go_loopw [5] (fun i wr => ∃ k : Nat, 16 ≤ k ∧ k ≤ 80 ∧ i = .int .i64 k ∧ Lies (wr) (w.heap.size + 1) 146 (swds b k) ∧ Lies (wr) (w.heap.size) 146 (z80) ∧ Below w.heap.size w wr) (fun i _ => 80 - (intOf i).toNat)
      case atStart => exact ⟨16, by omega, by omega, rfl, by rw [← HE.out]; exact HK.out, HR.out, HACC.out⟩
      case round =>
        clear HK HR HACC HE
        obtain ⟨k, hk1, hk, rfl, K, R, acc⟩ := hrel
        have HK := Lib.hid K
        have HR := Lib.hid R
        have HACC := Lib.hid acc
        by_cases hlt : k < 80
        · have c3 := (K.cell (k - 3)).trans (swds_at b (show k - 3 < k by omega) (by omega))
          have c8 := (K.cell (k - 8)).trans (swds_at b (show k - 8 < k by omega) (by omega))
          have c14 := (K.cell (k - 14)).trans (swds_at b (show k - 14 < k by omega) (by omega))
          have c16 := (K.cell (k - 16)).trans (swds_at b (show k - 16 < k by omega) (by omega))
          have HX : Hid ((sch b 80).getD k 0 = rot (bits .xor .u32 (bits .xor .u32 (bits .xor .u32 ((sch b 80).getD (k - 3) 0) ((sch b 80).getD (k - 8) 0)) ((sch b 80).getD (k - 14) 0)) ((sch b 80).getD (k - 16) 0)) 1) := Lib.hid (by rw [sch_at b k 80 hlt, if_neg (by omega), ← nxt_any b k 80 (by omega) hk1]; rfl)
          have q1 := K.free k
          obtain ⟨old, q0⟩ : ∃ old, wr.cell? ⟨w.heap.size + 1, k, none⟩ = some old := ⟨_, (K.cell k).trans (List.getElem?_eq_getElem (by rw [swds_len b (by omega)]; omega))⟩
          have zk := K.lt
          have HLT : Hid (16 ≤ k ∧ k < 80) := Lib.hid ⟨hk1, hlt⟩
          have n3 : ((k : Int) - 3).toNat = k - 3 := by omega
          have n8 : ((k : Int) - 8).toNat = k - 8 := by omega
          have n14 : ((k : Int) - 14).toNat = k - 14 := by omega
          have n16 : ((k : Int) - 16).toNat = k - 16 := by omega
          have m3 : IntKind.i64.wrap ((k : Int) - 3) = (k : Int) - 3 := IntWalk.i64_in _ (by omega)
          have m8 : IntKind.i64.wrap ((k : Int) - 8) = (k : Int) - 8 := IntWalk.i64_in _ (by omega)
          have m14 : IntKind.i64.wrap ((k : Int) - 14) = (k : Int) - 14 := IntWalk.i64_in _ (by omega)
          have m16 : IntKind.i64.wrap ((k : Int) - 16) = (k : Int) - 16 := IntWalk.i64_in _ (by omega)
          have o3 : 3 ≤ (k : Int) := by omega
          have o8 : 8 ≤ (k : Int) := by omega
          have o14 : 14 ≤ (k : Int) := by omega
          have o16 : 16 ≤ (k : Int) := by omega
          have o3' : 0 ≤ (k : Int) - 3 := by omega
          have o8' : 0 ≤ (k : Int) - 8 := by omega
          have o14' : 0 ≤ (k : Int) - 14 := by omega
          have o16' : 0 ≤ (k : Int) - 16 := by omega
          have p3 : (k : Int) - 3 < 80 := by omega
          have p8 : (k : Int) - 8 < 80 := by omega
          have p14 : (k : Int) - 14 < 80 := by omega
          have p16 : (k : Int) - 16 < 80 := by omega
          have t0 : 0 ≤ (k : Int) := by omega
          have t1 : (k : Int) < 80 := by omega
          clear acc K R hk hk1 hlt
          generalize (sch b 80).getD (k - 3) 0 = y0 at *
          generalize (sch b 80).getD (k - 8) 0 = y1 at *
          generalize (sch b 80).getD (k - 14) 0 = y2 at *
          generalize (sch b 80).getD (k - 16) 0 = y3 at *
          go_wp2_with fail
          refine region_still_tail 22 (by kernel_rfl) (by kernel_rfl) ?_; simp only [List.take_succ_cons, List.take_zero, List.drop_succ_cons, List.drop_zero]
          repeat still_step
          still_call (turned (rotate _ 1 _ (.inl rfl) (bits_bd _ _ _).1 (bits_bd _ _ _).2))
          repeat still_step
          refine wpStill_nil ?_
          go_wp2
          refine ⟨⟨k + 1, by have := HLT.out; omega, by have := HLT.out; omega, by go_num, ?_, ?_, ?_⟩, ?_⟩
          · refine Lies.drew ?_
            have := HK.out.set k (.int .u32 (rot (bits .xor .u32 (bits .xor .u32 (bits .xor .u32 y0 y1) y2) y3) 1))
            rwa [swds_set b (HLT.out.2) _ HX.out.symm] at this
          · exact (HR.out.other (by simp) _).drew
          · have := HACC.out; (repeat' (first | (with_reducible exact Below.refl _ _) | (with_reducible assumption) | (with_reducible refine below_drewN ?_ _) | (with_reducible refine below_new ?_ _) | (with_reducible refine Below.alloc ?_ ?_ _) | (with_reducible refine Below.drew ?_) | (with_reducible refine Below.setCell ?_ ?_ _) | (with_reducible apply below_at; (case k => (with_reducible assumption)); (case hB => omega)) | (with_reducible apply below_on; (with_reducible assumption)) | (go_size; done) | (with_reducible apply size_of)))
          · simp [intOf]; have := HLT.out; omega
        · have e80 : k = 80 := by omega
          have k80 : ¬ (k : Int) < 80 := by omega
          have HK' := Lib.hid (sarr_lies HK.out e80)
          have HP1 := Lib.hid (sch_one b)
          clear K R acc hk hk1 hlt HK e80
          go_upto_region 11 with fail
          go_step
          refine wpList_load_row (P := Tryd.prog) rfl 146 (.tmp 3) rfl (w.heap.size + 1) rfl 146 (sarr b) (0, 0) _ HK'.out Tryd.underlying146 rfl (info80 b) ?_
          refine wpList_store_arr (P := Tryd.prog) rfl 146 (.tmp 2) (.tmp 71) rfl w.heap.size rfl (sarr b) rfl 146 _ HR.out (z80_size b) HP1.out (info80 b) ?_
          intro w9 hR9 hb9 hz9
          go_wp2_with fail
          refine bodyPost_ret (results_cell_row (P := Tryd.prog) Tryd.results69 _ _ _ _ _ _ _ rfl hR9 Tryd.underlying146 rfl (info80 b)) rfl ⟨rfl, ?_⟩
          exact HACC.out.trans hb9
end Go.Proofs.YtphakelncjogpaaDoor.shW
