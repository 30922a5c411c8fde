/- The bytes before Sum, by a walk. -/
import Derived.Test.YteofindkccndjaaDoorHdW
import Derived.Test.YteofindkccndjaaDoorMk8
import Derived.StillTailTactics
namespace Go.Proofs.YteofindkccndjaaDoor.hdP
set_option maxRecDepth 100000
/-- The first n bytes, and zeros. -/
def frK (h : Hd) (n : Nat) : List Int := (fr h).take n ++ List.replicate (8 - n) 0
theorem frK_0 (h : Hd) : frK h 0 = List.replicate 8 0 := rfl
theorem frK_8 (h : Hd) : frK h 8 = fr h := rfl
theorem frK_len (h : Hd) (n : Nat) (hn : n ≤ 8) : (frK h n).length = 8 := by simp [frK, fr]; omega
theorem frK_set (h : Hd) (n : Nat) (hn : n < 8) (x : Int) (hx : x = (fr h).getD n 0) : (frK h n).set n x = frK h (n + 1) := by
  subst hx
  match n, hn with
  | 0, _ => rfl
  | 1, _ => rfl
  | 2, _ => rfl
  | 3, _ => rfl
  | 4, _ => rfl
  | 5, _ => rfl
  | 6, _ => rfl
  | 7, _ => rfl
def atN (i : Nat) : Nat := [0, 1, 2, 4, 6, 8].getD i 0
def wdN (i : Nat) : Nat := [1, 1, 2, 2, 2].getD i 0
def vaN (h : Hd) (i : Nat) : Int := [h.mo, h.me, h.of, h.ra, h.le].getD i 0
theorem five_cases {i : Nat} (h : i < 5) : i = 0 ∨ i = 1 ∨ i = 2 ∨ i = 3 ∨ i = 4 := by omega
theorem at_step {i : Nat} (h : i < 5) : atN (i + 1) = atN i + wdN i ∧ (wdN i = 1 ∨ wdN i = 2) ∧ atN i + wdN i ≤ 8 := by
  rcases five_cases h with rfl | rfl | rfl | rfl | rfl <;> decide
theorem va_bd {h : Hd} (k : Ok h) {i : Nat} (hi : i < 5) : 0 ≤ vaN h i ∧ vaN h i ≤ 8192 := by
  have := k.le_
  unfold Ok at k
  rcases five_cases hi with rfl | rfl | rfl | rfl | rfl <;> simp [vaN] <;> omega
theorem va_one {h : Hd} (k : Ok h) {i : Nat} (hi : i < 5) (hw : wdN i = 1) : vaN h i % 256 = (fr h).getD (atN i) 0 := by
  have := k.le_
  unfold Ok at k
  rcases five_cases hi with rfl | rfl | rfl | rfl | rfl <;> simp [vaN, wdN, atN, fr] at * <;> omega
theorem va_two {h : Hd} (k : Ok h) {i : Nat} (hi : i < 5) (hw : wdN i = 2) : vaN h i / 256 % 256 = (fr h).getD (atN i) 0 ∧ vaN h i % 256 = (fr h).getD (atN i + 1) 0 := by
  have := k.le_
  unfold Ok at k
  rcases five_cases hi with rfl | rfl | rfl | rfl | rfl <;> simp [vaN, wdN, atN, fr] at * <;> omega
end Go.Proofs.YteofindkccndjaaDoor.hdP
namespace Go.Proofs.YteofindkccndjaaDoor.hdW
set_option maxRecDepth 100000
open Go.RowKit Go.Proofs.YteofindkccndjaaDoor.base Go.Proofs.YteofindkccndjaaDoor.hdP
set_option linter.unusedVariables false
set_option linter.unusedSimpArgs false
def parts : List Int := [0, 1, 1, 1, 2, 2, 4, 2, 6, 2]
def TabP (w : World) : Prop := 0 < w.heap.size ∧ ∀ i, i < 10 → w.cell? ⟨0, i, none⟩ = some (.int .i64 (parts.getD i 0))
theorem TabP.below {w w' : World} {B : Nat} (h : TabP w) (hb : Below B w w') (hB : w.heap.size ≤ B) : TabP w' :=
  ⟨Nat.lt_of_lt_of_le h.1 hb.size, fun i hi => by rw [hb.cell (p := ⟨0, i, none⟩) (Nat.lt_of_lt_of_le h.1 hB)]; exact h.2 i hi⟩
theorem TabP.past {w w' : World} (h : TabP w) (hb : Below w.heap.size w w') : TabP w' := h.below hb (Nat.le_refl _)
def ptL : List Value := parts.map (Value.int .i64)
theorem TabP.rng {w : World} (h : TabP w) : w.rangeAt 0 0 ptL := fun j v hv => by
  have hj : j < 10 := by have := (List.getElem?_eq_some_iff.1 hv).1; simpa [ptL, parts] using this
  rw [Nat.zero_add, h.2 j hj, ← hv, ptL, List.getElem?_map, List.getD_eq_getElem?_getD, List.getElem?_eq_getElem (by simp [parts]; omega)]
  rfl
theorem pt_ix {i : Nat} (h : i < 5) (w : World) : (Instr.index 59 (.agg ptL.toArray) (.int .i64 (i : Int))).run Tryd.prog w = .ok (.agg #[.int .i64 (atN i : Nat), .int .i64 (wdN i : Nat)]) w := by
  rcases five_cases h with rfl | rfl | rfl | rfl | rfl <;> kernel_rfl
theorem info59 : (Tryd.prog.info? 59).map (·.size) = some ptL.length := by kernel_rfl
theorem mz8 (w : World) : (Instr.makeSlice 26 (.int .i64 8) (.int .i64 8)).run Tryd.prog w = .ok (.slice (some ⟨w.heap.size, 0, none⟩) 8 8) (w.alloc (.cells (zC 8) 5)) := mkz 8 (by omega) w
attribute [irreducible] ptL
def vals (h : Hd) : List Value := [.int .i64 h.mo, .int .i64 h.me, .int .i64 h.of, .int .i64 h.ra, .int .i64 h.le]
theorem vals_at (h : Hd) {i : Nat} (hi : i < 5) : (vals h)[i]? = some (.int .i64 (vaN h i)) := by
  rcases five_cases hi with rfl | rfl | rfl | rfl | rfl <;> rfl
set_option maxRecDepth 100000 in
set_option maxHeartbeats 800000 in
theorem front_ok (h : Hd) (w : World) (hT : TabP w) (k : Ok h) : Calls Tryd.prog 24 #[.agg (hv h)] w fun e w' => ∃ g, e = .returned (.slice (some ⟨g, 0, none⟩) 8 8) ∧ OwnI w' w.heap.size 5 .u8 (.slice (some ⟨g, 0, none⟩) 8 8) (fr h) ∧ Below w.heap.size w w' := by
  have A0 := hdAt_new w h
  have HK := Lib.hid k
  have B0 : Hid (Below w.heap.size w (w.alloc (.cells (hv h) 25))) := Lib.hid (by (repeat' (first | (with_reducible exact Below.refl _ _) | (with_reducible assumption) | (with_reducible refine below_drewN ?_ _) | (with_reducible refine below_new ?_ _) | (with_reducible refine Below.alloc ?_ ?_ _) | (with_reducible refine Below.drew ?_) | (with_reducible refine Below.setCell ?_ ?_ _) | (with_reducible apply below_at; (case k => (with_reducible assumption)); (case hB => omega)) | (with_reducible apply below_on; (with_reducible assumption)) | (go_size; done) | (with_reducible apply size_of))))
  have HT0 := Lib.hid (hT.past B0.out)
  have HS0 : Hid ((w.alloc (.cells (hv h) 25)).heap.size = w.heap.size + 1) := Lib.hid (by simp)
  clear hT k
  have mk := mz8
  go_enter Tryd.func24, Tryd.ntmps24
  go_upto_region 1 with fail
  generalize (w.alloc (.cells (hv h) 25)) = w0 at *
  go_upto_region 2 with fail
  have m0 : 0 ≤ h.mo ∧ h.mo ≤ 255 := by have := HK.out; unfold Ok at this; omega
  have m1 : IntKind.i64.wrap h.mo = h.mo := IntWalk.i64_in _ (by omega)
  have HO := Lib.hid (own_zC w0 8 (by decide) (B := w.heap.size) (g := w0.heap.size) (by rw [HS0.out]; omega) rfl)
  have B1 : Hid (Below w.heap.size w (w0.alloc (.cells (zC 8) 5))) := Lib.hid (B0.out.alloc (by rw [HS0.out]; omega) _)
  have A1 := A0.past ((Below.refl w0.heap.size w0).alloc (Nat.le_refl _) (.cells (zC 8) 5))
  have HT1 := Lib.hid (HT0.out.past ((Below.refl w0.heap.size w0).alloc (Nat.le_refl _) (.cells (zC 8) 5)))
  have HS1 : Hid ((w0.alloc (.cells (zC 8) 5)).heap.size = w0.heap.size + 1) := Lib.hid (by simp)
  clear A0 HT0 B0 mk
  generalize (w0.alloc (.cells (zC 8) 5)) = w1 at *
  generalize w0.heap.size = gb at *
  have a0 := A1.c0
  have a1 := A1.c1
  have a2 := A1.c2
  have a3 := A1.c3
  have a4 := A1.c4
  have B2 : Hid (Below w.heap.size w (w1.alloc (.cells (vals h).toArray 56))) := Lib.hid (B1.out.alloc (by rw [HS1.out]; have := HS0.out; omega) _)
  have GB := (Below.refl w1.heap.size w1).alloc (Nat.le_refl _) (.cells (vals h).toArray 56)
  have V2 := Lib.hid (Lies.fresh w1 56 (vals h))
  have HO2 := Lib.hid (HO.out.below GB (Nat.le_refl _))
  have HT2 := Lib.hid (HT1.out.past GB)
  have HS2 : Hid ((w1.alloc (.cells (vals h).toArray 56)).heap.size = w1.heap.size + 1) := Lib.hid (by simp)
  clear A1 HO HT1 B1 GB
  go_upto_region 3 with fail
  rw [show (#[.int .i64 h.mo, .int .i64 h.me, .int .i64 h.of, .int .i64 h.ra, .int .i64 h.le] : Array Value) = (vals h).toArray from rfl]
  generalize (w1.alloc (.cells (vals h).toArray 56)) = w2 at *
  generalize (vals h).toArray = va at *
  generalize w1.heap.size = gv at *
  go_wp2_with (show wpList _ _ _ ({ dst := _, op := Op.load 59 _, type := _, pos := _, after := _, guard := none } :: _) _ _; go_must (refine wpList_load_mid (P := Tryd.prog) rfl 59 _ rfl _ 0 rfl _ _ HT2.out.rng Tryd.underlying59 rfl info59 ?_))
  go_loopw [22] (fun iv wr => ∃ i : Nat, i ≤ 5 ∧ iv = .int .i64 i ∧ OwnI wr w.heap.size 5 .u8 (.slice (some ⟨gb, 0, none⟩) 8 8) (frK h (atN i)) ∧ Lies wr gv 56 (vals h) ∧ Below w.heap.size w wr) (fun iv _ => 5 - (intOf iv).toNat)
  case atStart => exact ⟨0, by omega, rfl, HO2.out, V2.out, B2.out⟩
  case round =>
    clear V2 B2 HO2 HT2 a0 a1 a2 a3 a4 m0 m1
    obtain ⟨i, hi, rfl, own, V, acc⟩ := hrel
    have HO := Lib.hid own
    have HV := Lib.hid V
    have HACC := Lib.hid acc
    by_cases hlt : i < 5
    · have ix := pt_ix hlt
      have HST := Lib.hid (at_step hlt)
      have k1 : (i : Int) < 5 := by omega
      have HLT := Lib.hid hlt
      have hc := V.cell i
      rw [vals_at h hlt] at hc
      have hlv := V.lt
      have HSZ : Hid (gb < gv ∧ gv < wr.heap.size ∧ w.heap.size < gb) := Lib.hid (by have := HS0.out; have := HS1.out; omega)
      clear own V acc hlt hi
      go_upto_region 6 with fail
      have R := Lies.fresh wr 58 [.int .i64 (atN i : Nat), .int .i64 (wdN i : Nat)]
      have GB := (Below.refl wr.heap.size wr).alloc (Nat.le_refl _) (.cells #[Value.int .i64 (atN i : Nat), Value.int .i64 (wdN i : Nat)] 58)
      replace HO := Lib.hid (HO.out.below GB (Nat.le_refl _))
      replace HV := Lib.hid (HV.out.past GB)
      replace HACC : Hid (Below w.heap.size w (wr.alloc (.cells #[Value.int .i64 (atN i : Nat), Value.int .i64 (wdN i : Nat)] 58))) := Lib.hid (HACC.out.alloc (by have := HSZ.out; omega) _)
      have HV1 := Lib.hid (va_one HK.out HLT.out)
      have HV2 := Lib.hid (va_two HK.out HLT.out)
      have HVB := Lib.hid (va_bd HK.out HLT.out)
      have HR := Lib.hid R
      have hw := R.cell 1
      simp only [List.getElem?_cons_succ, List.getElem?_cons_zero] at hw
      clear ix hc hlv R GB
      have hrs : Hid (wr.heap.size ≠ gb ∧ wr.heap.size ≠ gv ∧ wr.heap.size ≠ w.heap.size) := Lib.hid (by have := HSZ.out; omega)
      rw [show [Value.int .i64 (atN i : Nat), Value.int .i64 (wdN i : Nat)].toArray = #[Value.int .i64 (atN i : Nat), Value.int .i64 (wdN i : Nat)] from rfl] at HR hw
      generalize (wr.alloc (.cells #[Value.int .i64 (atN i : Nat), Value.int .i64 (wdN i : Nat)] 58)) = w3 at *
      generalize hgr : wr.heap.size = gr at *
      have HI : Hid ((vals h)[i]? = some (.int .i64 (vaN h i))) := Lib.hid (vals_at h HLT.out)
      generalize hat : atN i = at_ at *
      generalize hwd : wdN i = wd at *
      generalize vaN h i = v at *
      go_wp2_with fail
      go_loopw [28] (fun kv wr => ∃ k : Nat, k ≤ wd ∧ kv = .int .i64 k ∧ OwnI wr w.heap.size 5 .u8 (.slice (some ⟨gb, 0, none⟩) 8 8) (frK h (at_ + k)) ∧ Lies wr gv 56 (vals h) ∧ Lies wr gr 58 [.int .i64 at_, .int .i64 wd] ∧ Below w.heap.size w wr) (fun kv _ => wd - (intOf kv).toNat)
      case atStart => exact ⟨0, by omega, rfl, HO.out, HV.out, HR.out, HACC.out⟩
      case round =>
        clear HO HV HR HACC hw
        obtain ⟨k, hk, rfl, own, V, R, acc⟩ := hrel
        have HO := Lib.hid own
        have HACC := Lib.hid acc
        have HV := Lib.hid V
        have HR := Lib.hid R
        by_cases hkt : k < wd
        · have p0 := R.cell 0
          have p1 := R.cell 1
          simp only [List.getElem?_cons_succ, List.getElem?_cons_zero] at p0 p1
          have pv := V.cell i
          rw [HI.out] at pv
          have hst := HST.out
          obtain ⟨q, hq⟩ : ∃ q, at_ + k = q := ⟨_, rfl⟩
          have q8 : q < 8 := by omega
          have HOQ : Hid (OwnI wr w.heap.size 5 .u8 (.slice (some ⟨gb, 0, none⟩) 8 8) (frK h q)) := Lib.hid (by rw [← hq]; exact own)
          have pc := HOQ.out.cell q (by rw [frK_len h q (by omega)]; exact q8)
          have pf := HOQ.out.frozen q
          generalize (frK h q).getD q 0 = oldq at *
          have q9 : (q : Int) < 8 := by omega
          have v0 := HVB.out
          have HQ := Lib.hid hq
          have HK2 := Lib.hid hk
          have HKT := Lib.hid hkt
          have j1 : IntKind.i64.wrap ((at_ : Int) + (k : Int)) = (q : Int) := by
            rw [show (at_ : Int) + (k : Int) = (q : Int) by omega]; exact IntWalk.i64_in _ (by omega)
          have hcase : wd = k + 1 ∨ (wd = 2 ∧ k = 0) := by omega
          rcases hcase with hcase | hcase
          · have HX : Hid (v % 256 = (fr h).getD q 0) := Lib.hid (by 
              rcases hst.2.1 with h1 | h1
              · rw [HV1.out h1, ← hq, show k = 0 by omega]; rfl
              · rw [(HV2.out h1).2, ← hq, show k = 1 by omega])
            have HSET := Lib.hid (frK_set h q q8 _ HX.out)
            generalize (fr h).getD q 0 = xq at *
            have e1 : IntKind.i64.wrap ((wd : Int) - 1) = (wd : Int) - 1 := IntWalk.i64_in _ (by omega)
            have e2 : IntKind.i64.wrap ((wd : Int) - 1 - (k : Int)) = 0 := by
              rw [show (wd : Int) - 1 - (k : Int) = 0 by omega]; rfl
            have z0 : IntKind.i64.wrap 0 = 0 := rfl
            have z8 : IntKind.i64.wrap 8 = 8 := rfl
            have y0 : IntKind.u8.wrap v = v % 256 := rfl
            have y1 : IntKind.u8.wrap (v / 256) = v / 256 % 256 := rfl
            have kw : (k : Int) < wd := by omega
            have wd2 : (wd : Int) ≤ 2 := by omega
            clear own V R acc hwd hat hq hst hkt hk HI hcase
            go_wp2_with fail
            go_still_tail 17, (by kernel_rfl)
            go_wp2_with fail
            refine ⟨⟨k + 1, by have := HKT.out; omega, by go_num, ?_, ?_, ?_, ?_⟩, by simp [intOf]; have := HKT.out; omega⟩
            · have := HOQ.out.store q (v % 256)
              rw [HSET.out] at this
              rw [show at_ + (k + 1) = q + 1 by have := HQ.out; omega]
              exact this
            · exact (HV.out.other (by have := HSZ.out; simp; omega) _).drew
            · exact (HR.out.other (by have := hrs.out; simp; omega) _).drew
            · exact (Below.setCell HACC.out (p := ⟨gb, q, none⟩) (by have := HSZ.out; simp; omega) _).drew
          · have HX : Hid (v / 256 % 256 = (fr h).getD q 0) := Lib.hid (by rw [(HV2.out hcase.1).1, ← hq, hcase.2]; rfl)
            have HSET := Lib.hid (frK_set h q q8 _ HX.out)
            generalize (fr h).getD q 0 = xq at *
            have e1 : IntKind.i64.wrap ((wd : Int) - 1) = (wd : Int) - 1 := IntWalk.i64_in _ (by omega)
            have e2 : IntKind.i64.wrap ((wd : Int) - 1 - (k : Int)) = 1 := by
              rw [show (wd : Int) - 1 - (k : Int) = 1 by omega]; rfl
            have z0 : IntKind.i64.wrap 0 = 0 := rfl
            have z8 : IntKind.i64.wrap 8 = 8 := rfl
            have y0 : IntKind.u8.wrap v = v % 256 := rfl
            have y1 : IntKind.u8.wrap (v / 256) = v / 256 % 256 := rfl
            have kw : (k : Int) < wd := by omega
            have wd2 : (wd : Int) ≤ 2 := by omega
            clear own V R acc hwd hat hq hst hkt hk HI hcase
            go_wp2_with fail
            go_still_tail 17, (by kernel_rfl)
            go_wp2_with fail
            refine ⟨⟨k + 1, by have := HKT.out; omega, by go_num, ?_, ?_, ?_, ?_⟩, by simp [intOf]; have := HKT.out; omega⟩
            · have := HOQ.out.store q (v / 256 % 256)
              rw [HSET.out] at this
              rw [show at_ + (k + 1) = q + 1 by have := HQ.out; omega]
              exact this
            · exact (HV.out.other (by have := HSZ.out; simp; omega) _).drew
            · exact (HR.out.other (by have := hrs.out; simp; omega) _).drew
            · exact (Below.setCell HACC.out (p := ⟨gb, q, none⟩) (by have := HSZ.out; simp; omega) _).drew
        · obtain rfl : k = wd := by omega
          have k1 : ¬ (k : Int) < k := by omega
          have HAT := Lib.hid (And.intro hat hwd)
          clear hkt hk own V R acc
          go_wp2_with fail
          refine ⟨⟨i + 1, by have := HLT.out; omega, by go_num, ?_, HV.out, HACC.out⟩, by simp [intOf]; have := HLT.out; omega⟩
          rw [HST.out.1]; exact HO.out
    · obtain rfl : i = 5 := by omega
      clear own V acc hlt hi
      go_wp2_with fail
      go_ret
      exact ⟨gb, rfl, HO.out, HACC.out⟩
end Go.Proofs.YteofindkccndjaaDoor.hdW
