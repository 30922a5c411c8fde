/- MixerSums, by a walk. -/
import Derived.Test.YtjikddndlnimoaaDoorMxA2
namespace Go.Proofs.YtjikddndlnimoaaDoor.mxL
set_option maxRecDepth 100000
open Go.RowKit Go.Proofs.YtjikddndlnimoaaDoor.base Go.Proofs.YtjikddndlnimoaaDoor.rfP Go.Proofs.YtjikddndlnimoaaDoor.mxP Go.Proofs.YtjikddndlnimoaaDoor.mxW Go.Proofs.YtjikddndlnimoaaDoor.sqP Go.Proofs.YtjikddndlnimoaaDoor.sqW Go.Proofs.YtjikddndlnimoaaDoor.fixP
set_option linter.unusedVariables false
set_option linter.unusedSimpArgs false
set_option maxHeartbeats 1500000 in
theorem sums (P : Option Addr) (m c : Nat) (rs : List RY) (set : Int) (B : Option Addr) (n d : Nat) (ys : List Int) (p : Int) (bit : Bool) (w : World) (h : RowsY w P m c rs) (hi : In8 w B n d ys) (hT : Tab w) :
    Calls Tryd.prog 7 #[.agg #[.slice P m c], .int .i64 set, .slice B n d, .int .i32 p, .bool bit] w fun e w' => e = .returned (.bool true) ∧ Below w.heap.size w w' := by
  have HT := Lib.hid hT
  have H := Lib.hid (And.intro h hi)
  have HL := Lib.hid (rows_len h)
  have S0 : Hid (MxAt (w.alloc (.cells #[.slice P m c] 24)) w.heap.size P m c rs ∧ Below w.heap.size w (w.alloc (.cells #[.slice P m c] 24))) := Lib.hid ⟨mxAt_new h, by (repeat' (first | (with_reducible exact Below.refl _ _) | (with_reducible assumption) | (with_reducible refine below_drewN ?_ _) | (with_reducible refine below_new ?_ _) | (with_reducible refine Below.alloc ?_ ?_ _) | (with_reducible refine Below.drew ?_) | (with_reducible refine Below.setCell ?_ ?_ _) | (with_reducible apply below_at; (case k => (with_reducible assumption)); (case hB => omega)) | (with_reducible apply below_on; (with_reducible assumption)) | (go_size; done) | (with_reducible apply size_of)))⟩
  clear h hi hT
  go_enter Tryd.func7, Tryd.ntmps7
  go_wp2_with fail
  generalize hw0 : (w.alloc (.cells #[.slice P m c] 24)) = w0 at *
  clear hw0
  refine (alive w0 (HT.out.below S0.out.2)).mono ?_
  rintro e w1 ⟨rfl, b1⟩
  have S1 : Hid (MxAt w1 w.heap.size P m c rs ∧ Below w.heap.size w w1) := Lib.hid ⟨S0.out.1.past b1, below_bs S0.out.2 b1⟩
  clear b1 S0
  have x1 := S1.out.1.cell
  go_wp2_with fail
  clear x1
  refine (fit_any P m c rs set B n d ys w1 S1.out.1.rows (H.out.2.past S1.out.2)).mono ?_
  rintro e w2 ⟨rfl, b2⟩
  have S2 : Hid (MxAt w2 w.heap.size P m c rs ∧ Below w.heap.size w w2) := Lib.hid ⟨S1.out.1.past b2, below_bs S1.out.2 b2⟩
  clear b2 S1
  cases hf : fitM (numsY rs) set ys
  · clear hf
    go_wp2_with fail
    go_ret
    exact ⟨rfl, S2.out.2⟩
  by_cases pc0 : p < 0
  · clear hf
    go_wp2_with fail
    go_ret
    exact ⟨rfl, S2.out.2⟩
  have p0 : 0 ≤ p := by omega
  have pd : decide (p < 0) = false := decide_eq_false pc0
  clear pc0
  by_cases pc1 : 4095 < p
  · clear hf
    go_wp2_with fail
    go_ret
    exact ⟨rfl, S2.out.2⟩
  have p1 : p ≤ 4095 := by omega
  clear pc1
  obtain ⟨f1, f2⟩ := fitM_iff hf
  obtain ⟨a1, a2, a3, a4⟩ := mAsk_zero f2
  obtain ⟨k, rfl⟩ : ∃ k : Nat, set = k := ⟨set.toNat, by omega⟩
  have hkm : k < m := by have := HL.out; omega
  have HA := Lib.hid f2
  have HV : Hid (mixV (numsY rs) (k : Int) ys = mixD ((numsY rs).getD k []) ys ∧ mixQ (numsY rs) (k : Int) ys = sq (mixD ((numsY rs).getD k []) ys)) := Lib.hid (by unfold mixV mixQ; rw [if_pos f2, if_pos f2, Int.toNat_natCast]; exact ⟨rfl, rfl⟩)
  have HB := Lib.hid (rows_bd H.out.1 k hkm)
  have HLO := Lib.hid (fun off => learnM_ok a1 (k := k) (by omega) a4 off)
  have hl8 := mx_row a1 k (by omega)
  have hi8 := ((inB_iff _).1 a4).1
  have HIN := Lib.hid a4
  have hla := learn_at bit f2 p0 p1
  have hW : wrongE p = 0 ∧ wrongV p bit = offP p bit := by unfold wrongE wrongV; rw [if_neg (by omega), if_neg (by omega)]; exact ⟨rfl, rfl⟩
  obtain ⟨o0, o1⟩ := off_bd bit p0 p1
  have hn8 : n = 8 := by rw [← H.out.2.e]; exact hi8
  obtain ⟨ws, hws⟩ : ∃ ws, (numsY rs).getD k [] = ws := ⟨_, rfl⟩
  obtain ⟨off, hoff⟩ : ∃ off, offP p bit = off := ⟨_, rfl⟩
  rw [hoff] at hla hW o0 o1
  rw [hws] at HV HB HLO hl8
  have HLA := Lib.hid hla
  have HW := Lib.hid hW
  subst hn8
  obtain ⟨b8, f8, rfl, hc8⟩ := in_cells H.out.2 (by decide)
  have HC8 := Lib.hid hc8
  obtain ⟨t, ht⟩ : ∃ t, dotP ws ys = t := ⟨_, rfl⟩
  have hms := mix_says t
  have hmd : mixD ws ys = clampD (t / 65536) := by rw [← ht]; rfl
  have hcb := clamp_bd (t / 65536)
  have htb : -2147483648 ≤ t ∧ t ≤ 2147483647 := by rw [← ht]; exact sat_bd _
  obtain ⟨dd, hdd⟩ : ∃ dd, clampD (t / 65536) = dd := ⟨_, rfl⟩
  rw [hdd] at hms hmd hcb
  rw [hmd] at HV
  have HMS := Lib.hid hms
  have HDP : Hid (sat (prods ws ys).sum = t) := Lib.hid ht
  obtain ⟨T, hT⟩ : ∃ T, tauL ws ys off = T := ⟨_, rfl⟩
  have HTT : Hid (∀ j, j < 8 → T.getD j 0 = tau (ws.getD j 0) (ys.getD j 0) off) := Lib.hid (fun j hj => by rw [← hT]; exact tauL_at hl8 hi8 j hj)
  have HTL : Hid (T.length = 8) := Lib.hid (by rw [← hT]; exact tauL_len hl8 hi8)
  have hlo := HLO.out off
  rw [hT] at hlo
  have HLF := Lib.hid hlo
  have HL8 := Lib.hid (And.intro hl8 hi8)
  have HWS := Lib.hid hws
  have HKM := Lib.hid hkm
  obtain ⟨c0, c1⟩ := hcb
  obtain ⟨t0, t1⟩ := htb
  have k1 : (k : Int) < m := by omega
  have k0 : 0 ≤ (k : Int) := by omega
  have m9 : (m : Int) ≤ 20 := by have := HL.out; omega
  have x1 := S2.out.1.cell
  clear hf f1 f2 a1 a2 a3 a4 hkm hl8 hi8 hla hW hws hoff hc8 ht hms hmd hdd hT hlo
  go_wp2_with fail
  clear x1
  refine (Mix_any P m c rs k (some ⟨b8, f8, none⟩) 8 d ys w2 S2.out.1.rows (H.out.2.past S2.out.2) (HT.out.below S2.out.2)).mono ?_
  rintro e w3 ⟨rfl, b3⟩
  rw [HV.out.1, HV.out.2, HA.out]
  have S3 : Hid (MxAt w3 w.heap.size P m c rs ∧ Below w.heap.size w w3) := Lib.hid ⟨S2.out.1.past b3, below_bs S2.out.2 b3⟩
  clear b3 S2
  have x1 := S3.out.1.cell
  go_wp2_with fail
  clear x1
  refine (Learn_any P m c rs k (some ⟨b8, f8, none⟩) 8 d ys p bit w3 S3.out.1.rows (H.out.2.past S3.out.2)).mono ?_
  rintro e v4 ⟨A4, n4, d4, q4, rfl, o4, e4, b4⟩
  rw [HLA.out.1]
  rw [HLA.out.2.1] at e4
  have E4 := Lib.hid e4
  obtain rfl : n4 = m := by rw [← rows_len o4.rows, e4, HLF.out.2.1, HL.out]
  have S4 : Hid (MxAt (v4.alloc (.cells #[.slice A4 n4 d4] 24)) w.heap.size P n4 c rs ∧ MxAt (v4.alloc (.cells #[.slice A4 n4 d4] 24)) v4.heap.size A4 n4 d4 q4 ∧ Below w.heap.size w (v4.alloc (.cells #[.slice A4 n4 d4] 24))) := Lib.hid ⟨(S3.out.1.past b4).alloc _, mxAt_new o4.rows, below_al (below_bs S3.out.2 b4) _⟩
  clear o4 e4 b4 S3
  go_upto_region 6 with fail
  generalize hw4 : (v4.alloc (.cells #[.slice A4 n4 d4] 24)) = w4 at *
  generalize v4.heap.size = g4 at *
  clear hw4
  go_wp2_with fail
  refine (Wrong_any p bit w4).mono ?_
  rintro e w5 ⟨rfl, rfl⟩
  rw [HW.out.1, HW.out.2]
  obtain ⟨b, o, A1, d1, rfl, y1, hh1⟩ := row_slice S4.out.1.rows k HKM.out
  rw [HWS.out] at hh1
  rw [HWS.out, HL8.out.1] at y1
  have HH1 := Lib.hid hh1
  clear hh1
  have x1 := S4.out.1.cell
  go_wp2_with fail
  refine (fixW.dot_any A1 (some ⟨b8, f8, none⟩) 8 d1 d ws ys w5 (by decide) HL8.out.1 HL8.out.2 HH1.out ((H.out.2.past S4.out.2.2).h) HB.out H.out.2.b).mono ?_
  rintro e w6 ⟨rfl, rfl⟩
  rw [HDP.out]
  have x2 := S4.out.2.1.cell
  go_wp2_with fail
  refine (rCheck_any A4 n4 d4 q4 w5 S4.out.2.1.rows).mono ?_
  rintro e w6 ⟨rfl, b6⟩
  rw [E4.out, mxE_yes HLF.out.1]
  have S6 : Hid (MxAt w6 w.heap.size (some ⟨b, o, none⟩) n4 c rs ∧ MxAt w6 g4 A4 n4 d4 q4 ∧ Below w.heap.size w w6) := Lib.hid ⟨S4.out.1.past b6, S4.out.2.1.past b6, below_bs S4.out.2.2 b6⟩
  clear b6 S4 x1 x2 y1 HH1
  have x1 := S6.out.1.cell
  have x2 := S6.out.2.1.cell
  go_upto_region 10 with fail
  clear x1 x2
  go_cut [145] (fun v wx => v = .bool false ∧ w6 = wx)
  case first =>
    have h1 := HMS.out.1
    have h2 := HMS.out.2.1
    have h3 := HMS.out.2.2
    by_cases e1 : dd = 2047
    · have h4 := h2 e1
      subst e1
      clear h1 h2 h3
      go_wp2_with fail
      all_goals (go_meet; first | exact ⟨rfl, rfl⟩ | exact ⟨by congr 1; simp; omega, rfl⟩)
    · by_cases e2 : dd = -2047
      · have h4 := h3 e2
        subst e2
        clear h1 h2 h3
        go_wp2_with fail
        all_goals (go_meet; first | exact ⟨rfl, rfl⟩ | exact ⟨by congr 1; simp; omega, rfl⟩)
      · obtain ⟨h4, h5⟩ := h1 (by omega) (by omega)
        have e3 : (dd == 2047) = false := by simpa using e1
        have e4 : (dd == -2047) = false := by simpa using e2
        have e5 : -2047 < dd := by omega
        have e6 : dd < 2047 := by omega
        clear h1 h2 h3 e1 e2
        go_wp2_with fail
        all_goals (go_meet; first | exact ⟨rfl, rfl⟩ | exact ⟨by congr 1; simp; omega, rfl⟩)
  case rest =>
    obtain ⟨rfl, rfl⟩ := hcut
    go_wp2_with fail
    go_loopw [21] (fun iv wr => ∃ j : Nat, j ≤ 8 ∧ iv = .int .i64 j ∧ w6 = wr) (fun iv _ => 8 - (intOf iv).toNat)
    case atStart => exact ⟨0, by omega, rfl, rfl⟩
    case round =>
      obtain ⟨j, hj, rfl, rfl⟩ := hrel
      by_cases hlt : j < 8
      · have HJ := Lib.hid hlt
        have j1 : (j : Int) < 8 := by omega
        have j0 : 0 ≤ (j : Int) := by omega
        obtain ⟨b9, o9, bb, oo, cc, hP, y1, y2⟩ := row_cells S6.out.1.rows k j HKM.out (by rw [HWS.out, HL8.out.1]; exact hlt)
        obtain ⟨b', o', bb', oo', cc', hP', y3, y4⟩ := row_cells S6.out.2.1.rows k j HKM.out (by rw [E4.out, HLF.out.2.2, HTL.out]; exact hlt)
        have y5 := HC8.out w6 S6.out.2.2 j hlt
        rw [HWS.out, HL8.out.1] at y1
        rw [HWS.out] at y2
        rw [E4.out, HLF.out.2.2, HTL.out] at y3
        rw [E4.out, HLF.out.2.2, HTT.out j hlt] at y4
        have hx := inB_at HIN.out j hlt
        have hw := HB.out (ws.getD j 0) (by rw [List.getD_eq_getElem?_getD, List.getElem?_eq_getElem (by rw [HL8.out.1]; exact hlt)]; exact List.getElem_mem _)
        injection hP with hP
        injection hP with e1 e2 _
        subst e1
        subst e2
        subst hP'
        have htb := tau_bd (ws.getD j 0) (ys.getD j 0) off
        have hts := fun h0 h1 hb => tau_says (w := ws.getD j 0) (x := ys.getD j 0) (off := off) h0 h1 hb
        have hst := step_bd hx.1 hx.2 o0 o1
        have x1 := S6.out.1.cell
        have x2 := S6.out.2.1.cell
        clear hj hlt
        generalize ws.getD j 0 = v at *
        generalize ys.getD j 0 = x at *
        generalize tau v x off = u at *
        generalize hxo : x * off = xo at *
        have HTS := Lib.hid hts
        obtain ⟨c2, c3⟩ := hst
        obtain ⟨v0, v1⟩ := hw
        obtain ⟨u0, u1⟩ := htb
        obtain ⟨x0, x9⟩ := hx
        clear hts
        have w1 : IntKind.i64.wrap xo = xo := IntWalk.i64_in _ (by omega)
        by_cases a1 : 2147400000 < v
        · go_wp2_with fail
          exact ⟨⟨j + 1, by have := HJ.out; omega, by go_num, by trivial⟩, by simp [intOf]; have := HJ.out; omega⟩
        by_cases a2 : v < -2147400000
        · go_wp2_with fail
          exact ⟨⟨j + 1, by have := HJ.out; omega, by go_num, by trivial⟩, by simp [intOf]; have := HJ.out; omega⟩
        obtain ⟨z1, z2⟩ := HTS.out (by omega) (by omega) ⟨c2, c3⟩
        go_wp2_with fail
        exact ⟨⟨j + 1, by have := HJ.out; omega, by go_num, by trivial⟩, by simp [intOf]; have := HJ.out; omega⟩
      · have j1 : ¬ (j : Int) < 8 := by omega
        clear hj hlt
        go_wp2_with fail
        go_ret
        exact ⟨rfl, S6.out.2.2⟩
theorem sums_law (P : Option Addr) (m c : Nat) (rs : List RY) (set : Int) (B : Option Addr) (bn bc : Nat) (zs : List Int) (p : Int) (bit : Bool) (w : World) (h : RowsY w P m c rs) (_ : -9223372036854775808 ≤ set) (_ : set ≤ 9223372036854775807) (hb : IsRow .i32 w B bn bc zs) (_ : -2147483648 ≤ p) (_ : p ≤ 2147483647) (hT : Tab w) :
    Calls Tryd.prog 7 #[.agg #[.slice P m c], .int .i64 set, .slice B bn bc, .int .i32 p, .bool bit] w fun e w' => e = .returned (.bool true) ∧ Below w.heap.size w w' :=
  sums P m c rs set B bn bc _ p bit w h (in8_of hb) hT
end Go.Proofs.YtjikddndlnimoaaDoor.mxL
