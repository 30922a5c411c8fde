/- AdaptParts: the main case. -/
import Derived.Test.YtipbafcjmeibpaaAdL4
namespace Go.Proofs.Ytipbafcjmeibpaa.adL
open Go.RowKit Go.Proofs.Ytipbafcjmeibpaa.base Go.Proofs.Ytipbafcjmeibpaa.adP Go.Proofs.Ytipbafcjmeibpaa.adW Go.Proofs.Ytipbafcjmeibpaa.cntP Go.Proofs.Ytipbafcjmeibpaa.stP
open Go.Proofs.Ytipbafcjmeibpaa.cntW (bits_any)
open Go.Proofs.Ytipbafcjmeibpaa.stW (NextS_any RunS_any)
set_option linter.unusedVariables false
set_option linter.unusedSimpArgs false

set_option maxRecDepth 100000 in
set_option maxHeartbeats 40000000 in
theorem parts_main (m m2 m9 : Ad) (A B : Option Addr) (cp cn : Nat) (s t T : Int) (C : Option Addr) (cap n : Nat) (zs : List Int) (w : World) (h : AdIn w A B 193 193 m) (hcp : 193 ≤ cp) (hcn : 193 ≤ cn) (s0 : 0 ≤ s) (s1 : s < 193) (ha : adOk m = true) (hf : fitB m 193 193 s 0 = true)
    (hC : Has .u8 w C zs) (hz : ∀ z ∈ zs, 0 ≤ z ∧ z ≤ 255) (hl : zs.length ≤ 100) (hcap : zs.length ≤ cap) (hcm : cap ≤ 9223372036854775807) (hn : n ≤ zs.length) (hb : bitsB zs = true)
    (r1 : ruM m s zs = m9) (r2 : ruM m s (zs.take n) = m2) (r3 : ruM m2 t (zs.drop n) = m9) (q1 : sRun s zs = T) (q2 : sRun s (zs.take n) = t) (q3 : sRun t (zs.drop n) = T) (u1 : stR s zs = T) (u2 : stRE s zs = 0) (ha2 : adOk m2 = true) (ha9 : adOk m9 = true) (t0 : 0 ≤ t) (t1 : t < 193) (l2 : m2.l = m.l) (l9 : m9.l = m.l) (hm3 : n < zs.length → Fits m2 t (zs.getD n 0)) (b1 : bitsB (zs.take n) = true) (b2 : bitsB (zs.drop n) = true) :
    Calls Try.prog 7 #[.agg #[.int .i32 (m).l, .slice A 193 cp, .slice B 193 cn], .int .u8 s, .slice C zs.length cap, .int .i64 n] w fun e w' => e = .returned (.bool true) ∧ Below w.heap.size w w' := by
  have H := Lib.hid h
  have HA := Lib.hid ha
  have HF := Lib.hid hf
  have HC := Lib.hid hC
  have HZ := Lib.hid hz
  have HB := Lib.hid hb
  have HFR := Lib.hid (hC.front n)
  have HZT : Hid (∀ z ∈ zs.take n, 0 ≤ z ∧ z ≤ 255) := Lib.hid fun z h => hz z (List.mem_of_mem_take h)
  have HZD : Hid (∀ z ∈ zs.drop n, 0 ≤ z ∧ z ≤ 255) := Lib.hid fun z h => hz z (List.mem_of_mem_drop h)
  have R1 := Lib.hid r1
  have R2 := Lib.hid r2
  have R3 := Lib.hid r3
  have Q1 := Lib.hid q1
  have Q2 := Lib.hid q2
  have Q3 := Lib.hid q3
  have U1 := Lib.hid u1
  have U2 := Lib.hid u2
  have HA2 := Lib.hid ha2
  have HA9 := Lib.hid ha9
  have HL2 := Lib.hid l2
  have HL9 := Lib.hid l9
  have HB1 := Lib.hid b1
  have HB2 := Lib.hid b2
  have HNL := Lib.hid hn
  have HM3 := Lib.hid hm3
  have HEQ : Hid (adEq m9 m9 = true) := Lib.hid ((adEq_iff _ _).2 rfl)
  have hcc := hC.cut hn hcap
  have hl0 : ¬ (100 : Int) < zs.length := by omega
  have hnc : n ≤ cap := by omega
  have hni : (n : Int) ≤ zs.length := by omega
  have HLL := Lib.hid hl
  have HCAP := Lib.hid hcap
  have hl5 : (zs.length : Int) ≤ cap := by omega
  have hl6 : (cap : Int) ≤ 9223372036854775807 := by omega
  clear hl hcap hcm hn hm3
  clear h ha hf hC hz hb r1 r2 r3 q1 q2 q3 u1 u2 ha2 ha9 l2 l9 b1 b2
  by_cases hcn' : cap = n
  all_goals
    first
    | rw [if_pos hcn'] at hcc
    | (rw [if_neg hcn'] at hcc; generalize hA2 : Option.map (fun x => x.add n) C = C2 at hcc)
    have HCC := Lib.hid hcc
    clear hcc
    go_enter Try.func7, Try.ntmps7
    go_wp2_with (first | (go_at_call 23; refine (fit_any m A B 193 193 cp cn s 0 _ (H.out.below (by (repeat' (first | (with_reducible exact Below.refl _ _) | (with_reducible assumption) | (with_reducible refine below_drewN ?_ _) | (with_reducible refine below_new ?_ _) | (with_reducible refine Below.alloc ?_ ?_ _) | (with_reducible refine Below.drew ?_) | (with_reducible refine Below.setCell ?_ ?_ _) | (with_reducible apply below_at; (case k => (with_reducible assumption)); (case hB => omega)) | (with_reducible apply below_on; (with_reducible assumption)) | (go_size; done) | (with_reducible apply size_of))))) s0 (by omega) (by omega)).mono ?_; rintro e w1 ⟨rfl, hb1⟩; rw [HF.out]; have K1 : Lies (w1) (w.heap.size) 24 [.int .i32 (m.l), .slice (A) (193) (cp), .slice (B) (193) (cn)] := (by (repeat' (first | (with_reducible assumption) | (with_reducible exact Lies.fresh _ _ _) | (with_reducible apply Lies.fresh_at; (first | (with_reducible rfl) | (simp; done))) | (with_reducible refine Lies.drew ?_) | (with_reducible refine Lies.drewN ?_ _) | (with_reducible refine Lies.alloc ?_ _) | (with_reducible apply Lies.past; case hb => (with_reducible assumption)) | (with_reducible apply Lies.keeps; (case k => (with_reducible assumption)); (case ht => decide)) | (with_reducible apply Lies.store3) | (with_reducible apply Lies.other; case hp => (first | omega | (simp; done) | (simp; omega)))))); obtain ⟨p0, p1, p2, -, -, -⟩ := K1.three; have lw1 := K1.lt) | (go_at_call 24; refine (bits_any C _ _ zs _ HZ.out (HC.out.below (by (repeat' (first | (with_reducible exact Below.refl _ _) | (with_reducible assumption) | (with_reducible refine below_drewN ?_ _) | (with_reducible refine below_new ?_ _) | (with_reducible refine Below.alloc ?_ ?_ _) | (with_reducible refine Below.drew ?_) | (with_reducible refine Below.setCell ?_ ?_ _) | (with_reducible apply below_at; (case k => (with_reducible assumption)); (case hB => omega)) | (with_reducible apply below_on; (with_reducible assumption)) | (go_size; done) | (with_reducible apply size_of)))) (Nat.le_refl _)) rfl (by have := HLL.out; omega)).mono ?_; rintro e w2 ⟨rfl, rfl⟩; rw [HB.out]))
    refine (Run_fine m m.l rfl A B cp cn s C zs.length _ zs _ (H.out.below (by (repeat' (first | (with_reducible exact Below.refl _ _) | (with_reducible assumption) | (with_reducible refine below_drewN ?_ _) | (with_reducible refine below_new ?_ _) | (with_reducible refine Below.alloc ?_ ?_ _) | (with_reducible refine Below.drew ?_) | (with_reducible refine Below.setCell ?_ ?_ _) | (with_reducible apply below_at; (case k => (with_reducible assumption)); (case hB => omega)) | (with_reducible apply below_on; (with_reducible assumption)) | (go_size; done) | (with_reducible apply size_of))))) hcp hcn s0 s1 HA.out (HC.out.below (by (repeat' (first | (with_reducible exact Below.refl _ _) | (with_reducible assumption) | (with_reducible refine below_drewN ?_ _) | (with_reducible refine below_new ?_ _) | (with_reducible refine Below.alloc ?_ ?_ _) | (with_reducible refine Below.drew ?_) | (with_reducible refine Below.setCell ?_ ?_ _) | (with_reducible apply below_at; (case k => (with_reducible assumption)); (case hB => omega)) | (with_reducible apply below_on; (with_reducible assumption)) | (go_size; done) | (with_reducible apply size_of)))) (Nat.le_refl _)) rfl (by have := HLL.out; omega) HZ.out HB.out m9 T R1.out Q1.out).mono ?_
    rintro e w2 ⟨g1, h1, c1, d1, rfl, O1, hb2⟩
    have HO1 := Lib.hid O1
    have HK2 : Hid (Lies (w2) (w.heap.size) 24 [.int .i32 (m.l), .slice (A) (193) (cp), .slice (B) (193) (cn)]) := Lib.hid (by (repeat' (first | (with_reducible assumption) | (with_reducible exact Lies.fresh _ _ _) | (with_reducible apply Lies.fresh_at; (first | (with_reducible rfl) | (simp; done))) | (with_reducible refine Lies.drew ?_) | (with_reducible refine Lies.drewN ?_ _) | (with_reducible refine Lies.alloc ?_ _) | (with_reducible apply Lies.past; case hb => (with_reducible assumption)) | (with_reducible apply Lies.keeps; (case k => (with_reducible assumption)); (case ht => decide)) | (with_reducible apply Lies.store3) | (with_reducible apply Lies.other; case hp => (first | omega | (simp; done) | (simp; omega))))))
    have HB2' : Hid (Below w.heap.size w w2) := Lib.hid (by (repeat' (first | (with_reducible exact Below.refl _ _) | (with_reducible assumption) | (with_reducible refine below_drewN ?_ _) | (with_reducible refine below_new ?_ _) | (with_reducible refine Below.alloc ?_ ?_ _) | (with_reducible refine Below.drew ?_) | (with_reducible refine Below.setCell ?_ ?_ _) | (with_reducible apply below_at; (case k => (with_reducible assumption)); (case hB => omega)) | (with_reducible apply below_on; (with_reducible assumption)) | (go_size; done) | (with_reducible apply size_of))))
    have z2 := hb2.size
    clear O1 K1 p0 p1 p2 hb1 hb2
    have K2 := HK2.out
    obtain ⟨p0, p1, p2, -, -, -⟩ := K2.three
    have lw2 := K2.lt
    clear K2
    go_upto_region 4 with fail
    go_cut [12, 13, 14] (fun s12 s13 s14 wx => ∃ g, s12 = .pointer (some ⟨g, 0, none⟩) ∧ s13 = .int .u8 t ∧ s14 = .int .i64 0 ∧ Made wx g m.l m2 ∧ (Lies (wx) (w2.heap.size) 24 [.int .i32 (m.l), .slice (some ⟨g1, 0, none⟩) 193 (c1), .slice (some ⟨h1, 0, none⟩) 193 (d1)]) ∧ Below w2.heap.size w2 wx)
    case first =>
      as_aux_lemma =>
        go_region_law (first | (go_simp; go_at_call 13; refine (Run_fine m m.l rfl A B cp cn s C n _ (zs.take n) _ (H.out.below (by have := HB2'.out; (repeat' (first | (with_reducible exact Below.refl _ _) | (with_reducible assumption) | (with_reducible refine below_drewN ?_ _) | (with_reducible refine below_new ?_ _) | (with_reducible refine Below.alloc ?_ ?_ _) | (with_reducible refine Below.drew ?_) | (with_reducible refine Below.setCell ?_ ?_ _) | (with_reducible apply below_at; (case k => (with_reducible assumption)); (case hB => omega)) | (with_reducible apply below_on; (with_reducible assumption)) | (go_size; done) | (with_reducible apply size_of))))) hcp hcn s0 s1 HA.out (HFR.out.below (by have := HB2'.out; (repeat' (first | (with_reducible exact Below.refl _ _) | (with_reducible assumption) | (with_reducible refine below_drewN ?_ _) | (with_reducible refine below_new ?_ _) | (with_reducible refine Below.alloc ?_ ?_ _) | (with_reducible refine Below.drew ?_) | (with_reducible refine Below.setCell ?_ ?_ _) | (with_reducible apply below_at; (case k => (with_reducible assumption)); (case hB => omega)) | (with_reducible apply below_on; (with_reducible assumption)) | (go_size; done) | (with_reducible apply size_of)))) (Nat.le_refl _)) (by have := HNL.out; simp; omega) (by have := HNL.out; have := HLL.out; omega) HZT.out HB1.out m2 t R2.out Q2.out).mono ?_; rintro e w3 ⟨gp, gn, c, d, rfl, O3, hb3⟩; try (refine lay (P := Lies (w3) (w2.heap.size + 1) 24 [.int .i32 0, .slice none 0 0, .slice none 0 0]) ?_ ?_; (focus ((repeat' (first | (with_reducible assumption) | (with_reducible exact Lies.fresh _ _ _) | (with_reducible apply Lies.fresh_at; (first | (with_reducible rfl) | (simp; done))) | (with_reducible refine Lies.drew ?_) | (with_reducible refine Lies.drewN ?_ _) | (with_reducible refine Lies.alloc ?_ _) | (with_reducible apply Lies.past; case hb => (with_reducible assumption)) | (with_reducible apply Lies.keeps; (case k => (with_reducible assumption)); (case ht => decide)) | (with_reducible apply Lies.store3) | (with_reducible apply Lies.other; case hp => (first | omega | (simp; done) | (simp; omega))))); done)); intro L9; obtain ⟨b0, b1, b2, g0, g1', g2⟩ := L9.three; have l9 := L9.lt)))
        all_goals
          go_wp2_with fail
          go_meet
          refine ⟨_, rfl, rfl, rfl, by first | exact made_new O3 | exact made_old O3 L9, by (repeat' (first | (with_reducible assumption) | (with_reducible exact Lies.fresh _ _ _) | (with_reducible apply Lies.fresh_at; (first | (with_reducible rfl) | (simp; done))) | (with_reducible refine Lies.drew ?_) | (with_reducible refine Lies.drewN ?_ _) | (with_reducible refine Lies.alloc ?_ _) | (with_reducible apply Lies.past; case hb => (with_reducible assumption)) | (with_reducible apply Lies.keeps; (case k => (with_reducible assumption)); (case ht => decide)) | (with_reducible apply Lies.store3) | (with_reducible apply Lies.other; case hp => (first | omega | (simp; done) | (simp; omega))))), by (repeat' (first | (with_reducible exact Below.refl _ _) | (with_reducible assumption) | (with_reducible refine below_drewN ?_ _) | (with_reducible refine below_new ?_ _) | (with_reducible refine Below.alloc ?_ ?_ _) | (with_reducible refine Below.drew ?_) | (with_reducible refine Below.setCell ?_ ?_ _) | (with_reducible apply below_at; (case k => (with_reducible assumption)); (case hB => omega)) | (with_reducible apply below_on; (with_reducible assumption)) | (go_size; done) | (with_reducible apply size_of)))⟩
    case rest =>
      as_aux_lemma =>
        obtain ⟨ga, rfl, rfl, rfl, M, L1, W⟩ := hcut
        have HM := Lib.hid M
        have HO1' := Lib.hid (HO1.out.past W)
        have HL1 := Lib.hid L1
        have HW : Hid (Below w.heap.size w wc) := Lib.hid (by have := HB2'.out; (repeat' (first | (with_reducible exact Below.refl _ _) | (with_reducible assumption) | (with_reducible refine below_drewN ?_ _) | (with_reducible refine below_new ?_ _) | (with_reducible refine Below.alloc ?_ ?_ _) | (with_reducible refine Below.drew ?_) | (with_reducible refine Below.setCell ?_ ?_ _) | (with_reducible apply below_at; (case k => (with_reducible assumption)); (case hB => omega)) | (with_reducible apply below_on; (with_reducible assumption)) | (go_size; done) | (with_reducible apply size_of))))
        obtain ⟨Ba, gp, gn, c, d, Ka, Oa⟩ := M
        have HKa := Lib.hid Ka
        have HOa := Lib.hid Oa
        have HOa_cap := Oa.capLe
        clear L1 W p0 p1 p2
        obtain ⟨p0, p1, p2, -, -, -⟩ := Ka.three
        have lka := Ka.lt
        clear Ka Oa
        go_upto_region 5 with fail
        go_cut [15, 16, 17] (fun s12 s13 s14 wx => ∃ g, s12 = .pointer (some ⟨g, 0, none⟩) ∧ s13 = .int .u8 T ∧ s14 = .int .i64 0 ∧ Made wx g m.l m9 ∧ Below wc.heap.size wc wx)
        case first =>
          as_aux_lemma =>
            go_region_law (first | (go_simp; go_at_call 13; refine (Run_fine m2 m.l HL2.out (some ⟨gp, 0, none⟩) (some ⟨gn, 0, none⟩) c d t _ _ _ (zs.drop n) _ ((HOa.out.below (by (repeat' (first | (with_reducible exact Below.refl _ _) | (with_reducible assumption) | (with_reducible refine below_drewN ?_ _) | (with_reducible refine below_new ?_ _) | (with_reducible refine Below.alloc ?_ ?_ _) | (with_reducible refine Below.drew ?_) | (with_reducible refine Below.setCell ?_ ?_ _) | (with_reducible apply below_at; (case k => (with_reducible assumption)); (case hB => omega)) | (with_reducible apply below_on; (with_reducible assumption)) | (go_size; done) | (with_reducible apply size_of)))) (Nat.le_refl _)).inOk HA2.out) HOa.out.capLe.1 HOa.out.capLe.2 t0 t1 HA2.out (HCC.out.below (by have := HW.out; (repeat' (first | (with_reducible exact Below.refl _ _) | (with_reducible assumption) | (with_reducible refine below_drewN ?_ _) | (with_reducible refine below_new ?_ _) | (with_reducible refine Below.alloc ?_ ?_ _) | (with_reducible refine Below.drew ?_) | (with_reducible refine Below.setCell ?_ ?_ _) | (with_reducible apply below_at; (case k => (with_reducible assumption)); (case hB => omega)) | (with_reducible apply below_on; (with_reducible assumption)) | (go_size; done) | (with_reducible apply size_of)))) (Nat.le_refl _)) (by simp) (by have := HLL.out; omega) HZD.out HB2.out m9 T R3.out Q3.out).mono ?_; rintro e w4 ⟨gp4, gn4, c4, d4, rfl, O4, hb4⟩; try (refine lay (P := Lies (w4) (wc.heap.size) 24 [.int .i32 0, .slice none 0 0, .slice none 0 0]) ?_ ?_; (focus ((repeat' (first | (with_reducible assumption) | (with_reducible exact Lies.fresh _ _ _) | (with_reducible apply Lies.fresh_at; (first | (with_reducible rfl) | (simp; done))) | (with_reducible refine Lies.drew ?_) | (with_reducible refine Lies.drewN ?_ _) | (with_reducible refine Lies.alloc ?_ _) | (with_reducible apply Lies.past; case hb => (with_reducible assumption)) | (with_reducible apply Lies.keeps; (case k => (with_reducible assumption)); (case ht => decide)) | (with_reducible apply Lies.store3) | (with_reducible apply Lies.other; case hp => (first | omega | (simp; done) | (simp; omega))))); done)); intro L9; obtain ⟨b0, b1, b2, g0, g1', g2⟩ := L9.three; have l9 := L9.lt)))
            all_goals
              go_wp2_with fail
              go_meet
              refine ⟨_, rfl, rfl, rfl, by first | exact made_new O4 | exact made_old O4 L9, by (repeat' (first | (with_reducible exact Below.refl _ _) | (with_reducible assumption) | (with_reducible refine below_drewN ?_ _) | (with_reducible refine below_new ?_ _) | (with_reducible refine Below.alloc ?_ ?_ _) | (with_reducible refine Below.drew ?_) | (with_reducible refine Below.setCell ?_ ?_ _) | (with_reducible apply below_at; (case k => (with_reducible assumption)); (case hB => omega)) | (with_reducible apply below_on; (with_reducible assumption)) | (go_size; done) | (with_reducible apply size_of)))⟩
        case rest =>
          as_aux_lemma =>
            obtain ⟨gb, rfl, rfl, rfl, M, W⟩ := hcut
            have HO1b := Lib.hid (HO1'.out.past W)
            have HL1b := Lib.hid (HL1.out.past W)
            have HKb := Lib.hid (HKa.out.past W)
            have HOb := Lib.hid (HOa.out.past W)
            have HWb : Hid (Below w.heap.size w wc) := Lib.hid (by have := HW.out; (repeat' (first | (with_reducible exact Below.refl _ _) | (with_reducible assumption) | (with_reducible refine below_drewN ?_ _) | (with_reducible refine below_new ?_ _) | (with_reducible refine Below.alloc ?_ ?_ _) | (with_reducible refine Below.drew ?_) | (with_reducible refine Below.setCell ?_ ?_ _) | (with_reducible apply below_at; (case k => (with_reducible assumption)); (case hB => omega)) | (with_reducible apply below_on; (with_reducible assumption)) | (go_size; done) | (with_reducible apply size_of))))
            obtain ⟨Bb, gp2, gn2, c2, d2, K9, O9⟩ := M
            have HK9 := Lib.hid K9
            have HO9 := Lib.hid O9
            clear W p0 p1 p2 K9 O9 lka HKa HOa HL1 HO1' HW
            go_wp2_with fail
            refine (RunS_any s C zs.length _ zs _ s0 (by omega) HZ.out (HC.out.below (by have := HWb.out; (repeat' (first | (with_reducible exact Below.refl _ _) | (with_reducible assumption) | (with_reducible refine below_drewN ?_ _) | (with_reducible refine below_new ?_ _) | (with_reducible refine Below.alloc ?_ ?_ _) | (with_reducible refine Below.drew ?_) | (with_reducible refine Below.setCell ?_ ?_ _) | (with_reducible apply below_at; (case k => (with_reducible assumption)); (case hB => omega)) | (with_reducible apply below_on; (with_reducible assumption)) | (go_size; done) | (with_reducible apply size_of)))) (Nat.le_refl _)) rfl (by have := HLL.out; omega)).mono ?_
            rintro e w5 ⟨rfl, hb5⟩
            rw [U1.out, U2.out]
            have A5 := HL1b.out.past hb5
            have B5 := HK9.out.past hb5
            obtain ⟨a0, a1, a2, -, -, -⟩ := A5.three
            obtain ⟨e0, e1, e2, -, -, -⟩ := B5.three
            have la5 := A5.lt
            have le5 := B5.lt
            clear A5 B5
            go_wp2_with fail
            refine (Same_at m9 m.l HL9.out m9 m.l HL9.out _ _ _ _ 193 193 193 193 c1 d1 c2 d2 _ ((HO1b.out.past hb5).inOk HA9.out) ((HO9.out.past hb5).inOk HA9.out)).mono ?_
            rintro e w6 ⟨rfl, hb6⟩
            rw [HEQ.out]
            have HB6 : Hid (Below wc.heap.size wc w6) := Lib.hid (by (repeat' (first | (with_reducible exact Below.refl _ _) | (with_reducible assumption) | (with_reducible refine below_drewN ?_ _) | (with_reducible refine below_new ?_ _) | (with_reducible refine Below.alloc ?_ ?_ _) | (with_reducible refine Below.drew ?_) | (with_reducible refine Below.setCell ?_ ?_ _) | (with_reducible apply below_at; (case k => (with_reducible assumption)); (case hB => omega)) | (with_reducible apply below_on; (with_reducible assumption)) | (go_size; done) | (with_reducible apply size_of))))
            clear a0 a1 a2 e0 e1 e2 la5 le5 hb5 hb6
            have td : decide (t < 193) = true := decide_eq_true t1
            by_cases hnl : n = zs.length
            · have hne : ((n : Int) == (zs.length : Int)) = true := by simp [hnl]
              have hne2 : ((n : Int) = (zs.length : Int)) := by omega
              clear hnl
              go_wp2_with (first | (go_at_call 16; refine (alive _).mono ?_; rintro e w7 ⟨rfl, hb7⟩))
              go_ret
              exact ⟨rfl, by have := HWb.out; have := HB6.out; (repeat' (first | (with_reducible exact Below.refl _ _) | (with_reducible assumption) | (with_reducible refine below_drewN ?_ _) | (with_reducible refine below_new ?_ _) | (with_reducible refine Below.alloc ?_ ?_ _) | (with_reducible refine Below.drew ?_) | (with_reducible refine Below.setCell ?_ ?_ _) | (with_reducible apply below_at; (case k => (with_reducible assumption)); (case hB => omega)) | (with_reducible apply below_on; (with_reducible assumption)) | (go_size; done) | (with_reducible apply size_of)))⟩
            · try (exfalso; have a1 := HNL.out; have a2 := HCAP.out; omega)
              all_goals
                have hne : ((n : Int) == (zs.length : Int)) = false := by simp; omega
                have hne2 : ¬ ((n : Int) = (zs.length : Int)) := by omega
                have hlt : n < zs.length := by have := HNL.out; omega
                have FF := Lib.hid (HM3.out hlt)
                have hbz := (HM3.out hlt).bit
                obtain ⟨cb, co, rfl, hcb, hcell⟩ := has_some HC.out (by omega)
                have hC2 : C2 = some ⟨cb, co + n, none⟩ := by rw [← hA2]; simp [addr_add]
                subst hC2
                have hz1 : (zs.drop n).take 1 = [zs.getD n 0] := by
                  rw [List.drop_eq_getElem_cons hlt, List.take_succ_cons, List.take_zero, List.getD_eq_getElem?_getD, List.getElem?_eq_getElem hlt]; rfl
                have HC1 := HCC.out.front 1
                rw [hz1] at HC1
                have HCZ := Lib.hid HC1
                have hcz : ∀ wx : World, Below w.heap.size w wx → wx.cell? ⟨cb, co + n, none⟩ = some (.int .u8 (zs.getD n 0)) := fun wx hx => by rw [(bcell hx).1 cb _ hcb]; exact hcell n hlt
                have HCE := Lib.hid hcz
                have hwn : IntKind.i64.wrap ((n : Int) + 1) = (n : Int) + 1 := by rw [IntKind.wrap_i64]; omega
                have hwt : ((n : Int) + 1).toNat = n + 1 := by omega
                have hw0 : 0 ≤ (n : Int) + 1 := by omega
                have hn1 : (n : Int) + 1 ≤ zs.length := by omega
                have hn2 : (n : Int) < zs.length := by omega
                have hn3 : (n : Int) + 1 ≤ cap := by omega
                clear hA2 HC1 hcz hz1 hcell hlt hnl
                generalize zs.getD n 0 = z at *
                generalize hm3' : mv m2 t z = m3 at *
                generalize ht3 : sNext t z = t3 at *
                have HM3' := Lib.hid hm3'
                have HT3 := Lib.hid ht3
                have HA3 : Hid (adOk m3 = true) := Lib.hid (by rw [← hm3']; exact mv_ok FF.out)
                have HL3 : Hid (m3.l = m.l) := Lib.hid (by rw [← hm3', mv_l, HL2.out])
                have HST : Hid (stN t z = t3 ∧ stE t z = 0) := Lib.hid ⟨by rw [stN, if_pos t1, if_pos (by omega), ht3], by rw [stE, if_pos t1, if_pos (by omega)]⟩
                have HEQ3 : Hid (adEq m3 m3 = true) := Lib.hid ((adEq_iff _ _).2 rfl)
                have HWX : Hid (Below w.heap.size w w6) := Lib.hid (by have := HWb.out; have := HB6.out; (repeat' (first | (with_reducible exact Below.refl _ _) | (with_reducible assumption) | (with_reducible refine below_drewN ?_ _) | (with_reducible refine below_new ?_ _) | (with_reducible refine Below.alloc ?_ ?_ _) | (with_reducible refine Below.drew ?_) | (with_reducible refine Below.setCell ?_ ?_ _) | (with_reducible apply below_at; (case k => (with_reducible assumption)); (case hB => omega)) | (with_reducible apply below_on; (with_reducible assumption)) | (go_size; done) | (with_reducible apply size_of))))
                have K6 := HKb.out.past HB6.out
                have HK6 := Lib.hid K6
                have HO6 := Lib.hid (HOb.out.past HB6.out)
                obtain ⟨p0, p1, p2, -, -, -⟩ := K6.three
                have lka := K6.lt
                clear hm3' ht3 K6
                go_upto_region 11 with (first | (go_at_call 26; refine (rState_any t _).mono ?_; rintro e w7 ⟨rfl, rfl⟩; rw [td]))
                go_cut [20, 21, 22] (fun s12 s13 s14 wx => ∃ g, s12 = .pointer (some ⟨g, 0, none⟩) ∧ s13 = .int .u8 t3 ∧ s14 = .int .i64 0 ∧ Made wx g m.l m3 ∧ Below w6.heap.size w6 wx)
                case first =>
                  as_aux_lemma =>
                    go_region_law (first | (go_simp; go_at_call 13; refine (Run_fine m2 m.l HL2.out (some ⟨gp, 0, none⟩) (some ⟨gn, 0, none⟩) c d t _ _ _ [z] _ ((HO6.out.below (by (repeat' (first | (with_reducible exact Below.refl _ _) | (with_reducible assumption) | (with_reducible refine below_drewN ?_ _) | (with_reducible refine below_new ?_ _) | (with_reducible refine Below.alloc ?_ ?_ _) | (with_reducible refine Below.drew ?_) | (with_reducible refine Below.setCell ?_ ?_ _) | (with_reducible apply below_at; (case k => (with_reducible assumption)); (case hB => omega)) | (with_reducible apply below_on; (with_reducible assumption)) | (go_size; done) | (with_reducible apply size_of)))) (Nat.le_refl _)).inOk HA2.out) HOa_cap.1 HOa_cap.2 t0 t1 HA2.out (HCZ.out.below (by have := HWX.out; (repeat' (first | (with_reducible exact Below.refl _ _) | (with_reducible assumption) | (with_reducible refine below_drewN ?_ _) | (with_reducible refine below_new ?_ _) | (with_reducible refine Below.alloc ?_ ?_ _) | (with_reducible refine Below.drew ?_) | (with_reducible refine Below.setCell ?_ ?_ _) | (with_reducible apply below_at; (case k => (with_reducible assumption)); (case hB => omega)) | (with_reducible apply below_on; (with_reducible assumption)) | (go_size; done) | (with_reducible apply size_of)))) (Nat.le_refl _)) (by simp) (by omega) (by intro y hy; rw [List.mem_singleton.1 hy]; omega) ((bitsB_iff _).2 (by intro y hy; rw [List.mem_singleton.1 hy]; omega)) m3 t3 HM3'.out HT3.out).mono ?_; rintro e w8 ⟨gp8, gn8, c8, d8, rfl, O8, hb8⟩; try (refine lay (P := Lies (w8) (w6.heap.size) 24 [.int .i32 0, .slice none 0 0, .slice none 0 0]) ?_ ?_; (focus ((repeat' (first | (with_reducible assumption) | (with_reducible exact Lies.fresh _ _ _) | (with_reducible apply Lies.fresh_at; (first | (with_reducible rfl) | (simp; done))) | (with_reducible refine Lies.drew ?_) | (with_reducible refine Lies.drewN ?_ _) | (with_reducible refine Lies.alloc ?_ _) | (with_reducible apply Lies.past; case hb => (with_reducible assumption)) | (with_reducible apply Lies.keeps; (case k => (with_reducible assumption)); (case ht => decide)) | (with_reducible apply Lies.store3) | (with_reducible apply Lies.other; case hp => (first | omega | (simp; done) | (simp; omega))))); done)); intro L9; obtain ⟨b0, b1, b2, g0, g1', g2⟩ := L9.three; have l9 := L9.lt)))
                    all_goals
                      go_wp2_with fail
                      go_meet
                      refine ⟨_, rfl, rfl, rfl, by first | exact made_new O8 | exact made_old O8 L9, by (repeat' (first | (with_reducible exact Below.refl _ _) | (with_reducible assumption) | (with_reducible refine below_drewN ?_ _) | (with_reducible refine below_new ?_ _) | (with_reducible refine Below.alloc ?_ ?_ _) | (with_reducible refine Below.drew ?_) | (with_reducible refine Below.setCell ?_ ?_ _) | (with_reducible apply below_at; (case k => (with_reducible assumption)); (case hB => omega)) | (with_reducible apply below_on; (with_reducible assumption)) | (go_size; done) | (with_reducible apply size_of)))⟩
                case rest =>
                  as_aux_lemma =>
                    obtain ⟨gc, rfl, rfl, rfl, M, W⟩ := hcut
                    have HKc := Lib.hid (HK6.out.past W)
                    have HOc := Lib.hid (HO6.out.past W)
                    have HWc : Hid (Below w.heap.size w wc) := Lib.hid (by have := HWX.out; (repeat' (first | (with_reducible exact Below.refl _ _) | (with_reducible assumption) | (with_reducible refine below_drewN ?_ _) | (with_reducible refine below_new ?_ _) | (with_reducible refine Below.alloc ?_ ?_ _) | (with_reducible refine Below.drew ?_) | (with_reducible refine Below.setCell ?_ ?_ _) | (with_reducible apply below_at; (case k => (with_reducible assumption)); (case hB => omega)) | (with_reducible apply below_on; (with_reducible assumption)) | (go_size; done) | (with_reducible apply size_of))))
                    obtain ⟨Bc, gp3, gn3, c3, d3, K3, O3⟩ := M
                    have HK3 := Lib.hid K3
                    have HO3 := Lib.hid O3
                    have hcz := HCE.out wc HWc.out
                    have hcbl : cb < wc.heap.size := by have := HWc.out.size; omega
                    clear W p0 p1 p2 K3 O3 lka HK6 HO6 HWX HKb HOb HB6 HWb HK9 HO9 HO1b HL1b
                    have K7 := HKc.out
                    obtain ⟨p0, p1, p2, -, -, -⟩ := K7.three
                    have lka := K7.lt
                    clear K7
                    go_upto_region 12 with fail
                    go_cut [23, 24] (fun s12 s13 wx => ∃ g, s12 = .pointer (some ⟨g, 0, none⟩) ∧ s13 = .int .i64 0 ∧ Made wx g m.l m3 ∧ Below wc.heap.size wc wx)
                    case first =>
                      as_aux_lemma =>
                        go_region_law (first | (go_simp; go_at_call 12; refine (Update_fine m2 m.l HL2.out (some ⟨gp, 0, none⟩) (some ⟨gn, 0, none⟩) c d t z _ ((HOc.out.below (by (repeat' (first | (with_reducible exact Below.refl _ _) | (with_reducible assumption) | (with_reducible refine below_drewN ?_ _) | (with_reducible refine below_new ?_ _) | (with_reducible refine Below.alloc ?_ ?_ _) | (with_reducible refine Below.drew ?_) | (with_reducible refine Below.setCell ?_ ?_ _) | (with_reducible apply below_at; (case k => (with_reducible assumption)); (case hB => omega)) | (with_reducible apply below_on; (with_reducible assumption)) | (go_size; done) | (with_reducible apply size_of)))) (Nat.le_refl _)).inOk HA2.out) HOa_cap.1 HOa_cap.2 FF.out m3 HM3'.out).mono ?_; rintro e w8 ⟨gp8, gn8, c8, d8, rfl, O8, hb8⟩; try (refine lay (P := Lies (w8) (wc.heap.size) 24 [.int .i32 0, .slice none 0 0, .slice none 0 0]) ?_ ?_; (focus ((repeat' (first | (with_reducible assumption) | (with_reducible exact Lies.fresh _ _ _) | (with_reducible apply Lies.fresh_at; (first | (with_reducible rfl) | (simp; done))) | (with_reducible refine Lies.drew ?_) | (with_reducible refine Lies.drewN ?_ _) | (with_reducible refine Lies.alloc ?_ _) | (with_reducible apply Lies.past; case hb => (with_reducible assumption)) | (with_reducible apply Lies.keeps; (case k => (with_reducible assumption)); (case ht => decide)) | (with_reducible apply Lies.store3) | (with_reducible apply Lies.other; case hp => (first | omega | (simp; done) | (simp; omega))))); done)); intro L9; obtain ⟨b0, b1, b2, g0, g1', g2⟩ := L9.three; have l9 := L9.lt)))
                        all_goals
                          go_wp2_with fail
                          go_meet
                          refine ⟨_, rfl, rfl, by first | exact made_new O8 | exact made_old O8 L9, by (repeat' (first | (with_reducible exact Below.refl _ _) | (with_reducible assumption) | (with_reducible refine below_drewN ?_ _) | (with_reducible refine below_new ?_ _) | (with_reducible refine Below.alloc ?_ ?_ _) | (with_reducible refine Below.drew ?_) | (with_reducible refine Below.setCell ?_ ?_ _) | (with_reducible apply below_at; (case k => (with_reducible assumption)); (case hB => omega)) | (with_reducible apply below_on; (with_reducible assumption)) | (go_size; done) | (with_reducible apply size_of)))⟩
                    case rest =>
                      as_aux_lemma =>
                        obtain ⟨gd, rfl, rfl, M, W⟩ := hcut
                        have HK3b := Lib.hid (HK3.out.past W)
                        have HO3b := Lib.hid (HO3.out.past W)
                        have HWd : Hid (Below w.heap.size w wc) := Lib.hid (by have := HWc.out; (repeat' (first | (with_reducible exact Below.refl _ _) | (with_reducible assumption) | (with_reducible refine below_drewN ?_ _) | (with_reducible refine below_new ?_ _) | (with_reducible refine Below.alloc ?_ ?_ _) | (with_reducible refine Below.drew ?_) | (with_reducible refine Below.setCell ?_ ?_ _) | (with_reducible apply below_at; (case k => (with_reducible assumption)); (case hB => omega)) | (with_reducible apply below_on; (with_reducible assumption)) | (go_size; done) | (with_reducible apply size_of))))
                        obtain ⟨Bd, gp4, gn4, c4, d4, K4, O4⟩ := M
                        have HK4 := Lib.hid K4
                        have HO4 := Lib.hid O4
                        have hcy := HCE.out wc HWd.out
                        clear W p0 p1 p2 K4 O4 lka hcz HKc HOc HK3 HO3
                        go_wp2_with fail
                        refine (NextS_any t z _ t0 (by omega) (by omega) (by omega)).mono ?_
                        rintro e w9 ⟨rfl, hb9⟩
                        rw [HST.out.1, HST.out.2]
                        have A5 := HK3b.out.past hb9
                        have B5 := HK4.out.past hb9
                        obtain ⟨a0, a1, a2, -, -, -⟩ := A5.three
                        obtain ⟨e0, e1, e2, -, -, -⟩ := B5.three
                        have la5 := A5.lt
                        have le5 := B5.lt
                        clear A5 B5
                        go_wp2_with fail
                        refine (Same_at m3 m.l HL3.out m3 m.l HL3.out _ _ _ _ 193 193 193 193 c3 d3 c4 d4 _ ((HO3b.out.past hb9).inOk HA3.out) ((HO4.out.past hb9).inOk HA3.out)).mono ?_
                        rintro e w10 ⟨rfl, hb10⟩
                        rw [HEQ3.out]
                        go_wp2_with (first | (go_at_call 16; refine (alive _).mono ?_; rintro e w11 ⟨rfl, hb11⟩))
                        go_ret
                        exact ⟨rfl, by have := HWd.out; (repeat' (first | (with_reducible exact Below.refl _ _) | (with_reducible assumption) | (with_reducible refine below_drewN ?_ _) | (with_reducible refine below_new ?_ _) | (with_reducible refine Below.alloc ?_ ?_ _) | (with_reducible refine Below.drew ?_) | (with_reducible refine Below.setCell ?_ ?_ _) | (with_reducible apply below_at; (case k => (with_reducible assumption)); (case hB => omega)) | (with_reducible apply below_on; (with_reducible assumption)) | (go_size; done) | (with_reducible apply size_of)))⟩
end Go.Proofs.Ytipbafcjmeibpaa.adL
