/- AdaptMean, by a walk. -/
import Derived.Test.YtipbafcjmeibpaaAdL4
import Derived.Test.YtipbafcjmeibpaaAdPlain3
import Derived.Test.YtipbafcjmeibpaaAdL2
namespace Go.Proofs.Ytipbafcjmeibpaa.adL
open Go.RowKit Go.Proofs.Ytipbafcjmeibpaa.base Go.Proofs.Ytipbafcjmeibpaa.adP Go.Proofs.Ytipbafcjmeibpaa.adW Go.Proofs.Ytipbafcjmeibpaa.cntP Go.Proofs.Ytipbafcjmeibpaa.stP
open Go.Proofs.Ytipbafcjmeibpaa.cntW (bits_any)
set_option linter.unusedVariables false
set_option linter.unusedSimpArgs false

set_option maxRecDepth 100000 in
set_option maxHeartbeats 2000000 in
theorem mean_bad (lim s : Int) (C : Option Addr) (cap : Nat) (zs : List Int) (w : World) (s0 : 0 ≤ s) (s1 : s ≤ 255) (hC : Has .u8 w C zs) (hz : ∀ z ∈ zs, 0 ≤ z ∧ z ≤ 255) (hl : zs.length ≤ 9223372036854775807)
    (hor : lim < 1 ∨ (¬ lim < 1 ∧ 1000 < lim) ∨ (¬ lim < 1 ∧ ¬ 1000 < lim ∧ decide (s < 193) = false) ∨ (¬ lim < 1 ∧ ¬ 1000 < lim ∧ decide (s < 193) = true ∧ (100 : Int) < zs.length) ∨ (¬ lim < 1 ∧ ¬ 1000 < lim ∧ decide (s < 193) = true ∧ ¬ (100 : Int) < zs.length ∧ bitsB zs = false)) :
    Calls Try.prog 8 #[.int .i64 lim, .int .u8 s, .slice C zs.length cap] w fun e w' => e = .returned (.bool true) ∧ Below w.heap.size w w' := by
  have HC := Lib.hid hC
  have HZ := Lib.hid hz
  clear hC hz
  rcases hor with h1 | ⟨h1, h2⟩ | ⟨h1, h2, h3⟩ | ⟨h1, h2, h3, h4⟩ | ⟨h1, h2, h3, h4, h5⟩
  all_goals
    try have HB := Lib.hid h5
    try clear h5
    try have HS := Lib.hid h3
    try clear h3
    go_enter Try.func8, Try.ntmps8
    go_wp2_with (first | (go_at_call 26; refine (rState_any s _).mono ?_; rintro e w7 ⟨rfl, rfl⟩; rw [HS.out]) | (go_at_call 24; refine (bits_any C _ cap zs _ HZ.out (HC.out.below (by (repeat' (first | (with_reducible exact Below.refl _ _) | (with_reducible assumption) | (with_reducible refine below_drewN ?_ _) | (with_reducible refine below_new ?_ _) | (with_reducible refine Below.alloc ?_ ?_ _) | (with_reducible refine Below.drew ?_) | (with_reducible refine Below.setCell ?_ ?_ _) | (with_reducible apply below_at; (case k => (with_reducible assumption)); (case hB => omega)) | (with_reducible apply below_on; (with_reducible assumption)) | (go_size; done) | (with_reducible apply size_of)))) (Nat.le_refl _)) rfl hl).mono ?_; rintro e w2 ⟨rfl, rfl⟩; rw [HB.out]) | (go_at_call 16; refine (alive _).mono ?_; rintro e w3 ⟨rfl, hb3⟩))
    go_ret
    exact ⟨rfl, by (repeat' (first | (with_reducible exact Below.refl _ _) | (with_reducible assumption) | (with_reducible refine below_drewN ?_ _) | (with_reducible refine below_new ?_ _) | (with_reducible refine Below.alloc ?_ ?_ _) | (with_reducible refine Below.drew ?_) | (with_reducible refine Below.setCell ?_ ?_ _) | (with_reducible apply below_at; (case k => (with_reducible assumption)); (case hB => omega)) | (with_reducible apply below_on; (with_reducible assumption)) | (go_size; done) | (with_reducible apply size_of)))⟩
theorem New_fine (l : Int) (w : World) (h1 : 1 ≤ l) (h2 : l ≤ 1000) (r : Ad) (hr : newA l = r) :
    Calls Try.prog 9 #[.int .i64 l] w fun e w' => ∃ gp gn, e = .returned (.tuple #[.agg #[.int .i32 l, .slice (some ⟨gp, 0, none⟩) 193 193, .slice (some ⟨gn, 0, none⟩) 193 193], .int .i64 0]) ∧ AdOwn w' w.heap.size gp gn 193 193 r ∧ Below w.heap.size w w' := by
  subst hr
  exact New_ok l w h1 h2
theorem cell_other {w : World} {p q : Addr} {v x : Value} (h : w.cell? p = some v) (hne : p.block ≠ q.block) : (w.setCell q x).cell? p = some v := by
  have e := Below.heap_setCell w q x p.block hne
  simp only [World.cell?] at *
  rw [e]; exact h
theorem Made.drew {w : World} {g : Nat} {l : Int} {r : Ad} (h : Made w g l r) : Made w.drew g l r := by
  obtain ⟨B, gp, gn, c, d, h1, h2⟩ := h
  exact ⟨B, gp, gn, c, d, h1.drew, ⟨h2.p, h2.n, h2.ne, h2.lp, h2.ln⟩⟩
theorem cell_drew {w : World} {p : Addr} {v : Value} (h : w.cell? p = some v) : w.drew.cell? p = some v := h
theorem all_of {w : World} {g g' : Nat} {t : TypeId} {a b c a' b' c' v : Value} {p : Addr} (h : Lies w g t [a, b, c]) (k : Lies w g' t [a', b', c']) (hp : w.cell? p = some v) : w.cell? p = some v ∧ w.cell? ⟨g, 0, none⟩ = some a ∧ w.cell? ⟨g, 1, none⟩ = some b ∧ w.cell? ⟨g, 2, none⟩ = some c ∧ w.cell? ⟨g', 0, none⟩ = some (cellOr w g' 0) ∧ w.cell? ⟨g', 1, none⟩ = some (cellOr w g' 1) ∧ w.cell? ⟨g', 2, none⟩ = some (cellOr w g' 2) ∧ w.frozen? ⟨g', 0, none⟩ = false ∧ w.frozen? ⟨g', 1, none⟩ = false ∧ w.frozen? ⟨g', 2, none⟩ = false :=
  ⟨hp, h.three.1, h.three.2.1, h.three.2.2.1, cellOr_of k.three.1, cellOr_of k.three.2.1, cellOr_of k.three.2.2.1, k.three.2.2.2⟩
set_option maxRecDepth 100000 in
set_option maxHeartbeats 8000000 in
theorem mean_main (lim s : Int) (m0 : Ad) (C : Option Addr) (cap : Nat) (zs : List Int) (w : World) (s0 : 0 ≤ s) (s1 : s < 193) (l1 : 1 ≤ lim) (l2 : lim ≤ 1000) (hm0 : newA lim = m0) (hC : Has .u8 w C zs) (hz : ∀ z ∈ zs, 0 ≤ z ∧ z ≤ 255) (hl : zs.length ≤ 100) (hb : bitsB zs = true) :
    Calls Try.prog 8 #[.int .i64 lim, .int .u8 s, .slice C zs.length cap] w fun e w' => e = .returned (.bool true) ∧ Below w.heap.size w w' := by
  have HC := Lib.hid hC
  have HZ := Lib.hid hz
  have HB := Lib.hid hb
  have HL := Lib.hid hl
  have HM0 := Lib.hid hm0
  have HOK0 : Hid (adOk m0 = true) := Lib.hid (by rw [← hm0]; exact newA_ok ((newOk_iff lim).2 ⟨l1, l2⟩))
  have HML : Hid (m0.l = lim) := Lib.hid (by rw [← hm0]; rfl)
  have HMZ : Hid (Mean lim s m0 0 0) := Lib.hid (by rw [← hm0]; exact mean_zero s0 s1)
  have HBT := Lib.hid (bits_two hb hz)
  have hl0 : ¬ (100 : Int) < zs.length := by omega
  have td : decide (s < 193) = true := decide_eq_true s1
  clear hC hz hb hl hm0
  go_enter Try.func8, Try.ntmps8
  go_wp2_with (first | (go_at_call 26; refine (rState_any s _).mono ?_; rintro e w7 ⟨rfl, rfl⟩; rw [td]) | (go_at_call 24; refine (bits_any C _ cap zs _ HZ.out (HC.out.below (by (repeat' (first | (with_reducible exact Below.refl _ _) | (with_reducible assumption) | (with_reducible refine below_drewN ?_ _) | (with_reducible refine below_new ?_ _) | (with_reducible refine Below.alloc ?_ ?_ _) | (with_reducible refine Below.drew ?_) | (with_reducible refine Below.setCell ?_ ?_ _) | (with_reducible apply below_at; (case k => (with_reducible assumption)); (case hB => omega)) | (with_reducible apply below_on; (with_reducible assumption)) | (go_size; done) | (with_reducible apply size_of)))) (Nat.le_refl _)) rfl (by have := HL.out; omega)).mono ?_; rintro e w2 ⟨rfl, rfl⟩; rw [HB.out]) | (go_at_call 9; refine (New_fine lim _ l1 l2 m0 HM0.out).mono ?_; rintro e w3 ⟨gp, gn, rfl, O3, hb3⟩))
  have HM3 := Lib.hid (made_new (l := lim) O3)
  have HW3 : Hid (Below w.heap.size w (w3.alloc (.cells #[.int .i32 lim, .slice (some ⟨gp, 0, none⟩) 193 193, .slice (some ⟨gn, 0, none⟩) 193 193] 24))) := Lib.hid (by (repeat' (first | (with_reducible exact Below.refl _ _) | (with_reducible assumption) | (with_reducible refine below_drewN ?_ _) | (with_reducible refine below_new ?_ _) | (with_reducible refine Below.alloc ?_ ?_ _) | (with_reducible refine Below.drew ?_) | (with_reducible refine Below.setCell ?_ ?_ _) | (with_reducible apply below_at; (case k => (with_reducible assumption)); (case hB => omega)) | (with_reducible apply below_on; (with_reducible assumption)) | (go_size; done) | (with_reducible apply size_of))))
  have z3 := hb3.size
  clear O3 hb3
  go_loopw [9, 10] (fun o i wr => ∃ k : Nat, k ≤ zs.length ∧ i = .int .i64 (k : Int) ∧ (k : Int) ≤ lim ∧ o = .int .i64 (ones (zs.take k)) ∧ Made wr w3.heap.size lim (meM m0 s (zs.take k)) ∧ Mean lim s (meM m0 s (zs.take k)) k (ones (zs.take k)) ∧ Below w.heap.size w wr) (fun _ i _ => zs.length - (intOf i).toNat)
  case atStart => exact ⟨0, Nat.zero_le _, rfl, by omega, rfl, HM3.out, HMZ.out, HW3.out⟩
  case round =>
    obtain ⟨k, hk, rfl, hkl, rfl, M, ME, W⟩ := hrel
    have HW := Lib.hid W
    have HME := Lib.hid ME
    obtain ⟨Ba, gp, gn, c, d, Ka, Oa⟩ := M
    have HKa := Lib.hid Ka
    have HOa := Lib.hid Oa
    obtain ⟨p0, p1, p2, f0, f1, f2⟩ := Ka.three
    have lka := Ka.lt
    have hcap := Oa.capLe
    have hob := ones_bd (zs.take k) (fun z h => HBT.out z (List.mem_of_mem_take h))
    have hob2 : ones (zs.take k) ≤ 100 := by have := HL.out; rw [List.length_take] at hob; omega
    have hob1 := hob.1
    have HK := Lib.hid hk
    clear Ka Oa W ME hob hk
    by_cases hlt : k < zs.length
    · have hki : (k : Int) < zs.length := by omega
      by_cases hlt2 : (k : Int) < lim
      · obtain ⟨cb, co, rfl, hcb, hcell⟩ := has_some HC.out (by omega)
        have hcz : ∀ wx : World, Below w.heap.size w wx → wx.cell? ⟨cb, co + k, none⟩ = some (.int .u8 (zs.getD k 0)) := fun wx hx => by rw [(bcell hx).1 cb _ hcb]; exact hcell k hlt
        have HCE := Lib.hid hcz
        have hz01 := HBT.out (zs.getD k 0) (by rw [List.getD_eq_getElem?_getD, List.getElem?_eq_getElem hlt]; exact List.getElem_mem hlt)
        have HU : Hid (adOk (meM m0 s (zs.take k)) = true) := Lib.hid (meM_ok _ HOK0.out s0 s1 (fun z h => HBT.out z (List.mem_of_mem_take h)))
        have HUL : Hid ((meM m0 s (zs.take k)).l = lim) := Lib.hid (by rw [meM_l, HML.out])
        have HUN : Hid (meM m0 s (zs.take (k + 1)) = mv (meM m0 s (zs.take k)) s (zs.getD k 0)) := Lib.hid (by rw [take_next hlt, meM_snoc])
        have HON : Hid (ones (zs.take (k + 1)) = ones (zs.take k) + zs.getD k 0) := Lib.hid (by rw [take_next hlt, ones_snoc])
        have HLT := Lib.hid hlt
        have hwr := HCE.out wr HW.out
        have hcbl : cb < wr.heap.size := by have := HW.out.size; omega
        clear hcz hcell hlt
        generalize zs.getD k 0 = z at *
        generalize hu : meM m0 s (zs.take k) = u at *
        generalize ones (zs.take k) = o at *
        clear hu
        have HF : Hid (Fits u s z) := Lib.hid ⟨HU.out, s0, s1, hz01⟩
        have ME1 := mean_step HF.out HUL.out (by omega) hlt2 HME.out
        have HU1 : Hid (adOk (mv u s z) = true) := Lib.hid (mv_ok HF.out)
        have HUL1 : Hid ((mv u s z).l = lim) := Lib.hid HUL.out
        generalize hu1 : mv u s z = u1 at *
        have HMV := Lib.hid hu1
        have HAT : Hid (atE u1 s = 0) := Lib.hid ((atE_zero _ _).2 ⟨HU1.out, s1⟩)
        have HPV : Hid (pV u1 s = u1.p.getD s.toNat 0) := Lib.hid (pV_yes HAT.out)
        have hpb : 0 ≤ u1.p.getD s.toNat 0 ∧ u1.p.getD s.toNat 0 ≤ 65535 := by
          have h := HU1.out
          rw [adOk_iff] at h
          exact (h.2 s.toNat (by omega)).1
        have HME1 := Lib.hid ME1
        have i1 := ME1.a
        have i2 := ME1.b
        clear ME1
        have hz0 : 0 ≤ z := by omega
        have hz1 : z ≤ 1 := by omega
        obtain ⟨hp0, hp1⟩ := hpb
        have HI := Lib.hid (And.intro i1 i2)
        clear hu1 i1 i2 HME hz01
        generalize u1.p.getD s.toNat 0 = p at *
        go_upto_region 10 with fail
        go_cut [11, 12] (fun s12 s13 wx => ∃ g, s12 = .pointer (some ⟨g, 0, none⟩) ∧ s13 = .int .i64 0 ∧ Made wx g lim u1 ∧ Below wr.heap.size wr wx ∧ wr.heap.size ≤ g)
        case first => as_aux_lemma =>
          go_region_law (first | (go_simp; go_at_call 12; refine (Update_fine u lim HUL.out (some ⟨gp, 0, none⟩) (some ⟨gn, 0, none⟩) c d s z _ ((HOa.out.below (by (repeat' (first | (with_reducible exact Below.refl _ _) | (with_reducible assumption) | (with_reducible refine below_drewN ?_ _) | (with_reducible refine below_new ?_ _) | (with_reducible refine Below.alloc ?_ ?_ _) | (with_reducible refine Below.drew ?_) | (with_reducible refine Below.setCell ?_ ?_ _) | (with_reducible apply below_at; (case k => (with_reducible assumption)); (case hB => omega)) | (with_reducible apply below_on; (with_reducible assumption)) | (go_size; done) | (with_reducible apply size_of)))) (Nat.le_refl _)).inOk HU.out) hcap.1 hcap.2 HF.out u1 HMV.out).mono ?_; rintro e w8 ⟨gp8, gn8, c8, d8, rfl, O8, hb8⟩; try (refine lay (P := Lies (w8) (wr.heap.size) 24 [.int .i32 0, .slice none 0 0, .slice none 0 0]) ?_ ?_; (focus ((repeat' (first | (with_reducible assumption) | (with_reducible exact Lies.fresh _ _ _) | (with_reducible apply Lies.fresh_at; (first | (with_reducible rfl) | (simp; done))) | (with_reducible refine Lies.drew ?_) | (with_reducible refine Lies.drewN ?_ _) | (with_reducible refine Lies.alloc ?_ _) | (with_reducible apply Lies.past; case hb => (with_reducible assumption)) | (with_reducible apply Lies.keeps; (case k => (with_reducible assumption)); (case ht => decide)) | (with_reducible apply Lies.store3) | (with_reducible apply Lies.other; case hp => (first | omega | (simp; done) | (simp; omega))))); done)); intro L9; obtain ⟨b0, b1, b2, g0, g1', g2⟩ := L9.three; have l9 := L9.lt)))
          all_goals
            go_wp2_with fail
            go_meet
            have z8 := hb8.size
            refine ⟨_, rfl, rfl, by first | exact made_new O8 | exact made_old O8 L9, by (repeat' (first | (with_reducible exact Below.refl _ _) | (with_reducible assumption) | (with_reducible refine below_drewN ?_ _) | (with_reducible refine below_new ?_ _) | (with_reducible refine Below.alloc ?_ ?_ _) | (with_reducible refine Below.drew ?_) | (with_reducible refine Below.setCell ?_ ?_ _) | (with_reducible apply below_at; (case k => (with_reducible assumption)); (case hB => omega)) | (with_reducible apply below_on; (with_reducible assumption)) | (go_size; done) | (with_reducible apply size_of))), by first | omega | (simp at z8; omega)⟩
        case rest => as_aux_lemma =>
          obtain ⟨gb, rfl, rfl, M, W, hgb⟩ := hcut
          have HWb : Hid (Below w.heap.size w wc) := Lib.hid (by have := HW.out; (repeat' (first | (with_reducible exact Below.refl _ _) | (with_reducible assumption) | (with_reducible refine below_drewN ?_ _) | (with_reducible refine below_new ?_ _) | (with_reducible refine Below.alloc ?_ ?_ _) | (with_reducible refine Below.drew ?_) | (with_reducible refine Below.setCell ?_ ?_ _) | (with_reducible apply below_at; (case k => (with_reducible assumption)); (case hB => omega)) | (with_reducible apply below_on; (with_reducible assumption)) | (go_size; done) | (with_reducible apply size_of))))
          have Ka := HKa.out.past W
          obtain ⟨Bb, gp2, gn2, c2, d2, Kb, Ob⟩ := M
          have HKb := Lib.hid Kb
          have HOb := Lib.hid Ob
          have HKc := Lib.hid Ka
          clear p0 p1 p2 f0 f1 f2
          obtain ⟨e0, e1, e2, -, -, -⟩ := Kb.three
          have lkb := Kb.lt
          clear Kb Ob Ka W
          go_wp2_with fail
          refine (P_at u1 lim HUL1.out _ _ 193 193 c2 d2 s _ ((HOb.out.below (by (repeat' (first | (with_reducible exact Below.refl _ _) | (with_reducible assumption) | (with_reducible refine below_drewN ?_ _) | (with_reducible refine below_new ?_ _) | (with_reducible refine Below.alloc ?_ ?_ _) | (with_reducible refine Below.drew ?_) | (with_reducible refine Below.setCell ?_ ?_ _) | (with_reducible apply below_at; (case k => (with_reducible assumption)); (case hB => omega)) | (with_reducible apply below_on; (with_reducible assumption)) | (go_size; done) | (with_reducible apply size_of)))) (Nat.le_refl _)).inOk HU1.out) s0 (by omega)).mono ?_
          rintro e w9 ⟨rfl, hb9⟩
          rw [HAT.out, HPV.out]
          have Ka := HKc.out.past hb9
          have Kb := HKb.out.past hb9
          have HO9 := Lib.hid (HOb.out.past hb9)
          have HK9 := Lib.hid Ka
          have HKb9 := Lib.hid Kb
          have HB9 : Hid (Below w.heap.size w w9) := Lib.hid (by have := HWb.out; (repeat' (first | (with_reducible exact Below.refl _ _) | (with_reducible assumption) | (with_reducible refine below_drewN ?_ _) | (with_reducible refine below_new ?_ _) | (with_reducible refine Below.alloc ?_ ?_ _) | (with_reducible refine Below.drew ?_) | (with_reducible refine Below.setCell ?_ ?_ _) | (with_reducible apply below_at; (case k => (with_reducible assumption)); (case hB => omega)) | (with_reducible apply below_on; (with_reducible assumption)) | (go_size; done) | (with_reducible apply size_of))))
          have hc9 := HCE.out w9 HB9.out
          clear e0 e1 e2
          obtain ⟨e0, e1, e2, -, -, -⟩ := Kb.three
          obtain ⟨p0, p1, p2, f0, f1, f2⟩ := Ka.three
          have lkc := Ka.lt
          have lkd := Kb.lt
          have hne : w3.heap.size ≠ gb := by omega
          have hne3 : cb ≠ w3.heap.size := by omega
          have hne4 : w3.heap.size ≠ cb := by omega
          clear Ka Kb hb9 hwr HKb HKc HOb
          go_wp2_with fail
          go_region_held3 (fun x' => x'.cell? ⟨cb, co + k, none⟩ = some (.int .u8 z) ∧ x'.cell? ⟨gb, 0, none⟩ = some (.int .i32 lim) ∧ x'.cell? ⟨gb, 1, none⟩ = some (.slice (some ⟨gp2, 0, none⟩) 193 c2) ∧ x'.cell? ⟨gb, 2, none⟩ = some (.slice (some ⟨gn2, 0, none⟩) 193 d2) ∧ x'.cell? ⟨w3.heap.size, 0, none⟩ = some (cellOr x' w3.heap.size 0) ∧ x'.cell? ⟨w3.heap.size, 1, none⟩ = some (cellOr x' w3.heap.size 1) ∧ x'.cell? ⟨w3.heap.size, 2, none⟩ = some (cellOr x' w3.heap.size 2) ∧ x'.frozen? ⟨w3.heap.size, 0, none⟩ = false ∧ x'.frozen? ⟨w3.heap.size, 1, none⟩ = false ∧ x'.frozen? ⟨w3.heap.size, 2, none⟩ = false)
            ((apply all_of (t := 24); (focus (have KZ := HKb9.out; repeat' (first | (with_reducible assumption) | (with_reducible refine Lies.drew ?_) | (with_reducible refine Lies.other ?_ hne _)))); (focus (have KZ := HK9.out; repeat' (first | (with_reducible assumption) | (with_reducible refine Lies.drew ?_) | (with_reducible apply Lies.store3)))); (focus (repeat' (first | (with_reducible exact hc9) | (with_reducible refine cell_drew ?_) | (with_reducible refine cell_other ?_ hne3))))))
            (fail)
          all_goals
            obtain ⟨i1, i2⟩ := HI.out
            have k1 : 0 ≤ (k : Int) := by omega
            have k2 : (k : Int) ≤ 99 := by omega
            have b1 : 0 ≤ p * ((k : Int) + 1 + 1) := Int.mul_nonneg hp0 (by omega)
            have b2 : p * ((k : Int) + 1 + 1) ≤ 65535 * ((k : Int) + 1 + 1) := Int.mul_le_mul_of_nonneg_right hp1 (by omega)
            have b3 : 0 ≤ ((k : Int) + 1 + 1) * ((k : Int) + 1 + 2) := Int.mul_nonneg (by omega) (by omega)
            have b4 : ((k : Int) + 1 + 1) * ((k : Int) + 1 + 2) ≤ 101 * ((k : Int) + 1 + 2) := Int.mul_le_mul_of_nonneg_right (by omega) (by omega)
            obtain ⟨P, hP⟩ : ∃ P, p * ((k : Int) + 1 + 1) = P := ⟨_, rfl⟩
            obtain ⟨Q, hQ⟩ : ∃ Q, ((k : Int) + 1 + 1) * ((k : Int) + 1 + 2) = Q := ⟨_, rfl⟩
            have hN : -((k : Int) + 1 + 1) * ((k : Int) + 1 + 2) = -Q := by rw [Int.neg_mul, hQ]
            rw [hP, hQ] at i1 i2
            rw [hP] at b1 b2
            rw [hQ] at b3 b4
            have c1 : P ≤ 6700000 := by omega
            have c2' : Q ≤ 11000 := by omega
            clear b2 b4 e0 e1 e2 p0 p1 p2 f0 f1 f2
            have hW1 : wrap64 (wrap64 (wrap64 P - 32768) - 65535 * (o + z)) = P - 32768 - 65535 * (o + z) := by unfold wrap64; omega
            go_wp2_with fail
            go_roundw
            case rel =>
              refine ⟨k + 1, by have := HLT.out; omega, by go_num, by omega, by rw [HON.out], by rw [HUN.out]; exact (made_old HO9.out HK9.out).drew, ?_, by have := HB9.out; (repeat' (first | (with_reducible exact Below.refl _ _) | (with_reducible assumption) | (with_reducible refine below_drewN ?_ _) | (with_reducible refine below_new ?_ _) | (with_reducible refine Below.alloc ?_ ?_ _) | (with_reducible refine Below.drew ?_) | (with_reducible refine Below.setCell ?_ ?_ _) | (with_reducible apply below_at; (case k => (with_reducible assumption)); (case hB => omega)) | (with_reducible apply below_on; (with_reducible assumption)) | (go_size; done) | (with_reducible apply size_of)))⟩
              rw [HUN.out, HON.out]
              exact HME1.out
            case measure => have := HLT.out; simp [intOf]; omega
      · have hlt3 : ¬ ((k : Int) < lim) := hlt2
        go_wp2_with (first | (go_at_call 16; refine (alive _).mono ?_; rintro e w7 ⟨rfl, hb7⟩))
        go_ret
        exact ⟨rfl, by have := HW.out; (repeat' (first | (with_reducible exact Below.refl _ _) | (with_reducible assumption) | (with_reducible refine below_drewN ?_ _) | (with_reducible refine below_new ?_ _) | (with_reducible refine Below.alloc ?_ ?_ _) | (with_reducible refine Below.drew ?_) | (with_reducible refine Below.setCell ?_ ?_ _) | (with_reducible apply below_at; (case k => (with_reducible assumption)); (case hB => omega)) | (with_reducible apply below_on; (with_reducible assumption)) | (go_size; done) | (with_reducible apply size_of)))⟩
    · have hki : ¬ ((k : Int) < zs.length) := by omega
      clear hlt
      go_wp2_with (first | (go_at_call 16; refine (alive _).mono ?_; rintro e w7 ⟨rfl, hb7⟩))
      go_ret
      exact ⟨rfl, by have := HW.out; (repeat' (first | (with_reducible exact Below.refl _ _) | (with_reducible assumption) | (with_reducible refine below_drewN ?_ _) | (with_reducible refine below_new ?_ _) | (with_reducible refine Below.alloc ?_ ?_ _) | (with_reducible refine Below.drew ?_) | (with_reducible refine Below.setCell ?_ ?_ _) | (with_reducible apply below_at; (case k => (with_reducible assumption)); (case hB => omega)) | (with_reducible apply below_on; (with_reducible assumption)) | (go_size; done) | (with_reducible apply size_of)))⟩
theorem mean (lim s : Int) (C : Option Addr) (len cap : Nat) (z : List Int) (w : World) (_ : -9223372036854775808 ≤ lim) (_ : lim ≤ 9223372036854775807) (s0 : 0 ≤ s) (s1 : s ≤ 255) (hr : IsRow .u8 w C len cap z) :
    Calls Try.prog 8 #[.int .i64 lim, .int .u8 s, .slice C len cap] w fun e w' => e = .returned (.bool true) ∧ Below w.heap.size w w' := by
  obtain ⟨hh, hlen, hm, hw⟩ := has_of_row hr
  have hz : ∀ z_1 ∈ z.take len, 0 ≤ z_1 ∧ z_1 ≤ 255 := fun x hx => bounds_u8 (hw x hx)
  generalize hzs : z.take len = zs at *
  subst hlen
  unfold maxLen at hm
  have hm' : zs.length ≤ 9223372036854775807 := by omega
  by_cases h1 : lim < 1
  · exact mean_bad lim s C cap zs w s0 s1 hh hz hm' (.inl h1)
  · by_cases h2 : 1000 < lim
    · exact mean_bad lim s C cap zs w s0 s1 hh hz hm' (.inr (.inl ⟨h1, h2⟩))
    · cases h3 : decide (s < 193)
      · exact mean_bad lim s C cap zs w s0 s1 hh hz hm' (.inr (.inr (.inl ⟨h1, h2, h3⟩)))
      · by_cases h4 : (100 : Int) < zs.length
        · exact mean_bad lim s C cap zs w s0 s1 hh hz hm' (.inr (.inr (.inr (.inl ⟨h1, h2, h3, h4⟩))))
        · cases h5 : bitsB zs
          · exact mean_bad lim s C cap zs w s0 s1 hh hz hm' (.inr (.inr (.inr (.inr ⟨h1, h2, h3, h4, h5⟩))))
          · exact mean_main lim s _ C cap zs w s0 (of_decide_eq_true h3) (by omega) (by omega) rfl hh hz (by omega) h5
end Go.Proofs.Ytipbafcjmeibpaa.adL
