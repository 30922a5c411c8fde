/- DecoderRange, by a walk. -/
import Derived.Test.YtckbiielahgliaaDecL4
import Derived.BigRegion
namespace Go.Proofs.Ytckbiielahgliaa.decL
open Go.RowKit Go.Proofs.Ytckbiielahgliaa.base Go.Proofs.Ytckbiielahgliaa.encP Go.Proofs.Ytckbiielahgliaa.encW Go.Proofs.Ytckbiielahgliaa.decP Go.Proofs.Ytckbiielahgliaa.decW
set_option linter.unusedVariables false
set_option linter.unusedSimpArgs false

abbrev ES := Int × Int × List Int
theorem Put_good (y : ES) (A : Option Addr) (n c : Nat) (p : Int) (b : Bool) (w : World) (hg : EGood y) (hA : Has .u8 w A y.2.2) (hn : y.2.2.length = n) (hc : n ≤ c) (hp : pOk p = true) (hl : n ≤ 19996) :
    Calls Try.prog 25 #[.agg #[.int .u32 (y.1), .int .u32 (y.2.1), .slice (A) (n) (c)], .int .i64 p, .bool b] w fun e w' => ∃ A' c', e = .returned (.tuple #[.agg #[.int .u32 ((nxt y p b).1), .int .u32 ((nxt y p b).2.1), .slice (A') ((nxt y p b).2.2.length) (c')], .int .i64 0]) ∧ Has .u8 w' A' (nxt y p b).2.2 ∧ (nxt y p b).2.2.length ≤ c' ∧ Below w.heap.size w w' := by
  obtain ⟨g1, g2, g3, g4⟩ := hg
  have hk := (pu_ok (b := b) g1 g2 g3 hp).2.2.2.2.1
  subst hn
  have hok : encOk y.1 y.2.1 y.2.2.length = true := (encOk_iff _ _ _).2 ⟨g4, g2, by omega⟩
  have he : puE y.1 y.2.1 y.2.2.length p b = 0 := by rw [puE_ok hok hp, if_pos (by omega)]
  have hv := puV_yes he
  refine (Put_any y.1 y.2.1 p b A y.2.2.length c y.2.2 w g1 (by omega) (by omega) g3 hA rfl hc (by omega)).mono ?_
  rintro e w' ⟨A', c', rfl, h1, h2, h3⟩
  rw [hv] at h1 h2
  rw [hv, he]
  exact ⟨A', c', rfl, h1, h2, h3⟩
theorem tied_good {zs : List Int} {s : DS} {y : ES} (h : Tied zs s y) (g : DGood s) : EGood y := by
  obtain ⟨rfl, _⟩ := h
  obtain ⟨g1, g2, g3, g4, _, _⟩ := g
  exact ⟨g1, g2, g3, g4⟩
theorem has_otherE {w : World} {g : Nat} {A B : Option Addr} {a b : Int} {n k : Nat} {zs : List Int} (h : Has .u8 w A zs) (K : Lies (w) (g) 58 [.int .u32 (a), .int .u32 (b), .slice (B) (n) (k)]) (i : Nat) (u : Value) : Has .u8 (w.setCell ⟨g, i, none⟩ u) A zs := by
  rcases h with rfl | ⟨b', off, rfl, hb, hc⟩
  · exact .inl rfl
  · rcases Nat.eq_zero_or_pos zs.length with h0 | hp
    · exact .inl (List.eq_nil_of_length_eq_zero h0)
    · have hne : b' ≠ g := by
        rintro rfl
        have h1 := hc 0 hp
        have h2 := K.cell (off + 0)
        rw [h1] at h2
        match off with
        | 0 => simp at h2
        | 1 => simp at h2
        | 2 => simp at h2
        | k + 3 => simp at h2
      exact Has.set (.inr ⟨b', off, rfl, hb, hc⟩) (p := ⟨g, i, none⟩) (fun a ha => by injection ha with ha; subst ha; exact hne) u
theorem has_store3E {w : World} {g : Nat} {a b a' b' : Int} {A B B' : Option Addr} {n c n' c' : Nat} {zs : List Int} (h : Has .u8 w A zs) (K : Lies (w) (g) 58 [.int .u32 (a), .int .u32 (b), .slice (B) (n) (c)]) :
    Has .u8 (((w.setCell ⟨g, 0, none⟩ (.int .u32 a')).setCell ⟨g, 1, none⟩ (.int .u32 b')).setCell ⟨g, 2, none⟩ (.slice B' n' c')) A zs :=
  has_otherE (has_otherE (has_otherE h K 0 _) (K.set 0 (.int .u32 a')) 1 _) ((K.set 0 (.int .u32 a')).set 1 (.int .u32 b')) 2 _
theorem other5 {w : World} {g h : Nat} {t : TypeId} {cs : List Value} {a' b' c' d' e' : Value} (L : Lies w h t cs) (hne : g ≠ h) :
    Lies (((((w.setCell ⟨g, 0, none⟩ a').setCell ⟨g, 1, none⟩ b').setCell ⟨g, 2, none⟩ c').setCell ⟨g, 3, none⟩ d').setCell ⟨g, 4, none⟩ e') h t cs :=
  ((((L.other (p := ⟨g, 0, none⟩) hne _).other (p := ⟨g, 1, none⟩) hne _).other (p := ⟨g, 2, none⟩) hne _).other (p := ⟨g, 3, none⟩) hne _).other (p := ⟨g, 4, none⟩) hne _
theorem other3 {w : World} {g h : Nat} {t : TypeId} {cs : List Value} {a' b' c' : Value} (L : Lies w h t cs) (hne : g ≠ h) :
    Lies (((w.setCell ⟨g, 0, none⟩ a').setCell ⟨g, 1, none⟩ b').setCell ⟨g, 2, none⟩ c') h t cs :=
  ((L.other (p := ⟨g, 0, none⟩) hne _).other (p := ⟨g, 1, none⟩) hne _).other (p := ⟨g, 2, none⟩) hne _
theorem below_store3 {w w' : World} {B g : Nat} {a' b' c' : Value} (k : Below B w w') (hg : B ≤ g) : Below B w (((w'.setCell ⟨g, 0, none⟩ a').setCell ⟨g, 1, none⟩ b').setCell ⟨g, 2, none⟩ c') :=
  ((k.setCell hg _).setCell hg _).setCell hg _
theorem end_facts {zs : List Int} {s : DS} {y : ES} (hz : InB zs) (hg : DGood s) (ht : Tied zs s y) (hl : y.2.2.length ≤ 240) (hn : zs.length ≤ 60) :
    s = (y.1, y.2.1, win zs y.2.2.length, y.2.2.length + 4) ∧ 0 ≤ y.1 ∧ y.1 ≤ 4294967295 ∧ 0 ≤ y.2.1 ∧ y.2.1 ≤ 4294967295 ∧ 0 ≤ win zs y.2.2.length ∧ win zs y.2.2.length ≤ 4294967295 ∧
      dcV y.1 y.2.1 (win zs y.2.2.length) zs.length ((y.2.2.length : Int) + 4) = 0 ∧ ovV y.1 y.2.1 (win zs y.2.2.length) zs.length ((y.2.2.length : Int) + 4) = (zs.length : Int) - y.2.2.length - 4 := by
  have e := ht.1
  have h2 := hg
  rw [e] at h2
  obtain ⟨w1, w2⟩ := win_bd hz y.2.2.length
  have h4 := good_decOk (n := zs.length) h2 (by omega) (by simp) (by simp; omega)
  obtain ⟨g1, g2, g3, g4, g5, g6⟩ := h2
  simp only at g1 g2 g3 g4 g5 g6
  have e4 : ((y.2.2.length + 4 : Nat) : Int) = (y.2.2.length : Int) + 4 := by omega
  simp only at h4
  rw [e4] at h4
  refine ⟨e, g1, by omega, by omega, g3, w1, w2, ?_, ?_⟩
  · rw [dcV, if_pos h4]
  · rw [ovV, if_pos h4]; omega
theorem range_facts {zs : List Int} {s : DS} {y : ES} {x : Int} (hz : InB zs) (hg : DGood s) (ht : Tied zs s y) (hx : pOk x = true) (hl : y.2.2.length ≤ 240) (hn : zs.length ≤ 60) :
    gnx zs s x = ((nxt y x (sbit s x)).1, (nxt y x (sbit s x)).2.1, win zs (nxt y x (sbit s x)).2.2.length, (nxt y x (sbit s x)).2.2.length + 4) ∧ 0 ≤ (nxt y x (sbit s x)).1 ∧ (nxt y x (sbit s x)).1 ≤ 4294967295 ∧ 0 ≤ (nxt y x (sbit s x)).2.1 ∧ (nxt y x (sbit s x)).2.1 ≤ 4294967295 ∧ 0 ≤ win zs (nxt y x (sbit s x)).2.2.length ∧ win zs (nxt y x (sbit s x)).2.2.length ≤ 4294967295 ∧
      dcV (nxt y x (sbit s x)).1 (nxt y x (sbit s x)).2.1 (win zs (nxt y x (sbit s x)).2.2.length) zs.length (((nxt y x (sbit s x)).2.2.length + 4 : Nat) : Int) = 0 ∧ (nxt y x (sbit s x)).2.2.length ≤ 244 := by
  have h1 := tied_next hz ht hg hx
  have h2 := (gnx_ok hz hg hx).1
  have h3 := (good_nxt (tied_good ht hg) hx (sbit s x)).2
  generalize nxt y x (sbit s x) = y' at *
  have e := h1.1
  rw [e] at h2
  obtain ⟨w1, w2⟩ := win_bd hz y'.2.2.length
  have h4 := good_decOk (n := zs.length) h2 (by omega) (by simp) (by simp; omega)
  obtain ⟨g1, g2, g3, g4, g5, g6⟩ := h2
  simp only at g1 g2 g3 g4 g5 g6
  refine ⟨e, g1, by omega, by omega, g3, w1, w2, ?_, by omega⟩
  simp only at h4
  rw [dcV, if_pos h4]
set_option maxRecDepth 100000 in
set_option maxHeartbeats 4000000 in
theorem range_in (A P : Option Addr) (n c lp cp : Nat) (zs ps : List Int) (w : World) (hA : Has .u8 w A zs) (hn : zs.length = n) (hc : n ≤ c) (hz : InB zs) (hP : Has .i64 w P ps) (el : ps.length = lp) (m1 : n ≤ 60) (m2 : lp ≤ 60) (hr : rnE ps lp = 0) :
    Calls Try.prog 7 #[.slice A n c, .slice P lp cp] w fun e w' => e = .returned (.bool true) ∧ Below w.heap.size w w' := by
  subst hn el
  obtain ⟨_, e2⟩ := rnE_big (by omega) hr
  have HA := Lib.hid hA
  have HP := Lib.hid hP
  have HZ := Lib.hid hz
  have HR := Lib.hid hr
  have E2 := Lib.hid e2
  clear hA hP hz hr e2
  go_enter Try.func7, Try.ntmps7
  go_wp2_with (first | (go_at_call 21; refine (alive _).mono ?_; rintro e w1 ⟨rfl, hb1⟩; have W1 := Lib.hid hb1; clear hb1) | (go_at_call 22; refine (rProbs_any _ _ _ ps.length ps _ (HP.out.below W1.out (Nat.le_refl _)) rfl (by omega) (by omega)).mono ?_; rintro e w' ⟨rfl, rfl⟩; rw [HR.out]))
  refine (New_ok A _ c zs _ (HA.out.below W1.out (Nat.le_refl _)) rfl hc (by omega) HZ.out).mono ?_
  rintro e w2 ⟨A2, c2, rfl, hh2, hc2, hm2, hb2⟩
  have H2 := Lib.hid hh2
  have W2 : Hid (Below w.heap.size w w2) := Lib.hid (by have := W1.out; (repeat' (first | (with_reducible exact Below.refl _ _) | (with_reducible assumption) | (with_reducible refine below_drewN ?_ _) | (with_reducible refine below_new ?_ _) | (with_reducible refine Below.alloc ?_ ?_ _) | (with_reducible refine Below.drew ?_) | (with_reducible refine Below.setCell ?_ ?_ _) | (with_reducible apply below_at; (case k => (with_reducible assumption)); (case hB => omega)) | (with_reducible apply below_on; (with_reducible assumption)) | (go_size; done) | (with_reducible apply size_of))))
  clear hh2 hb2 W1
  go_wp2_with fail
  refine (New_any _).mono ?_
  rintro e w3 ⟨rfl, hb3⟩
  have HX3 : Hid (Lies (w3) (w2.heap.size) 25 [.int .u32 (0), .int .u32 (4294967295), .int .u32 (win zs 0), .slice (A2) (zs.length) (c2), .int .i64 (4)]) := Lib.hid (by (repeat' (first | (with_reducible assumption) | (with_reducible exact Lies.fresh _ _ _) | (with_reducible apply Lies.fresh_at; (first | (with_reducible rfl) | (simp; done))) | (with_reducible refine Lies.drew ?_) | (with_reducible refine Lies.drewN ?_ _) | (with_reducible refine Lies.alloc ?_ _) | (with_reducible apply Lies.past; case hb => (with_reducible assumption)) | (with_reducible apply Lies.keeps; (case k => (with_reducible assumption)); (case ht => decide)) | (with_reducible apply Lies.store3) | (with_reducible apply Lies.other; case hp => (first | omega | (simp; done) | (simp; omega))))))
  have W23 : Hid (Below w2.heap.size w2 w3) := Lib.hid (by (repeat' (first | (with_reducible exact Below.refl _ _) | (with_reducible assumption) | (with_reducible refine below_drewN ?_ _) | (with_reducible refine below_new ?_ _) | (with_reducible refine Below.alloc ?_ ?_ _) | (with_reducible refine Below.drew ?_) | (with_reducible refine Below.setCell ?_ ?_ _) | (with_reducible apply below_at; (case k => (with_reducible assumption)); (case hB => omega)) | (with_reducible apply below_on; (with_reducible assumption)) | (go_size; done) | (with_reducible apply size_of))))
  clear hb3
  go_wp2_with fail
  have hs2 := HX3.out.lt
  have hs0 := W2.out.size
  go_loopw [9] (fun i wr => ∃ (k : Nat) (y : ES) (Ak : Option Addr) (ck : Nat) (Bk : Option Addr) (dk : Nat), k ≤ ps.length ∧ i = .int .i64 k ∧ Tied zs (stD zs (ps.take k) (sd0 zs)) y ∧ y.2.2.length ≤ 4 * k ∧ (Lies (wr) (w2.heap.size) 25 [.int .u32 ((stD zs (ps.take k) (sd0 zs)).1), .int .u32 ((stD zs (ps.take k) (sd0 zs)).2.1), .int .u32 ((stD zs (ps.take k) (sd0 zs)).2.2.1), .slice (Ak) (zs.length) (ck), .int .i64 ((stD zs (ps.take k) (sd0 zs)).2.2.2)]) ∧ Has .u8 wr Ak zs ∧ zs.length ≤ ck ∧ ck ≤ 9223372036854775807 ∧ (Lies (wr) (w3.heap.size) 58 [.int .u32 (y.1), .int .u32 (y.2.1), .slice (Bk) (y.2.2.length) (dk)]) ∧ Has .u8 wr Bk y.2.2 ∧ y.2.2.length ≤ dk ∧ Below w2.heap.size w2 wr) (fun i _ => ps.length - (intOf i).toNat)
  case atStart =>
    exact ⟨0, s0, A2, c2, none, 0, by omega, rfl, tied_0 zs, by simp [s0], HX3.out.alloc _, H2.out.below (by have := W23.out; (repeat' (first | (with_reducible exact Below.refl _ _) | (with_reducible assumption) | (with_reducible refine below_drewN ?_ _) | (with_reducible refine below_new ?_ _) | (with_reducible refine Below.alloc ?_ ?_ _) | (with_reducible refine Below.drew ?_) | (with_reducible refine Below.setCell ?_ ?_ _) | (with_reducible apply below_at; (case k => (with_reducible assumption)); (case hB => omega)) | (with_reducible apply below_on; (with_reducible assumption)) | (go_size; done) | (with_reducible apply size_of)))) (Nat.le_refl _), hc2, hm2, Lies.fresh _ _ _, .inl rfl, by simp [s0], by have := W23.out; (repeat' (first | (with_reducible exact Below.refl _ _) | (with_reducible assumption) | (with_reducible refine below_drewN ?_ _) | (with_reducible refine below_new ?_ _) | (with_reducible refine Below.alloc ?_ ?_ _) | (with_reducible refine Below.drew ?_) | (with_reducible refine Below.setCell ?_ ?_ _) | (with_reducible apply below_at; (case k => (with_reducible assumption)); (case hB => omega)) | (with_reducible apply below_on; (with_reducible assumption)) | (go_size; done) | (with_reducible apply size_of)))⟩
  case round =>
    obtain ⟨k, y, Ak, ck, Bk, dk, hk, rfl, ht, hyl, K, H, hck, hckm, L, G, hdk, W⟩ := hrel
    have hall : (ps.take k).all pOk = true := List.all_eq_true.2 fun z hz => List.all_eq_true.1 E2.out z (List.mem_of_mem_take hz)
    obtain ⟨hgd, hg4, hgl⟩ := stD_good HZ.out ps k hk hall
    have HGD := Lib.hid hgd
    have HTI := Lib.hid ht
    have HEG := Lib.hid (tied_good ht hgd)
    have HK := Lib.hid K
    have HH := Lib.hid H
    have HL := Lib.hid L
    have HG := Lib.hid G
    have HW := Lib.hid W
    have HWW := Lib.hid (W2.out.trans (W.mono hs0))
    obtain ⟨⟨p0, p1, p2, p3, p4⟩, f0, f1, f2, f3, f4⟩ := five K
    obtain ⟨l0, l1, l2, m0, m1', m2'⟩ := L.three
    have lt1 := K.lt
    have lt2 := L.lt
    clear hall hgd ht K H L G W
    by_cases hlt : k < ps.length
    · obtain ⟨b, off, rfl, hbl, hcl⟩ := has_some HP.out (by omega)
      have hcell : wr.cell? ⟨b, off + k, none⟩ = some (.int .i64 (ps.getD k 0)) := by rw [(bcell HWW.out).1 b _ hbl]; exact hcl k hlt
      have HS := Lib.hid (stD_snoc zs ps (sd0 zs) k hlt)
      have HX := Lib.hid (all_getD E2.out hlt)
      have HPC : Hid (∀ x : World, Below wr.heap.size wr x → x.cell? ⟨b, off + k, none⟩ = some (.int .i64 (ps.getD k 0))) := Lib.hid (fun x hx => by rw [(bcell hx).1 b _ (by have := HWW.out.size; omega)]; exact hcell)
      have hbw : b < wr.heap.size := by have := HWW.out.size; omega
      have i1 : (0 : Int) ≤ (k : Int) := by omega
      have i2 : (k : Int) < ps.length := by omega
      clear hcl
      generalize ps.getD k 0 = x at *
      generalize stD zs (ps.take k) (sd0 zs) = s at *
      go_upto_region 11 with fail
      go_cut [10, 11, 12] (fun s15 s16 s17 wx => ∃ (g2 : Nat) (A5 : Option Addr) (c5 : Nat), s15 = .pointer (some ⟨g2, 0, none⟩) ∧ s16 = .bool (sbit s x) ∧ s17 = .int .i64 0 ∧ (Lies (wx) (g2) 25 [.int .u32 ((gnx zs s x).1), .int .u32 ((gnx zs s x).2.1), .int .u32 ((gnx zs s x).2.2.1), .slice (A5) (zs.length) (c5), .int .i64 ((gnx zs s x).2.2.2)]) ∧ (Lies (wx) (w2.heap.size) 25 [.int .u32 ((s).1), .int .u32 ((s).2.1), .int .u32 ((s).2.2.1), .slice (Ak) (zs.length) (ck), .int .i64 ((s).2.2.2)]) ∧ (Lies (wx) (w3.heap.size) 58 [.int .u32 (y.1), .int .u32 (y.2.1), .slice (Bk) (y.2.2.length) (dk)]) ∧ Has .u8 wx A5 zs ∧ zs.length ≤ c5 ∧ c5 ≤ 9223372036854775807 ∧ Below wr.heap.size wr wx ∧ wr.heap.size ≤ g2)
      case first =>
        go_region_law (first | (go_simp; go_at_call 11; refine (Get_good s Ak zs.length ck x zs _ HGD.out hg4 (by omega) HX.out (HH.out.below (by (repeat' (first | (with_reducible exact Below.refl _ _) | (with_reducible assumption) | (with_reducible refine below_drewN ?_ _) | (with_reducible refine below_new ?_ _) | (with_reducible refine Below.alloc ?_ ?_ _) | (with_reducible refine Below.drew ?_) | (with_reducible refine Below.setCell ?_ ?_ _) | (with_reducible apply below_at; (case k => (with_reducible assumption)); (case hB => omega)) | (with_reducible apply below_on; (with_reducible assumption)) | (go_size; done) | (with_reducible apply size_of)))) (Nat.le_refl _)) rfl hck (by omega) HZ.out).mono ?_; rintro e w6 ⟨A6, c6, rfl, hh6, hc6, hm6, hb6⟩; try (refine lay (P := Lies (w6) (wr.heap.size) 25 [.int .u32 (0), .int .u32 (0), .int .u32 (0), .slice (none) (0) (0), .int .i64 (0)]) ?_ ?_; (focus ((repeat' (first | (with_reducible assumption) | (with_reducible exact Lies.fresh _ _ _) | (with_reducible apply Lies.fresh_at; (first | (with_reducible rfl) | (simp; done))) | (with_reducible refine Lies.drew ?_) | (with_reducible refine Lies.drewN ?_ _) | (with_reducible refine Lies.alloc ?_ _) | (with_reducible apply Lies.past; case hb => (with_reducible assumption)) | (with_reducible apply Lies.keeps; (case k => (with_reducible assumption)); (case ht => decide)) | (with_reducible apply Lies.store3) | (with_reducible apply Lies.other; case hp => (first | omega | (simp; done) | (simp; omega))))); done)); intro L9; obtain ⟨⟨b0, b1, b2, b3, b4⟩, g0, g1, g2, g3, g4⟩ := five L9; have lb := L9.lt)))
        all_goals
          go_wp2_with fail
          go_meet
          have hs6 := hb6.size
          simp at hs6
          first
          | (refine ⟨w6.heap.size, A6, c6, ?_, ?_, ?_, ?_, ?_, ?_, ?_, hc6, hm6, ?_, ?_⟩; (with_reducible rfl); exact rfl; exact rfl; exact Lies.fresh _ _ _; (focus (have := HK.out; (repeat' (first | (with_reducible assumption) | (with_reducible exact Lies.fresh _ _ _) | (with_reducible apply Lies.fresh_at; (first | (with_reducible rfl) | (simp; done))) | (with_reducible refine Lies.drew ?_) | (with_reducible refine Lies.drewN ?_ _) | (with_reducible refine Lies.alloc ?_ _) | (with_reducible apply Lies.past; case hb => (with_reducible assumption)) | (with_reducible apply Lies.keeps; (case k => (with_reducible assumption)); (case ht => decide)) | (with_reducible apply Lies.store3) | (with_reducible apply Lies.other; case hp => (first | omega | (simp; done) | (simp; omega))))); done)); (focus (have := HL.out; (repeat' (first | (with_reducible assumption) | (with_reducible exact Lies.fresh _ _ _) | (with_reducible apply Lies.fresh_at; (first | (with_reducible rfl) | (simp; done))) | (with_reducible refine Lies.drew ?_) | (with_reducible refine Lies.drewN ?_ _) | (with_reducible refine Lies.alloc ?_ _) | (with_reducible apply Lies.past; case hb => (with_reducible assumption)) | (with_reducible apply Lies.keeps; (case k => (with_reducible assumption)); (case ht => decide)) | (with_reducible apply Lies.store3) | (with_reducible apply Lies.other; case hp => (first | omega | (simp; done) | (simp; omega))))); done)); exact hh6.below ((Below.refl _ _).alloc (Nat.le_refl _) _) (Nat.le_refl _); (focus ((repeat' (first | (with_reducible exact Below.refl _ _) | (with_reducible assumption) | (with_reducible refine below_drewN ?_ _) | (with_reducible refine below_new ?_ _) | (with_reducible refine Below.alloc ?_ ?_ _) | (with_reducible refine Below.drew ?_) | (with_reducible refine Below.setCell ?_ ?_ _) | (with_reducible apply below_at; (case k => (with_reducible assumption)); (case hB => omega)) | (with_reducible apply below_on; (with_reducible assumption)) | (go_size; done) | (with_reducible apply size_of))); done)); omega)
          | (refine ⟨wr.heap.size, A6, c6, ?_, ?_, ?_, ?_, ?_, ?_, ?_, hc6, hm6, ?_, ?_⟩; (with_reducible rfl); exact rfl; exact rfl; exact store5 L9; (focus (have := HK.out; (repeat' (first | (with_reducible assumption) | (with_reducible exact Lies.fresh _ _ _) | (with_reducible apply Lies.fresh_at; (first | (with_reducible rfl) | (simp; done))) | (with_reducible refine Lies.drew ?_) | (with_reducible refine Lies.drewN ?_ _) | (with_reducible refine Lies.alloc ?_ _) | (with_reducible apply Lies.past; case hb => (with_reducible assumption)) | (with_reducible apply Lies.keeps; (case k => (with_reducible assumption)); (case ht => decide)) | (with_reducible apply Lies.store3) | (with_reducible apply Lies.other; case hp => (first | omega | (simp; done) | (simp; omega))))); done)); (focus (have := HL.out; (repeat' (first | (with_reducible assumption) | (with_reducible exact Lies.fresh _ _ _) | (with_reducible apply Lies.fresh_at; (first | (with_reducible rfl) | (simp; done))) | (with_reducible refine Lies.drew ?_) | (with_reducible refine Lies.drewN ?_ _) | (with_reducible refine Lies.alloc ?_ _) | (with_reducible apply Lies.past; case hb => (with_reducible assumption)) | (with_reducible apply Lies.keeps; (case k => (with_reducible assumption)); (case ht => decide)) | (with_reducible apply Lies.store3) | (with_reducible apply Lies.other; case hp => (first | omega | (simp; done) | (simp; omega))))); done)); exact has_off5 hh6 L9; exact below_store5 (by (repeat' (first | (with_reducible exact Below.refl _ _) | (with_reducible assumption) | (with_reducible refine below_drewN ?_ _) | (with_reducible refine below_new ?_ _) | (with_reducible refine Below.alloc ?_ ?_ _) | (with_reducible refine Below.drew ?_) | (with_reducible refine Below.setCell ?_ ?_ _) | (with_reducible apply below_at; (case k => (with_reducible assumption)); (case hB => omega)) | (with_reducible apply below_on; (with_reducible assumption)) | (go_size; done) | (with_reducible apply size_of)))) (by omega); omega)
      case rest =>
        obtain ⟨g2, A5, c5, rfl, rfl, rfl, K5, K6, L5, H5, hc5, hm5, W5, hg2⟩ := hcut
        have hcell2 := HPC.out _ W5
        have HT2 := Lib.hid (tied_next HZ.out HTI.out HGD.out HX.out)
        have HL4 := Lib.hid ((good_nxt HEG.out HX.out (sbit s x)).2)
        have HRF := Lib.hid (range_facts HZ.out HGD.out HTI.out HX.out (by omega) m1)
        have HK5 := Lib.hid K5
        have HK6 := Lib.hid K6
        have HL5 := Lib.hid L5
        have HH5 := Lib.hid H5
        have HW5 := Lib.hid W5
        have HG5 := Lib.hid (HG.out.below W5 (Nat.le_refl _))
        clear p0 p1 p2 p3 p4 f0 f1 f2 f3 f4 hcell l0 l1 l2 m0 m1' m2'
        obtain ⟨⟨p0, p1, p2, p3, p4⟩, f0, f1, f2, f3, f4⟩ := five K5
        obtain ⟨⟨q0, q1, q2, q3, q4⟩, k0, k1, k2, k3, k4⟩ := five K6
        obtain ⟨l0, l1, l2, m0, m1', m2'⟩ := L5.three
        have lt5 := K5.lt
        have lt6 := K6.lt
        have lt7 := L5.lt
        have hbw2 : b < wc.heap.size := by have := W5.size; omega
        clear K5 K6 L5 H5 W5
        generalize hy' : nxt y x (sbit s x) = y' at *
        have HY := Lib.hid hy'
        clear hy'
        generalize wc = wd at *
        go_upto_region 12 with fail
        go_cut [13, 14] (fun s13 s14 wx => ∃ (g3 : Nat) (B6 : Option Addr) (d6 : Nat), s13 = .pointer (some ⟨g3, 0, none⟩) ∧ s14 = .int .i64 0 ∧ (Lies (wx) (g3) 58 [.int .u32 (y'.1), .int .u32 (y'.2.1), .slice (B6) (y'.2.2.length) (d6)]) ∧ (Lies (wx) (g2) 25 [.int .u32 ((gnx zs s x).1), .int .u32 ((gnx zs s x).2.1), .int .u32 ((gnx zs s x).2.2.1), .slice (A5) (zs.length) (c5), .int .i64 ((gnx zs s x).2.2.2)]) ∧ (Lies (wx) (w2.heap.size) 25 [.int .u32 ((s).1), .int .u32 ((s).2.1), .int .u32 ((s).2.2.1), .slice (Ak) (zs.length) (ck), .int .i64 ((s).2.2.2)]) ∧ (Lies (wx) (w3.heap.size) 58 [.int .u32 (y.1), .int .u32 (y.2.1), .slice (Bk) (y.2.2.length) (dk)]) ∧ Has .u8 wx A5 zs ∧ Has .u8 wx B6 y'.2.2 ∧ y'.2.2.length ≤ d6 ∧ Below wd.heap.size wd wx ∧ wd.heap.size ≤ g3)
        case first =>
          go_region_law (first | (go_simp; go_at_call 25; refine (Put_good y Bk y.2.2.length dk x (sbit s x) _ HEG.out (HG5.out.below (by (repeat' (first | (with_reducible exact Below.refl _ _) | (with_reducible assumption) | (with_reducible refine below_drewN ?_ _) | (with_reducible refine below_new ?_ _) | (with_reducible refine Below.alloc ?_ ?_ _) | (with_reducible refine Below.drew ?_) | (with_reducible refine Below.setCell ?_ ?_ _) | (with_reducible apply below_at; (case k => (with_reducible assumption)); (case hB => omega)) | (with_reducible apply below_on; (with_reducible assumption)) | (go_size; done) | (with_reducible apply size_of)))) (Nat.le_refl _)) rfl hdk HX.out (by omega)).mono ?_; rintro e w6 ⟨A6, c6, rfl, hh6, hc6, hb6⟩; rw [HY.out] at hh6 hc6; rw [HY.out]; try (refine lay (P := Lies (w6) (wd.heap.size) 58 [.int .u32 (0), .int .u32 (0), .slice (none) (0) (0)]) ?_ ?_; (focus ((repeat' (first | (with_reducible assumption) | (with_reducible exact Lies.fresh _ _ _) | (with_reducible apply Lies.fresh_at; (first | (with_reducible rfl) | (simp; done))) | (with_reducible refine Lies.drew ?_) | (with_reducible refine Lies.drewN ?_ _) | (with_reducible refine Lies.alloc ?_ _) | (with_reducible apply Lies.past; case hb => (with_reducible assumption)) | (with_reducible apply Lies.keeps; (case k => (with_reducible assumption)); (case ht => decide)) | (with_reducible apply Lies.store3) | (with_reducible apply Lies.other; case hp => (first | omega | (simp; done) | (simp; omega))))); done)); intro L9; obtain ⟨b0, b1, b2, g0, g1, g9⟩ := L9.three; have lb := L9.lt)))
          all_goals
            go_wp2_with fail
            go_meet
            have hs6 := hb6.size
            simp at hs6
            first
            | (refine ⟨w6.heap.size, A6, c6, ?_, ?_, ?_, ?_, ?_, ?_, ?_, ?_, hc6, ?_, ?_⟩; (with_reducible rfl); exact rfl; exact Lies.fresh _ _ _; (focus (have := HK5.out; (repeat' (first | (with_reducible assumption) | (with_reducible exact Lies.fresh _ _ _) | (with_reducible apply Lies.fresh_at; (first | (with_reducible rfl) | (simp; done))) | (with_reducible refine Lies.drew ?_) | (with_reducible refine Lies.drewN ?_ _) | (with_reducible refine Lies.alloc ?_ _) | (with_reducible apply Lies.past; case hb => (with_reducible assumption)) | (with_reducible apply Lies.keeps; (case k => (with_reducible assumption)); (case ht => decide)) | (with_reducible apply Lies.store3) | (with_reducible apply Lies.other; case hp => (first | omega | (simp; done) | (simp; omega))))); done)); (focus (have := HK6.out; (repeat' (first | (with_reducible assumption) | (with_reducible exact Lies.fresh _ _ _) | (with_reducible apply Lies.fresh_at; (first | (with_reducible rfl) | (simp; done))) | (with_reducible refine Lies.drew ?_) | (with_reducible refine Lies.drewN ?_ _) | (with_reducible refine Lies.alloc ?_ _) | (with_reducible apply Lies.past; case hb => (with_reducible assumption)) | (with_reducible apply Lies.keeps; (case k => (with_reducible assumption)); (case ht => decide)) | (with_reducible apply Lies.store3) | (with_reducible apply Lies.other; case hp => (first | omega | (simp; done) | (simp; omega))))); done)); (focus (have := HL5.out; (repeat' (first | (with_reducible assumption) | (with_reducible exact Lies.fresh _ _ _) | (with_reducible apply Lies.fresh_at; (first | (with_reducible rfl) | (simp; done))) | (with_reducible refine Lies.drew ?_) | (with_reducible refine Lies.drewN ?_ _) | (with_reducible refine Lies.alloc ?_ _) | (with_reducible apply Lies.past; case hb => (with_reducible assumption)) | (with_reducible apply Lies.keeps; (case k => (with_reducible assumption)); (case ht => decide)) | (with_reducible apply Lies.store3) | (with_reducible apply Lies.other; case hp => (first | omega | (simp; done) | (simp; omega))))); done)); exact HH5.out.below (by (repeat' (first | (with_reducible exact Below.refl _ _) | (with_reducible assumption) | (with_reducible refine below_drewN ?_ _) | (with_reducible refine below_new ?_ _) | (with_reducible refine Below.alloc ?_ ?_ _) | (with_reducible refine Below.drew ?_) | (with_reducible refine Below.setCell ?_ ?_ _) | (with_reducible apply below_at; (case k => (with_reducible assumption)); (case hB => omega)) | (with_reducible apply below_on; (with_reducible assumption)) | (go_size; done) | (with_reducible apply size_of)))) (Nat.le_refl _); exact hh6.below ((Below.refl _ _).alloc (Nat.le_refl _) _) (Nat.le_refl _); (focus ((repeat' (first | (with_reducible exact Below.refl _ _) | (with_reducible assumption) | (with_reducible refine below_drewN ?_ _) | (with_reducible refine below_new ?_ _) | (with_reducible refine Below.alloc ?_ ?_ _) | (with_reducible refine Below.drew ?_) | (with_reducible refine Below.setCell ?_ ?_ _) | (with_reducible apply below_at; (case k => (with_reducible assumption)); (case hB => omega)) | (with_reducible apply below_on; (with_reducible assumption)) | (go_size; done) | (with_reducible apply size_of))); done)); omega)
            | (refine ⟨wd.heap.size, A6, c6, ?_, ?_, ?_, ?_, ?_, ?_, ?_, ?_, hc6, ?_, ?_⟩; (with_reducible rfl); exact rfl; exact Lies.store3 L9; (focus (have := HK5.out; (repeat' (first | (with_reducible assumption) | (with_reducible exact Lies.fresh _ _ _) | (with_reducible apply Lies.fresh_at; (first | (with_reducible rfl) | (simp; done))) | (with_reducible refine Lies.drew ?_) | (with_reducible refine Lies.drewN ?_ _) | (with_reducible refine Lies.alloc ?_ _) | (with_reducible apply Lies.past; case hb => (with_reducible assumption)) | (with_reducible apply Lies.keeps; (case k => (with_reducible assumption)); (case ht => decide)) | (with_reducible apply Lies.store3) | (with_reducible apply Lies.other; case hp => (first | omega | (simp; done) | (simp; omega))))); done)); (focus (have := HK6.out; (repeat' (first | (with_reducible assumption) | (with_reducible exact Lies.fresh _ _ _) | (with_reducible apply Lies.fresh_at; (first | (with_reducible rfl) | (simp; done))) | (with_reducible refine Lies.drew ?_) | (with_reducible refine Lies.drewN ?_ _) | (with_reducible refine Lies.alloc ?_ _) | (with_reducible apply Lies.past; case hb => (with_reducible assumption)) | (with_reducible apply Lies.keeps; (case k => (with_reducible assumption)); (case ht => decide)) | (with_reducible apply Lies.store3) | (with_reducible apply Lies.other; case hp => (first | omega | (simp; done) | (simp; omega))))); done)); (focus (have := HL5.out; (repeat' (first | (with_reducible assumption) | (with_reducible exact Lies.fresh _ _ _) | (with_reducible apply Lies.fresh_at; (first | (with_reducible rfl) | (simp; done))) | (with_reducible refine Lies.drew ?_) | (with_reducible refine Lies.drewN ?_ _) | (with_reducible refine Lies.alloc ?_ _) | (with_reducible apply Lies.past; case hb => (with_reducible assumption)) | (with_reducible apply Lies.keeps; (case k => (with_reducible assumption)); (case ht => decide)) | (with_reducible apply Lies.store3) | (with_reducible apply Lies.other; case hp => (first | omega | (simp; done) | (simp; omega))))); done)); exact has_store3E (HH5.out.below (w' := w6) (B := wd.heap.size) (by (repeat' (first | (with_reducible exact Below.refl _ _) | (with_reducible assumption) | (with_reducible refine below_drewN ?_ _) | (with_reducible refine below_new ?_ _) | (with_reducible refine Below.alloc ?_ ?_ _) | (with_reducible refine Below.drew ?_) | (with_reducible refine Below.setCell ?_ ?_ _) | (with_reducible apply below_at; (case k => (with_reducible assumption)); (case hB => omega)) | (with_reducible apply below_on; (with_reducible assumption)) | (go_size; done) | (with_reducible apply size_of)))) (Nat.le_refl _)) L9; exact has_store3E hh6 L9; (focus ((repeat' (first | (with_reducible exact Below.refl _ _) | (with_reducible assumption) | (with_reducible refine below_drewN ?_ _) | (with_reducible refine below_new ?_ _) | (with_reducible refine Below.alloc ?_ ?_ _) | (with_reducible refine Below.drew ?_) | (with_reducible refine Below.setCell ?_ ?_ _) | (with_reducible apply below_at; (case k => (with_reducible assumption)); (case hB => omega)) | (with_reducible apply below_on; (with_reducible assumption)) | (go_size; done) | (with_reducible apply size_of))); done)); omega)
        case rest =>
          obtain ⟨g3, B6, d6, rfl, rfl, L7, K7, K8, L8, H7, G7, hd6, W7, hg3⟩ := hcut
          obtain ⟨e1, b1, b2, b3, b4, b5, b6, b7, b8⟩ := HRF.out
          have HE1 := Lib.hid e1
          rw [e1] at K7
          simp only at K7
          have e4 : ((y'.2.2.length + 4 : Nat) : Int) = (y'.2.2.length : Int) + 4 := by omega
          rw [e4] at K7 b7
          have HD := Lib.hid b7
          have HK7 := Lib.hid K7
          have HL7 := Lib.hid L7
          have HK8 := Lib.hid K8
          have HL8 := Lib.hid L8
          have HH7 := Lib.hid H7
          have HG7 := Lib.hid G7
          have HW7 := Lib.hid ((HW5.out.trans (W7.mono HW5.out.size)).mono (Nat.le_refl _))
          clear p0 p1 p2 p3 p4 f0 f1 f2 f3 f4 q0 q1 q2 q3 q4 k0 k1 k2 k3 k4 l0 l1 l2 m0 m1' m2' hcell2
          obtain ⟨⟨p0, p1, p2, p3, p4⟩, f0, f1, f2, f3, f4⟩ := five K7
          clear e1 e4 b7 K7 L7 K8 L8 H7 G7 W7
          have t1 : (y'.1 == y'.1) = true := by simp
          have t2 : (y'.1 != y'.1) = false := by simp
          have t3 : (y'.2.1 == y'.2.1) = true := by simp
          have t4 : (y'.2.1 != y'.2.1) = false := by simp
          have t5 : ((y'.2.2.length : Int) + 4 == (y'.2.2.length : Int) + 4) = true := by simp
          have t6 : ((y'.2.2.length : Int) + 4 != (y'.2.2.length : Int) + 4) = false := by simp
          go_wp2_with (go_at_call 17; refine (rCheckD_any _ _ _ _ _ _ _ _ b1 b2 b3 b4 b5 b6 (by omega)).mono ?_; rintro e w8 ⟨rfl, hb8⟩; rw [HD.out]; have K9 := HK7.out.past hb8; have L9 := HL7.out.past hb8; have K10 := HK8.out.past hb8; have L10 := HL8.out.past hb8; have HK9 := Lib.hid K9; have HL9 := Lib.hid L9; have HK10 := Lib.hid K10; have HL10 := Lib.hid L10; have HB8 := Lib.hid hb8; clear p0 p1 p2 p3 p4 f0 f1 f2 f3 f4 hb8; obtain ⟨⟨p0, p1, p2, p3, p4⟩, f0, f1, f2, f3, f4⟩ := five K9; obtain ⟨q0, q1, q2, k0, k1, k2⟩ := L9.three; obtain ⟨⟨r0, r1, r2, r3, r4⟩, h0, h1, h2, h3, h4⟩ := five K10; obtain ⟨l0, l1, l2, m0, m1', m2'⟩ := L10.three; have lx := K10.lt; have ly := L10.lt; clear K9 L9 K10 L10)
          go_region
          all_goals
            go_wp2
            have hne : w2.heap.size ≠ w3.heap.size := by omega
            have B8 : Below w2.heap.size w2 w8 := HW.out.trans ((HW7.out.trans (HB8.out.mono (by have := HW7.out.size; omega))).mono (by have := HW.out.size; omega))
            have HA8 := HH7.out.below HB8.out (Nat.le_refl _)
            have HG8 := HG7.out.below HB8.out (Nat.le_refl _)
            have e4 : ((y'.2.2.length + 4 : Nat) : Int) = (y'.2.2.length : Int) + 4 := by omega
            go_roundw
            case rel =>
              refine ⟨k + 1, y', A5, c5, B6, d6, by omega, by go_num, by rw [HS.out]; exact HT2.out, by have := HL4.out; omega, ?_, ?_, hc5, hm5, ?_, ?_, hd6, ?_⟩
              all_goals (try rw [HS.out, HE1.out])
              all_goals (try simp only)
              · try rw [e4]
                first
                | exact (other3 (store5 HK10.out) (Ne.symm hne)).drew
                | exact (store5 (other3 HK10.out (Ne.symm hne))).drew
              · first
                | exact (has_store3E (has_off5 HA8 HK10.out) (other5 HL10.out hne)).below ((Below.refl _ _).drew) (Nat.le_refl _)
                | exact (has_off5 (has_store3E HA8 HL10.out) (other3 HK10.out (Ne.symm hne))).below ((Below.refl _ _).drew) (Nat.le_refl _)
              · first
                | exact (Lies.store3 (other5 HL10.out hne)).drew
                | exact (other5 (Lies.store3 HL10.out) hne).drew
              · first
                | exact (has_store3E (has_off5 HG8 HK10.out) (other5 HL10.out hne)).below ((Below.refl _ _).drew) (Nat.le_refl _)
                | exact (has_off5 (has_store3E HG8 HL10.out) (other3 HK10.out (Ne.symm hne))).below ((Below.refl _ _).drew) (Nat.le_refl _)
              · first
                | exact (below_store3 (below_store5 B8 (Nat.le_refl _)) (by omega)).drew
                | exact (below_store5 (below_store3 B8 (by omega)) (Nat.le_refl _)).drew
            case measure => simp [intOf]; omega
    · have hke : k = ps.length := by omega
      have HEF := Lib.hid (end_facts HZ.out HGD.out HTI.out (by omega) m1)
      have HTB := Lib.hid (HTI.out.2)
      obtain ⟨e1, b1, b2, b3, b4, b5, b6, b7, b8⟩ := HEF.out
      have K := HK.out
      rw [e1] at K
      simp only at K
      have e4 : ((y.2.2.length + 4 : Nat) : Int) = (y.2.2.length : Int) + 4 := by omega
      rw [e4] at K
      have HK7 := Lib.hid K
      have HD := Lib.hid b7
      have HOV := Lib.hid b8
      clear p0 p1 p2 p3 p4 f0 f1 f2 f3 f4 hke e4 b7 b8 e1
      obtain ⟨⟨p0, p1, p2, p3, p4⟩, f0, f1, f2, f3, f4⟩ := five K
      clear K
      have t1 : ((zs.length : Int) - y.2.2.length - 4 == (zs.length : Int) - y.2.2.length - 4) = true := by simp
      have t2 : ((zs.length : Int) - y.2.2.length - 4 != (zs.length : Int) - y.2.2.length - 4) = false := by simp
      go_wp2_with fail
      refine (Over_any y.1 y.2.1 (win zs y.2.2.length) Ak zs.length ck ((y.2.2.length : Int) + 4) _ b1 b2 b3 b4 b5 b6 (by omega)).mono ?_
      rintro e w9 ⟨rfl, hb9⟩
      rw [HD.out, HOV.out]
      have HL9 := Lib.hid (HL.out.past hb9)
      have HG9 := Lib.hid (HG.out.below hb9 (Nat.le_refl _))
      have HW9 : Hid (Below w.heap.size w w9) := Lib.hid (by have := HWW.out; (repeat' (first | (with_reducible exact Below.refl _ _) | (with_reducible assumption) | (with_reducible refine below_drewN ?_ _) | (with_reducible refine below_new ?_ _) | (with_reducible refine Below.alloc ?_ ?_ _) | (with_reducible refine Below.drew ?_) | (with_reducible refine Below.setCell ?_ ?_ _) | (with_reducible apply below_at; (case k => (with_reducible assumption)); (case hB => omega)) | (with_reducible apply below_on; (with_reducible assumption)) | (go_size; done) | (with_reducible apply size_of))))
      have ly := HL9.out.lt
      clear p0 p1 p2 p3 p4 f0 f1 f2 f3 f4 l0 l1 l2 m0 m1' m2' hb9
      obtain ⟨l0, l1, l2, m0, m1', m2'⟩ := HL9.out.three
      go_wp2
      have hyl2 : y.2.2.length ≤ 240 := by omega
      go_loopw [17] (fun i wx => ∃ j : Nat, j ≤ y.2.2.length ∧ i = .int .i64 j ∧ Below w9.heap.size w9 wx) (fun i _ => y.2.2.length - (intOf i).toNat)
      case atStart => exact ⟨0, by omega, rfl, Below.refl _ _⟩
      case round =>
        obtain ⟨j, hj, rfl, W⟩ := hrel
        have HWJ := Lib.hid W
        have HLJ := Lib.hid (HL9.out.past W)
        clear l0 l1 l2 m0 m1' m2'
        obtain ⟨l0, l1, l2, m0, m1', m2'⟩ := HLJ.out.three
        clear W
        by_cases hlt2 : j < y.2.2.length
        · obtain ⟨b3', off3, rfl, hbl3, hcl3⟩ := has_some HG9.out (by omega)
          have hcell3 : wr.cell? ⟨b3', off3 + j, none⟩ = some (.int .u8 (byt zs j)) := by rw [(bcell HWJ.out).1 b3' _ hbl3, ← HTB.out j hlt2]; exact hcl3 j hlt2
          obtain ⟨v0, v1⟩ := byt_bd HZ.out j
          have u1 : (byt zs j == byt zs j) = true := by simp
          have u2 : (byt zs j != byt zs j) = false := by simp
          have i1 : (0 : Int) ≤ (j : Int) := by omega
          have i2 : (j : Int) < y.2.2.length := by omega
          clear hcl3
          go_wp2
          go_quiet ((go_at_call 26; exact Calls.quiet_of_same (turned (rByte_any A zs.length c j zs _ (HA.out.below (by have := HW9.out; have := HWJ.out; (repeat' (first | (with_reducible exact Below.refl _ _) | (with_reducible assumption) | (with_reducible refine below_drewN ?_ _) | (with_reducible refine below_new ?_ _) | (with_reducible refine Below.alloc ?_ ?_ _) | (with_reducible refine Below.drew ?_) | (with_reducible refine Below.setCell ?_ ?_ _) | (with_reducible apply below_at; (case k => (with_reducible assumption)); (case hB => omega)) | (with_reducible apply below_on; (with_reducible assumption)) | (go_size; done) | (with_reducible apply size_of)))) (Nat.le_refl _)) rfl (by omega) (by omega)))))
          go_wp2
          go_roundw
          case rel => exact ⟨j + 1, by omega, by go_num, by have := HWJ.out; (repeat' (first | (with_reducible exact Below.refl _ _) | (with_reducible assumption) | (with_reducible refine below_drewN ?_ _) | (with_reducible refine below_new ?_ _) | (with_reducible refine Below.alloc ?_ ?_ _) | (with_reducible refine Below.drew ?_) | (with_reducible refine Below.setCell ?_ ?_ _) | (with_reducible apply below_at; (case k => (with_reducible assumption)); (case hB => omega)) | (with_reducible apply below_on; (with_reducible assumption)) | (go_size; done) | (with_reducible apply size_of)))⟩
          case measure => simp [intOf]; omega
        · go_wp2
          go_ret
          exact ⟨rfl, by have := HW9.out; have := HWJ.out; (repeat' (first | (with_reducible exact Below.refl _ _) | (with_reducible assumption) | (with_reducible refine below_drewN ?_ _) | (with_reducible refine below_new ?_ _) | (with_reducible refine Below.alloc ?_ ?_ _) | (with_reducible refine Below.drew ?_) | (with_reducible refine Below.setCell ?_ ?_ _) | (with_reducible apply below_at; (case k => (with_reducible assumption)); (case hB => omega)) | (with_reducible apply below_on; (with_reducible assumption)) | (go_size; done) | (with_reducible apply size_of)))⟩
set_option maxRecDepth 100000 in
set_option maxHeartbeats 2000000 in
theorem range (A : Option Addr) (n c : Nat) (zz : List Int) (P : Option Addr) (lp cp : Nat) (pz : List Int) (w : World) (hA : IsRow .u8 w A n c zz) (hP : IsRow .i64 w P lp cp pz) :
    Calls Try.prog 7 #[.slice A n c, .slice P lp cp] w fun e w' => e = .returned (.bool true) ∧ Below w.heap.size w w' := by
  obtain ⟨hA1, hA2, hA3, hA4⟩ := has_of_row hA
  obtain ⟨hP1, hP2, hP3, _⟩ := has_of_row hP
  have hc := row_cap hA
  unfold maxLen at hA3 hP3
  have HP := Lib.hid hP1
  have HPL := Lib.hid hP2
  by_cases g1 : n ≤ 60
  · by_cases g2 : lp ≤ 60
    · by_cases g3 : rnE (pz.take lp) lp = 0
      · exact range_in A P n c lp cp _ _ w hA1 hA2 hc (inB_of hA4) hP1 hP2 g1 g2 g3
      · clear hA1 hA2 hP1 hP2 hA hP hA4
        have hne : (rnE (pz.take lp) lp == 0) = false := by simpa using g3
        have hne2 : (rnE (pz.take lp) lp != 0) = true := by simpa using g3
        generalize hr : rnE (pz.take lp) lp = r at *
        have HR := Lib.hid hr
        clear hr
        go_enter Try.func7, Try.ntmps7
        go_wp2_with (first | (go_at_call 21; refine (alive _).mono ?_; rintro e w1 ⟨rfl, hb1⟩; have W1 := Lib.hid hb1; clear hb1) | (go_at_call 22; refine (rProbs_any _ _ _ lp _ _ (HP.out.below W1.out (Nat.le_refl _)) HPL.out (by omega) (by omega)).mono ?_; rintro e w' ⟨rfl, rfl⟩; rw [HR.out]))
        go_ret
        exact ⟨rfl, W1.out⟩
    · clear hA1 hA2 hP1 hP2 hA hP hA4
      go_enter Try.func7, Try.ntmps7
      go_wp2_with (go_at_call 21; refine (alive _).mono ?_; rintro e w1 ⟨rfl, hb1⟩; have W1 := Lib.hid hb1; clear hb1)
      go_ret
      exact ⟨rfl, W1.out⟩
  · clear hA1 hA2 hP1 hP2 hA hP hA4
    go_enter Try.func7, Try.ntmps7
    go_wp2_with (go_at_call 21; refine (alive _).mono ?_; rintro e w1 ⟨rfl, hb1⟩; have W1 := Lib.hid hb1; clear hb1)
    go_ret
    exact ⟨rfl, W1.out⟩
end Go.Proofs.Ytckbiielahgliaa.decL
