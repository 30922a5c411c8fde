/- EncoderPuts, by a walk. -/
import Derived.Test.YtaehjhjbbkblbaaEncL2
namespace Go.Proofs.Ytaehjhjbbkblbaa.encL
open Go.RowKit Go.Proofs.Ytaehjhjbbkblbaa.base Go.Proofs.Ytaehjhjbbkblbaa.encP Go.Proofs.Ytaehjhjbbkblbaa.encW
set_option linter.unusedVariables false
set_option linter.unusedSimpArgs false

theorem Same_new (w : World) : Calls Try.prog 23 #[.agg #[.int .u32 (0), .int .u32 (4294967295), .slice (none) (0) (0)], .agg #[.int .u32 (0), .int .u32 (4294967295), .slice (none) (0) (0)]] w fun e w' => e = .returned (.bool true) ∧ Below w.heap.size w w' := Same_yes _ _ _ _ _ _ _ [] _ (.inl rfl) (.inl rfl) rfl (by omega)
theorem cvB {w x : World} {A : Option Addr} {zs : List Int} {n c : Nat} (h : Has .u8 w A zs) (hb : Below w.heap.size w x) (hn : zs.length = n) : (convert 23 9 (.slice A n c)).run Try.prog x = .ok (.string (bstr zs)) x := conv8 (c := c) (h.below hb (Nat.le_refl _)) hn
set_option maxRecDepth 100000 in
set_option maxHeartbeats 8000000 in
theorem puts_in (x1 x2 : Int) (A : Option Addr) (n c : Nat) (zs : List Int) (y1 y2 p : Int) (b : Bool) (w : World) (a1 : 0 ≤ x1) (a2 : x1 ≤ 4294967295) (b1 : 0 ≤ x2) (b2 : x2 ≤ 4294967295) (hA : Has .u8 w A zs) (hn : zs.length = n) (hc : n ≤ c)
    (c1 : 0 ≤ y1) (c2 : y1 ≤ 4294967295) (d1 : 0 ≤ y2) (d2 : y2 ≤ 4294967295) (hl : n ≤ 100 ∨ 19990 < n ∧ n ≤ 20100) :
    Calls Try.prog 3 #[.agg #[.int .u32 (x1), .int .u32 (x2), .slice (A) (n) (c)], .int .u32 y1, .int .u32 y2, .int .i64 p, .bool b] w fun e w' => e = .returned (.bool true) ∧ Below w.heap.size w w' := by
  have HA := Lib.hid hA
  subst hn
  clear hA
  have W0 : Below w.heap.size w (w.alloc (.cells #[.int .u32 x1, .int .u32 x2, .slice A zs.length c] 25)) := by (repeat' (first | (with_reducible exact Below.refl _ _) | (with_reducible assumption) | (with_reducible refine below_drewN ?_ _) | (with_reducible refine below_new ?_ _) | (with_reducible refine Below.alloc ?_ ?_ _) | (with_reducible refine Below.drew ?_) | (with_reducible refine Below.setCell ?_ ?_ _) | (with_reducible apply below_at; (case k => (with_reducible assumption)); (case hB => omega)) | (with_reducible apply below_on; (with_reducible assumption)) | (go_size; done) | (with_reducible apply size_of)))
  have hcv := cvB (c := c) HA.out W0 rfl
  have L0 : Lies (w.alloc (.cells #[.int .u32 x1, .int .u32 x2, .slice A zs.length c] 25)) (w.heap.size) 25 [.int .u32 (x1), .int .u32 (x2), .slice (A) (zs.length) (c)] := by (repeat' (first | (with_reducible assumption) | (with_reducible exact Lies.fresh _ _ _) | (with_reducible apply Lies.fresh_at; (first | (with_reducible rfl) | (simp; done))) | (with_reducible refine Lies.drew ?_) | (with_reducible refine Lies.drewN ?_ _) | (with_reducible refine Lies.alloc ?_ _) | (with_reducible apply Lies.past; case hb => (with_reducible assumption)) | (with_reducible apply Lies.keeps; (case k => (with_reducible assumption)); (case ht => decide)) | (with_reducible apply Lies.store3) | (with_reducible apply Lies.other; case hp => (first | omega | (simp; done) | (simp; omega)))))
  have HL0 := Lib.hid L0
  have HW0 := Lib.hid W0
  obtain ⟨l0, l1, l2, _, _, _⟩ := L0.three
  clear L0 W0
  rcases hl with hl | hl
  all_goals
    go_enter Try.func3, Try.ntmps3
    go_wp2_with (first | (go_at_call 16; refine (Split_any _ _ _ _ c1 c2 d1 d2).mono ?_; rintro e w' ⟨rfl, rfl⟩) | (go_at_call 17; refine (rSplit_any _ _ _ _ c1 c2 d1 d2).mono ?_; rintro e w' ⟨rfl, rfl⟩))
    clear hcv l0 l1 l2
    refine (Put_any x1 x2 p b A zs.length c zs _ a1 a2 b1 b2 (HA.out.below HW0.out (Nat.le_refl _)) rfl hc (by omega)).mono ?_
    rintro e w1 ⟨A1, c1, rfl, hh1, hc1, hb1⟩
    have HL1 := Lib.hid (HL0.out.past hb1)
    have HW1 := Lib.hid (HW0.out.trans (hb1.mono HW0.out.size))
    have H1 := Lib.hid hh1
    obtain ⟨l0, l1, l2, _, _, _⟩ := HL1.out.three
    have lt1 := HL1.out.lt
    clear hb1 hh1 HL0 HW0
    go_wp2_with fail
    refine (rPut_any x1 x2 p b A zs.length c zs _ a1 a2 b1 b2 (HA.out.below (by have := HW1.out; (repeat' (first | (with_reducible exact Below.refl _ _) | (with_reducible assumption) | (with_reducible refine below_drewN ?_ _) | (with_reducible refine below_new ?_ _) | (with_reducible refine Below.alloc ?_ ?_ _) | (with_reducible refine Below.drew ?_) | (with_reducible refine Below.setCell ?_ ?_ _) | (with_reducible apply below_at; (case k => (with_reducible assumption)); (case hB => omega)) | (with_reducible apply below_on; (with_reducible assumption)) | (go_size; done) | (with_reducible apply size_of)))) (Nat.le_refl _)) rfl hc (by omega)).mono ?_
    rintro e w2 ⟨A2, c2, rfl, hh2, hc2, hb2⟩
    have HL2 := Lib.hid (Lies.past (HL1.out.alloc _) hb2)
    have HM2 := Lib.hid (Lies.past (Lies.fresh w1 25 _) hb2)
    have HW2 : Hid (Below w.heap.size w w2) := Lib.hid (by have := HW1.out; (repeat' (first | (with_reducible exact Below.refl _ _) | (with_reducible assumption) | (with_reducible refine below_drewN ?_ _) | (with_reducible refine below_new ?_ _) | (with_reducible refine Below.alloc ?_ ?_ _) | (with_reducible refine Below.drew ?_) | (with_reducible refine Below.setCell ?_ ?_ _) | (with_reducible apply below_at; (case k => (with_reducible assumption)); (case hB => omega)) | (with_reducible apply below_on; (with_reducible assumption)) | (go_size; done) | (with_reducible apply size_of))))
    have H1' := Lib.hid (H1.out.below (((Below.refl _ _).alloc (Nat.le_refl _) _).trans (hb2.mono (by simp))) (Nat.le_refl _))
    have H2 := Lib.hid hh2
    obtain ⟨l0, l1, l2, _, _, _⟩ := HL2.out.three
    have lt2 := HL2.out.lt
    clear hb2 hh2 HL1 HW1 H1
    go_wp2_with fail
    refine (End_any x1 x2 A zs.length c zs _ a1 a2 b1 b2 (HA.out.below (by have := HW2.out; (repeat' (first | (with_reducible exact Below.refl _ _) | (with_reducible assumption) | (with_reducible refine below_drewN ?_ _) | (with_reducible refine below_new ?_ _) | (with_reducible refine Below.alloc ?_ ?_ _) | (with_reducible refine Below.drew ?_) | (with_reducible refine Below.setCell ?_ ?_ _) | (with_reducible apply below_at; (case k => (with_reducible assumption)); (case hB => omega)) | (with_reducible apply below_on; (with_reducible assumption)) | (go_size; done) | (with_reducible apply size_of)))) (Nat.le_refl _)) rfl hc (by omega)).mono ?_
    rintro e w3 ⟨A3, c3, rfl, hh3, hc3, hb3⟩
    have HL3 := Lib.hid (Lies.past (HL2.out.alloc _) hb3)
    have HM3 := Lib.hid (Lies.past (HM2.out.alloc _) hb3)
    have HN3 := Lib.hid (Lies.past (Lies.fresh w2 25 _) hb3)
    have HW3 : Hid (Below w.heap.size w w3) := Lib.hid (by have := HW2.out; (repeat' (first | (with_reducible exact Below.refl _ _) | (with_reducible assumption) | (with_reducible refine below_drewN ?_ _) | (with_reducible refine below_new ?_ _) | (with_reducible refine Below.alloc ?_ ?_ _) | (with_reducible refine Below.drew ?_) | (with_reducible refine Below.setCell ?_ ?_ _) | (with_reducible apply below_at; (case k => (with_reducible assumption)); (case hB => omega)) | (with_reducible apply below_on; (with_reducible assumption)) | (go_size; done) | (with_reducible apply size_of))))
    have B3 : Below w2.heap.size w2 w3 := ((Below.refl _ _).alloc (Nat.le_refl _) _).trans (hb3.mono (by simp))
    have H1 := Lib.hid (H1'.out.below B3 (Nat.le_refl _))
    have H2' := Lib.hid (H2.out.below B3 (Nat.le_refl _))
    have H3 := Lib.hid hh3
    obtain ⟨l0, l1, l2, _, _, _⟩ := HL3.out.three
    have lt3 := HL3.out.lt
    clear hb3 hh3 HL2 HM2 HW2 B3 H1' H2
    go_wp2_with fail
    refine (rEnd_any x1 x2 A zs.length c zs _ a1 a2 b1 b2 (HA.out.below (by have := HW3.out; (repeat' (first | (with_reducible exact Below.refl _ _) | (with_reducible assumption) | (with_reducible refine below_drewN ?_ _) | (with_reducible refine below_new ?_ _) | (with_reducible refine Below.alloc ?_ ?_ _) | (with_reducible refine Below.drew ?_) | (with_reducible refine Below.setCell ?_ ?_ _) | (with_reducible apply below_at; (case k => (with_reducible assumption)); (case hB => omega)) | (with_reducible apply below_on; (with_reducible assumption)) | (go_size; done) | (with_reducible apply size_of)))) (Nat.le_refl _)) rfl hc (by omega)).mono ?_
    rintro e w4 ⟨A4, c4, rfl, hh4, hc4, hb4⟩
    have HL4 := Lib.hid (HL3.out.past hb4)
    have HM4 := Lib.hid (HM3.out.past hb4)
    have HN4 := Lib.hid (HN3.out.past hb4)
    have HW4 : Hid (Below w.heap.size w w4) := Lib.hid (by have := HW3.out; (repeat' (first | (with_reducible exact Below.refl _ _) | (with_reducible assumption) | (with_reducible refine below_drewN ?_ _) | (with_reducible refine below_new ?_ _) | (with_reducible refine Below.alloc ?_ ?_ _) | (with_reducible refine Below.drew ?_) | (with_reducible refine Below.setCell ?_ ?_ _) | (with_reducible apply below_at; (case k => (with_reducible assumption)); (case hB => omega)) | (with_reducible apply below_on; (with_reducible assumption)) | (go_size; done) | (with_reducible apply size_of))))
    have H1' := Lib.hid (H1.out.below hb4 (Nat.le_refl _))
    have H2 := Lib.hid (H2'.out.below hb4 (Nat.le_refl _))
    have H3' := Lib.hid (H3.out.below hb4 (Nat.le_refl _))
    have H4 := Lib.hid hh4
    have HA4 := Lib.hid (HA.out.below HW4.out (Nat.le_refl _))
    clear hb4 hh4 HL3 HM3 HN3 HW3 H1 H2' H3 l0 l1 l2 HA
    have lt4 := HL4.out.lt
    have lm4 := HM4.out.lt
    have ln4 := HN4.out.lt
    have t1 : (spV y1 y2 p == spV y1 y2 p) = true := by simp
    have t2 : (spE y1 y2 p == spE y1 y2 p) = true := by simp
    have t3 : (puE x1 x2 zs.length p b == puE x1 x2 zs.length p b) = true := by simp
    have t4 : (enE x1 x2 zs.length == enE x1 x2 zs.length) = true := by simp
    have t5 : (ckV x1 x2 zs.length == ckV x1 x2 zs.length) = true := by simp
    have HC1 := Lib.hid (fun (x : World) (hb : Below w4.heap.size w4 x) => cvB (c := c3) H3'.out hb rfl)
    have HC2 := Lib.hid (fun (x : World) (hb : Below w4.heap.size w4 x) => cvB (c := c4) H4.out hb rfl)
    have HC3 := Lib.hid (fun (x : World) (hb : Below w4.heap.size w4 x) => cvB (c := c) HA4.out hb rfl)
    obtain ⟨g1, g2, g3, g4, g5⟩ := puV_bd (x1 := x1) (x2 := x2) (zs := zs) (p := p) (b := b) a1 b2
    have g6 := enV_len (x1 := x1) (x2 := x2) (zs := zs)
    generalize puV x1 x2 zs p b = pv at *
    generalize enV x1 x2 zs = ev at *
    have hfd : ∀ W : World, (Instr.field 25 (.agg #[.int .u32 0, .int .u32 4294967295, .slice none 0 0]) 0).run Try.prog W = .ok (.int .u32 0) W := fun W => by kernel_rfl
    go_wp2_with fail
    go_region_held3 (fun x => (x.cell? ⟨w.heap.size, 0, none⟩ = some (.int .u32 x1) ∧ x.cell? ⟨w.heap.size, 1, none⟩ = some (.int .u32 x2) ∧ x.cell? ⟨w.heap.size, 2, none⟩ = some (.slice A zs.length c)) ∧ (x.cell? ⟨w1.heap.size, 0, none⟩ = some (.int .u32 pv.1) ∧ x.cell? ⟨w1.heap.size, 1, none⟩ = some (.int .u32 pv.2.1) ∧ x.cell? ⟨w1.heap.size, 2, none⟩ = some (.slice A1 pv.2.2.length c1)) ∧ (x.cell? ⟨w2.heap.size, 0, none⟩ = some (.int .u32 pv.1) ∧ x.cell? ⟨w2.heap.size, 1, none⟩ = some (.int .u32 pv.2.1) ∧ x.cell? ⟨w2.heap.size, 2, none⟩ = some (.slice A2 pv.2.2.length c2)) ∧ (convert 23 9 (.slice A3 ev.length c3)).run Try.prog x = .ok (.string (bstr ev)) x ∧ (convert 23 9 (.slice A4 ev.length c4)).run Try.prog x = .ok (.string (bstr ev)) x ∧ (convert 23 9 (.slice A zs.length c)).run Try.prog x = .ok (.string (bstr zs)) x)
      ((exact ⟨Lies.cells3 (t := 25) (by have := HL4.out; (repeat' (first | (with_reducible assumption) | (with_reducible exact Lies.fresh _ _ _) | (with_reducible apply Lies.fresh_at; (first | (with_reducible rfl) | (simp; done))) | (with_reducible refine Lies.drew ?_) | (with_reducible refine Lies.drewN ?_ _) | (with_reducible refine Lies.alloc ?_ _) | (with_reducible apply Lies.past; case hb => (with_reducible assumption)) | (with_reducible apply Lies.keeps; (case k => (with_reducible assumption)); (case ht => decide)) | (with_reducible apply Lies.store3) | (with_reducible apply Lies.other; case hp => (first | omega | (simp; done) | (simp; omega)))))), Lies.cells3 (t := 25) (by have := HM4.out; (repeat' (first | (with_reducible assumption) | (with_reducible exact Lies.fresh _ _ _) | (with_reducible apply Lies.fresh_at; (first | (with_reducible rfl) | (simp; done))) | (with_reducible refine Lies.drew ?_) | (with_reducible refine Lies.drewN ?_ _) | (with_reducible refine Lies.alloc ?_ _) | (with_reducible apply Lies.past; case hb => (with_reducible assumption)) | (with_reducible apply Lies.keeps; (case k => (with_reducible assumption)); (case ht => decide)) | (with_reducible apply Lies.store3) | (with_reducible apply Lies.other; case hp => (first | omega | (simp; done) | (simp; omega)))))), Lies.cells3 (t := 25) (by have := HN4.out; (repeat' (first | (with_reducible assumption) | (with_reducible exact Lies.fresh _ _ _) | (with_reducible apply Lies.fresh_at; (first | (with_reducible rfl) | (simp; done))) | (with_reducible refine Lies.drew ?_) | (with_reducible refine Lies.drewN ?_ _) | (with_reducible refine Lies.alloc ?_ _) | (with_reducible apply Lies.past; case hb => (with_reducible assumption)) | (with_reducible apply Lies.keeps; (case k => (with_reducible assumption)); (case ht => decide)) | (with_reducible apply Lies.store3) | (with_reducible apply Lies.other; case hp => (first | omega | (simp; done) | (simp; omega)))))), HC1.out _ (by (repeat' (first | (with_reducible exact Below.refl _ _) | (with_reducible assumption) | (with_reducible refine below_drewN ?_ _) | (with_reducible refine below_new ?_ _) | (with_reducible refine Below.alloc ?_ ?_ _) | (with_reducible refine Below.drew ?_) | (with_reducible refine Below.setCell ?_ ?_ _) | (with_reducible apply below_at; (case k => (with_reducible assumption)); (case hB => omega)) | (with_reducible apply below_on; (with_reducible assumption)) | (go_size; done) | (with_reducible apply size_of)))), HC2.out _ (by (repeat' (first | (with_reducible exact Below.refl _ _) | (with_reducible assumption) | (with_reducible refine below_drewN ?_ _) | (with_reducible refine below_new ?_ _) | (with_reducible refine Below.alloc ?_ ?_ _) | (with_reducible refine Below.drew ?_) | (with_reducible refine Below.setCell ?_ ?_ _) | (with_reducible apply below_at; (case k => (with_reducible assumption)); (case hB => omega)) | (with_reducible apply below_on; (with_reducible assumption)) | (go_size; done) | (with_reducible apply size_of)))), HC3.out _ (by (repeat' (first | (with_reducible exact Below.refl _ _) | (with_reducible assumption) | (with_reducible refine below_drewN ?_ _) | (with_reducible refine below_new ?_ _) | (with_reducible refine Below.alloc ?_ ?_ _) | (with_reducible refine Below.drew ?_) | (with_reducible refine Below.setCell ?_ ?_ _) | (with_reducible apply below_at; (case k => (with_reducible assumption)); (case hB => omega)) | (with_reducible apply below_on; (with_reducible assumption)) | (go_size; done) | (with_reducible apply size_of))))⟩))
      (first
        | (go_at_call 22; refine (New_any _).mono ?_; rintro e u1 ⟨rfl, hu1⟩)
        | (go_at_call 24; refine (rNew_any _).mono ?_; rintro e u2 ⟨rfl, hu2⟩)
        | (go_at_call 25; refine (Check_any _ _ _ _ _ _ a1 a2 b1 b2 (by omega)).mono ?_; rintro e u3 ⟨rfl, hu3⟩)
        | (go_at_call 26; refine (rCheck_any _ _ _ _ _ _ a1 a2 b1 b2 (by omega)).mono ?_; rintro e u4 ⟨rfl, hu4⟩)
        | (go_at_call 23; (with_reducible refine (Same_new _).mono ?_); rintro e u5 ⟨rfl, hu5⟩)
        | (go_at_call 23; (with_reducible refine (Same_yes pv.1 pv.2.1 A1 A2 pv.2.2.length c1 c2 pv.2.2 _ (H1'.out.below (by (repeat' (first | (with_reducible exact Below.refl _ _) | (with_reducible assumption) | (with_reducible refine below_drewN ?_ _) | (with_reducible refine below_new ?_ _) | (with_reducible refine Below.alloc ?_ ?_ _) | (with_reducible refine Below.drew ?_) | (with_reducible refine Below.setCell ?_ ?_ _) | (with_reducible apply below_at; (case k => (with_reducible assumption)); (case hB => omega)) | (with_reducible apply below_on; (with_reducible assumption)) | (go_size; done) | (with_reducible apply size_of)))) (Nat.le_refl _)) (H2.out.below (by (repeat' (first | (with_reducible exact Below.refl _ _) | (with_reducible assumption) | (with_reducible refine below_drewN ?_ _) | (with_reducible refine below_new ?_ _) | (with_reducible refine Below.alloc ?_ ?_ _) | (with_reducible refine Below.drew ?_) | (with_reducible refine Below.setCell ?_ ?_ _) | (with_reducible apply below_at; (case k => (with_reducible assumption)); (case hB => omega)) | (with_reducible apply below_on; (with_reducible assumption)) | (go_size; done) | (with_reducible apply size_of)))) (Nat.le_refl _)) rfl (by omega)).mono ?_); rintro e u6 ⟨rfl, hu6⟩))
    all_goals
      go_wp2
      go_ret
      exact ⟨rfl, by have := HW4.out; (repeat' (first | (with_reducible exact Below.refl _ _) | (with_reducible assumption) | (with_reducible refine below_drewN ?_ _) | (with_reducible refine below_new ?_ _) | (with_reducible refine Below.alloc ?_ ?_ _) | (with_reducible refine Below.drew ?_) | (with_reducible refine Below.setCell ?_ ?_ _) | (with_reducible apply below_at; (case k => (with_reducible assumption)); (case hB => omega)) | (with_reducible apply below_on; (with_reducible assumption)) | (go_size; done) | (with_reducible apply size_of)))⟩
end Go.Proofs.Ytaehjhjbbkblbaa.encL
