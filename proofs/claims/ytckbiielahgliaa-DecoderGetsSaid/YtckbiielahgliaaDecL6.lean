/- DecoderGets, by a walk. -/
import Derived.Test.YtckbiielahgliaaDecL1
import Derived.Test.YtckbiielahgliaaDecBase
import Derived.Deep.RegionHeld3
namespace Go.Proofs.Ytckbiielahgliaa.decL
open Go.RowKit Go.Proofs.Ytckbiielahgliaa.base Go.Proofs.Ytckbiielahgliaa.encP Go.Proofs.Ytckbiielahgliaa.encW Go.Proofs.Ytckbiielahgliaa.decP Go.Proofs.Ytckbiielahgliaa.decW
set_option linter.unusedVariables false
set_option linter.unusedSimpArgs false

theorem Lies.cells5 {w : World} {g : Nat} {t : TypeId} {a b c d e : Value} (h : Lies w g t [a, b, c, d, e]) : w.cell? ⟨g, 0, none⟩ = some a ∧ w.cell? ⟨g, 1, none⟩ = some b ∧ w.cell? ⟨g, 2, none⟩ = some c ∧ w.cell? ⟨g, 3, none⟩ = some d ∧ w.cell? ⟨g, 4, none⟩ = some e := ⟨h.cell 0, h.cell 1, h.cell 2, h.cell 3, h.cell 4⟩
theorem cvB {w x : World} {A : Option Addr} {zs : List Int} {n c : Nat} (h : Has .u8 w A zs) (hb : Below w.heap.size w x) (hn : zs.length = n) : (convert 23 9 (.slice A n c)).run Try.prog x = .ok (.string (bstr zs)) x := conv8 (c := c) (h.below hb (Nat.le_refl _)) hn
abbrev QS := Int × Int × Int × List Int × Nat
def nwV (zs : List Int) : QS := if 20000 < zs.length then (0, 0, 0, [], 0) else (0, 4294967295, win zs 0, zs, 4)
def nwE (zs : List Int) : Int := if 20000 < zs.length then 4 else 0
theorem nwV_bd {zs : List Int} (hz : InB zs) : 0 ≤ (nwV zs).1 ∧ (nwV zs).1 ≤ 4294967295 ∧ 0 ≤ (nwV zs).2.1 ∧ (nwV zs).2.1 ≤ 4294967295 ∧ 0 ≤ (nwV zs).2.2.1 ∧ (nwV zs).2.2.1 ≤ 4294967295 ∧ (nwV zs).2.2.2.1.length ≤ 20000 ∧ (nwV zs).2.2.2.2 ≤ 1000000 := by
  obtain ⟨a, b⟩ := win_bd hz 0
  unfold nwV
  split
  · decide
  · simp only; omega
theorem NewU (A : Option Addr) (n c : Nat) (zs : List Int) (w : World) (hA : Has .u8 w A zs) (hn : zs.length = n) (hc : n ≤ c) (hm : n ≤ 9223372036854775807) (hz : InB zs) :
    Calls Try.prog 9 #[.slice A n c] w fun e w' => ∃ A' c', e = .returned (.tuple #[.agg #[.int .u32 ((nwV zs).1), .int .u32 ((nwV zs).2.1), .int .u32 ((nwV zs).2.2.1), .slice (A') ((nwV zs).2.2.2.1.length) (c'), .int .i64 ((nwV zs).2.2.2.2)], .int .i64 (nwE zs)]) ∧ Has .u8 w' A' (nwV zs).2.2.2.1 ∧ Below w.heap.size w w' := by
  subst hn
  by_cases h : 20000 < zs.length
  · rw [nwV, nwE, if_pos h, if_pos h]
    refine (New_bad A zs.length c w h hm).mono ?_
    rintro e w' ⟨rfl, hb⟩
    exact ⟨none, 0, rfl, .inl rfl, hb⟩
  · rw [nwV, nwE, if_neg h, if_neg h]
    refine (New_ok A zs.length c zs w hA rfl hc (by omega) hz).mono ?_
    rintro e w' ⟨A', c', rfl, h1, h2, h3, hb⟩
    exact ⟨A', c', rfl, h1, hb⟩
theorem rNewU (A : Option Addr) (n c : Nat) (zs : List Int) (w : World) (hA : Has .u8 w A zs) (hn : zs.length = n) (hc : n ≤ c) (hm : n ≤ 9223372036854775807) (hz : InB zs) :
    Calls Try.prog 10 #[.slice A n c] w fun e w' => ∃ A' c', e = .returned (.tuple #[.agg #[.int .u32 ((nwV zs).1), .int .u32 ((nwV zs).2.1), .int .u32 ((nwV zs).2.2.1), .slice (A') ((nwV zs).2.2.2.1.length) (c'), .int .i64 ((nwV zs).2.2.2.2)], .int .i64 (nwE zs)]) ∧ Has .u8 w' A' (nwV zs).2.2.2.1 ∧ Below w.heap.size w w' := by
  subst hn
  by_cases h : 20000 < zs.length
  · rw [nwV, nwE, if_pos h, if_pos h]
    refine (rNew_bad A zs.length c w h hm).mono ?_
    rintro e w' ⟨rfl, hb⟩
    exact ⟨none, 0, rfl, .inl rfl, hb⟩
  · rw [nwV, nwE, if_neg h, if_neg h]
    refine (rNew_okD A zs.length c zs w hA rfl hc (by omega) hz).mono ?_
    rintro e w' ⟨A', c', rfl, h1, h2, h3, hb⟩
    exact ⟨A', c', rfl, h1, hb⟩
set_option maxRecDepth 100000 in
set_option maxHeartbeats 8000000 in
theorem gets_in (x1 x2 x : Int) (A : Option Addr) (n c : Nat) (zs : List Int) (t p : Int) (w : World) (a1 : 0 ≤ x1) (a2 : x1 ≤ 4294967295) (b1 : 0 ≤ x2) (b2 : x2 ≤ 4294967295) (d1 : 0 ≤ x) (d2 : x ≤ 4294967295) (hA : Has .u8 w A zs) (hn : zs.length = n) (hc : n ≤ c) (hz : InB zs)
    (hl : n ≤ 200 ∨ 19990 < n ∧ n ≤ 20100) :
    Calls Try.prog 3 #[.agg #[.int .u32 (x1), .int .u32 (x2), .int .u32 (x), .slice (A) (n) (c), .int .i64 (t)], .int .i64 p] w fun e w' => e = .returned (.bool true) ∧ Below w.heap.size w w' := by
  have HA := Lib.hid hA
  have HZ := Lib.hid hz
  subst hn
  clear hA hz
  have W0 : Below w.heap.size w (w.alloc (.cells #[.int .u32 x1, .int .u32 x2, .int .u32 x, .slice A zs.length c, .int .i64 t] 25)) := by (repeat' (first | (with_reducible exact Below.refl _ _) | (with_reducible assumption) | (with_reducible refine below_drewN ?_ _) | (with_reducible refine below_new ?_ _) | (with_reducible refine Below.alloc ?_ ?_ _) | (with_reducible refine Below.drew ?_) | (with_reducible refine Below.setCell ?_ ?_ _) | (with_reducible apply below_at; (case k => (with_reducible assumption)); (case hB => omega)) | (with_reducible apply below_on; (with_reducible assumption)) | (go_size; done) | (with_reducible apply size_of)))
  have hcv := cvB (c := c) HA.out W0 rfl
  have L0 : Lies (w.alloc (.cells #[.int .u32 x1, .int .u32 x2, .int .u32 x, .slice A zs.length c, .int .i64 t] 25)) (w.heap.size) 25 [.int .u32 (x1), .int .u32 (x2), .int .u32 (x), .slice (A) (zs.length) (c), .int .i64 (t)] := by (repeat' (first | (with_reducible assumption) | (with_reducible exact Lies.fresh _ _ _) | (with_reducible apply Lies.fresh_at; (first | (with_reducible rfl) | (simp; done))) | (with_reducible refine Lies.drew ?_) | (with_reducible refine Lies.drewN ?_ _) | (with_reducible refine Lies.alloc ?_ _) | (with_reducible apply Lies.past; case hb => (with_reducible assumption)) | (with_reducible apply Lies.keeps; (case k => (with_reducible assumption)); (case ht => decide)) | (with_reducible apply Lies.store3) | (with_reducible apply Lies.other; case hp => (first | omega | (simp; done) | (simp; omega)))))
  have HL0 := Lib.hid L0
  have HW0 := Lib.hid W0
  obtain ⟨l0, l1, l2, l3, l4⟩ := Lies.cells5 L0
  clear L0 W0
  rcases hl with hl | hl
  all_goals
    go_enter Try.func3, Try.ntmps3
    go_wp2_with fail
    clear hcv l0 l1 l2 l3 l4
    refine (NewU A zs.length c zs _ (HA.out.below HW0.out (Nat.le_refl _)) rfl hc (by omega) HZ.out).mono ?_
    rintro e w1 ⟨A1, c1, rfl, hh1, hb1⟩
    have HL1 := Lib.hid (HL0.out.past hb1)
    have HW1 := Lib.hid (HW0.out.trans (hb1.mono HW0.out.size))
    have H1 := Lib.hid hh1
    obtain ⟨l0, l1, l2, l3, l4⟩ := Lies.cells5 HL1.out
    have lt1 := HL1.out.lt
    clear hb1 hh1 HL0 HW0
    go_wp2_with fail
    refine (rNewU A zs.length c zs _ (HA.out.below (by have := HW1.out; (repeat' (first | (with_reducible exact Below.refl _ _) | (with_reducible assumption) | (with_reducible refine below_drewN ?_ _) | (with_reducible refine below_new ?_ _) | (with_reducible refine Below.alloc ?_ ?_ _) | (with_reducible refine Below.drew ?_) | (with_reducible refine Below.setCell ?_ ?_ _) | (with_reducible apply below_at; (case k => (with_reducible assumption)); (case hB => omega)) | (with_reducible apply below_on; (with_reducible assumption)) | (go_size; done) | (with_reducible apply size_of)))) (Nat.le_refl _)) rfl hc (by omega) HZ.out).mono ?_
    rintro e w2 ⟨A2, c2, rfl, hh2, hb2⟩
    have HL2 := Lib.hid (Lies.past (HL1.out.alloc _) hb2)
    have HM2 := Lib.hid (Lies.past (Lies.fresh w1 25 _) hb2)
    have HW2 : Hid (Below w.heap.size w w2) := Lib.hid (by have := HW1.out; (repeat' (first | (with_reducible exact Below.refl _ _) | (with_reducible assumption) | (with_reducible refine below_drewN ?_ _) | (with_reducible refine below_new ?_ _) | (with_reducible refine Below.alloc ?_ ?_ _) | (with_reducible refine Below.drew ?_) | (with_reducible refine Below.setCell ?_ ?_ _) | (with_reducible apply below_at; (case k => (with_reducible assumption)); (case hB => omega)) | (with_reducible apply below_on; (with_reducible assumption)) | (go_size; done) | (with_reducible apply size_of))))
    have H1' := Lib.hid (H1.out.below (((Below.refl _ _).alloc (Nat.le_refl _) _).trans (hb2.mono (by simp))) (Nat.le_refl _))
    have H2 := Lib.hid hh2
    obtain ⟨l0, l1, l2, l3, l4⟩ := Lies.cells5 HL2.out
    have lt2 := HL2.out.lt
    clear hb2 hh2 HL1 HW1 H1
    go_wp2_with fail
    refine (Get_any x1 x2 x A zs.length c t p zs _ a1 a2 b1 b2 d1 d2 (HA.out.below (by have := HW2.out; (repeat' (first | (with_reducible exact Below.refl _ _) | (with_reducible assumption) | (with_reducible refine below_drewN ?_ _) | (with_reducible refine below_new ?_ _) | (with_reducible refine Below.alloc ?_ ?_ _) | (with_reducible refine Below.drew ?_) | (with_reducible refine Below.setCell ?_ ?_ _) | (with_reducible apply below_at; (case k => (with_reducible assumption)); (case hB => omega)) | (with_reducible apply below_on; (with_reducible assumption)) | (go_size; done) | (with_reducible apply size_of)))) (Nat.le_refl _)) rfl hc (by omega) HZ.out).mono ?_
    rintro e w3 ⟨A3, c3, rfl, hh3, hc3, hm3, hb3⟩
    have HL3 := Lib.hid (Lies.past (HL2.out.alloc _) hb3)
    have HM3 := Lib.hid (Lies.past (HM2.out.alloc _) hb3)
    have HN3 := Lib.hid (Lies.past (Lies.fresh w2 25 _) hb3)
    have HW3 : Hid (Below w.heap.size w w3) := Lib.hid (by have := HW2.out; (repeat' (first | (with_reducible exact Below.refl _ _) | (with_reducible assumption) | (with_reducible refine below_drewN ?_ _) | (with_reducible refine below_new ?_ _) | (with_reducible refine Below.alloc ?_ ?_ _) | (with_reducible refine Below.drew ?_) | (with_reducible refine Below.setCell ?_ ?_ _) | (with_reducible apply below_at; (case k => (with_reducible assumption)); (case hB => omega)) | (with_reducible apply below_on; (with_reducible assumption)) | (go_size; done) | (with_reducible apply size_of))))
    have B3 : Below w2.heap.size w2 w3 := ((Below.refl _ _).alloc (Nat.le_refl _) _).trans (hb3.mono (by simp))
    have H1 := Lib.hid (H1'.out.below B3 (Nat.le_refl _))
    have H2' := Lib.hid (H2.out.below B3 (Nat.le_refl _))
    have H3 := Lib.hid hh3
    obtain ⟨l0, l1, l2, l3, l4⟩ := Lies.cells5 HL3.out
    have lt3 := HL3.out.lt
    clear hb3 hh3 HL2 HM2 HW2 B3 H1' H2
    go_wp2_with fail
    refine (rGet_any x1 x2 x A zs.length c t p zs _ a1 a2 b1 b2 d1 d2 (HA.out.below (by have := HW3.out; (repeat' (first | (with_reducible exact Below.refl _ _) | (with_reducible assumption) | (with_reducible refine below_drewN ?_ _) | (with_reducible refine below_new ?_ _) | (with_reducible refine Below.alloc ?_ ?_ _) | (with_reducible refine Below.drew ?_) | (with_reducible refine Below.setCell ?_ ?_ _) | (with_reducible apply below_at; (case k => (with_reducible assumption)); (case hB => omega)) | (with_reducible apply below_on; (with_reducible assumption)) | (go_size; done) | (with_reducible apply size_of)))) (Nat.le_refl _)) rfl hc (by omega) HZ.out).mono ?_
    rintro e w4 ⟨A4, c4, rfl, hh4, hc4, hm4, hb4⟩
    have HL4 := Lib.hid (Lies.past (HL3.out.alloc _) hb4)
    have HM4 := Lib.hid (Lies.past (HM3.out.alloc _) hb4)
    have HN4 := Lib.hid (Lies.past (HN3.out.alloc _) hb4)
    have HO4 := Lib.hid (Lies.past (Lies.fresh w3 25 _) hb4)
    have HW4 : Hid (Below w.heap.size w w4) := Lib.hid (by have := HW3.out; (repeat' (first | (with_reducible exact Below.refl _ _) | (with_reducible assumption) | (with_reducible refine below_drewN ?_ _) | (with_reducible refine below_new ?_ _) | (with_reducible refine Below.alloc ?_ ?_ _) | (with_reducible refine Below.drew ?_) | (with_reducible refine Below.setCell ?_ ?_ _) | (with_reducible apply below_at; (case k => (with_reducible assumption)); (case hB => omega)) | (with_reducible apply below_on; (with_reducible assumption)) | (go_size; done) | (with_reducible apply size_of))))
    have B4 : Below w3.heap.size w3 w4 := ((Below.refl _ _).alloc (Nat.le_refl _) _).trans (hb4.mono (by simp))
    have H1' := Lib.hid (H1.out.below B4 (Nat.le_refl _))
    have H2 := Lib.hid (H2'.out.below B4 (Nat.le_refl _))
    have H3' := Lib.hid (H3.out.below B4 (Nat.le_refl _))
    have H4 := Lib.hid hh4
    obtain ⟨l0, l1, l2, l3, l4⟩ := Lies.cells5 HL4.out
    have lt4 := HL4.out.lt
    clear hb4 hh4 HL3 HM3 HN3 HW3 B4 H1 H2' H3
    go_wp2_with fail
    refine (Over_any x1 x2 x A zs.length c t _ a1 a2 b1 b2 d1 d2 (by omega)).mono ?_
    rintro e w5 ⟨rfl, hb5⟩
    have HL5 := Lib.hid (Lies.past (HL4.out.alloc _) hb5)
    have HM5 := Lib.hid (Lies.past (HM4.out.alloc _) hb5)
    have HN5 := Lib.hid (Lies.past (HN4.out.alloc _) hb5)
    have HO5 := Lib.hid (Lies.past (HO4.out.alloc _) hb5)
    have HP5 := Lib.hid (Lies.past (Lies.fresh w4 25 _) hb5)
    have HW5 : Hid (Below w.heap.size w w5) := Lib.hid (by have := HW4.out; (repeat' (first | (with_reducible exact Below.refl _ _) | (with_reducible assumption) | (with_reducible refine below_drewN ?_ _) | (with_reducible refine below_new ?_ _) | (with_reducible refine Below.alloc ?_ ?_ _) | (with_reducible refine Below.drew ?_) | (with_reducible refine Below.setCell ?_ ?_ _) | (with_reducible apply below_at; (case k => (with_reducible assumption)); (case hB => omega)) | (with_reducible apply below_on; (with_reducible assumption)) | (go_size; done) | (with_reducible apply size_of))))
    have B5 : Below w4.heap.size w4 w5 := ((Below.refl _ _).alloc (Nat.le_refl _) _).trans (hb5.mono (by simp))
    have H1 := Lib.hid (H1'.out.below B5 (Nat.le_refl _))
    have H2' := Lib.hid (H2.out.below B5 (Nat.le_refl _))
    have H3 := Lib.hid (H3'.out.below B5 (Nat.le_refl _))
    have H4' := Lib.hid (H4.out.below B5 (Nat.le_refl _))
    obtain ⟨l0, l1, l2, l3, l4⟩ := Lies.cells5 HL5.out
    have lt5 := HL5.out.lt
    clear hb5 HL4 HM4 HN4 HO4 HW4 B5 H1' H2 H3' H4
    go_wp2_with fail
    refine (rOver_any x1 x2 x A zs.length c t _ a1 a2 b1 b2 d1 d2 (by omega)).mono ?_
    rintro e w6 ⟨rfl, hb6⟩
    have HL6 := Lib.hid (HL5.out.past hb6)
    have HM6 := Lib.hid (HM5.out.past hb6)
    have HN6 := Lib.hid (HN5.out.past hb6)
    have HO6 := Lib.hid (HO5.out.past hb6)
    have HP6 := Lib.hid (HP5.out.past hb6)
    have HW6 : Hid (Below w.heap.size w w6) := Lib.hid (by have := HW5.out; (repeat' (first | (with_reducible exact Below.refl _ _) | (with_reducible assumption) | (with_reducible refine below_drewN ?_ _) | (with_reducible refine below_new ?_ _) | (with_reducible refine Below.alloc ?_ ?_ _) | (with_reducible refine Below.drew ?_) | (with_reducible refine Below.setCell ?_ ?_ _) | (with_reducible apply below_at; (case k => (with_reducible assumption)); (case hB => omega)) | (with_reducible apply below_on; (with_reducible assumption)) | (go_size; done) | (with_reducible apply size_of))))
    have H1' := Lib.hid (H1.out.below hb6 (Nat.le_refl _))
    have H2 := Lib.hid (H2'.out.below hb6 (Nat.le_refl _))
    have H3' := Lib.hid (H3.out.below hb6 (Nat.le_refl _))
    have H4 := Lib.hid (H4'.out.below hb6 (Nat.le_refl _))
    have HA6 := Lib.hid (HA.out.below HW6.out (Nat.le_refl _))
    clear hb6 HL5 HM5 HN5 HO5 HP5 HW5 H1 H2' H3 H4' l0 l1 l2 l3 l4 HA
    have lt6 := HL6.out.lt
    have lm6 := HM6.out.lt
    have ln6 := HN6.out.lt
    have lo6 := HO6.out.lt
    have lp6 := HP6.out.lt
    have t1 : (nwE zs == nwE zs) = true := by simp
    have t2 : (dgE x1 x2 x zs t p == dgE x1 x2 x zs t p) = true := by simp
    have t3 : (dgB x1 x2 x zs t p == dgB x1 x2 x zs t p) = true := by simp
    have t4 : (ovV x1 x2 x zs.length t == ovV x1 x2 x zs.length t) = true := by simp
    have t5 : (dcV x1 x2 x zs.length t == dcV x1 x2 x zs.length t) = true := by simp
    have HC3 := Lib.hid (fun (x : World) (hb : Below w6.heap.size w6 x) => cvB (c := c) HA6.out hb rfl)
    obtain ⟨g1, g2, g3, g4, g5, g6, g7, g8⟩ := dgV_bd (x1 := x1) (x2 := x2) (x := x) (zs := zs) (t := t) (p := p) HZ.out a1 b2
    obtain ⟨k1, k2, k3, k4, k5, k6, k7, k8⟩ := nwV_bd HZ.out
    generalize dgV x1 x2 x zs t p = q at *
    generalize nwV zs = r at *
    go_wp2_with fail
    go_region_held3 (fun X => ((X).cell? ⟨w.heap.size, 0, none⟩ = some (.int .u32 (x1)) ∧ (X).cell? ⟨w.heap.size, 1, none⟩ = some (.int .u32 (x2)) ∧ (X).cell? ⟨w.heap.size, 2, none⟩ = some (.int .u32 (x)) ∧ (X).cell? ⟨w.heap.size, 3, none⟩ = some (.slice A zs.length c) ∧ (X).cell? ⟨w.heap.size, 4, none⟩ = some (.int .i64 (t))) ∧ ((X).cell? ⟨w1.heap.size, 0, none⟩ = some (.int .u32 ((r).1)) ∧ (X).cell? ⟨w1.heap.size, 1, none⟩ = some (.int .u32 ((r).2.1)) ∧ (X).cell? ⟨w1.heap.size, 2, none⟩ = some (.int .u32 ((r).2.2.1)) ∧ (X).cell? ⟨w1.heap.size, 3, none⟩ = some (.slice (A1) (r).2.2.2.1.length (c1)) ∧ (X).cell? ⟨w1.heap.size, 4, none⟩ = some (.int .i64 ((r).2.2.2.2))) ∧ ((X).cell? ⟨w2.heap.size, 0, none⟩ = some (.int .u32 ((r).1)) ∧ (X).cell? ⟨w2.heap.size, 1, none⟩ = some (.int .u32 ((r).2.1)) ∧ (X).cell? ⟨w2.heap.size, 2, none⟩ = some (.int .u32 ((r).2.2.1)) ∧ (X).cell? ⟨w2.heap.size, 3, none⟩ = some (.slice (A2) (r).2.2.2.1.length (c2)) ∧ (X).cell? ⟨w2.heap.size, 4, none⟩ = some (.int .i64 ((r).2.2.2.2))) ∧ ((X).cell? ⟨w3.heap.size, 0, none⟩ = some (.int .u32 ((q).1)) ∧ (X).cell? ⟨w3.heap.size, 1, none⟩ = some (.int .u32 ((q).2.1)) ∧ (X).cell? ⟨w3.heap.size, 2, none⟩ = some (.int .u32 ((q).2.2.1)) ∧ (X).cell? ⟨w3.heap.size, 3, none⟩ = some (.slice (A3) (q).2.2.2.1.length (c3)) ∧ (X).cell? ⟨w3.heap.size, 4, none⟩ = some (.int .i64 ((q).2.2.2.2))) ∧ ((X).cell? ⟨w4.heap.size, 0, none⟩ = some (.int .u32 ((q).1)) ∧ (X).cell? ⟨w4.heap.size, 1, none⟩ = some (.int .u32 ((q).2.1)) ∧ (X).cell? ⟨w4.heap.size, 2, none⟩ = some (.int .u32 ((q).2.2.1)) ∧ (X).cell? ⟨w4.heap.size, 3, none⟩ = some (.slice (A4) (q).2.2.2.1.length (c4)) ∧ (X).cell? ⟨w4.heap.size, 4, none⟩ = some (.int .i64 ((q).2.2.2.2))) ∧ (convert 23 9 (.slice A zs.length c)).run Try.prog X = .ok (.string (bstr zs)) X)
      ((exact ⟨Lies.cells5 (t := 25) (by have := HL6.out; (repeat' (first | (with_reducible assumption) | (with_reducible exact Lies.fresh _ _ _) | (with_reducible apply Lies.fresh_at; (first | (with_reducible rfl) | (simp; done))) | (with_reducible refine Lies.drew ?_) | (with_reducible refine Lies.drewN ?_ _) | (with_reducible refine Lies.alloc ?_ _) | (with_reducible apply Lies.past; case hb => (with_reducible assumption)) | (with_reducible apply Lies.keeps; (case k => (with_reducible assumption)); (case ht => decide)) | (with_reducible apply Lies.store3) | (with_reducible apply Lies.other; case hp => (first | omega | (simp; done) | (simp; omega)))))), Lies.cells5 (t := 25) (by have := HM6.out; (repeat' (first | (with_reducible assumption) | (with_reducible exact Lies.fresh _ _ _) | (with_reducible apply Lies.fresh_at; (first | (with_reducible rfl) | (simp; done))) | (with_reducible refine Lies.drew ?_) | (with_reducible refine Lies.drewN ?_ _) | (with_reducible refine Lies.alloc ?_ _) | (with_reducible apply Lies.past; case hb => (with_reducible assumption)) | (with_reducible apply Lies.keeps; (case k => (with_reducible assumption)); (case ht => decide)) | (with_reducible apply Lies.store3) | (with_reducible apply Lies.other; case hp => (first | omega | (simp; done) | (simp; omega)))))), Lies.cells5 (t := 25) (by have := HN6.out; (repeat' (first | (with_reducible assumption) | (with_reducible exact Lies.fresh _ _ _) | (with_reducible apply Lies.fresh_at; (first | (with_reducible rfl) | (simp; done))) | (with_reducible refine Lies.drew ?_) | (with_reducible refine Lies.drewN ?_ _) | (with_reducible refine Lies.alloc ?_ _) | (with_reducible apply Lies.past; case hb => (with_reducible assumption)) | (with_reducible apply Lies.keeps; (case k => (with_reducible assumption)); (case ht => decide)) | (with_reducible apply Lies.store3) | (with_reducible apply Lies.other; case hp => (first | omega | (simp; done) | (simp; omega)))))), Lies.cells5 (t := 25) (by have := HO6.out; (repeat' (first | (with_reducible assumption) | (with_reducible exact Lies.fresh _ _ _) | (with_reducible apply Lies.fresh_at; (first | (with_reducible rfl) | (simp; done))) | (with_reducible refine Lies.drew ?_) | (with_reducible refine Lies.drewN ?_ _) | (with_reducible refine Lies.alloc ?_ _) | (with_reducible apply Lies.past; case hb => (with_reducible assumption)) | (with_reducible apply Lies.keeps; (case k => (with_reducible assumption)); (case ht => decide)) | (with_reducible apply Lies.store3) | (with_reducible apply Lies.other; case hp => (first | omega | (simp; done) | (simp; omega)))))), Lies.cells5 (t := 25) (by have := HP6.out; (repeat' (first | (with_reducible assumption) | (with_reducible exact Lies.fresh _ _ _) | (with_reducible apply Lies.fresh_at; (first | (with_reducible rfl) | (simp; done))) | (with_reducible refine Lies.drew ?_) | (with_reducible refine Lies.drewN ?_ _) | (with_reducible refine Lies.alloc ?_ _) | (with_reducible apply Lies.past; case hb => (with_reducible assumption)) | (with_reducible apply Lies.keeps; (case k => (with_reducible assumption)); (case ht => decide)) | (with_reducible apply Lies.store3) | (with_reducible apply Lies.other; case hp => (first | omega | (simp; done) | (simp; omega)))))), HC3.out _ (by (repeat' (first | (with_reducible exact Below.refl _ _) | (with_reducible assumption) | (with_reducible refine below_drewN ?_ _) | (with_reducible refine below_new ?_ _) | (with_reducible refine Below.alloc ?_ ?_ _) | (with_reducible refine Below.drew ?_) | (with_reducible refine Below.setCell ?_ ?_ _) | (with_reducible apply below_at; (case k => (with_reducible assumption)); (case hB => omega)) | (with_reducible apply below_on; (with_reducible assumption)) | (go_size; done) | (with_reducible apply size_of))))⟩))
      (first
        | (go_at_call 16; refine (Check_any _ _ _ _ _ _ _ _ a1 a2 b1 b2 d1 d2 (by omega)).mono ?_; rintro e u3 ⟨rfl, hu3⟩)
        | (go_at_call 17; refine (rCheckD_any _ _ _ _ _ _ _ _ a1 a2 b1 b2 d1 d2 (by omega)).mono ?_; rintro e u4 ⟨rfl, hu4⟩)
        | (go_at_call 15; (with_reducible refine (SameD_yes r.1 r.2.1 r.2.2.1 r.2.2.2.2 A1 A2 r.2.2.2.1.length c1 c2 r.2.2.2.1 _ (H1'.out.below (by (repeat' (first | (with_reducible exact Below.refl _ _) | (with_reducible assumption) | (with_reducible refine below_drewN ?_ _) | (with_reducible refine below_new ?_ _) | (with_reducible refine Below.alloc ?_ ?_ _) | (with_reducible refine Below.drew ?_) | (with_reducible refine Below.setCell ?_ ?_ _) | (with_reducible apply below_at; (case k => (with_reducible assumption)); (case hB => omega)) | (with_reducible apply below_on; (with_reducible assumption)) | (go_size; done) | (with_reducible apply size_of)))) (Nat.le_refl _)) (H2.out.below (by (repeat' (first | (with_reducible exact Below.refl _ _) | (with_reducible assumption) | (with_reducible refine below_drewN ?_ _) | (with_reducible refine below_new ?_ _) | (with_reducible refine Below.alloc ?_ ?_ _) | (with_reducible refine Below.drew ?_) | (with_reducible refine Below.setCell ?_ ?_ _) | (with_reducible apply below_at; (case k => (with_reducible assumption)); (case hB => omega)) | (with_reducible apply below_on; (with_reducible assumption)) | (go_size; done) | (with_reducible apply size_of)))) (Nat.le_refl _)) rfl (by omega)).mono ?_); rintro e u5 ⟨rfl, hu5⟩)
        | (go_at_call 15; (with_reducible refine (SameD_yes q.1 q.2.1 q.2.2.1 q.2.2.2.2 A3 A4 q.2.2.2.1.length c3 c4 q.2.2.2.1 _ (H3'.out.below (by (repeat' (first | (with_reducible exact Below.refl _ _) | (with_reducible assumption) | (with_reducible refine below_drewN ?_ _) | (with_reducible refine below_new ?_ _) | (with_reducible refine Below.alloc ?_ ?_ _) | (with_reducible refine Below.drew ?_) | (with_reducible refine Below.setCell ?_ ?_ _) | (with_reducible apply below_at; (case k => (with_reducible assumption)); (case hB => omega)) | (with_reducible apply below_on; (with_reducible assumption)) | (go_size; done) | (with_reducible apply size_of)))) (Nat.le_refl _)) (H4.out.below (by (repeat' (first | (with_reducible exact Below.refl _ _) | (with_reducible assumption) | (with_reducible refine below_drewN ?_ _) | (with_reducible refine below_new ?_ _) | (with_reducible refine Below.alloc ?_ ?_ _) | (with_reducible refine Below.drew ?_) | (with_reducible refine Below.setCell ?_ ?_ _) | (with_reducible apply below_at; (case k => (with_reducible assumption)); (case hB => omega)) | (with_reducible apply below_on; (with_reducible assumption)) | (go_size; done) | (with_reducible apply size_of)))) (Nat.le_refl _)) rfl (by omega)).mono ?_); rintro e u6 ⟨rfl, hu6⟩))
    all_goals
      go_wp2
      go_ret
      exact ⟨rfl, by have := HW6.out; (repeat' (first | (with_reducible exact Below.refl _ _) | (with_reducible assumption) | (with_reducible refine below_drewN ?_ _) | (with_reducible refine below_new ?_ _) | (with_reducible refine Below.alloc ?_ ?_ _) | (with_reducible refine Below.drew ?_) | (with_reducible refine Below.setCell ?_ ?_ _) | (with_reducible apply below_at; (case k => (with_reducible assumption)); (case hB => omega)) | (with_reducible apply below_on; (with_reducible assumption)) | (go_size; done) | (with_reducible apply size_of)))⟩
end Go.Proofs.Ytckbiielahgliaa.decL
