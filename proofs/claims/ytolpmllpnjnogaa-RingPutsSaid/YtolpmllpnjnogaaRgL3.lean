/- The chapter's examples of rings, by a walk. -/
import Derived.Test.YtolpmllpnjnogaaRgL2
import Derived.BigQuiet
namespace Go.Proofs.Ytolpmllpnjnogaa.rgL
open Go.RowKit Go.Proofs.Ytolpmllpnjnogaa.base Go.Proofs.Ytolpmllpnjnogaa.rgP Go.Proofs.Ytolpmllpnjnogaa.rgW
set_option linter.unusedVariables false
set_option linter.unusedSimpArgs false

theorem has_mark {w : World} {e : TypeId} {zs : List Int} {g : Nat} {fr : Nat × Nat} (hg : w.heap.size = g) : Has .u8 (w.alloc (.cells (zs.map (Value.int .u8)).toArray e fr)) (some ⟨g, 0, none⟩) zs := by
  refine .inr ⟨g, 0, rfl, by rw [← hg]; simp, fun i hi => ?_⟩
  rw [Joins.cell_alloc_mark_at w _ e fr g _ hg.symm, Nat.zero_add]
  simp [List.getD_eq_getElem?_getD, List.getElem?_eq_getElem hi]
theorem has_drew {w : World} {k : IntKind} {A : Option Addr} {zs : List Int} (h : Has k w A zs) : Has k w.drew A zs := h
theorem has_alloc {w : World} {k : IntKind} {A : Option Addr} {zs : List Int} (h : Has k w A zs) (o : Obj) : Has k (w.alloc o) A zs := h.below ((Below.refl _ _).alloc (Nat.le_refl _) _) (Nat.le_refl _)
theorem _root_.Go.Proofs.Ytolpmllpnjnogaa.base.RgIn.own {w w' : World} {A : Option Addr} {n c B : Nat} {r : Rg} (h : RgIn w A n c r) (o : OwnZ w' B (.slice A n c) r.b) : RgIn w' A n c r := ⟨h.l1, h.l2, h.n1, h.n2, o.has, h.e, h.c1, h.c2, h.b⟩
theorem back_t (r : Rg) (A : Option Addr) (n c : Nat) (k x : Int) (w : World) (h : RgIn w A n c r) (k1 : -9223372036854775808 ≤ k) (k2 : k ≤ 9223372036854775807) (hh : backE r k = 0 ∧ backV r k = x) :
    Calls Try.prog 15 #[.agg #[.int .i64 (r).l, .slice A n c, .int .i64 (r).n], .int .i64 k, .int .u8 x] w fun e w' => e = .returned (.bool true) ∧ Below w.heap.size w w' := by
  refine (back_any r A n c k x w h k1 k2).mono ?_
  rintro e w1 ⟨rfl, hb⟩
  exact ⟨retb (by rw [decide_eq_true hh.1, decide_eq_true hh.2]; rfl), hb⟩
theorem y3 {w : World} {g : Nat} {t : TypeId} {a b c : Value} (h : Lies w g t [a, b, c]) : w.cell? ⟨g, 0, none⟩ = some a ∧ w.cell? ⟨g, 1, none⟩ = some b ∧ w.cell? ⟨g, 2, none⟩ = some c := ⟨h.three.1, h.three.2.1, h.three.2.2.1⟩
set_option maxRecDepth 100000 in
set_option maxHeartbeats 4000000 in
theorem alive (w : World) : Calls Try.prog 16 #[] w fun e w' => e = .returned (.bool true) ∧ Below w.heap.size w w' := by
  obtain ⟨r0, hr0⟩ : ∃ r, newR 0 = r := ⟨_, rfl⟩
  obtain ⟨r1, hr1⟩ : ∃ r, putV r0 [97, 98, 99] = r := ⟨_, rfl⟩
  obtain ⟨Z, hZ⟩ : ∃ Z : List Int, List.replicate 64 0 = Z := ⟨_, rfl⟩
  obtain ⟨r2, hr2⟩ : ∃ r, putV r1 Z = r := ⟨_, rfl⟩
  have HR0 := Lib.hid hr0
  have HR1 := Lib.hid hr1
  have HR2 := Lib.hid hr2
  have HV : Hid (newE 0 = 0 ∧ r0.b.length = 64 ∧ putE r0 [97, 98, 99] = 0 ∧ atE r1 1 = 0 ∧ atV r1 1 = 98 ∧ atB r1 1 = true ∧ atE r1 3 = 0 ∧ atB r1 3 = false ∧ putE r1 Z = 0 ∧ atE r2 2 = 0 ∧ atB r2 2 = false ∧ (backE r1 1 = 0 ∧ backV r1 1 = 99) ∧ (backE r1 3 = 0 ∧ backV r1 3 = 97) ∧ (backE r1 4 = 0 ∧ backV r1 4 = 0)) := Lib.hid (by subst hr2 hZ hr1 hr0; decide +kernel)
  have HZ : Hid ((∀ (W : World) (g : Nat), W.heap.size = g → Has .u8 (W.alloc (.cells (zCells 64) 5)) (some ⟨g, 0, none⟩) Z) ∧ Z.length = 64 ∧ ∀ z ∈ Z, 0 ≤ z ∧ z ≤ 255) := Lib.hid (by subst hZ; exact ⟨fun W g hg => (own_z W 64 (by decide) (Nat.le_refl _) hg).has, by simp, by decide⟩)
  clear hr0 hr1 hr2 hZ
  have kc := fun (w : World) (C : Array Value) (n c g : Nat) (hg : g = w.heap.size) => Joins.run_convert_bytes_const_at (P := Try.prog) w 22 5 C n c g hg Try.underlying22 Try.underlying5
  go_enter Try.func16, Try.ntmps16
  go_wp2_with fail
  refine (New_any 0 _).mono ?_
  rintro e w1 ⟨A0, n0, c0, rfl, i0, -, hb1⟩
  rw [HR0.out] at i0 ⊢
  rw [HV.out.1]
  have I0 := Lib.hid i0
  have a1 : Below w.heap.size w w1 := by (repeat' (first | (with_reducible exact Below.refl _ _) | (with_reducible assumption) | (with_reducible refine below_drewN ?_ _) | (with_reducible refine below_new ?_ _) | (with_reducible refine Below.alloc ?_ ?_ _) | (with_reducible refine Below.drew ?_) | (with_reducible refine Below.setCell ?_ ?_ _) | (with_reducible apply below_at; (case k => (with_reducible assumption)); (case hB => omega)) | (with_reducible apply below_on; (with_reducible assumption)) | (go_size; done) | (with_reducible apply size_of)))
  clear i0 hb1
  have hn0 : (n0 : Int) = 64 := by have := I0.out.e; have := HV.out.2.1; omega
  go_wp2_with fail
  refine (Put_any r0 A0 _ n0 c0 3 3 [97, 98, 99] _ (I0.out.below (by (repeat' (first | (with_reducible exact Below.refl _ _) | (with_reducible assumption) | (with_reducible refine below_drewN ?_ _) | (with_reducible refine below_new ?_ _) | (with_reducible refine Below.alloc ?_ ?_ _) | (with_reducible refine Below.drew ?_) | (with_reducible refine Below.setCell ?_ ?_ _) | (with_reducible apply below_at; (case k => (with_reducible assumption)); (case hB => omega)) | (with_reducible apply below_on; (with_reducible assumption)) | (go_size; done) | (with_reducible apply size_of))))) (has_mark (zs := [97, 98, 99]) (by simp)) rfl (by omega) (by decide)).mono ?_
  rintro e w2 ⟨A1, n1, c1, rfl, i1, -, hb2⟩
  rw [HR1.out] at i1 ⊢
  rw [HV.out.2.2.1]
  have I1 := Lib.hid i1
  have K1 : Lies (w2) (w1.heap.size) 24 [.int .i64 (r0).l, .slice (A0) (n0) (c0), .int .i64 (r0).n] := by (repeat' (first | (with_reducible assumption) | (with_reducible exact Lies.fresh _ _ _) | (with_reducible apply Lies.fresh_at; (first | (with_reducible rfl) | (simp; done))) | (with_reducible refine Lies.drew ?_) | (with_reducible refine Lies.drewN ?_ _) | (with_reducible refine Lies.alloc ?_ _) | (with_reducible apply Lies.past; case hb => (with_reducible assumption)) | (with_reducible apply Lies.keeps; (case k => (with_reducible assumption)); (case ht => decide)) | (with_reducible apply Lies.store3) | (with_reducible apply Lies.other; case hp => (first | omega | (simp; done) | (simp; omega)))))
  obtain ⟨x0, x1, x2, -, -, -⟩ := K1.three
  have HK1 := Lib.hid K1
  have lt1 := K1.lt
  have HS12 := Lib.hid K1.lt
  have a2 : Below w.heap.size w w2 := by (repeat' (first | (with_reducible exact Below.refl _ _) | (with_reducible assumption) | (with_reducible refine below_drewN ?_ _) | (with_reducible refine below_new ?_ _) | (with_reducible refine Below.alloc ?_ ?_ _) | (with_reducible refine Below.drew ?_) | (with_reducible refine Below.setCell ?_ ?_ _) | (with_reducible apply below_at; (case k => (with_reducible assumption)); (case hB => omega)) | (with_reducible apply below_on; (with_reducible assumption)) | (go_size; done) | (with_reducible apply size_of)))
  clear i1 hb2 a1 K1 kc
  go_wp2_with fail
  refine (At_any r1 A1 n1 c1 1 _ (I1.out.below (by (repeat' (first | (with_reducible exact Below.refl _ _) | (with_reducible assumption) | (with_reducible refine below_drewN ?_ _) | (with_reducible refine below_new ?_ _) | (with_reducible refine Below.alloc ?_ ?_ _) | (with_reducible refine Below.drew ?_) | (with_reducible refine Below.setCell ?_ ?_ _) | (with_reducible apply below_at; (case k => (with_reducible assumption)); (case hB => omega)) | (with_reducible apply below_on; (with_reducible assumption)) | (go_size; done) | (with_reducible apply size_of))))) (by omega) (by omega)).mono ?_
  rintro e w3 ⟨rfl, hb3⟩
  rw [HV.out.2.2.2.1, HV.out.2.2.2.2.1, HV.out.2.2.2.2.2.1]
  have K2 : Lies (w3) (w2.heap.size) 24 [.int .i64 (r1).l, .slice (A1) (n1) (c1), .int .i64 (r1).n] := by (repeat' (first | (with_reducible assumption) | (with_reducible exact Lies.fresh _ _ _) | (with_reducible apply Lies.fresh_at; (first | (with_reducible rfl) | (simp; done))) | (with_reducible refine Lies.drew ?_) | (with_reducible refine Lies.drewN ?_ _) | (with_reducible refine Lies.alloc ?_ _) | (with_reducible apply Lies.past; case hb => (with_reducible assumption)) | (with_reducible apply Lies.keeps; (case k => (with_reducible assumption)); (case ht => decide)) | (with_reducible apply Lies.store3) | (with_reducible apply Lies.other; case hp => (first | omega | (simp; done) | (simp; omega)))))
  have K1' : Lies (w3) (w1.heap.size) 24 [.int .i64 (r0).l, .slice (A0) (n0) (c0), .int .i64 (r0).n] := (HK1.out.alloc _).past hb3
  have HK1 := Lib.hid K1'
  have HK2 := Lib.hid K2
  have lt2 := K2.lt
  obtain ⟨y0, y1, y2, -, -, -⟩ := K2.three
  have I1' : Hid (RgIn w3 A1 n1 c1 r1) := Lib.hid (I1.out.below (by (repeat' (first | (with_reducible exact Below.refl _ _) | (with_reducible assumption) | (with_reducible refine below_drewN ?_ _) | (with_reducible refine below_new ?_ _) | (with_reducible refine Below.alloc ?_ ?_ _) | (with_reducible refine Below.drew ?_) | (with_reducible refine Below.setCell ?_ ?_ _) | (with_reducible apply below_at; (case k => (with_reducible assumption)); (case hB => omega)) | (with_reducible apply below_on; (with_reducible assumption)) | (go_size; done) | (with_reducible apply size_of)))))
  have a3 : Below w.heap.size w w3 := by (repeat' (first | (with_reducible exact Below.refl _ _) | (with_reducible assumption) | (with_reducible refine below_drewN ?_ _) | (with_reducible refine below_new ?_ _) | (with_reducible refine Below.alloc ?_ ?_ _) | (with_reducible refine Below.drew ?_) | (with_reducible refine Below.setCell ?_ ?_ _) | (with_reducible apply below_at; (case k => (with_reducible assumption)); (case hB => omega)) | (with_reducible apply below_on; (with_reducible assumption)) | (go_size; done) | (with_reducible apply size_of)))
  clear hb3 a2 K1' K2 x0 x1 x2 lt1
  go_wp2_with fail
  refine (At_any r1 A1 n1 c1 3 _ (I1'.out.below (by (repeat' (first | (with_reducible exact Below.refl _ _) | (with_reducible assumption) | (with_reducible refine below_drewN ?_ _) | (with_reducible refine below_new ?_ _) | (with_reducible refine Below.alloc ?_ ?_ _) | (with_reducible refine Below.drew ?_) | (with_reducible refine Below.setCell ?_ ?_ _) | (with_reducible apply below_at; (case k => (with_reducible assumption)); (case hB => omega)) | (with_reducible apply below_on; (with_reducible assumption)) | (go_size; done) | (with_reducible apply size_of))))) (by omega) (by omega)).mono ?_
  rintro e w4 ⟨rfl, hb4⟩
  rw [HV.out.2.2.2.2.2.2.1, HV.out.2.2.2.2.2.2.2.1]
  have K2 : Lies (w4) (w2.heap.size) 24 [.int .i64 (r1).l, .slice (A1) (n1) (c1), .int .i64 (r1).n] := HK2.out.past hb4
  have HK1 := Lib.hid (HK1.out.past hb4)
  have HK2 := Lib.hid K2
  have lt2 := K2.lt
  obtain ⟨y0, y1, y2, -, -, -⟩ := K2.three
  have I1' : Hid (RgIn w4 A1 n1 c1 r1) := Lib.hid (I1'.out.below (by (repeat' (first | (with_reducible exact Below.refl _ _) | (with_reducible assumption) | (with_reducible refine below_drewN ?_ _) | (with_reducible refine below_new ?_ _) | (with_reducible refine Below.alloc ?_ ?_ _) | (with_reducible refine Below.drew ?_) | (with_reducible refine Below.setCell ?_ ?_ _) | (with_reducible apply below_at; (case k => (with_reducible assumption)); (case hB => omega)) | (with_reducible apply below_on; (with_reducible assumption)) | (go_size; done) | (with_reducible apply size_of)))))
  have a4 : Below w.heap.size w w4 := by (repeat' (first | (with_reducible exact Below.refl _ _) | (with_reducible assumption) | (with_reducible refine below_drewN ?_ _) | (with_reducible refine below_new ?_ _) | (with_reducible refine Below.alloc ?_ ?_ _) | (with_reducible refine Below.drew ?_) | (with_reducible refine Below.setCell ?_ ?_ _) | (with_reducible apply below_at; (case k => (with_reducible assumption)); (case hB => omega)) | (with_reducible apply below_on; (with_reducible assumption)) | (go_size; done) | (with_reducible apply size_of)))
  clear hb4 a3 K2
  have hmk : ∀ W : World, (Instr.makeSlice 22 (.int .i64 64) (.int .i64 64)).run Try.prog W = .ok (.slice (some ⟨W.heap.size, 0, none⟩) 64 64) (W.alloc (.cells (zCells 64) 5)) := fun W => mk8 64 (by omega) W
  go_upto_region 5 with fail
  go_cut [11, 12] (fun s11 s12 wx => ∃ A n c G, s11 = .pointer (some ⟨G, 0, none⟩) ∧ s12 = .int .i64 0 ∧ (Lies (wx) (G) 24 [.int .i64 (r2).l, .slice (A) (n) (c), .int .i64 (r2).n]) ∧ RgIn wx A n c r2 ∧ (Lies (wx) (w1.heap.size) 24 [.int .i64 (r0).l, .slice (A0) (n0) (c0), .int .i64 (r0).n]) ∧ (Lies (wx) (w2.heap.size) 24 [.int .i64 (r1).l, .slice (A1) (n1) (c1), .int .i64 (r1).n]) ∧ RgIn wx A1 n1 c1 r1 ∧ Below w.heap.size w wx)
  case first =>
    clear hn0
    go_region_law (first | (go_simp; go_at_call 10; refine (Put_any r1 A1 _ n1 c1 64 64 Z _ (I1'.out.below (by (repeat' (first | (with_reducible exact Below.refl _ _) | (with_reducible assumption) | (with_reducible refine below_drewN ?_ _) | (with_reducible refine below_new ?_ _) | (with_reducible refine Below.alloc ?_ ?_ _) | (with_reducible refine Below.drew ?_) | (with_reducible refine Below.setCell ?_ ?_ _) | (with_reducible apply below_at; (case k => (with_reducible assumption)); (case hB => omega)) | (with_reducible apply below_on; (with_reducible assumption)) | (go_size; done) | (with_reducible apply size_of))))) (by first | exact has_drew (HZ.out.1 _ _ (by first | rfl | (simp; done))) | exact HZ.out.1 _ _ (by first | rfl | (simp; done)) | exact has_drew (has_alloc (HZ.out.1 _ _ (by first | rfl | (simp; done))) _) | exact has_alloc (HZ.out.1 _ _ (by first | rfl | (simp; done))) _) HZ.out.2.1 (by omega) HZ.out.2.2).mono ?_; rintro e w5 ⟨A2, n2, c2, rfl, i2, o2, hb5⟩; rw [HR2.out] at i2 o2 ⊢; rw [HV.out.2.2.2.2.2.2.2.2.1]; (first | (refine lay (P := Lies (w5) (w4.heap.size + 1) 24 [.int .i64 0, .slice none 0 0, .int .i64 0]) ?_ ?_; (focus ((repeat' (first | (with_reducible assumption) | (with_reducible exact Lies.fresh _ _ _) | (with_reducible apply Lies.fresh_at; (first | (with_reducible rfl) | (simp; done))) | (with_reducible refine Lies.drew ?_) | (with_reducible refine Lies.drewN ?_ _) | (with_reducible refine Lies.alloc ?_ _) | (with_reducible apply Lies.past; case hb => (with_reducible assumption)) | (with_reducible apply Lies.keeps; (case k => (with_reducible assumption)); (case ht => decide)) | (with_reducible apply Lies.store3) | (with_reducible apply Lies.other; case hp => (first | omega | (simp; done) | (simp; omega))))); done)); intro L9; obtain ⟨b0, b1, b2, g0, g1, g2⟩ := L9.three) | (refine lay (P := Lies (w5) (w4.heap.size) 24 [.int .i64 0, .slice none 0 0, .int .i64 0]) ?_ ?_; (focus ((repeat' (first | (with_reducible assumption) | (with_reducible exact Lies.fresh _ _ _) | (with_reducible apply Lies.fresh_at; (first | (with_reducible rfl) | (simp; done))) | (with_reducible refine Lies.drew ?_) | (with_reducible refine Lies.drewN ?_ _) | (with_reducible refine Lies.alloc ?_ _) | (with_reducible apply Lies.past; case hb => (with_reducible assumption)) | (with_reducible apply Lies.keeps; (case k => (with_reducible assumption)); (case ht => decide)) | (with_reducible apply Lies.store3) | (with_reducible apply Lies.other; case hp => (first | omega | (simp; done) | (simp; omega))))); done)); intro L9; obtain ⟨b0, b1, b2, g0, g1, g2⟩ := L9.three) | skip)))
    all_goals
      go_wp2_with fail
      go_meet
      have h1 := HK1.out
      have h2 := HK2.out
      have s12 := HS12.out
      have s4 := a4.size
      refine ⟨_, _, _, _, rfl, rfl, by (repeat' (first | (with_reducible assumption) | (with_reducible exact Lies.fresh _ _ _) | (with_reducible apply Lies.fresh_at; (first | (with_reducible rfl) | (simp; done))) | (with_reducible refine Lies.drew ?_) | (with_reducible refine Lies.drewN ?_ _) | (with_reducible refine Lies.alloc ?_ _) | (with_reducible apply Lies.past; case hb => (with_reducible assumption)) | (with_reducible apply Lies.keeps; (case k => (with_reducible assumption)); (case ht => decide)) | (with_reducible apply Lies.store3) | (with_reducible apply Lies.other; case hp => (first | omega | (simp; done) | (simp; omega))))), by first | exact i2.own (OwnZ.store3 o2 L9 (by decide)) | exact i2.below (by (repeat' (first | (with_reducible exact Below.refl _ _) | (with_reducible assumption) | (with_reducible refine below_drewN ?_ _) | (with_reducible refine below_new ?_ _) | (with_reducible refine Below.alloc ?_ ?_ _) | (with_reducible refine Below.drew ?_) | (with_reducible refine Below.setCell ?_ ?_ _) | (with_reducible apply below_at; (case k => (with_reducible assumption)); (case hB => omega)) | (with_reducible apply below_on; (with_reducible assumption)) | (go_size; done) | (with_reducible apply size_of)))), by (repeat' (first | (with_reducible assumption) | (with_reducible exact Lies.fresh _ _ _) | (with_reducible apply Lies.fresh_at; (first | (with_reducible rfl) | (simp; done))) | (with_reducible refine Lies.drew ?_) | (with_reducible refine Lies.drewN ?_ _) | (with_reducible refine Lies.alloc ?_ _) | (with_reducible apply Lies.past; case hb => (with_reducible assumption)) | (with_reducible apply Lies.keeps; (case k => (with_reducible assumption)); (case ht => decide)) | (with_reducible apply Lies.store3) | (with_reducible apply Lies.other; case hp => (first | omega | (simp; done) | (simp; omega))))), by (repeat' (first | (with_reducible assumption) | (with_reducible exact Lies.fresh _ _ _) | (with_reducible apply Lies.fresh_at; (first | (with_reducible rfl) | (simp; done))) | (with_reducible refine Lies.drew ?_) | (with_reducible refine Lies.drewN ?_ _) | (with_reducible refine Lies.alloc ?_ _) | (with_reducible apply Lies.past; case hb => (with_reducible assumption)) | (with_reducible apply Lies.keeps; (case k => (with_reducible assumption)); (case ht => decide)) | (with_reducible apply Lies.store3) | (with_reducible apply Lies.other; case hp => (first | omega | (simp; done) | (simp; omega))))), I1'.out.below (by (repeat' (first | (with_reducible exact Below.refl _ _) | (with_reducible assumption) | (with_reducible refine below_drewN ?_ _) | (with_reducible refine below_new ?_ _) | (with_reducible refine Below.alloc ?_ ?_ _) | (with_reducible refine Below.drew ?_) | (with_reducible refine Below.setCell ?_ ?_ _) | (with_reducible apply below_at; (case k => (with_reducible assumption)); (case hB => omega)) | (with_reducible apply below_on; (with_reducible assumption)) | (go_size; done) | (with_reducible apply size_of)))), by (repeat' (first | (with_reducible exact Below.refl _ _) | (with_reducible assumption) | (with_reducible refine below_drewN ?_ _) | (with_reducible refine below_new ?_ _) | (with_reducible refine Below.alloc ?_ ?_ _) | (with_reducible refine Below.drew ?_) | (with_reducible refine Below.setCell ?_ ?_ _) | (with_reducible apply below_at; (case k => (with_reducible assumption)); (case hB => omega)) | (with_reducible apply below_on; (with_reducible assumption)) | (go_size; done) | (with_reducible apply size_of)))⟩
  case rest =>
    obtain ⟨A2, n2, c2, G, rfl, rfl, K3, i2, K1, K2, i1, a5⟩ := hcut
    have HK1 := Lib.hid K1
    have HK2 := Lib.hid K2
    have HK3 := Lib.hid K3
    have I1 := Lib.hid i1
    have I2 := Lib.hid i2
    clear y0 y1 y2 lt2 a4 hmk K1 i1 i2
    obtain ⟨y0, y1, y2, -, -, -⟩ := K3.three
    clear K2 K3
    go_wp2_with fail
    refine (At_any r2 A2 n2 c2 2 _ (I2.out.below (by (repeat' (first | (with_reducible exact Below.refl _ _) | (with_reducible assumption) | (with_reducible refine below_drewN ?_ _) | (with_reducible refine below_new ?_ _) | (with_reducible refine Below.alloc ?_ ?_ _) | (with_reducible refine Below.drew ?_) | (with_reducible refine Below.setCell ?_ ?_ _) | (with_reducible apply below_at; (case k => (with_reducible assumption)); (case hB => omega)) | (with_reducible apply below_on; (with_reducible assumption)) | (go_size; done) | (with_reducible apply size_of))))) (by omega) (by omega)).mono ?_
    rintro e w6 ⟨rfl, hb6⟩
    rw [HV.out.2.2.2.2.2.2.2.2.2.1, HV.out.2.2.2.2.2.2.2.2.2.2.1]
    have K1 := HK1.out.past hb6
    have K2 := HK2.out.past hb6
    have I1' := Lib.hid (I1.out.below hb6)
    obtain ⟨x0, x1, x2, -, -, -⟩ := K1.three
    obtain ⟨z0, z1, z2, -, -, -⟩ := K2.three
    have HK2 := Lib.hid K2
    have HK1 := Lib.hid K1
    have a6 : Below w.heap.size w w6 := by (repeat' (first | (with_reducible exact Below.refl _ _) | (with_reducible assumption) | (with_reducible refine below_drewN ?_ _) | (with_reducible refine below_new ?_ _) | (with_reducible refine Below.alloc ?_ ?_ _) | (with_reducible refine Below.drew ?_) | (with_reducible refine Below.setCell ?_ ?_ _) | (with_reducible apply below_at; (case k => (with_reducible assumption)); (case hB => omega)) | (with_reducible apply below_on; (with_reducible assumption)) | (go_size; done) | (with_reducible apply size_of)))
    have lt1 := K1.lt
    have lt2 := K2.lt
    clear hb6 a5 y0 y1 y2 K1 K2
    have HB1 := Lib.hid HV.out.2.2.2.2.2.2.2.2.2.2.2.1
    have HB3 := Lib.hid HV.out.2.2.2.2.2.2.2.2.2.2.2.2.1
    have HB4 := Lib.hid HV.out.2.2.2.2.2.2.2.2.2.2.2.2.2
    go_wp2_with (first
        | (go_at_call 15; with_reducible refine (back_t r1 A1 n1 c1 1 99 _ (I1'.out.below (by (repeat' (first | (with_reducible exact Below.refl _ _) | (with_reducible assumption) | (with_reducible refine below_drewN ?_ _) | (with_reducible refine below_new ?_ _) | (with_reducible refine Below.alloc ?_ ?_ _) | (with_reducible refine Below.drew ?_) | (with_reducible refine Below.setCell ?_ ?_ _) | (with_reducible apply below_at; (case k => (with_reducible assumption)); (case hB => omega)) | (with_reducible apply below_on; (with_reducible assumption)) | (go_size; done) | (with_reducible apply size_of))))) (by omega) (by omega) HB1.out).mono ?_; rintro e x7 ⟨rfl, hx7⟩; have K7 : Lies (x7) (w2.heap.size) 24 [.int .i64 (r1).l, .slice (A1) (n1) (c1), .int .i64 (r1).n] := (by have := HK2.out; (repeat' (first | (with_reducible assumption) | (with_reducible exact Lies.fresh _ _ _) | (with_reducible apply Lies.fresh_at; (first | (with_reducible rfl) | (simp; done))) | (with_reducible refine Lies.drew ?_) | (with_reducible refine Lies.drewN ?_ _) | (with_reducible refine Lies.alloc ?_ _) | (with_reducible apply Lies.past; case hb => (with_reducible assumption)) | (with_reducible apply Lies.keeps; (case k => (with_reducible assumption)); (case ht => decide)) | (with_reducible apply Lies.store3) | (with_reducible apply Lies.other; case hp => (first | omega | (simp; done) | (simp; omega)))))); obtain ⟨q0, q1, q2, -, -, -⟩ := K7.three)
        | (go_at_call 15; with_reducible refine (back_t r1 A1 n1 c1 3 97 _ (I1'.out.below (by (repeat' (first | (with_reducible exact Below.refl _ _) | (with_reducible assumption) | (with_reducible refine below_drewN ?_ _) | (with_reducible refine below_new ?_ _) | (with_reducible refine Below.alloc ?_ ?_ _) | (with_reducible refine Below.drew ?_) | (with_reducible refine Below.setCell ?_ ?_ _) | (with_reducible apply below_at; (case k => (with_reducible assumption)); (case hB => omega)) | (with_reducible apply below_on; (with_reducible assumption)) | (go_size; done) | (with_reducible apply size_of))))) (by omega) (by omega) HB3.out).mono ?_; rintro e x8 ⟨rfl, hx8⟩; have K8 : Lies (x8) (w2.heap.size) 24 [.int .i64 (r1).l, .slice (A1) (n1) (c1), .int .i64 (r1).n] := (by have := HK2.out; (repeat' (first | (with_reducible assumption) | (with_reducible exact Lies.fresh _ _ _) | (with_reducible apply Lies.fresh_at; (first | (with_reducible rfl) | (simp; done))) | (with_reducible refine Lies.drew ?_) | (with_reducible refine Lies.drewN ?_ _) | (with_reducible refine Lies.alloc ?_ _) | (with_reducible apply Lies.past; case hb => (with_reducible assumption)) | (with_reducible apply Lies.keeps; (case k => (with_reducible assumption)); (case ht => decide)) | (with_reducible apply Lies.store3) | (with_reducible apply Lies.other; case hp => (first | omega | (simp; done) | (simp; omega)))))); obtain ⟨q0', q1', q2', -, -, -⟩ := K8.three)
        | (go_at_call 15; with_reducible refine (back_t r1 A1 n1 c1 4 0 _ (I1'.out.below (by (repeat' (first | (with_reducible exact Below.refl _ _) | (with_reducible assumption) | (with_reducible refine below_drewN ?_ _) | (with_reducible refine below_new ?_ _) | (with_reducible refine Below.alloc ?_ ?_ _) | (with_reducible refine Below.drew ?_) | (with_reducible refine Below.setCell ?_ ?_ _) | (with_reducible apply below_at; (case k => (with_reducible assumption)); (case hB => omega)) | (with_reducible apply below_on; (with_reducible assumption)) | (go_size; done) | (with_reducible apply size_of))))) (by omega) (by omega) HB4.out).mono ?_; rintro e x9 ⟨rfl, hx9⟩))
    go_ret
    exact ⟨rfl, by (repeat' (first | (with_reducible exact Below.refl _ _) | (with_reducible assumption) | (with_reducible refine below_drewN ?_ _) | (with_reducible refine below_new ?_ _) | (with_reducible refine Below.alloc ?_ ?_ _) | (with_reducible refine Below.drew ?_) | (with_reducible refine Below.setCell ?_ ?_ _) | (with_reducible apply below_at; (case k => (with_reducible assumption)); (case hB => omega)) | (with_reducible apply below_on; (with_reducible assumption)) | (go_size; done) | (with_reducible apply size_of)))⟩
end Go.Proofs.Ytolpmllpnjnogaa.rgL
