/- The chapter's examples of contexts, by a walk. -/
import Derived.Test.YtpggdijhfdddpaaDoorCxA1
namespace Go.Proofs.YtpggdijhfdddpaaDoor.cxW
open Go.RowKit Go.Proofs.YtpggdijhfdddpaaDoor.base Go.Proofs.YtpggdijhfdddpaaDoor.rgP Go.Proofs.YtpggdijhfdddpaaDoor.cxP Go.Proofs.YtpggdijhfdddpaaDoor.hashP Go.Proofs.YtpggdijhfdddpaaDoor.hashW
set_option linter.unusedVariables false
set_option linter.unusedSimpArgs false
theorem has_mark8 {w : World} {e : TypeId} {zs : List Int} {g : Nat} {fr : Nat × Nat} (hg : w.heap.size = g) : Has .u8 (w.alloc (.cells (zs.map (Value.int .u8)).toArray e fr)) (some ⟨g, 0, none⟩) zs := by
  refine .inr ⟨g, 0, rfl, by rw [← hg]; simp, fun i hi => ?_⟩
  rw [Joins.cell_alloc_mark_at w _ e fr g _ hg.symm, Nat.zero_add]
  simp [List.getD_eq_getElem?_getD, List.getElem?_eq_getElem hi]
def St (w W : World) (g1 g2 : Nat) (r1 : Rg) (A1 : Option Addr) (n1 c1 : Nat) (r2 : Rg) (A2 : Option Addr) (n2 c2 : Nat) : Prop :=
  Below w.heap.size w W ∧ RgIn W A1 n1 c1 r1 ∧ RgIn W A2 n2 c2 r2 ∧ (Lies (W) (g1) 24 [.int .i64 (r1).l, .slice (A1) (n1) (c1), .int .i64 (r1).n]) ∧ (Lies (W) (g2) 24 [.int .i64 (r2).l, .slice (A2) (n2) (c2), .int .i64 (r2).n])
theorem St.past {w W W' : World} {g1 g2 : Nat} {r1 : Rg} {A1 : Option Addr} {n1 c1 : Nat} {r2 : Rg} {A2 : Option Addr} {n2 c2 : Nat} (h : St w W g1 g2 r1 A1 n1 c1 r2 A2 n2 c2) (hb : Below W.heap.size W W') : St w W' g1 g2 r1 A1 n1 c1 r2 A2 n2 c2 :=
  ⟨h.1.trans (hb.mono h.1.size), h.2.1.below hb, h.2.2.1.below hb, h.2.2.2.1.past hb, h.2.2.2.2.past hb⟩
theorem len_cut {r : Rg} {m : Nat} {l : List Int} (h : wdV r = l) (hm : m = (wdV r).length) : m = l.length := by rw [hm, h]
set_option maxRecDepth 100000 in
set_option maxHeartbeats 1500000 in
theorem alive (w : World) (hT : Tab w) : Calls Tryd.prog 21 #[] w fun e w' => e = .returned (.bool true) ∧ Below w.heap.size w w' := by
  have HTT := Lib.hid hT
  obtain ⟨r1, hr1⟩ : ∃ r, putR (newR 0) [71, 111, 32, 50, 71, 79] = r := ⟨_, rfl⟩
  obtain ⟨r2, hr2⟩ : ∃ r, putR (newR 3) [] = r := ⟨_, rfl⟩
  have HV1 : Hid (wdV r1 = [103, 111] ∧ rc1 r1 1 = 79 ∧ rc1 r1 2 = 71 ∧ rgE r1 = 0) := Lib.hid (by subst hr1; decide +kernel)
  have HV2 : Hid (wdV r2 = [] ∧ rgE r2 = 0 ∧ mkV r2 0 = hSteps (kStart 0) [0]) := Lib.hid (by subst hr2; decide +kernel)
  have HR1 := Lib.hid hr1
  have HR2 := Lib.hid hr2
  have HBS : Hid (bstr [103, 111] = ⟨#[103, 111]⟩) := Lib.hid (by decide +kernel)
  clear hr1 hr2 hT
  have kc := fun (w : World) (C : Array Value) (n c g : Nat) (hg : g = w.heap.size) => Joins.run_convert_bytes_const_at (P := Tryd.prog) w 22 5 C n c g hg Tryd.underlying22 Tryd.underlying5
  go_enter Tryd.func21, Tryd.ntmps21
  go_wp2_with fail
  refine (after_ok 0 _ 6 6 [71, 111, 32, 50, 71, 79] _ (by decide) (has_mark8 (zs := [71, 111, 32, 50, 71, 79]) (by first | rfl | simp)) rfl (by omega) (by decide)).mono ?_
  rintro e w1 ⟨A1, n1, c1, rfl, i1, o1, hb1⟩
  rw [HR1.out] at i1 o1 ⊢
  have I1 := Lib.hid i1
  have B1 : Hid (Below w.heap.size w w1) := Lib.hid (by (repeat' (first | (with_reducible exact Below.refl _ _) | (with_reducible assumption) | (with_reducible refine below_drewN ?_ _) | (with_reducible refine below_new ?_ _) | (with_reducible refine Below.alloc ?_ ?_ _) | (with_reducible refine Below.drew ?_) | (with_reducible refine Below.setCell ?_ ?_ _) | (with_reducible apply below_at; (case k => (with_reducible assumption)); (case hB => omega)) | (with_reducible apply below_on; (with_reducible assumption)) | (go_size; done) | (with_reducible apply size_of))))
  clear i1 o1 hb1 kc
  go_wp2_with fail
  refine (after_ok 3 none 0 0 [] _ (by decide) (.inl rfl) rfl (by omega) (by decide)).mono ?_
  rintro e w2 ⟨A2, n2, c2, rfl, i2, o2, hb2⟩
  rw [HR2.out] at i2 o2 ⊢
  have I2 := Lib.hid i2
  have HS : Hid (St w (w2.alloc (.cells #[.int .i64 r2.l, .slice A2 n2 c2, .int .i64 r2.n] 24)) w1.heap.size w2.heap.size r1 A1 n1 c1 r2 A2 n2 c2) := Lib.hid ⟨((B1.out.alloc B1.out.size _).trans (hb2.mono (by have := B1.out.size; simp; omega))).alloc (by have := hb2.size; have := B1.out.size; simp at *; omega) _, (((I1.out.below (grows_alloc _ _)).below hb2)).below (grows_alloc _ _), i2.below (grows_alloc _ _), ((Lies.fresh _ _ _).past hb2).alloc _, Lies.fresh _ _ _⟩
  obtain ⟨x0, x1, x2, -, -, -⟩ := HS.out.2.2.2.1.three
  clear I1 i2 o2 hb2
  go_wp2_with fail
  refine (Word_any r1 A1 n1 c1 _ HS.out.2.1).mono ?_
  rintro e w3 ⟨A3, m3, c3, rfl, hm3, o3, hb3⟩
  rw [HV1.out.2.2.2]
  obtain rfl : m3 = 2 := len_cut HV1.out.1 hm3
  rw [HV1.out.1] at o3
  have HS3 := Lib.hid (HS.out.past hb3)
  have HO3 := Lib.hid o3
  clear o3 hb3 hm3 x0 x1 x2
  obtain ⟨x0, x1, x2, -, -, -⟩ := HS3.out.2.2.2.1.three
  go_wp2_with fail
  refine (Recent_any r1 A1 n1 c1 _ HS3.out.2.1).mono ?_
  rintro e w4 ⟨rfl, hb4⟩
  rw [HV1.out.2.2.2, HV1.out.2.1, HV1.out.2.2.1]
  have HS4 := Lib.hid (HS3.out.past hb4)
  have HO4 := Lib.hid (HO3.out.past hb4)
  clear hb4 x0 x1 x2
  obtain ⟨x0, x1, x2, -, -, -⟩ := HS4.out.2.2.2.2.three
  go_wp2_with fail
  refine (Word_any r2 A2 n2 c2 _ HS4.out.2.2.1).mono ?_
  rintro e w5 ⟨A5, m5, c5, rfl, hm5, o5, hb5⟩
  rw [HV2.out.2.1]
  obtain rfl : m5 = 0 := len_cut HV2.out.1 hm5
  have HS5 := Lib.hid (HS4.out.past hb5)
  have HO5 := Lib.hid (HO4.out.past hb5)
  clear o5 hb5 hm5 x0 x1 x2
  obtain ⟨x0, x1, x2, -, -, -⟩ := HS5.out.2.2.2.2.three
  go_wp2_with fail
  refine (Of_any r2 A2 n2 c2 _ HS5.out.2.2.1 (HTT.out.below HS5.out.1 (Nat.le_refl _))).mono ?_
  rintro e w6 ⟨rfl, hb6⟩
  rw [HV2.out.2.1, HV2.out.2.2]
  have HS6 := Lib.hid (HS5.out.past hb6)
  have HO6 := Lib.hid (HO5.out.past hb6)
  clear hb6 x0 x1 x2
  generalize mkV r2 1 = q1 at *
  generalize mkV r2 2 = q2 at *
  generalize mkV r2 3 = q3 at *
  generalize mkV r2 4 = q4 at *
  generalize mkV r2 5 = q5 at *
  generalize hq0 : hSteps (kStart 0) [0] = q0 at *
  have HQ0 := Lib.hid hq0
  clear hq0
  go_wp2_with fail
  refine (of_ok 0 _ 1 1 [0] _ (by omega) (by omega) (by decide) (has_lit (w := w6.alloc _) (zs := [0]) (by simp) (by simp [maxLen])) rfl (by omega)).mono ?_
  rintro e w7 ⟨rfl, hb7⟩
  rw [HQ0.out]
  have B7 : Hid (Below w6.heap.size w6 w7) := Lib.hid (by (repeat' (first | (with_reducible exact Below.refl _ _) | (with_reducible assumption) | (with_reducible refine below_drewN ?_ _) | (with_reducible refine below_new ?_ _) | (with_reducible refine Below.alloc ?_ ?_ _) | (with_reducible refine Below.drew ?_) | (with_reducible refine Below.setCell ?_ ?_ _) | (with_reducible apply below_at; (case k => (with_reducible assumption)); (case hB => omega)) | (with_reducible apply below_on; (with_reducible assumption)) | (go_size; done) | (with_reducible apply size_of))))
  have HM : Hid (Lies w7 w6.heap.size 28 [.int .u32 q0, .int .u32 q1, .int .u32 q2, .int .u32 q3, .int .u32 q4, .int .u32 q5]) := Lib.hid (((Lies.fresh _ _ _).alloc _).past hb7)
  have cv1 := conv8 (n := 2) (c := c3) (HO6.out.past B7.out).has rfl
  rw [HBS.out] at cv1
  obtain ⟨y0, -, -, -, -, -⟩ := six HM.out
  clear hb7
  go_wp2_with fail
  go_ret
  exact ⟨rfl, by have := (HS6.out.past B7.out).1; (repeat' (first | (with_reducible exact Below.refl _ _) | (with_reducible assumption) | (with_reducible refine below_drewN ?_ _) | (with_reducible refine below_new ?_ _) | (with_reducible refine Below.alloc ?_ ?_ _) | (with_reducible refine Below.drew ?_) | (with_reducible refine Below.setCell ?_ ?_ _) | (with_reducible apply below_at; (case k => (with_reducible assumption)); (case hB => omega)) | (with_reducible apply below_on; (with_reducible assumption)) | (go_size; done) | (with_reducible apply size_of)))⟩
end Go.Proofs.YtpggdijhfdddpaaDoor.cxW
