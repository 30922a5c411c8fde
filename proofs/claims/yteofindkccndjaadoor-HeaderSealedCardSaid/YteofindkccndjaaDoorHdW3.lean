/- The reference's bytes before Sum, by walks. -/
import Derived.Test.YteofindkccndjaaDoorHdW2
namespace Go.Proofs.YteofindkccndjaaDoor.hdW
set_option maxRecDepth 100000
open Go.RowKit Go.Proofs.YteofindkccndjaaDoor.base Go.Proofs.YteofindkccndjaaDoor.hdP
set_option linter.unusedVariables false
set_option linter.unusedSimpArgs false
set_option maxHeartbeats 400000 in
theorem rTwo (n : Int) (w : World) (h0 : 0 ≤ n) (h1 : n ≤ 8192) : Calls Tryd.prog 34 #[.int .i64 n] w fun e w' => ∃ A, e = .returned (.slice A 2 2) ∧ Has .u8 w' A [n / 256, n % 256] ∧ Below w.heap.size w w' := by
  have y0 : IntKind.u8.wrap n = n % 256 := rfl
  have y1 : IntKind.u8.wrap (n / 256) = n / 256 := by show (n / 256) % 256 = _; omega
  have H := Lib.hid (has_lit (w := w) (k := .u8) (e := 5) (zs := [n / 256, n % 256]) (g := w.heap.size) rfl (by show 2 ≤ maxLen; decide))
  go_enter Tryd.func34, Tryd.ntmps34
  go_wp2_with fail
  go_ret
  exact ⟨_, rfl, H.out, by (repeat' (first | (with_reducible exact Below.refl _ _) | (with_reducible assumption) | (with_reducible refine below_drewN ?_ _) | (with_reducible refine below_new ?_ _) | (with_reducible refine Below.alloc ?_ ?_ _) | (with_reducible refine Below.drew ?_) | (with_reducible refine Below.setCell ?_ ?_ _) | (with_reducible apply below_at; (case k => (with_reducible assumption)); (case hB => omega)) | (with_reducible apply below_on; (with_reducible assumption)) | (go_size; done) | (with_reducible apply size_of)))⟩
theorem HdAt.below {w w' : World} {g B : Nat} {h : Hd} (k : HdAt w g h) (hb : Below B w w') (hB : g < B) : HdAt w' g h := Lies.below k hb hB
set_option maxRecDepth 100000 in
set_option maxHeartbeats 800000 in
theorem rFront (h : Hd) (w : World) (k : Ok h) : Calls Tryd.prog 29 #[.agg (hv h)] w fun e w' => ∃ A c, e = .returned (.slice A 8 c) ∧ OwnI w' w.heap.size 5 .u8 (.slice A 8 c) (fr h) ∧ Below w.heap.size w w' := by
  have A0 := hdAt_new w h
  have HK := Lib.hid k
  have B0 : Hid (Below w.heap.size w (w.alloc (.cells (hv h) 25))) := Lib.hid (by (repeat' (first | (with_reducible exact Below.refl _ _) | (with_reducible assumption) | (with_reducible refine below_drewN ?_ _) | (with_reducible refine below_new ?_ _) | (with_reducible refine Below.alloc ?_ ?_ _) | (with_reducible refine Below.drew ?_) | (with_reducible refine Below.setCell ?_ ?_ _) | (with_reducible apply below_at; (case k => (with_reducible assumption)); (case hB => omega)) | (with_reducible apply below_on; (with_reducible assumption)) | (go_size; done) | (with_reducible apply size_of))))
  have HS0 : Hid ((w.alloc (.cells (hv h) 25)).heap.size = w.heap.size + 1) := Lib.hid (by simp)
  have me1 : IntKind.u8.wrap h.me = h.me := by unfold Ok at k; show h.me % 256 = _; omega
  have kb := k
  have kle := k.le_
  unfold Ok at kb
  have HB : Hid ((0 ≤ h.of ∧ h.of ≤ 8192) ∧ (0 ≤ h.ra ∧ h.ra ≤ 8192) ∧ (0 ≤ h.le ∧ h.le ≤ 8192)) := Lib.hid (by omega)
  clear k kb kle
  go_enter Tryd.func29, Tryd.ntmps29
  go_upto_region 1 with fail
  generalize (w.alloc (.cells (hv h) 25)) = w0 at *
  have a0 := A0.c0
  have a1 := A0.c1
  have HO := Lib.hid (OwnI.lit w0 5 .u8 [h.mo, h.me] (w.heap.size + 1) (by rw [HS0.out]; omega) (by show 2 ≤ maxLen; decide))
  rw [show ([h.mo, h.me].map (Value.int .u8)).toArray = #[.int .u8 h.mo, .int .u8 h.me] from rfl] at HO
  go_upto_region 2 with fail
  have GB := (Below.refl w0.heap.size w0).alloc (Nat.le_refl _) (.cells #[.int .u8 h.mo, .int .u8 h.me] 5)
  have A1 := A0.past GB
  have B1 : Hid (Below w.heap.size w (w0.alloc (.cells #[.int .u8 h.mo, .int .u8 h.me] 5))) := Lib.hid (B0.out.trans (GB.mono (by rw [HS0.out]; omega)))
  have HS1 : Hid ((w0.alloc (.cells #[.int .u8 h.mo, .int .u8 h.me] 5)).heap.size = w.heap.size + 2) := Lib.hid (by simp [HS0.out])
  clear A0 B0 GB a0 a1
  generalize (w0.alloc (.cells #[.int .u8 h.mo, .int .u8 h.me] 5)) = w1 at *
  replace HS1 : Hid (w.heap.size + 1 ≤ w1.heap.size) := Lib.hid (by have := HS1.out; omega)
  have HO1 : Hid (OwnI w1 (w.heap.size + 1) 5 .u8 (.slice (some ⟨w0.heap.size, 0, none⟩) 2 2) [h.mo, h.me]) := HO
  have HA1 := Lib.hid A1
  clear A1 HO HS0
  generalize w0.heap.size = g0 at *
  have f1 := HA1.out.c2
  go_wp2_with fail
  refine (rTwo h.of _ HB.out.1.1 HB.out.1.2).mono ?_
  rintro e v1 ⟨T1, rfl, ht1, hb1⟩
  have HT1 := Lib.hid ht1
  have HO1' := Lib.hid (HO1.out.below hb1 (Nat.le_refl _))
  have HA1' := Lib.hid (HA1.out.past hb1)
  have B1' := Lib.hid (B1.out.trans (hb1.mono (by have := HS1.out; omega)))
  have HS1' : Hid (w.heap.size + 1 ≤ v1.heap.size) := Lib.hid (by have := hb1.size; have := HS1.out; omega)
  clear ht1 hb1 f1
  clear HO1 HA1 B1 HS1
  go_wp2_with (at_builtin; go_loud (refine app8 rfl _ _ rfl (w.heap.size + 1) _ ([h.mo, h.me]) rfl HO1'.out _ _ _ _ rfl rfl HT1.out 4 rfl (by omega) HS1'.out ?_; intro C2 c2 w2 ho hk hb; have HO2 := Lib.hid ho; have HA2 := Lib.hid (HA1'.out.below hb (Nat.lt_succ_self _)); have f2 := HA2.out.c3; have B2 := Lib.hid (B1'.out.trans (hb.mono (Nat.le_succ _))); have HS2 : Hid (w.heap.size + 1 ≤ w2.heap.size) := Lib.hid (by have := hb.size; have := HS1'.out; omega); clear ho hk hb))
  refine (rTwo h.ra _ HB.out.2.1.1 HB.out.2.1.2).mono ?_
  rintro e v2 ⟨T2, rfl, ht2, hb2⟩
  have HT2 := Lib.hid ht2
  have HO2' := Lib.hid (HO2.out.below hb2 (Nat.le_refl _))
  have HA2' := Lib.hid (HA2.out.past hb2)
  have B2' := Lib.hid (B2.out.trans (hb2.mono (by have := HS2.out; omega)))
  have HS2' : Hid (w.heap.size + 1 ≤ v2.heap.size) := Lib.hid (by have := hb2.size; have := HS2.out; omega)
  clear ht2 hb2 f2
  clear HO2 HA2 B2 HS2
  go_wp2_with (at_builtin; go_loud (refine app8 rfl _ _ rfl (w.heap.size + 1) _ ([h.mo, h.me] ++ [h.of / 256, h.of % 256]) rfl HO2'.out _ _ _ _ rfl rfl HT2.out 6 rfl (by omega) HS2'.out ?_; intro C3 c3 w3 ho hk hb; have HO3 := Lib.hid ho; have HA3 := Lib.hid (HA2'.out.below hb (Nat.lt_succ_self _)); have f3 := HA3.out.c4; have B3 := Lib.hid (B2'.out.trans (hb.mono (Nat.le_succ _))); have HS3 : Hid (w.heap.size + 1 ≤ w3.heap.size) := Lib.hid (by have := hb.size; have := HS2'.out; omega); clear ho hk hb))
  refine (rTwo h.le _ HB.out.2.2.1 HB.out.2.2.2).mono ?_
  rintro e v3 ⟨T3, rfl, ht3, hb3⟩
  have HT3 := Lib.hid ht3
  have HO3' := Lib.hid (HO3.out.below hb3 (Nat.le_refl _))
  have HA3' := Lib.hid (HA3.out.past hb3)
  have B3' := Lib.hid (B3.out.trans (hb3.mono (by have := HS3.out; omega)))
  have HS3' : Hid (w.heap.size + 1 ≤ v3.heap.size) := Lib.hid (by have := hb3.size; have := HS3.out; omega)
  clear ht3 hb3 f3
  clear HO3 HA3 B3 HS3
  go_wp2_with (at_builtin; go_loud (refine app8 rfl _ _ rfl (w.heap.size + 1) _ ([h.mo, h.me] ++ [h.of / 256, h.of % 256] ++ [h.ra / 256, h.ra % 256]) rfl HO3'.out _ _ _ _ rfl rfl HT3.out 8 rfl (by omega) HS3'.out ?_; intro C4 c4 w4 ho hk hb; have HO4 := Lib.hid ho; have B4 := Lib.hid (B3'.out.trans (hb.mono (Nat.le_succ _))); clear ho hk hb))
  go_ret
  exact ⟨C4, c4, rfl, HO4.out.mono (Nat.le_succ _), B4.out⟩
end Go.Proofs.YteofindkccndjaaDoor.hdW
