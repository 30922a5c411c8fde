/- What get does, by a walk. -/
import Derived.Test.YtckbiielahgliaaDecW
import Derived.Deep.RegionLaw
import Derived.Deep.DeepCutAuto
namespace Go.Proofs.Ytckbiielahgliaa.decW
open Go.RowKit Go.Proofs.Ytckbiielahgliaa.base Go.Proofs.Ytckbiielahgliaa.encP Go.Proofs.Ytckbiielahgliaa.encW Go.Proofs.Ytckbiielahgliaa.decP
set_option linter.unusedVariables false
set_option linter.unusedSimpArgs false

theorem or_byte (y v : Int) (h : 0 ≤ y) (v0 : 0 ≤ v) (v1 : v ≤ 255) : bits .or .u32 (y * 256 % 4294967296) v = y * 256 % 4294967296 + v := by
  obtain ⟨a, ha⟩ := Int.eq_ofNat_of_zero_le (show 0 ≤ y * 256 % 4294967296 / 256 by omega)
  obtain ⟨u, rfl⟩ := Int.eq_ofNat_of_zero_le v0
  have p8 := two8
  have e0 : y * 256 % 4294967296 = ((2 ^ 8 * a : Nat) : Int) := by rw [p8]; omega
  have hb : 2 ^ 8 * a < 4294967296 := by rw [p8] at *; omega
  rw [e0]
  have e : (BitVec.ofInt 32 ((2 ^ 8 * a : Nat) : Int)).toNat = 2 ^ 8 * a := by
    rw [BitVec.ofInt_natCast, BitVec.toNat_ofNat]
    exact Nat.mod_eq_of_lt hb
  have e2 : (BitVec.ofInt 32 (u : Int)).toNat = u := by
    rw [BitVec.ofInt_natCast, BitVec.toNat_ofNat]
    exact Nat.mod_eq_of_lt (by omega)
  show IntKind.u32.wrap (((BitVec.ofInt 32 ((2 ^ 8 * a : Nat) : Int)) ||| (BitVec.ofInt 32 (u : Int))).toNat : Int) = _
  rw [BitVec.toNat_or, e, e2, ← Nat.two_pow_add_eq_or_of_lt (show u < 2 ^ 8 by rw [p8]; omega) a, IntKind.wrap_u32]
  rw [p8] at *
  omega
def GetAt (g : Nat) (A : Option Addr) (n c : Nat) (zs : List Int) (T1 T2 T3 : Int) (TL : Nat) (wr : World) : Prop :=
  ∃ (y1 y2 y : Int) (u f : Nat), (Lies (wr) (g) 25 [.int .u32 (y1), .int .u32 (y2), .int .u32 (y), .slice (A) (n) (c), .int .i64 (u)]) ∧ f ≤ 4 ∧ 0 ≤ y1 ∧ y1 ≤ y ∧ y ≤ y2 ∧ y2 ≤ 4294967295 ∧ (256 : Int) ^ (4 - f) - 1 ≤ y2 - y1 ∧ u ≤ 1000000 ∧
    (given f y1 y2).1 = T1 ∧ (given f y1 y2).2.1 = T2 ∧ xs zs f y1 y2 y u = T3 ∧ u + (given f y1 y2).2.2.length = TL
def getMu (g T : Nat) (w' : World) : Nat := match w'.cell? ⟨g, 4, none⟩ with | some (.int _ n) => T - n.toNat | _ => 0
theorem getMu_of {g T u : Nat} {w : World} {t : TypeId} {a b c d : Value} (K : Lies w g t [a, b, c, d, .int .i64 u]) : getMu g T w = T - u := by
  unfold getMu
  rw [K.cell 4]
  simp
theorem get_step {g n c u f TL : Nat} {A : Option Addr} {zs : List Int} {T1 T2 T3 y1 y2 y : Int} {wx : World} (hz : InB zs) (K : Lies (wx) (g) 25 [.int .u32 (y1 * 256 % 4294967296), .int .u32 (y2 * 256 % 4294967296 + 255), .int .u32 (y * 256 % 4294967296 + byt zs u), .slice (A) (n) (c), .int .i64 (u)])
    (f4 : f ≤ 4) (c1 : 0 ≤ y1) (c2 : y1 ≤ y) (c2' : y ≤ y2) (c3 : y2 ≤ 4294967295) (c4 : (256 : Int) ^ (4 - f) - 1 ≤ y2 - y1) (d1 : (given f y1 y2).1 = T1) (d2 : (given f y1 y2).2.1 = T2) (d3 : xs zs f y1 y2 y u = T3) (d4 : u + (given f y1 y2).2.2.length = TL) (e : y1 / 16777216 = y2 / 16777216) (hu : u < 1000000) :
    GetAt g A n c zs T1 T2 T3 TL (wx.setCell ⟨g, 4, none⟩ (.int .i64 ((u : Int) + 1))) := by
  obtain ⟨f', rfl⟩ : ∃ f', f = f' + 1 := by
    cases f with
    | zero => exact absurd c4 (by have : (256 : Int) ^ (4 - 0) = 4294967296 := by decide
                                  rw [this]; omega)
    | succ f' => exact ⟨f', rfl⟩
  obtain ⟨s1, s2, s3, s4, s5⟩ := step_bd c1 (by omega) c3 e
  have G : given (f' + 1) y1 y2 = ((given f' (y1 * 256 % 4294967296) (y2 * 256 % 4294967296 + 255)).1, (given f' (y1 * 256 % 4294967296) (y2 * 256 % 4294967296 + 255)).2.1, y1 / 16777216 :: (given f' (y1 * 256 % 4294967296) (y2 * 256 % 4294967296 + 255)).2.2) := by rw [given, if_pos e]
  rw [G] at d1 d2 d4
  rw [xs, if_pos e] at d3
  obtain ⟨v0, v1⟩ := byt_bd hz u
  have hw : (256 : Int) ^ (4 - f') = 256 ^ (4 - (f' + 1)) * 256 := by rw [← Int.pow_succ]; congr 1; omega
  refine ⟨_, _, _, u + 1, f', K.set 4 _, by omega, s1, by omega, by omega, s2, ?_, by omega, d1, d2, d3, ?_⟩
  · rw [s3, hw]; omega
  · simp only [List.length_cons] at d4; omega
theorem has_off {w : World} {g : Nat} {A B : Option Addr} {a b c t : Int} {n k : Nat} {zs : List Int} (h : Has .u8 w A zs) (K : Lies w g 25 [.int .u32 a, .int .u32 b, .int .u32 c, .slice B n k, .int .i64 t]) (i : Nat) (u : Value) : Has .u8 (w.setCell ⟨g, i, none⟩ u) A zs := by
  rcases h with rfl | ⟨b', off, rfl, hb, hc⟩
  · exact .inl rfl
  · rcases Nat.eq_zero_or_pos zs.length with h0 | hp
    · exact .inl (List.eq_nil_of_length_eq_zero h0)
    · have hne : b' ≠ g := by
        rintro rfl
        have h1 := hc 0 hp
        have h2 := K.cell (off + 0)
        rw [h1] at h2
        match off with
        | 0 => simp at h2
        | 1 => simp at h2
        | 2 => simp at h2
        | 3 => simp at h2
        | 4 => simp at h2
        | k + 5 => simp at h2
      exact Has.set (.inr ⟨b', off, rfl, hb, hc⟩) (p := ⟨g, i, none⟩) (fun a ha => by injection ha with ha; subst ha; exact hne) u
/-- get, told. -/
def GetSays (Φ : World → Prop) (x1 x2 x : Int) (A : Option Addr) (n c t : Nat) (zs : List Int) (p : Int) (g B : Nat) (w : World) (e : Ending) (w' : World) : Prop :=
  e = .returned (.tuple #[.bool (if (gt zs x1 x2 x t p).2.2.2 ≤ 1000000 then gbit x1 x2 x p else false), .int .i64 (if (gt zs x1 x2 x t p).2.2.2 ≤ 1000000 then 0 else 4)]) ∧ Below B w w' ∧
    ((gt zs x1 x2 x t p).2.2.2 ≤ 1000000 → Lies (w') (g) 25 [.int .u32 ((gt zs x1 x2 x t p).1), .int .u32 ((gt zs x1 x2 x t p).2.1), .int .u32 ((gt zs x1 x2 x t p).2.2.1), .slice (A) (n) (c), .int .i64 ((gt zs x1 x2 x t p).2.2.2)]) ∧ Has .u8 w' A zs ∧ Φ w'
set_option maxRecDepth 100000 in
set_option maxHeartbeats 4000000 in
theorem get_any (Φ : World → Prop) (x1 x2 x : Int) (A : Option Addr) (n c t : Nat) (zs : List Int) (p : Int) (g B : Nat) (w : World) (a1 : 0 ≤ x1) (a2 : x1 < x2) (a3 : x2 ≤ 4294967295) (b1 : x1 ≤ x) (b2 : x ≤ x2) (hp : pOk p = true) (K : Lies (w) (g) 25 [.int .u32 (x1), .int .u32 (x2), .int .u32 (x), .slice (A) (n) (c), .int .i64 (t)])
    (hA : Has .u8 w A zs) (hn : zs.length = n) (hc : n ≤ c) (hm : c ≤ 9223372036854775807) (ht : t ≤ 1000000) (hz : InB zs) (hB : B ≤ w.heap.size) (hg : B ≤ g) (h0 : Φ w) (hst : ∀ W i v, Φ W → Φ (W.setCell ⟨g, i, none⟩ v)) (hbk : ∀ W W', Φ W → Below W.heap.size W W' → Φ W') :
    Calls Try.prog 29 #[.pointer (some ⟨g, 0, none⟩), .int .i64 p] w (GetSays Φ x1 x2 x A n c t zs p g B w) := by
  have HS := Lib.hid (fun W => Split_ok x1 x2 p W a1 a2 a3 hp)
  have HK := Lib.hid K
  have HZ := Lib.hid hz
  have HP := Lib.hid hp
  have HA := Lib.hid hA
  have HLN := Lib.hid hn
  have HF0 := Lib.hid h0
  have HST := Lib.hid hst
  have HBK := Lib.hid hbk
  clear h0 hst hbk
  obtain ⟨⟨p0, p1, p2, p3, p4⟩, f0, f1, f2, f3, f4⟩ := five K
  obtain ⟨q1, q2⟩ := (pOk_iff p).1 hp
  obtain ⟨m1, m2⟩ := mid_bd a2 q1 q2
  obtain ⟨N1, N2⟩ := nx_in (p := p) b1 b2
  obtain ⟨n1, n2, n3⟩ := nx_bd (b := gbit x1 x2 x p) a1 a2 a3 hp
  have e4 : (256 : Int) ^ (4 - 4) - 1 = 0 := by decide
  have HE4 := Lib.hid e4
  have HG : Hid (gt zs x1 x2 x t p = ((given 4 (nx x1 x2 p (gbit x1 x2 x p)).1 (nx x1 x2 p (gbit x1 x2 x p)).2).1, (given 4 (nx x1 x2 p (gbit x1 x2 x p)).1 (nx x1 x2 p (gbit x1 x2 x p)).2).2.1, xs zs 4 (nx x1 x2 p (gbit x1 x2 x p)).1 (nx x1 x2 p (gbit x1 x2 x p)).2 x t, t + (given 4 (nx x1 x2 p (gbit x1 x2 x p)).1 (nx x1 x2 p (gbit x1 x2 x p)).2).2.2.length)) := Lib.hid rfl
  obtain ⟨a0, b0, hab⟩ : ∃ a0 b0, nx x1 x2 p (gbit x1 x2 x p) = (a0, b0) := ⟨_, _, rfl⟩
  rw [hab] at N1 N2 n1 n2 n3 HG
  simp only at N1 N2 n1 n2 n3
  have HAB2 := Lib.hid hab
  clear K hA hn hp hz e4 hab
  by_cases hbit : x ≤ mid x1 x2 p
  all_goals
    have HBT : Hid (gbit x1 x2 x p = decide (x ≤ mid x1 x2 p)) := Lib.hid rfl
    go_enter Try.func29, Try.ntmps29
    go_wp2
    go_quiet ((go_at_call 35; exact Calls.quiet_of_same (turned (HS.out _))))
    go_wp2_with fail
    go_loopw [] (fun wr => GetAt g A n c zs (given 4 a0 b0).1 (given 4 a0 b0).2.1 (xs zs 4 a0 b0 x t) (t + (given 4 a0 b0).2.2.length) wr ∧ Below B w wr ∧ Has .u8 wr A zs ∧ Φ wr) (fun wr => getMu g (t + (given 4 a0 b0).2.2.length) wr)
    case atStart =>
      have hab := HAB2.out
      rw [HBT.out] at hab
      first
      | (rw [decide_eq_true hbit] at hab)
      | (rw [decide_eq_false (show ¬ (x ≤ mid x1 x2 p) by omega)] at hab)
      simp [nx] at hab
      obtain ⟨rfl, rfl⟩ := hab
      exact ⟨⟨_, _, x, t, 4, (HK.out.drewN _).set _ _, by omega, n1, N1, N2, n3, by rw [HE4.out]; omega, ht, rfl, rfl, rfl, rfl⟩, (below_drewN (Below.refl _ _) _).setCell hg _, has_off (HA.out.below (below_drewN (Below.refl _ _) _) (Nat.le_refl _)) (HK.out.drewN _) _ _, HST.out _ _ _ (HBK.out _ _ HF0.out (below_drewN (Below.refl _ _) _))⟩
    case round =>
      obtain ⟨⟨y1, y2, y, u, f, K, f4', c1, c2, c2', c3, c4, hUL, d1, d2, d3, d4⟩, W, H, F⟩ := hrel
      have HF := Lib.hid F
      have HH := Lib.hid H
      have HK := Lib.hid K
      have HW := Lib.hid W
      have C4 := Lib.hid c4
      have D1 := Lib.hid d1
      have D2 := Lib.hid d2
      have D3 := Lib.hid d3
      have D4 := Lib.hid d4
      obtain ⟨⟨p0, p1, p2, p3, p4⟩, f0, f1, f2, f3, f4⟩ := five K
      have lg := K.lt
      clear K W H F c4 d1 d2 d3 d4
      by_cases e : y1 / 16777216 = y2 / 16777216
      · have eb : (y1 / 16777216 == y2 / 16777216) = true := by simpa using e
        have HEE := Lib.hid e
        have hgm := given_more (f := f) c3 (by omega) C4.out e
        have hsb := step_bd c1 (by omega) c3 e
        obtain ⟨r1, r2, _, _, _⟩ := hsb
        clear e
        by_cases h6 : u = 1000000
        · have hb6 : ((u : Int) == 1000000) = true := by simp [h6]
          have H6 := Lib.hid h6
          have hbig : Hid (¬ (gt zs x1 x2 x t p).2.2.2 ≤ 1000000) := Lib.hid (by rw [HG.out]; show ¬ (t + (given 4 a0 b0).2.2.length) ≤ 1000000; have := D4.out; omega)
          clear h6
          go_wp2
          go_quiet (fail)
          go_wp2
          go_ret2
          exact ⟨by rw [if_neg hbig.out, if_neg hbig.out]; rfl, below_drewN HW.out _, fun h => absurd h hbig.out, HH.out.below (below_drewN (Below.refl _ _) _) (Nat.le_refl _), HBK.out _ _ HF.out (below_drewN (Below.refl _ _) _)⟩
        · have hb6 : ((u : Int) == 1000000) = false := by simp; omega
          have hul : u ≤ 1000000 := hUL
          have hor := or255 y2 (by omega)
          obtain ⟨v0, v1⟩ := byt_bd HZ.out u
          have hor2 := or_byte y (byt zs u) (by omega) v0 v1
          have HWR : Hid (IntKind.u32.wrap (y * 256) = y * 256 % 4294967296) := Lib.hid (by rw [IntKind.wrap_u32])
          go_wp2
          go_quiet (fail)
          go_wp2_with fail
          have W2 : Below B w (((wr.drewN nq).setCell ⟨g, 0, none⟩ (.int .u32 (y1 * 256 % 4294967296))).setCell ⟨g, 1, none⟩ (.int .u32 (y2 * 256 % 4294967296 + 255))) := ((below_drewN HW.out nq).setCell hg _).setCell hg _
          have K2 : Lies (((wr.drewN nq).setCell ⟨g, 0, none⟩ (.int .u32 (y1 * 256 % 4294967296))).setCell ⟨g, 1, none⟩ (.int .u32 (y2 * 256 % 4294967296 + 255))) (g) 25 [.int .u32 (y1 * 256 % 4294967296), .int .u32 (y2 * 256 % 4294967296 + 255), .int .u32 (y), .slice (A) (n) (c), .int .i64 (u)] := ((HK.out.drewN nq).set 0 _).set 1 _
          have H2 : Has .u8 (((wr.drewN nq).setCell ⟨g, 0, none⟩ (.int .u32 (y1 * 256 % 4294967296))).setCell ⟨g, 1, none⟩ (.int .u32 (y2 * 256 % 4294967296 + 255))) A zs := has_off (has_off (HH.out.below (below_drewN (Below.refl _ _) _) (Nat.le_refl _)) (HK.out.drewN nq) 0 _) ((HK.out.drewN nq).set 0 _) 1 _
          have F2 : Φ (((wr.drewN nq).setCell ⟨g, 0, none⟩ (.int .u32 (y1 * 256 % 4294967296))).setCell ⟨g, 1, none⟩ (.int .u32 (y2 * 256 % 4294967296 + 255))) := HST.out _ _ _ (HST.out _ _ _ (HBK.out _ _ HF.out (below_drewN (Below.refl _ _) _)))
          generalize ((wr.drewN nq).setCell ⟨g, 0, none⟩ (.int .u32 (y1 * 256 % 4294967296))).setCell ⟨g, 1, none⟩ (.int .u32 (y2 * 256 % 4294967296 + 255)) = wq at *
          have HK2 := Lib.hid K2
          have HW2 := Lib.hid W2
          have HH2 := Lib.hid H2
          have HF2 := Lib.hid F2
          clear p0 p1 p2 p3 p4 f0 f1 f2 f3 f4
          obtain ⟨⟨p0, p1, p2, p3, p4⟩, f0, f1, f2, f3, f4⟩ := five K2
          have hx2 : 0 ≤ byt zs u := v0
          clear K2 W2 H2 F2 hor
          go_upto_region 14 with fail
          go_cut [] (fun wx => (Lies (wx) (g) 25 [.int .u32 (y1 * 256 % 4294967296), .int .u32 (y2 * 256 % 4294967296 + 255), .int .u32 (y * 256 % 4294967296 + byt zs u), .slice (A) (n) (c), .int .i64 (u)]) ∧ Below B w wx ∧ Has .u8 wx A zs ∧ Φ wx)
          case first =>
            go_region_law (first | (go_simp; go_at_call 28; refine (nextByte_any _ _ y A n c u zs _ (HH2.out.below (by exact (Below.refl _ _).drew) (Nat.le_refl _)) HLN.out hc hm (by omega) HZ.out).mono ?_; rintro e w4 ⟨rfl, hb4⟩; have HK4 := Lib.hid (Lies.past (HK2.out.drew) hb4); obtain ⟨⟨p0, p1, p2, p3, p4⟩, f0, f1, f2, f3, f4⟩ := five HK4.out; have hz4 := HK4.out.lt))
            all_goals
              go_wp2_with fail
              go_meet
              rw [HWR.out, hor2]
              exact ⟨HK4.out.set 2 _, by
                have := HW2.out
                exact ((this.drew).trans (hb4.mono (Nat.le_trans hB (by simpa using this.size)))).setCell hg _, has_off (HH2.out.below ((Below.refl _ _).drew.trans hb4) (Nat.le_refl _)) HK4.out 2 _, HST.out _ _ _ (HBK.out _ _ HF2.out ((Below.refl _ _).drew.trans hb4))⟩
          case rest =>
            obtain ⟨K5, W5, H5, F5⟩ := hcut
            have HF5 := Lib.hid F5
            have HH5 := Lib.hid H5
            have HK5 := Lib.hid K5
            have HW5 := Lib.hid W5
            clear p0 p1 p2 p3 p4 f0 f1 f2 f3 f4
            obtain ⟨⟨p0, p1, p2, p3, p4⟩, f0, f1, f2, f3, f4⟩ := five K5
            clear K5 W5 H5 F5 hor2
            go_wp2
            go_roundw
            case rel =>
              exact ⟨get_step HZ.out HK5.out f4' c1 c2 c2' c3 C4.out D1.out D2.out D3.out D4.out HEE.out (by omega), HW5.out.setCell hg _, has_off HH5.out HK5.out 4 _, HST.out _ _ _ HF5.out⟩
            case measure =>
              rw [getMu_of HK.out]
              have hmu := getMu_of (T := t + (given 4 a0 b0).2.2.length) (u := u + 1) (HK5.out.set 4 (.int .i64 ((u : Int) + 1)))
              rw [hmu]
              have := D4.out
              omega
      · have eb : (y1 / 16777216 == y2 / 16777216) = false := by simpa using e
        have HEE := Lib.hid e
        have G : Hid (given f y1 y2 = (y1, y2, []) ∧ xs zs f y1 y2 y u = y) := Lib.hid ⟨by cases f <;> simp [given, e], by cases f <;> simp [xs, e]⟩
        clear e
        go_wp2
        go_quiet (fail)
        go_wp2
        go_ret2
        have d1 := D1.out
        have d2 := D2.out
        have d3 := D3.out
        have d4 := D4.out
        rw [G.out.1] at d1 d2 d4
        rw [G.out.2] at d3
        simp only [List.length_nil, Nat.add_zero] at d1 d2 d4
        have hgo : gt zs x1 x2 x t p = (y1, y2, y, u) := by rw [HG.out, ← d1, ← d2, ← d3, ← d4]
        unfold GetSays
        rw [hgo]
        refine ⟨?_, below_drewN HW.out _, fun h => HK.out.drewN _, HH.out.below (below_drewN (Below.refl _ _) _) (Nat.le_refl _), HBK.out _ _ HF.out (below_drewN (Below.refl _ _) _)⟩
        simp only
        rw [if_pos hUL, if_pos hUL, HBT.out]
        first
        | (rw [decide_eq_true hbit]; rfl)
        | (rw [decide_eq_false (show ¬ (x ≤ mid x1 x2 p) by omega)]; rfl)
end Go.Proofs.Ytckbiielahgliaa.decW
