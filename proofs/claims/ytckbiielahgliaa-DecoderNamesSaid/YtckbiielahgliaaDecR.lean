/- What the reference's Did, New and Get return, by walks. -/
import Derived.Test.YtckbiielahgliaaDecW3
namespace Go.Proofs.Ytckbiielahgliaa.decW
open Go.RowKit Go.Proofs.Ytckbiielahgliaa.base Go.Proofs.Ytckbiielahgliaa.encP Go.Proofs.Ytckbiielahgliaa.encW Go.Proofs.Ytckbiielahgliaa.decP
set_option linter.unusedVariables false
set_option linter.unusedSimpArgs false

def DidAt (g : Nat) (A : Option Addr) (n c : Nat) (zs : List Int) (T1 T2 T3 : Int) (TL : Nat) (wr : World) : Prop :=
  ∃ (y1 y2 y : Int) (u f : Nat), (Lies (wr) (g) 25 [.int .u32 (y1), .int .u32 (y2), .int .u32 (y), .slice (A) (n) (c), .int .i64 (u)]) ∧ f ≤ 4 ∧ 0 ≤ y1 ∧ y1 ≤ y ∧ y ≤ y2 ∧ y2 ≤ 4294967295 ∧ (256 : Int) ^ (4 - f) - 1 ≤ y2 - y1 ∧
    (given f y1 y2).1 = T1 ∧ (given f y1 y2).2.1 = T2 ∧ xs zs f y1 y2 y u = T3 ∧ u + (given f y1 y2).2.2.length = TL
theorem did_step {g n c u f TL : Nat} {A : Option Addr} {zs : List Int} {T1 T2 T3 y1 y2 y : Int} {wx : World} (hz : InB zs) (K : Lies (wx) (g) 25 [.int .u32 (y1 * 256 % 4294967296), .int .u32 (y2 * 256 % 4294967296 + 255), .int .u32 (y * 256 % 4294967296 + byt zs u), .slice (A) (n) (c), .int .i64 (u)])
    (f4 : f ≤ 4) (c1 : 0 ≤ y1) (c2 : y1 ≤ y) (c2' : y ≤ y2) (c3 : y2 ≤ 4294967295) (c4 : (256 : Int) ^ (4 - f) - 1 ≤ y2 - y1) (d1 : (given f y1 y2).1 = T1) (d2 : (given f y1 y2).2.1 = T2) (d3 : xs zs f y1 y2 y u = T3) (d4 : u + (given f y1 y2).2.2.length = TL) (e : y1 / 16777216 = y2 / 16777216) :
    DidAt g A n c zs T1 T2 T3 TL (wx.setCell ⟨g, 4, none⟩ (.int .i64 ((u : Int) + 1))) := by
  obtain ⟨f', rfl⟩ : ∃ f', f = f' + 1 := by
    cases f with
    | zero => exact absurd c4 (by have : (256 : Int) ^ (4 - 0) = 4294967296 := by decide
                                  rw [this]; omega)
    | succ f' => exact ⟨f', rfl⟩
  obtain ⟨s1, s2, s3, s4, s5⟩ := step_bd c1 (by omega) c3 e
  have G : given (f' + 1) y1 y2 = ((given f' (y1 * 256 % 4294967296) (y2 * 256 % 4294967296 + 255)).1, (given f' (y1 * 256 % 4294967296) (y2 * 256 % 4294967296 + 255)).2.1, y1 / 16777216 :: (given f' (y1 * 256 % 4294967296) (y2 * 256 % 4294967296 + 255)).2.2) := by rw [given, if_pos e]
  rw [G] at d1 d2 d4
  rw [xs, if_pos e] at d3
  obtain ⟨v0, v1⟩ := byt_bd hz u
  have hw : (256 : Int) ^ (4 - f') = 256 ^ (4 - (f' + 1)) * 256 := by rw [← Int.pow_succ]; congr 1; omega
  refine ⟨_, _, _, u + 1, f', K.set 4 _, by omega, s1, by omega, by omega, s2, ?_, d1, d2, d3, ?_⟩
  · rw [s3, hw]; omega
  · simp only [List.length_cons] at d4; omega
set_option maxRecDepth 100000 in
set_option maxHeartbeats 4000000 in
theorem rDid_any (x1 x2 x : Int) (A : Option Addr) (n c t : Nat) (zs : List Int) (p : Int) (w : World) (a1 : 0 ≤ x1) (a2 : x1 < x2) (a3 : x2 ≤ 4294967295) (b1 : x1 ≤ x) (b2 : x ≤ x2) (hp : pOk p = true)
    (hA : Has .u8 w A zs) (hn : zs.length = n) (hm : n ≤ 9223372036854775807) (ht : t ≤ 1000000) (hz : InB zs) :
    Calls Try.prog 31 #[.agg #[.int .u32 (x1), .int .u32 (x2), .int .u32 (x), .slice (A) (n) (c), .int .i64 (t)], .int .i64 p] w fun e w' => e = .returned (.tuple #[.agg #[.int .u32 ((gt zs x1 x2 x t p).1), .int .u32 ((gt zs x1 x2 x t p).2.1), .int .u32 ((gt zs x1 x2 x t p).2.2.1), .slice (A) (n) (c), .int .i64 ((gt zs x1 x2 x t p).2.2.2)], .bool (gbit x1 x2 x p)]) ∧ Below w.heap.size w w' := by
  have HA := Lib.hid hA
  have HZ := Lib.hid hz
  have HP := Lib.hid hp
  have HLN := Lib.hid hn
  obtain ⟨q1, q2⟩ := (pOk_iff p).1 hp
  obtain ⟨m1, m2⟩ := mid_bd a2 q1 q2
  obtain ⟨N1, N2⟩ := nx_in (p := p) b1 b2
  obtain ⟨n1, n2, n3⟩ := nx_bd (b := gbit x1 x2 x p) a1 a2 a3 hp
  have e4 : (256 : Int) ^ (4 - 4) - 1 = 0 := by decide
  have HE4 := Lib.hid e4
  have HG : Hid (gt zs x1 x2 x t p = ((given 4 (nx x1 x2 p (gbit x1 x2 x p)).1 (nx x1 x2 p (gbit x1 x2 x p)).2).1, (given 4 (nx x1 x2 p (gbit x1 x2 x p)).1 (nx x1 x2 p (gbit x1 x2 x p)).2).2.1, xs zs 4 (nx x1 x2 p (gbit x1 x2 x p)).1 (nx x1 x2 p (gbit x1 x2 x p)).2 x t, t + (given 4 (nx x1 x2 p (gbit x1 x2 x p)).1 (nx x1 x2 p (gbit x1 x2 x p)).2).2.2.length)) := Lib.hid rfl
  obtain ⟨a0, b0, hab⟩ : ∃ a0 b0, nx x1 x2 p (gbit x1 x2 x p) = (a0, b0) := ⟨_, _, rfl⟩
  rw [hab] at N1 N2 n1 n2 n3 HG
  simp only at N1 N2 n1 n2 n3
  have HL4 := (given_ok 4 a0 b0 (by omega) n1 n2 n3 (by rw [show (256 : Int) ^ (4 - 4) = 1 by decide]; omega))
  obtain ⟨_, _, _, _, l5, l6, _⟩ := HL4
  have HL : (given 4 a0 b0).2.2.length ≤ 4 := by omega
  have HAB2 := Lib.hid hab
  clear hA hn hp hz e4 hab l5 l6
  by_cases hbit : x ≤ mid x1 x2 p
  all_goals
    have HBT : Hid (gbit x1 x2 x p = decide (x ≤ mid x1 x2 p)) := Lib.hid rfl
    go_enter Try.func31, Try.ntmps31
    go_wp2_with (go_at_call 36; refine (rMiddle_any x1 x2 p _ a1 a3 a2 q1 q2).mono ?_; rintro e w' ⟨rfl, rfl⟩)
    go_loopw [] (fun wr => DidAt w.heap.size A n c zs (given 4 a0 b0).1 (given 4 a0 b0).2.1 (xs zs 4 a0 b0 x t) (t + (given 4 a0 b0).2.2.length) wr ∧ (Lies (wr) (w.heap.size + 1) 25 [.int .u32 (0), .int .u32 (0), .int .u32 (0), .slice (none) (0) (0), .int .i64 (0)]) ∧ Below w.heap.size w wr) (fun wr => getMu w.heap.size (t + (given 4 a0 b0).2.2.length) wr)
    case atStart =>
      have hab := HAB2.out
      rw [HBT.out] at hab
      first
      | (rw [decide_eq_true hbit] at hab)
      | (rw [decide_eq_false (show ¬ (x ≤ mid x1 x2 p) by omega)] at hab)
      simp [nx] at hab
      obtain ⟨rfl, rfl⟩ := hab
      exact ⟨⟨_, _, x, t, 4, by (repeat' (first | (with_reducible assumption) | (with_reducible exact Lies.fresh _ _ _) | (with_reducible apply Lies.fresh_at; (first | (with_reducible rfl) | (simp; done))) | (with_reducible refine Lies.drew ?_) | (with_reducible refine Lies.drewN ?_ _) | (with_reducible refine Lies.alloc ?_ _) | (with_reducible apply Lies.past; case hb => (with_reducible assumption)) | (with_reducible apply Lies.keeps; (case k => (with_reducible assumption)); (case ht => decide)) | (with_reducible apply Lies.store3) | (with_reducible apply Lies.other; case hp => (first | omega | (simp; done) | (simp; omega))))), by omega, n1, N1, N2, n3, by rw [HE4.out]; omega, rfl, rfl, rfl, rfl⟩, by (repeat' (first | (with_reducible assumption) | (with_reducible exact Lies.fresh _ _ _) | (with_reducible apply Lies.fresh_at; (first | (with_reducible rfl) | (simp; done))) | (with_reducible refine Lies.drew ?_) | (with_reducible refine Lies.drewN ?_ _) | (with_reducible refine Lies.alloc ?_ _) | (with_reducible apply Lies.past; case hb => (with_reducible assumption)) | (with_reducible apply Lies.keeps; (case k => (with_reducible assumption)); (case ht => decide)) | (with_reducible apply Lies.store3) | (with_reducible apply Lies.other; case hp => (first | omega | (simp; done) | (simp; omega))))), by (repeat' (first | (with_reducible exact Below.refl _ _) | (with_reducible assumption) | (with_reducible refine below_drewN ?_ _) | (with_reducible refine below_new ?_ _) | (with_reducible refine Below.alloc ?_ ?_ _) | (with_reducible refine Below.drew ?_) | (with_reducible refine Below.setCell ?_ ?_ _) | (with_reducible apply below_at; (case k => (with_reducible assumption)); (case hB => omega)) | (with_reducible apply below_on; (with_reducible assumption)) | (go_size; done) | (with_reducible apply size_of)))⟩
    case round =>
      obtain ⟨⟨y1, y2, y, u, f, K, f4', c1, c2, c2', c3, c4, d1, d2, d3, d4⟩, R, W⟩ := hrel
      have HK := Lib.hid K
      have HR := Lib.hid R
      have HW := Lib.hid W
      have C4 := Lib.hid c4
      have D1 := Lib.hid d1
      have D2 := Lib.hid d2
      have D3 := Lib.hid d3
      have D4 := Lib.hid d4
      obtain ⟨⟨p0, p1, p2, p3, p4⟩, f0, f1, f2, f3, f4⟩ := five K
      have lg := K.lt
      have hul : u ≤ 1000004 := by omega
      clear K R W c4 d1 d2 d3 d4
      by_cases e : y1 / 16777216 = y2 / 16777216
      · have eb : (y1 / 16777216 == y2 / 16777216) = true := by simpa using e
        have HEE := Lib.hid e
        have hgm := given_more (f := f) c3 (by omega) C4.out e
        have hsb := step_bd c1 (by omega) c3 e
        obtain ⟨r1, r2, _, _, _⟩ := hsb
        clear e
        obtain ⟨v0, v1⟩ := byt_bd HZ.out u
        have hor3 : y * 256 % 4294967296 + byt zs u ≤ 4294967295 := by omega
        have hor4 : 0 ≤ y * 256 % 4294967296 + byt zs u := by omega
        have HWR : Hid (IntKind.u32.wrap (IntKind.u32.wrap (y * 256) + IntKind.u32.wrap (byt zs u)) = y * 256 % 4294967296 + byt zs u) := Lib.hid (by rw [IntKind.wrap_u32, IntKind.wrap_u32, IntKind.wrap_u32]; omega)
        go_upto_region 9 with fail
        have W2 : Below w.heap.size w ((wr.setCell ⟨w.heap.size, 0, none⟩ (.int .u32 (y1 * 256 % 4294967296))).setCell ⟨w.heap.size, 1, none⟩ (.int .u32 (y2 * 256 % 4294967296 + 255))) := (HW.out.setCell (by simp) _).setCell (by simp) _
        have K2 : Lies ((wr.setCell ⟨w.heap.size, 0, none⟩ (.int .u32 (y1 * 256 % 4294967296))).setCell ⟨w.heap.size, 1, none⟩ (.int .u32 (y2 * 256 % 4294967296 + 255))) (w.heap.size) 25 [.int .u32 (y1 * 256 % 4294967296), .int .u32 (y2 * 256 % 4294967296 + 255), .int .u32 (y), .slice (A) (n) (c), .int .i64 (u)] := (HK.out.set 0 _).set 1 _
        have R2 : Lies ((wr.setCell ⟨w.heap.size, 0, none⟩ (.int .u32 (y1 * 256 % 4294967296))).setCell ⟨w.heap.size, 1, none⟩ (.int .u32 (y2 * 256 % 4294967296 + 255))) (w.heap.size + 1) 25 [.int .u32 (0), .int .u32 (0), .int .u32 (0), .slice (none) (0) (0), .int .i64 (0)] := (HR.out.other (by simp) _).other (by simp) _
        generalize (wr.setCell ⟨w.heap.size, 0, none⟩ (.int .u32 (y1 * 256 % 4294967296))).setCell ⟨w.heap.size, 1, none⟩ (.int .u32 (y2 * 256 % 4294967296 + 255)) = wq at *
        have HK2 := Lib.hid K2
        have HW2 := Lib.hid W2
        have HR2 := Lib.hid R2
        clear p0 p1 p2 p3 p4 f0 f1 f2 f3 f4
        obtain ⟨⟨p0, p1, p2, p3, p4⟩, f0, f1, f2, f3, f4⟩ := five K2
        clear K2 W2 R2
        go_cut [] (fun wx => (Lies (wx) (w.heap.size) 25 [.int .u32 (y1 * 256 % 4294967296), .int .u32 (y2 * 256 % 4294967296 + 255), .int .u32 (y * 256 % 4294967296 + byt zs u), .slice (A) (n) (c), .int .i64 (u)]) ∧ (Lies (wx) (w.heap.size + 1) 25 [.int .u32 (0), .int .u32 (0), .int .u32 (0), .slice (none) (0) (0), .int .i64 (0)]) ∧ Below w.heap.size w wx)
        case first =>
          go_region_law (first | (go_simp; go_at_call 26; refine (rByte_any A n c u zs _ (HA.out.below (by have := HW2.out; (repeat' (first | (with_reducible exact Below.refl _ _) | (with_reducible assumption) | (with_reducible refine below_drewN ?_ _) | (with_reducible refine below_new ?_ _) | (with_reducible refine Below.alloc ?_ ?_ _) | (with_reducible refine Below.drew ?_) | (with_reducible refine Below.setCell ?_ ?_ _) | (with_reducible apply below_at; (case k => (with_reducible assumption)); (case hB => omega)) | (with_reducible apply below_on; (with_reducible assumption)) | (go_size; done) | (with_reducible apply size_of)))) (Nat.le_refl _)) HLN.out hm (by omega)).mono ?_; rintro e w' ⟨rfl, rfl⟩))
          all_goals
            go_wp2_with fail
            go_meet
            rw [HWR.out]
            exact ⟨(HK2.out.set 2 _).drew, (HR2.out.other (by simp) _).drew, by have := HW2.out; (repeat' (first | (with_reducible exact Below.refl _ _) | (with_reducible assumption) | (with_reducible refine below_drewN ?_ _) | (with_reducible refine below_new ?_ _) | (with_reducible refine Below.alloc ?_ ?_ _) | (with_reducible refine Below.drew ?_) | (with_reducible refine Below.setCell ?_ ?_ _) | (with_reducible apply below_at; (case k => (with_reducible assumption)); (case hB => omega)) | (with_reducible apply below_on; (with_reducible assumption)) | (go_size; done) | (with_reducible apply size_of)))⟩
        case rest =>
          obtain ⟨K5, R5, W5⟩ := hcut
          have HK5 := Lib.hid K5
          have HR5 := Lib.hid R5
          have HW5 := Lib.hid W5
          clear p0 p1 p2 p3 p4 f0 f1 f2 f3 f4
          obtain ⟨⟨p0, p1, p2, p3, p4⟩, f0, f1, f2, f3, f4⟩ := five K5
          clear K5 R5 W5 hor3 hor4
          go_wp2
          go_roundw
          case rel =>
            exact ⟨did_step HZ.out HK5.out f4' c1 c2 c2' c3 C4.out D1.out D2.out D3.out D4.out HEE.out, HR5.out.other (by simp) _, HW5.out.setCell (by simp) _⟩
          case measure =>
            rw [getMu_of HK.out]
            have hmu := getMu_of (T := t + (given 4 a0 b0).2.2.length) (u := u + 1) (HK5.out.set 4 (.int .i64 ((u : Int) + 1)))
            rw [hmu]
            have := D4.out
            omega
      · have eb : (y1 / 16777216 == y2 / 16777216) = false := by simpa using e
        have G : Hid (given f y1 y2 = (y1, y2, []) ∧ xs zs f y1 y2 y u = y) := Lib.hid ⟨by cases f <;> simp [given, e], by cases f <;> simp [xs, e]⟩
        clear e
        obtain ⟨⟨k0, k1, k2, k3, k4⟩, g0, g1, g2, g3, g4⟩ := five HR.out
        have lt2 := HR.out.lt
        go_wp2
        have KF := five (store5 HR.out (a' := .int .u32 y1) (b' := .int .u32 y2) (c' := .int .u32 y) (d' := .slice A n c) (e' := .int .i64 u))
        obtain ⟨⟨k0, k1, k2, k3, k4⟩, _⟩ := KF
        refine bodyPost_ret (by simp [results, Try.results31, go_sem, k0, k1, k2, k3, k4]; try rfl) rfl ?_
        have d1 := D1.out
        have d2 := D2.out
        have d3 := D3.out
        have d4 := D4.out
        rw [G.out.1] at d1 d2 d4
        rw [G.out.2] at d3
        simp only [List.length_nil, Nat.add_zero] at d1 d2 d4
        have hgo : gt zs x1 x2 x t p = (y1, y2, y, u) := by rw [HG.out, ← d1, ← d2, ← d3, ← d4]
        rw [hgo, HBT.out]
        first
        | (rw [decide_eq_true hbit]; exact ⟨rfl, by have := HW.out; (repeat' (first | (with_reducible exact Below.refl _ _) | (with_reducible assumption) | (with_reducible refine below_drewN ?_ _) | (with_reducible refine below_new ?_ _) | (with_reducible refine Below.alloc ?_ ?_ _) | (with_reducible refine Below.drew ?_) | (with_reducible refine Below.setCell ?_ ?_ _) | (with_reducible apply below_at; (case k => (with_reducible assumption)); (case hB => omega)) | (with_reducible apply below_on; (with_reducible assumption)) | (go_size; done) | (with_reducible apply size_of)))⟩)
        | (rw [decide_eq_false (show ¬ (x ≤ mid x1 x2 p) by omega)]; exact ⟨rfl, by have := HW.out; (repeat' (first | (with_reducible exact Below.refl _ _) | (with_reducible assumption) | (with_reducible refine below_drewN ?_ _) | (with_reducible refine below_new ?_ _) | (with_reducible refine Below.alloc ?_ ?_ _) | (with_reducible refine Below.drew ?_) | (with_reducible refine Below.setCell ?_ ?_ _) | (with_reducible apply below_at; (case k => (with_reducible assumption)); (case hB => omega)) | (with_reducible apply below_on; (with_reducible assumption)) | (go_size; done) | (with_reducible apply size_of)))⟩)
end Go.Proofs.Ytckbiielahgliaa.decW
