/- NibbleNode, by a walk. -/
import Derived.Test.YtjhfamoldppclaaNibL
namespace Go.Proofs.Ytjhfamoldppclaa.nibL
open Go.RowKit Go.Proofs.Ytjhfamoldppclaa.base Go.Proofs.Ytjhfamoldppclaa.nibP Go.Proofs.Ytjhfamoldppclaa.nibW
set_option linter.unusedVariables false
set_option linter.unusedSimpArgs false

/-- The bits of the nibble that were read. -/
def tl (n : Nat) : List Bool := if n < 16 then rd n else (rd n).drop 4
theorem prt_tl : ∀ n, n < 256 → 1 ≤ n → prt (tl n) = nd n := by decide +kernel
theorem tl_len : ∀ n, n < 256 → (tl n).length ≤ 4 := by decide +kernel
theorem tl_eq (n m : Nat) (hn : n < 256) (hm : m < 256) (h1 : 1 ≤ n) (h2 : 1 ≤ m) : (nd n = nd m) ↔ tl n = tl m := by
  constructor
  · intro h
    rw [← prt_tl n hn h1, ← prt_tl m hm h2] at h
    rw [← rd_prt (tl n) (by have := tl_len n hn; omega), h, rd_prt (tl m) (by have := tl_len m hm; omega)]
  · intro h; rw [← prt_tl n hn h1, ← prt_tl m hm h2, h]
/-- What stands behind the cut of a slice of bits. -/
structure Cut (w : World) (A : Option Addr) (len : Nat) (l : List Bool) : Prop where
  h : HasB w A l
  e : l.length = len
theorem fin {a b : Nat} {l k : List Bool} (h : a = b ↔ l = k) : Ending.returned (.bool (((a : Int) == (b : Int)) == decide (l = k))) = .returned (.bool true) := by
  apply retb
  rw [beq_iff_eq, Bool.eq_iff_iff]
  simp [← h]
  omega
set_option maxRecDepth 100000 in
set_option maxHeartbeats 12000000 in
theorem node_ok (n m : Nat) (w : World) (h1 : 1 ≤ n) (h2 : n < 256) (k1 : 1 ≤ m) (k2 : m < 256) : Calls Try.prog 5 #[.agg #[.int .i64 (n)], .agg #[.int .i64 (m)]] w fun e w' => e = .returned (.bool true) ∧ Below w.heap.size w w' := by
  have a1 : wOk n = true := (wOk_iff _).2 (by omega)
  have a2 : wOk m = true := (wOk_iff _).2 (by omega)
  have bn := nd_bd n h2 h1
  have bm := nd_bd m k2 k1
  obtain ⟨ln, ln4, -⟩ := rd_len n (by omega)
  obtain ⟨lm, lm4, -⟩ := rd_len m (by omega)
  have W1 : Hid (wE n = 0 ∧ wE m = 0 ∧ ndV n = nd n ∧ ndV m = nd m ∧ scV n = decide (4 ≤ ((rd n).length : Int)) ∧ scV m = decide (4 ≤ ((rd m).length : Int)) ∧ bsV n = rd n ∧ bsV m = rd m) := Lib.hid ⟨wE_yes a1, wE_yes a2, by simp [ndV, a1], by simp [ndV, a2], by rw [scV, a1, Bool.true_and]; exact decide_eq_decide.2 (by omega), by rw [scV, a2, Bool.true_and]; exact decide_eq_decide.2 (by omega), by simp [bsV, a1], by simp [bsV, a2]⟩
  have HEQ := Lib.hid (tl_eq n m h2 k2 h1 k1)
  have HPN := Lib.hid (prt_tl n h2 h1)
  have HPM := Lib.hid (prt_tl m k2 k1)
  have HTN := Lib.hid (tl_len n h2)
  have HTM := Lib.hid (tl_len m k2)
  have HN4 := Lib.hid ln4
  have HM4 := Lib.hid lm4
  clear a1 a2 ln4 lm4
  generalize hdn : nd n = vn at *
  generalize hdm : nd m = vm at *
  have HDN := Lib.hid hdn
  have HDM := Lib.hid hdm
  clear hdn hdm
  go_enter Try.func5, Try.ntmps5
  go_wp2_with fail
  refine (alive _).mono ?_
  rintro e w1 ⟨rfl, hb1⟩
  have K1 : Hid (Lies w1 w.heap.size 23 [.int .i64 n]) := Lib.hid (((Lies.fresh _ _ _).alloc _).past hb1)
  have M1 : Hid (Lies w1 (w.heap.size + 1) 23 [.int .i64 m]) := Lib.hid ((Lies.fresh_at (by simp)).past hb1)
  have acc : Below w.heap.size w w1 := by (repeat' (first | (with_reducible exact Below.refl _ _) | (with_reducible assumption) | (with_reducible refine below_drewN ?_ _) | (with_reducible refine below_new ?_ _) | (with_reducible refine Below.alloc ?_ ?_ _) | (with_reducible refine Below.drew ?_) | (with_reducible refine Below.setCell ?_ ?_ _) | (with_reducible apply below_on; (with_reducible assumption)) | (go_size; done) | (with_reducible apply size_of)))
  obtain ⟨p0, f0⟩ := K1.out.one
  obtain ⟨q0, g0⟩ := M1.out.one
  go_wp2_with fail
  refine (rCheck_any (n : Int) _).mono ?_
  rintro e w2 ⟨rfl, hb2⟩
  rw [W1.out.1]
  have K2 := Lib.hid (K1.out.past hb2)
  have M2 := Lib.hid (M1.out.past hb2)
  replace acc : Below w.heap.size w w2 := by (repeat' (first | (with_reducible exact Below.refl _ _) | (with_reducible assumption) | (with_reducible refine below_drewN ?_ _) | (with_reducible refine below_new ?_ _) | (with_reducible refine Below.alloc ?_ ?_ _) | (with_reducible refine Below.drew ?_) | (with_reducible refine Below.setCell ?_ ?_ _) | (with_reducible apply below_on; (with_reducible assumption)) | (go_size; done) | (with_reducible apply size_of)))
  clear p0 f0 q0 g0
  clear hb1 hb2
  obtain ⟨p0, f0⟩ := K2.out.one
  obtain ⟨q0, g0⟩ := M2.out.one
  go_wp2_with fail
  refine (rCheck_any (m : Int) _).mono ?_
  rintro e w3 ⟨rfl, hb3⟩
  rw [W1.out.2.1]
  have K3 := Lib.hid (K2.out.past hb3)
  have M3 := Lib.hid (M2.out.past hb3)
  replace acc : Below w.heap.size w w3 := by (repeat' (first | (with_reducible exact Below.refl _ _) | (with_reducible assumption) | (with_reducible refine below_drewN ?_ _) | (with_reducible refine below_new ?_ _) | (with_reducible refine Below.alloc ?_ ?_ _) | (with_reducible refine Below.drew ?_) | (with_reducible refine Below.setCell ?_ ?_ _) | (with_reducible apply below_on; (with_reducible assumption)) | (go_size; done) | (with_reducible apply size_of)))
  clear p0 f0 q0 g0
  obtain ⟨p0, f0⟩ := K3.out.one
  obtain ⟨q0, g0⟩ := M3.out.one
  go_wp2_with fail
  refine (Node_any (n : Int) _).mono ?_
  rintro e w4 ⟨rfl, hb4⟩
  rw [W1.out.2.2.1, W1.out.1]
  have K4 := Lib.hid (K3.out.past hb4)
  have M4 := Lib.hid (M3.out.past hb4)
  replace acc : Below w.heap.size w w4 := by (repeat' (first | (with_reducible exact Below.refl _ _) | (with_reducible assumption) | (with_reducible refine below_drewN ?_ _) | (with_reducible refine below_new ?_ _) | (with_reducible refine Below.alloc ?_ ?_ _) | (with_reducible refine Below.drew ?_) | (with_reducible refine Below.setCell ?_ ?_ _) | (with_reducible apply below_on; (with_reducible assumption)) | (go_size; done) | (with_reducible apply size_of)))
  clear p0 f0 q0 g0
  obtain ⟨p0, f0⟩ := K4.out.one
  obtain ⟨q0, g0⟩ := M4.out.one
  go_wp2_with fail
  refine (Node_any (m : Int) _).mono ?_
  rintro e w5 ⟨rfl, hb5⟩
  rw [W1.out.2.2.2.1, W1.out.2.1]
  have K5 := Lib.hid (K4.out.past hb5)
  have M5 := Lib.hid (M4.out.past hb5)
  replace acc : Below w.heap.size w w5 := by (repeat' (first | (with_reducible exact Below.refl _ _) | (with_reducible assumption) | (with_reducible refine below_drewN ?_ _) | (with_reducible refine below_new ?_ _) | (with_reducible refine Below.alloc ?_ ?_ _) | (with_reducible refine Below.drew ?_) | (with_reducible refine Below.setCell ?_ ?_ _) | (with_reducible apply below_on; (with_reducible assumption)) | (go_size; done) | (with_reducible apply size_of)))
  clear p0 f0 q0 g0
  obtain ⟨p0, f0⟩ := K5.out.one
  obtain ⟨q0, g0⟩ := M5.out.one
  go_wp2_with fail
  refine (Second_any (n : Int) _).mono ?_
  rintro e w6 ⟨rfl, hb6⟩
  rw [W1.out.2.2.2.2.1, W1.out.1]
  have K6 := Lib.hid (K5.out.past hb6)
  have M6 := Lib.hid (M5.out.past hb6)
  replace acc : Below w.heap.size w w6 := by (repeat' (first | (with_reducible exact Below.refl _ _) | (with_reducible assumption) | (with_reducible refine below_drewN ?_ _) | (with_reducible refine below_new ?_ _) | (with_reducible refine Below.alloc ?_ ?_ _) | (with_reducible refine Below.drew ?_) | (with_reducible refine Below.setCell ?_ ?_ _) | (with_reducible apply below_on; (with_reducible assumption)) | (go_size; done) | (with_reducible apply size_of)))
  clear p0 f0 q0 g0
  obtain ⟨p0, f0⟩ := K6.out.one
  obtain ⟨q0, g0⟩ := M6.out.one
  go_wp2_with fail
  refine (Second_any (m : Int) _).mono ?_
  rintro e w7 ⟨rfl, hb7⟩
  rw [W1.out.2.2.2.2.2.1, W1.out.2.1]
  have K7 := Lib.hid (K6.out.past hb7)
  have M7 := Lib.hid (M6.out.past hb7)
  replace acc : Below w.heap.size w w7 := by (repeat' (first | (with_reducible exact Below.refl _ _) | (with_reducible assumption) | (with_reducible refine below_drewN ?_ _) | (with_reducible refine below_new ?_ _) | (with_reducible refine Below.alloc ?_ ?_ _) | (with_reducible refine Below.drew ?_) | (with_reducible refine Below.setCell ?_ ?_ _) | (with_reducible apply below_on; (with_reducible assumption)) | (go_size; done) | (with_reducible apply size_of)))
  clear p0 f0 q0 g0
  clear hb3 hb4 hb5 hb6 hb7
  obtain ⟨p0, f0⟩ := K7.out.one
  obtain ⟨q0, g0⟩ := M7.out.one
  go_wp2_with fail
  refine (Bits_any (n : Int) _).mono ?_
  rintro e w8 ⟨A, ca, rfl, hA, lA, hb8⟩
  rw [W1.out.2.2.2.2.2.2.1] at hA lA ⊢
  rw [W1.out.1]
  have K8 := Lib.hid (K7.out.past hb8)
  have M8 := Lib.hid (M7.out.past hb8)
  replace acc : Below w.heap.size w w8 := by (repeat' (first | (with_reducible exact Below.refl _ _) | (with_reducible assumption) | (with_reducible refine below_drewN ?_ _) | (with_reducible refine below_new ?_ _) | (with_reducible refine Below.alloc ?_ ?_ _) | (with_reducible refine Below.drew ?_) | (with_reducible refine Below.setCell ?_ ?_ _) | (with_reducible apply below_on; (with_reducible assumption)) | (go_size; done) | (with_reducible apply size_of)))
  clear p0 f0 q0 g0
  have HA := Lib.hid hA
  clear hA
  obtain ⟨p0, f0⟩ := K8.out.one
  obtain ⟨q0, g0⟩ := M8.out.one
  go_wp2_with fail
  refine (Bits_any (m : Int) _).mono ?_
  rintro e w9 ⟨B, cb, rfl, hB, lB, hb9⟩
  rw [W1.out.2.2.2.2.2.2.2] at hB lB ⊢
  rw [W1.out.2.1]
  have K9 := Lib.hid (K8.out.past hb9)
  have M9 := Lib.hid (M8.out.past hb9)
  replace acc : Below w.heap.size w w9 := by (repeat' (first | (with_reducible exact Below.refl _ _) | (with_reducible assumption) | (with_reducible refine below_drewN ?_ _) | (with_reducible refine below_new ?_ _) | (with_reducible refine Below.alloc ?_ ?_ _) | (with_reducible refine Below.drew ?_) | (with_reducible refine Below.setCell ?_ ?_ _) | (with_reducible apply below_on; (with_reducible assumption)) | (go_size; done) | (with_reducible apply size_of)))
  clear p0 f0 q0 g0
  have HA9 := Lib.hid (HA.out.below hb9 (Nat.le_refl _))
  have HB9 := Lib.hid hB
  clear hB HA hb8 hb9 K1 K2 K3 K4 K5 K6 K7 K8 M1 M2 M3 M4 M5 M6 M7 M8
  have En := Lib.hid (HN4.out)
  go_upto_if 114 with (fail)
  go_cut [14] (fun s wx => ∃ X L c, s = .slice X L c ∧ Cut w9 X L (tl n) ∧ L ≤ 8 ∧ w9 = wx)
  case first =>
    by_cases c1 : (rd n).length < 4
    · have T : Hid (tl n = rd n) := Lib.hid (by simp [tl, HN4.out.1 c1])
      go_wp2
      go_meet
      exact ⟨_, _, _, rfl, by rw [T.out]; exact ⟨HA9.out, rfl⟩, by omega, rfl⟩
    · have T : Hid (tl n = (rd n).drop 4) := Lib.hid (by rw [tl, if_neg (fun h => c1 (HN4.out.2 h))])
      obtain ⟨b, o, rfl, -, -⟩ := hasB_some HA9.out (by omega)
      by_cases x : ca = 4
      · subst x
        go_wp2
        go_meet
        exact ⟨_, _, _, rfl, by rw [T.out]; exact ⟨hasB_gone (by omega), by simp; omega⟩, by omega, rfl⟩
      · go_wp2
        go_meet
        exact ⟨_, _, _, rfl, by rw [T.out]; exact ⟨HA9.out.dropAt 4, by simp⟩, by omega, rfl⟩
  case rest =>
  obtain ⟨Xn, Ln, cn, rfl, hn, lLn, rfl⟩ := hcut
  have Hn := Lib.hid hn
  clear hn
  have Em := Lib.hid (HM4.out)
  go_upto_if 117 with (fail)
  go_cut [16] (fun s wx => ∃ X L c, s = .slice X L c ∧ Cut w9 X L (tl m) ∧ L ≤ 8 ∧ w9 = wx)
  case first =>
    by_cases c1 : (rd m).length < 4
    · have T : Hid (tl m = rd m) := Lib.hid (by simp [tl, HM4.out.1 c1])
      go_wp2
      go_meet
      exact ⟨_, _, _, rfl, by rw [T.out]; exact ⟨HB9.out, rfl⟩, by omega, rfl⟩
    · have T : Hid (tl m = (rd m).drop 4) := Lib.hid (by rw [tl, if_neg (fun h => c1 (HM4.out.2 h))])
      obtain ⟨b, o, rfl, -, -⟩ := hasB_some HB9.out (by omega)
      by_cases x : cb = 4
      · subst x
        go_wp2
        go_meet
        exact ⟨_, _, _, rfl, by rw [T.out]; exact ⟨hasB_gone (by omega), by simp; omega⟩, by omega, rfl⟩
      · go_wp2
        go_meet
        exact ⟨_, _, _, rfl, by rw [T.out]; exact ⟨HB9.out.dropAt 4, by simp⟩, by omega, rfl⟩
  case rest =>
  obtain ⟨Xm, Lm, cm, rfl, hm, lLm, rfl⟩ := hcut
  have Hm := Lib.hid hm
  clear hm
  go_wp2_with fail
  refine (rPart_any _ _ _ (tl n) _ Hn.out.h Hn.out.e lLn).mono ?_
  rintro e wA ⟨rfl, rfl⟩
  rw [HPN.out]
  go_wp2_with fail
  refine (rPart_any _ _ _ (tl m) _ Hm.out.h Hm.out.e lLm).mono ?_
  rintro e wB ⟨rfl, rfl⟩
  rw [HPM.out]
  go_wp2_with fail
  refine (rSame_any _ _ _ _ _ _ (tl n) (tl m) _ Hn.out.h Hn.out.e Hm.out.h Hm.out.e (by omega) (by omega)).mono ?_
  rintro e wC ⟨rfl, hbC⟩
  go_wp2
  go_ret
  exact ⟨fin HEQ.out, acc.trans (hbC.mono acc.size)⟩
theorem node_law (p q : Int) (w : World) (_ : WalkIn p) (_ : WalkIn q) : Calls Try.prog 5 #[.agg #[.int .i64 (p)], .agg #[.int .i64 (q)]] w fun e w' => e = .returned (.bool true) ∧ Below w.heap.size w w' := by
  cases hp : wOk p
  · exact node_bad p q w (.inl hp)
  · cases hq : wOk q
    · exact node_bad p q w (.inr hq)
    · obtain ⟨n, rfl, h1, h2⟩ := part_of hp
      obtain ⟨m, rfl, k1, k2⟩ := part_of hq
      exact node_ok n m w h1 h2 k1 k2
end Go.Proofs.Ytjhfamoldppclaa.nibL
