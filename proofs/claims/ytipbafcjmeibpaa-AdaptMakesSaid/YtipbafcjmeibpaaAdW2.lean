/- Check of adaptive maps, by walks. -/
import Derived.Test.YtipbafcjmeibpaaAdW
import Derived.BigQuiet
namespace Go.Proofs.Ytipbafcjmeibpaa.adW
open Go.RowKit Go.Proofs.Ytipbafcjmeibpaa.base Go.Proofs.Ytipbafcjmeibpaa.adP Go.Proofs.Ytipbafcjmeibpaa.recipP
open Go.Proofs.Ytipbafcjmeibpaa.recipW (prob_any)
set_option linter.unusedVariables false
set_option linter.unusedSimpArgs false

theorem adE_no {m : Ad} (h : adOk m = false) : adE m = 8 := by simp [adE, h]
theorem adE_yes {m : Ad} (h : adOk m = true) : adE m = 0 := by simp [adE, h]
theorem adOk_shape {m : Ad} (h : adShape m = false) : adOk m = false := by simp [adOk, h]

set_option maxHeartbeats 1000000 in
theorem Check_bad (m : Ad) (A B : Option Addr) (lp ln cp cn : Nat) (w : World) (h : AdIn w A B lp ln m) (hs : adShape m = false) :
    Calls Try.prog 14 #[.agg #[.int .i32 (m).l, .slice A lp cp, .slice B ln cn]] w fun e w' => e = .returned (.int .i64 8) ∧ Below w.heap.size w w' := by
  obtain ⟨l1, l2, hp, ep, hn, en, mp, mn, bp, bn⟩ := h
  have HS := Lib.hid hs
  clear hp hn bp bn hs
  by_cases c1 : m.l < 1
  · go_enter Try.func14, Try.ntmps14
    go_wp2
    go_ret
    exact ⟨rfl, by (repeat' (first | (with_reducible exact Below.refl _ _) | (with_reducible assumption) | (with_reducible refine below_drewN ?_ _) | (with_reducible refine below_new ?_ _) | (with_reducible refine Below.alloc ?_ ?_ _) | (with_reducible refine Below.drew ?_) | (with_reducible refine Below.setCell ?_ ?_ _) | (with_reducible apply below_at; (case k => (with_reducible assumption)); (case hB => omega)) | (with_reducible apply below_on; (with_reducible assumption)) | (go_size; done) | (with_reducible apply size_of)))⟩
  · by_cases c2 : 1000 < m.l
    · go_enter Try.func14, Try.ntmps14
      go_wp2
      go_ret
      exact ⟨rfl, by (repeat' (first | (with_reducible exact Below.refl _ _) | (with_reducible assumption) | (with_reducible refine below_drewN ?_ _) | (with_reducible refine below_new ?_ _) | (with_reducible refine Below.alloc ?_ ?_ _) | (with_reducible refine Below.drew ?_) | (with_reducible refine Below.setCell ?_ ?_ _) | (with_reducible apply below_at; (case k => (with_reducible assumption)); (case hB => omega)) | (with_reducible apply below_on; (with_reducible assumption)) | (go_size; done) | (with_reducible apply size_of)))⟩
    · by_cases c3 : lp = 193
      · by_cases c4 : ln = 193
        · exfalso
          have : adShape m = true := (adShape_iff m).2 ⟨by omega, by omega, by omega, by omega⟩
          rw [HS.out] at this
          cases this
        · have c4' : ((ln : Int) == 193) = false := by simp; omega
          have c4'' : ¬ ((ln : Int) = 193) := by omega
          subst c3
          go_enter Try.func14, Try.ntmps14
          go_wp2
          go_ret
          exact ⟨rfl, by (repeat' (first | (with_reducible exact Below.refl _ _) | (with_reducible assumption) | (with_reducible refine below_drewN ?_ _) | (with_reducible refine below_new ?_ _) | (with_reducible refine Below.alloc ?_ ?_ _) | (with_reducible refine Below.drew ?_) | (with_reducible refine Below.setCell ?_ ?_ _) | (with_reducible apply below_at; (case k => (with_reducible assumption)); (case hB => omega)) | (with_reducible apply below_on; (with_reducible assumption)) | (go_size; done) | (with_reducible apply size_of)))⟩
      · have c3' : ((lp : Int) == 193) = false := by simp; omega
        have c3'' : ¬ ((lp : Int) = 193) := by omega
        go_enter Try.func14, Try.ntmps14
        go_wp2
        go_ret
        exact ⟨rfl, by (repeat' (first | (with_reducible exact Below.refl _ _) | (with_reducible assumption) | (with_reducible refine below_drewN ?_ _) | (with_reducible refine below_new ?_ _) | (with_reducible refine Below.alloc ?_ ?_ _) | (with_reducible refine Below.drew ?_) | (with_reducible refine Below.setCell ?_ ?_ _) | (with_reducible apply below_at; (case k => (with_reducible assumption)); (case hB => omega)) | (with_reducible apply below_on; (with_reducible assumption)) | (go_size; done) | (with_reducible apply size_of)))⟩

set_option maxHeartbeats 2000000 in
theorem Check_good (m : Ad) (A B : Option Addr) (lp ln cp cn : Nat) (w : World) (h : AdIn w A B lp ln m) (hs : adShape m = true) :
    Calls Try.prog 14 #[.agg #[.int .i32 (m).l, .slice A lp cp, .slice B ln cn]] w fun e w' => e = .returned (.int .i64 (adE m)) ∧ Below w.heap.size w w' := by
  obtain ⟨l1, l2, hp, ep, hn, en, mp, mn, bp, bn⟩ := h
  obtain ⟨s1, s2, s3, s4⟩ := (adShape_iff m).1 hs
  have c3 : (lp : Int) = 193 := by omega
  have c4 : (ln : Int) = 193 := by omega
  have HC3 := Lib.hid c3
  have HC4 := Lib.hid c4
  clear s3 s4
  have HS := Lib.hid hs
  have HBP := Lib.hid bp
  have HBN := Lib.hid bn
  have HEP := Lib.hid ep
  have HEN := Lib.hid en
  clear bp bn hs mp mn
  rcases hp with h0 | ⟨b, off, rfl, hb, hcA⟩
  · rw [h0] at ep; simp at ep; omega
  rcases hn with h0 | ⟨c, off2, rfl, hb2, hcB⟩
  · rw [h0] at en; simp at en; omega
  have HA := Lib.hid hcA
  have HB := Lib.hid hcB
  clear hcA hcB ep en
  generalize hl : m.l = l at *
  have HLL := Lib.hid hl
  clear hl
  go_enter Try.func14, Try.ntmps14
  go_wp2_with fail
  clear c3 c4
  have LL := Lib.hid (Lies.fresh w 24 [.int .i32 l, .slice (some ⟨b, off, none⟩) lp cp, .slice (some ⟨c, off2, none⟩) ln cn])
  go_loopw [28] (fun i wr => ∃ q : Int, 0 ≤ q ∧ q ≤ 193 ∧ i = .int .i64 q ∧ upTo m q.toNat = true ∧ Lies wr w.heap.size 24 [.int .i32 l, .slice (some ⟨b, off, none⟩) lp cp, .slice (some ⟨c, off2, none⟩) ln cn] ∧ Below w.heap.size w wr) (fun i _ => 193 - (intOf i).toNat)
  case atStart => exact ⟨0, by omega, by omega, rfl, rfl, by have := LL.out; (repeat' (first | (with_reducible assumption) | (with_reducible exact Lies.fresh _ _ _) | (with_reducible apply Lies.fresh_at; (first | (with_reducible rfl) | (simp; done))) | (with_reducible refine Lies.drew ?_) | (with_reducible refine Lies.drewN ?_ _) | (with_reducible refine Lies.alloc ?_ _) | (with_reducible apply Lies.past; case hb => (with_reducible assumption)) | (with_reducible apply Lies.keeps; (case k => (with_reducible assumption)); (case ht => decide)) | (with_reducible apply Lies.store3) | (with_reducible apply Lies.other; case hp => (first | omega | (simp; done) | (simp; omega))))), by (repeat' (first | (with_reducible exact Below.refl _ _) | (with_reducible assumption) | (with_reducible refine below_drewN ?_ _) | (with_reducible refine below_new ?_ _) | (with_reducible refine Below.alloc ?_ ?_ _) | (with_reducible refine Below.drew ?_) | (with_reducible refine Below.setCell ?_ ?_ _) | (with_reducible apply below_at; (case k => (with_reducible assumption)); (case hB => omega)) | (with_reducible apply below_on; (with_reducible assumption)) | (go_size; done) | (with_reducible apply size_of)))⟩
  case round =>
    obtain ⟨q, q1, q2, rfl, hall, K, acc⟩ := hrel
    obtain ⟨p0, p1, p2, -, -, -⟩ := K.three
    have lt := K.lt
    have HE := Lib.hid hall
    have HK := Lib.hid K
    clear hall K
    by_cases hlt : q < 193
    · have hca : wr.cell? ⟨b, off + q.toNat, none⟩ = some (.int .i32 (m.p.getD q.toNat 0)) := by rw [(bcell acc).1 b _ hb]; exact HA.out q.toNat (by have := HEP.out; have := HC3.out; omega)
      have hcb : wr.cell? ⟨c, off2 + q.toNat, none⟩ = some (.int .i32 (m.n.getD q.toNat 0)) := by rw [(bcell acc).1 c _ hb2]; exact HB.out q.toNat (by have := HEN.out; have := HC4.out; omega)
      have lt1 : q < (lp : Int) := by have := HC3.out; omega
      have lt2 : q < (ln : Int) := by have := HC4.out; omega
      have HN := Lib.hid (upTo_next m q.toNat)
      have HX : Hid (¬ (pOk (m.p.getD q.toNat 0) = true ∧ nOk l (m.n.getD q.toNat 0) = true) → adOk m = false) := Lib.hid (by rw [← HLL.out]; exact upTo_bad (by omega))
      rw [HLL.out] at HN
      generalize m.p.getD q.toNat 0 = x at *
      generalize m.n.getD q.toNat 0 = y at *
      by_cases x1 : x < 0
      · have HG : Hid (adOk m = false) := Lib.hid (HX.out (fun h => by rw [pOk_iff] at h; omega))
        go_wp2
        go_quiet (fail)
        go_wp2
        go_ret
        exact ⟨ret1 (adE_no HG.out).symm, by (repeat' (first | (with_reducible exact Below.refl _ _) | (with_reducible assumption) | (with_reducible refine below_drewN ?_ _) | (with_reducible refine below_new ?_ _) | (with_reducible refine Below.alloc ?_ ?_ _) | (with_reducible refine Below.drew ?_) | (with_reducible refine Below.setCell ?_ ?_ _) | (with_reducible apply below_at; (case k => (with_reducible assumption)); (case hB => omega)) | (with_reducible apply below_on; (with_reducible assumption)) | (go_size; done) | (with_reducible apply size_of)))⟩
      · have d1 : decide (x < 0) = false := by simpa using x1
        have d0 : 0 ≤ x := by omega
        clear x1
        by_cases x2 : 65535 < x
        · have HG : Hid (adOk m = false) := Lib.hid (HX.out (fun h => by rw [pOk_iff] at h; omega))
          go_wp2
          go_quiet (fail)
          go_wp2
          go_ret
          exact ⟨ret1 (adE_no HG.out).symm, by (repeat' (first | (with_reducible exact Below.refl _ _) | (with_reducible assumption) | (with_reducible refine below_drewN ?_ _) | (with_reducible refine below_new ?_ _) | (with_reducible refine Below.alloc ?_ ?_ _) | (with_reducible refine Below.drew ?_) | (with_reducible refine Below.setCell ?_ ?_ _) | (with_reducible apply below_at; (case k => (with_reducible assumption)); (case hB => omega)) | (with_reducible apply below_on; (with_reducible assumption)) | (go_size; done) | (with_reducible apply size_of)))⟩
        · have d2 : decide (65535 < x) = false := by simpa using x2
          have d3 : x ≤ 65535 := by omega
          clear x2
          have HXX : Hid (pOk x = true) := Lib.hid ((pOk_iff x).2 ⟨d0, d3⟩)
          by_cases y1 : y < 0
          · have HG : Hid (adOk m = false) := Lib.hid (HX.out (fun h => by rw [nOk_iff] at h; omega))
            go_wp2
            go_quiet (fail)
            go_wp2
            go_ret
            exact ⟨ret1 (adE_no HG.out).symm, by (repeat' (first | (with_reducible exact Below.refl _ _) | (with_reducible assumption) | (with_reducible refine below_drewN ?_ _) | (with_reducible refine below_new ?_ _) | (with_reducible refine Below.alloc ?_ ?_ _) | (with_reducible refine Below.drew ?_) | (with_reducible refine Below.setCell ?_ ?_ _) | (with_reducible apply below_at; (case k => (with_reducible assumption)); (case hB => omega)) | (with_reducible apply below_on; (with_reducible assumption)) | (go_size; done) | (with_reducible apply size_of)))⟩
          · have d4 : decide (y < 0) = false := by simpa using y1
            have d5 : 0 ≤ y := by omega
            clear y1
            by_cases y2 : l < y
            · have HG : Hid (adOk m = false) := Lib.hid (HX.out (fun h => by rw [nOk_iff] at h; omega))
              go_wp2
              go_quiet (fail)
              go_wp2
              go_ret
              exact ⟨ret1 (adE_no HG.out).symm, by (repeat' (first | (with_reducible exact Below.refl _ _) | (with_reducible assumption) | (with_reducible refine below_drewN ?_ _) | (with_reducible refine below_new ?_ _) | (with_reducible refine Below.alloc ?_ ?_ _) | (with_reducible refine Below.drew ?_) | (with_reducible refine Below.setCell ?_ ?_ _) | (with_reducible apply below_at; (case k => (with_reducible assumption)); (case hB => omega)) | (with_reducible apply below_on; (with_reducible assumption)) | (go_size; done) | (with_reducible apply size_of)))⟩
            · have HG : Hid (upTo m (q.toNat + 1) = true) := Lib.hid (by rw [HN.out, HE.out, HXX.out, (nOk_iff l y).2 ⟨d5, by omega⟩]; rfl)
              go_wp2
              go_quiet (fail)
              go_wp2
              go_roundw
              case rel => exact ⟨q + 1, by omega, by omega, by first | rfl | go_num, by rw [show (q + 1).toNat = q.toNat + 1 by omega]; exact HG.out, by have := HK.out; (repeat' (first | (with_reducible assumption) | (with_reducible exact Lies.fresh _ _ _) | (with_reducible apply Lies.fresh_at; (first | (with_reducible rfl) | (simp; done))) | (with_reducible refine Lies.drew ?_) | (with_reducible refine Lies.drewN ?_ _) | (with_reducible refine Lies.alloc ?_ _) | (with_reducible apply Lies.past; case hb => (with_reducible assumption)) | (with_reducible apply Lies.keeps; (case k => (with_reducible assumption)); (case ht => decide)) | (with_reducible apply Lies.store3) | (with_reducible apply Lies.other; case hp => (first | omega | (simp; done) | (simp; omega))))), by (repeat' (first | (with_reducible exact Below.refl _ _) | (with_reducible assumption) | (with_reducible refine below_drewN ?_ _) | (with_reducible refine below_new ?_ _) | (with_reducible refine Below.alloc ?_ ?_ _) | (with_reducible refine Below.drew ?_) | (with_reducible refine Below.setCell ?_ ?_ _) | (with_reducible apply below_at; (case k => (with_reducible assumption)); (case hB => omega)) | (with_reducible apply below_on; (with_reducible assumption)) | (go_size; done) | (with_reducible apply size_of)))⟩
              case measure => simp [intOf]; omega
    · have e1 : q.toNat = 193 := by omega
      have HG : Hid (adOk m = true) := Lib.hid (by rw [adOk, HS.out, ← e1, HE.out]; rfl)
      clear e1
      go_wp2
      go_ret
      exact ⟨ret1 (adE_yes HG.out).symm, by (repeat' (first | (with_reducible exact Below.refl _ _) | (with_reducible assumption) | (with_reducible refine below_drewN ?_ _) | (with_reducible refine below_new ?_ _) | (with_reducible refine Below.alloc ?_ ?_ _) | (with_reducible refine Below.drew ?_) | (with_reducible refine Below.setCell ?_ ?_ _) | (with_reducible apply below_at; (case k => (with_reducible assumption)); (case hB => omega)) | (with_reducible apply below_on; (with_reducible assumption)) | (go_size; done) | (with_reducible apply size_of)))⟩

theorem Check_any (m : Ad) (A B : Option Addr) (lp ln cp cn : Nat) (w : World) (h : AdIn w A B lp ln m) :
    Calls Try.prog 14 #[.agg #[.int .i32 (m).l, .slice A lp cp, .slice B ln cn]] w fun e w' => e = .returned (.int .i64 (adE m)) ∧ Below w.heap.size w w' := by
  cases hs : adShape m
  · rw [adE_no (adOk_shape hs)]
    exact Check_bad m A B lp ln cp cn w h hs
  · obtain ⟨-, -, e1, e2⟩ := (adShape_iff m).1 hs
    have a1 : lp = 193 := by rw [← h.ep, e1]
    have a2 : ln = 193 := by rw [← h.en, e2]
    exact Check_good m A B lp ln cp cn w h hs
end Go.Proofs.Ytipbafcjmeibpaa.adW
