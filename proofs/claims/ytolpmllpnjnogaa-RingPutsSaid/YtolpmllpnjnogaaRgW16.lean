/- The reference's Put of rings, by a walk. -/
import Derived.Test.YtolpmllpnjnogaaRgW15
namespace Go.Proofs.Ytolpmllpnjnogaa.rgW
open Go.RowKit Go.Proofs.Ytolpmllpnjnogaa.base Go.Proofs.Ytolpmllpnjnogaa.rgP
set_option linter.unusedVariables false
set_option linter.unusedSimpArgs false

theorem put_parts {r : Rg} {l : List Int} {m : Nat} (hm : l.length = m) (h : putE r l = 0) : rgOk r = true ∧ ¬ (20000 : Int) < m ∧ ¬ 1073741824 - r.n < (m : Int) := by
  unfold putE at h
  rw [hm] at h
  cases hok : rgOk r
  · rw [hok] at h; simp at h
  · rw [hok] at h
    simp only [if_true] at h
    by_cases c1 : 20000 < m
    · rw [if_pos c1] at h; simp at h
    · rw [if_neg c1] at h
      by_cases c2 : 1073741824 - r.n < (m : Int)
      · rw [if_pos c2] at h; simp at h
      · exact ⟨by trivial, by omega, c2⟩
theorem put_step (r : Rg) (l : List Int) (q : Nat) (hq : q < l.length) : putR r (l.take (q + 1)) = put1 (putR r (l.take q)) (l.getD q 0) := by
  rw [take_snoc 0 l q hq, putR_snoc]
theorem five_cells {w : World} {G g j b o : Nat} {a0 a1 a2 v x : Value} {t : TypeId} (h : Lies w G t [a0, a1, a2]) (hx : w.cell? ⟨b, o, none⟩ = some x) (hc : w.cell? ⟨g, j, none⟩ = some v) (hf : w.frozen? ⟨g, j, none⟩ = false) : w.cell? ⟨G, 1, none⟩ = some a1 ∧ w.cell? ⟨G, 2, none⟩ = some a2 ∧ w.cell? ⟨b, o, none⟩ = some x ∧ w.cell? ⟨g, j, none⟩ = some (cellOr w g j) ∧ w.frozen? ⟨g, j, none⟩ = false := ⟨h.three.2.1, h.three.2.2.1, hx, cellOr_of hc, hf⟩
set_option maxHeartbeats 4000000 in
theorem rPut_ok (r : Rg) (A B : Option Addr) (n c m d : Nat) (l : List Int) (w : World) (h : RgIn w A n c r) (hl : Has .u8 w B l) (hm : l.length = m) (hk : putE r l = 0) :
    Calls Try.prog 20 #[.agg #[.int .i64 (r).l, .slice A n c, .int .i64 (r).n], .slice B m d] w fun e w' => ∃ g c', e = .returned (.tuple #[.agg #[.int .i64 r.l, .slice (some ⟨g, 0, none⟩) n c', .int .i64 (putR r l).n], .int .i64 0]) ∧ OwnI w' w.heap.size 5 .u8 (.slice (some ⟨g, 0, none⟩) n c') (putR r l).b ∧ Below w.heap.size w w' := by
  have H := Lib.hid h
  have HL := Lib.hid hl
  have HM := Lib.hid hm
  obtain ⟨h1, h3, h4⟩ := put_parts hm hk
  have e1 : rgE r = 0 := rgE_yes h1
  obtain ⟨a1, a2, a3, a4⟩ := ok_parts h h1
  have HN := Lib.hid a2
  have HN1 := Lib.hid a1
  have HNE : Hid (r.b ≠ []) := Lib.hid (fun e => by have := h.e; rw [e] at this; simp at this; omega)
  clear h hk h1 hm hl a1 a2
  go_enter Try.func20, Try.ntmps20
  go_wp2_with (first | (go_at_call 21; refine (rCheck_any r A n c _ (H.out.below (by (repeat' (first | (with_reducible exact Below.refl _ _) | (with_reducible assumption) | (with_reducible refine below_drewN ?_ _) | (with_reducible refine below_new ?_ _) | (with_reducible refine Below.alloc ?_ ?_ _) | (with_reducible refine Below.drew ?_) | (with_reducible refine Below.setCell ?_ ?_ _) | (with_reducible apply below_at; (case k => (with_reducible assumption)); (case hB => omega)) | (with_reducible apply below_on; (with_reducible assumption)) | (go_size; done) | (with_reducible apply size_of)))))).mono ?_; rintro e w1 ⟨rfl, hb1⟩; rw [e1]; have K1 : Lies (w1) (w.heap.size) 24 [.int .i64 (r).l, .slice (A) (n) (c), .int .i64 (r).n] := (by (repeat' (first | (with_reducible assumption) | (with_reducible exact Lies.fresh _ _ _) | (with_reducible apply Lies.fresh_at; (first | (with_reducible rfl) | (simp; done))) | (with_reducible refine Lies.drew ?_) | (with_reducible refine Lies.drewN ?_ _) | (with_reducible refine Lies.alloc ?_ _) | (with_reducible apply Lies.past; case hb => (with_reducible assumption)) | (with_reducible apply Lies.keeps; (case k => (with_reducible assumption)); (case ht => decide)) | (with_reducible apply Lies.store3) | (with_reducible apply Lies.other; case hp => (first | omega | (simp; done) | (simp; omega)))))); have Z1 : Lies (w1) (w.heap.size + 1) 24 [.int .i64 0, .slice none 0 0, .int .i64 0] := (by (repeat' (first | (with_reducible assumption) | (with_reducible exact Lies.fresh _ _ _) | (with_reducible apply Lies.fresh_at; (first | (with_reducible rfl) | (simp; done))) | (with_reducible refine Lies.drew ?_) | (with_reducible refine Lies.drewN ?_ _) | (with_reducible refine Lies.alloc ?_ _) | (with_reducible apply Lies.past; case hb => (with_reducible assumption)) | (with_reducible apply Lies.keeps; (case k => (with_reducible assumption)); (case ht => decide)) | (with_reducible apply Lies.store3) | (with_reducible apply Lies.other; case hp => (first | omega | (simp; done) | (simp; omega)))))); obtain ⟨p0, p1, p2, -, -, -⟩ := K1.three; obtain ⟨z0, z1, z2, y0, y1, y2⟩ := Z1.three; have HZ1 := Lib.hid Z1; have HB1 := Lib.hid hb1; have lt1 := Z1.lt) | (go_at_call 18; refine (Twin_any r A n c _ (H.out.below (by have := HB1.out; (repeat' (first | (with_reducible exact Below.refl _ _) | (with_reducible assumption) | (with_reducible refine below_drewN ?_ _) | (with_reducible refine below_new ?_ _) | (with_reducible refine Below.alloc ?_ ?_ _) | (with_reducible refine Below.drew ?_) | (with_reducible refine Below.setCell ?_ ?_ _) | (with_reducible apply below_at; (case k => (with_reducible assumption)); (case hB => omega)) | (with_reducible apply below_on; (with_reducible assumption)) | (go_size; done) | (with_reducible apply size_of))))).h H.out.e (by have := HN.out; omega)).mono ?_; rintro e w2 ⟨A2, c2, rfl, ho2, hb2⟩; obtain ⟨g, rfl, gB, gl, O2⟩ := OwnZ.head ho2 HNE.out; have HZ2 := Lib.hid (HZ1.out.past hb2); have HO2 := Lib.hid O2; have HB2 := Lib.hid hb2))
  have d1 : decide ((20000 : Int) < m) = false := by simp; omega
  have d2 : decide (1073741824 - r.n < (m : Int)) = false := by simp; omega
  simp only [d1, d2]
  clear d1 d2
  have HA4 := Lib.hid (And.intro a3 a4)
  have HM4 := Lib.hid (And.intro h3 h4)
  have HLT := Lib.hid lt1
  have HGB := Lib.hid (And.intro gB gl)
  obtain ⟨G, hG⟩ : ∃ G, w2.heap.size = G := ⟨_, rfl⟩
  have HG := Lib.hid hG
  have hKG : Lies (w2.alloc (.cells #[.int .i64 r.l, .slice (some ⟨g, 0, none⟩) n c2, .int .i64 r.n] 24)) (G) 24 [.int .i64 (r).l, .slice ((some ⟨g, 0, none⟩)) (n) (c2), .int .i64 (r).n] := by rw [← hG]; exact Lies.fresh _ _ _
  have HKG := Lib.hid hKG
  rw [hG]
  clear hKG hG p0 p1 p2 z0 z1 z2 y0 y1 y2 K1 Z1 ho2 O2 hb2 hb1 lt1 gB gl h3 h4 a3 a4
  go_loopw [7] (fun i wr => ∃ (q t : Nat), q ≤ m ∧ i = .int .i64 (q : Int) ∧ (t : Int) = r.n + q ∧ Lies wr G 24 [.int .i64 r.l, .slice (some ⟨g, 0, none⟩) n c2, .int .i64 (t : Int)] ∧ OwnI wr w1.heap.size 5 .u8 (.slice (some ⟨g, 0, none⟩) n c2) (putR r (l.take q)).b ∧ (Lies (wr) (w.heap.size + 1) 24 [.int .i64 0, .slice none 0 0, .int .i64 0]) ∧ Below w.heap.size w wr) (fun i _ => m - (intOf i).toNat)
  case atStart =>
    refine ⟨0, r.n.toNat, Nat.zero_le _, rfl, by have := HA4.out; omega, ?_, ?_, ?_, ?_⟩
    · have h := HKG.out
      rw [show ((r.n.toNat : Nat) : Int) = r.n by have := HA4.out; omega]
      exact h
    · exact HO2.out.below ((Below.refl _ _).alloc (Nat.le_refl _) _) (Nat.le_refl _)
    · exact HZ2.out.alloc _
    · have hb := HB2.out; have hb1 := HB1.out; (repeat' (first | (with_reducible exact Below.refl _ _) | (with_reducible assumption) | (with_reducible refine below_drewN ?_ _) | (with_reducible refine below_new ?_ _) | (with_reducible refine Below.alloc ?_ ?_ _) | (with_reducible refine Below.drew ?_) | (with_reducible refine Below.setCell ?_ ?_ _) | (with_reducible apply below_at; (case k => (with_reducible assumption)); (case hB => omega)) | (with_reducible apply below_on; (with_reducible assumption)) | (go_size; done) | (with_reducible apply size_of)))
  case round =>
    obtain ⟨q, t, hq, rfl, ht, K, O, Z, acc⟩ := hrel
    have HK3 := Lib.hid K
    have HO3 := Lib.hid O
    have HZ3 := Lib.hid Z
    have HW3 := Lib.hid acc
    have HT := Lib.hid ht
    by_cases hlt : q < m
    · obtain ⟨bb, off, rfl, hbb, hcb⟩ := has_some HL.out (by rw [HM.out]; omega)
      have hcx : wr.cell? ⟨bb, off + q, none⟩ = some (.int .u8 (l.getD q 0)) := by rw [(bcell acc).1 bb _ hbb]; exact hcb q (by rw [HM.out]; exact hlt)
      obtain ⟨j, hj⟩ : ∃ j, t % n = j := ⟨_, rfl⟩
      have hjn : j < n := by rw [← hj]; exact Nat.mod_lt _ (by have := HN1.out; omega)
      have htm : Int.tmod (t : Int) (n : Int) = (j : Int) := by rw [← hj]; exact (Int.ofNat_tmod t n).symm
      have hlen : (putR r (l.take q)).b.length = n := by rw [putR_len]; exact H.out.e
      have hcj := O.cell j (by rw [hlen]; exact hjn)
      have hfj := O.frozen j
      have hgG : g ≠ G := by have := HGB.out; have := HG.out; omega
      have HX5 := Lib.hid (And.intro hcx (And.intro hcj hfj))
      have HX6 : Hid (∀ v : Int, (wr.setCell ⟨g, j, none⟩ (.int .u8 v)).cell? ⟨bb, off + q, none⟩ = some (.int .u8 (l.getD q 0))) := Lib.hid (fun v => by
        have hw := (HL.out.below acc (Nat.le_refl _)).set (p := ⟨g, j, none⟩) (by intro a e; injection e with e; subst e; show bb ≠ g; have := HLT.out; have := HGB.out; omega) (.int .u8 v)
        obtain ⟨b2, o2, e2, -, hc2⟩ := has_some hw (by rw [HM.out]; omega)
        cases e2
        exact hc2 q (by rw [HM.out]; exact hlt))
      have HST := Lib.hid (put_step r l q (by rw [HM.out]; exact hlt))
      have HJ : Hid ((putR r (l.take q)).n.toNat % (putR r (l.take q)).b.length = j) := Lib.hid (by rw [hlen, putR_n, List.length_take, HM.out, show min q m = q by omega, ← ht, Int.toNat_natCast]; exact hj)
      have HJL : ∀ x : Int, j < ((putR r (l.take q)).b.set j x).length := fun x => by rw [List.length_set, hlen]; exact hjn
      generalize (putR r (l.take q)).b.getD j 0 = y at *
      obtain ⟨x, hx⟩ : ∃ x, l.getD q 0 = x := ⟨_, rfl⟩
      have HX := Lib.hid hx
      rw [hx] at HX5 HX6 HST
      have t1 : (t : Int) ≤ 1073741824 := by have := HA4.out; have := HM4.out; omega
      have t0 : 0 ≤ (t : Int) := by omega
      have q1 : (q : Int) < m := by omega
      have q0 : 0 ≤ (q : Int) := by omega
      have m1 : (m : Int) ≤ 20000 := HM4.out.1
      have n1 : (n : Int) ≤ 8192 := by have := HN.out; omega
      have n3 : ¬ ((n : Int) = 0) := by have := HN1.out; omega
      have n4 : ((n : Int) == 0) = false := by simpa using n3
      have j1 : (j : Int) < n := by omega
      have n5 : ¬ n = 0 := by have := HN1.out; omega
      have n6 : (n == 0) = false := by simpa using n5
      have j2 : 0 ≤ (j : Int) := by omega
      have hw : IntKind.i64.wrap (Int.tmod (t : Int) (n : Int)) = (j : Int) := by rw [htm, IntKind.wrap_i64]; omega
      have HQ := Lib.hid hlt
      have HJL := Lib.hid (HJL x)
      clear K O Z acc hcx hcj hfj hlen hx hcb hlt hq hj hjn ht
      go_wp2_with fail
      go_region_held3 (fun x' => x'.cell? ⟨G, 1, none⟩ = some (.slice (some ⟨g, 0, none⟩) n c2) ∧ x'.cell? ⟨G, 2, none⟩ = some (.int .i64 (t : Int)) ∧ x'.cell? ⟨bb, off + q, none⟩ = some (.int .u8 x) ∧ x'.cell? ⟨g, j, none⟩ = some (cellOr x' g j) ∧ x'.frozen? ⟨g, j, none⟩ = false) (first | exact five_cells HK3.out.drew HX5.out.1 HX5.out.2.1 HX5.out.2.2 | exact five_cells (HK3.out.drew.other hgG _) (HX6.out _) ((HO3.out.store j x).cell j HJL.out) ((HO3.out.store j x).frozen j)) (fail)
      all_goals
        have K5 := HK3.out.drew.other (p := ⟨g, j, none⟩) hgG (.int .u8 x)
        have HK5 := Lib.hid (HK3.out.other (p := ⟨g, j, none⟩) hgG (.int .u8 x))
        obtain ⟨s0, s1, s2, v0, v1, v2⟩ := K5.three
        obtain ⟨s3, s4, s5, v3, v4, v5⟩ := HK5.out.three
        have v6 := HK3.out.free 2
        have v7 := HK3.out.drew.free 2
        clear K5
        go_wp2_with fail
        refine ⟨⟨q + 1, t + 1, HQ.out, by go_num, by have := HT.out; omega, ?_, ?_, ?_, ?_⟩, by simp [intOf]; omega⟩
        · have h := HK5.out.set 2 (.int .i64 ((t : Int) + 1))
          exact h
        · have h := own_set (HO3.out.store j x) (own_ne (HO3.out.store j x) HK5.out (by decide)) (.int .i64 ((t : Int) + 1)) (p := ⟨G, 2, none⟩)
          rw [HST.out, put1, HJ.out]
          exact h
        · exact (HZ3.out.other (p := ⟨g, j, none⟩) (by have := HLT.out; have := HGB.out; show g ≠ w.heap.size + 1; omega) _).other (p := ⟨G, 2, none⟩) (by have := HLT.out; have := HGB.out; have := HG.out; show G ≠ w.heap.size + 1; omega) _
        · refine Below.drew ?_
          show Below w.heap.size w ((wr.setCell ⟨g, j, none⟩ (.int .u8 x)).setCell ⟨G, 2, none⟩ (.int .i64 ((t : Int) + 1)))
          have z1 : w.heap.size ≤ g := by have := HLT.out; have := HGB.out; omega
          have z2 : w.heap.size ≤ G := by have := HLT.out; have := HGB.out; have := HG.out; omega
          exact Below.setCell (Below.setCell HW3.out z1 _) z2 _
    · have he : q = m := by omega
      subst he
      obtain ⟨z0, z1, z2, y0, y1, y2⟩ := Z.three
      obtain ⟨p0, p1, p2, -, -, -⟩ := K.three
      clear K O Z acc hlt hq ht
      go_wp2
      obtain ⟨t0, t1, t2, -, -, -⟩ := (HZ3.out.store3 (a := .int .i64 r.l) (b := .slice (some ⟨g, 0, none⟩) n c2) (c := .int .i64 (t : Int))).three
      refine bodyPost_ret (by simp [results, Try.results20, go_sem, t0, t1, t2]; try rfl) rfl ?_
      have hall : l.take q = l := List.take_of_length_le (by rw [HM.out]; exact Nat.le_refl _)
      refine ⟨g, c2, ?_, ?_, below_store3 HW3.out (Nat.le_succ _)⟩
      · rw [putR_n, HM.out, ← HT.out]
      · have h := HO3.out
        rw [hall] at h
        exact (own_store3 h HZ3.out (by decide)).mono (by have := HLT.out; omega)
end Go.Proofs.Ytolpmllpnjnogaa.rgW
