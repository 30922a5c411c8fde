/- Put of rings, by a walk. -/
import Derived.Test.YtpggdijhfdddpaaDoorRgW18
namespace Go.Proofs.YtpggdijhfdddpaaDoor.rgW
open Go.RowKit Go.Proofs.YtpggdijhfdddpaaDoor.base Go.Proofs.YtpggdijhfdddpaaDoor.rgP
set_option linter.unusedVariables false
set_option linter.unusedSimpArgs false

set_option maxHeartbeats 4000000 in
theorem Put_ok (r : Rg) (A B : Option Addr) (n c m d : Nat) (l : List Int) (w : World) (h : RgIn w A n c r) (hl : Has .u8 w B l) (hm : l.length = m) (hk : putE r l = 0) :
    Calls Tryd.prog 37 #[.agg #[.int .i64 (r).l, .slice A n c, .int .i64 (r).n], .slice B m d] w fun e w' => ∃ g c', e = .returned (.tuple #[.agg #[.int .i64 r.l, .slice (some ⟨g, 0, none⟩) n c', .int .i64 (putR r l).n], .int .i64 0]) ∧ OwnI w' w.heap.size 5 .u8 (.slice (some ⟨g, 0, none⟩) n c') (putR r l).b ∧ Below w.heap.size w w' := by
  have H := Lib.hid h
  have HL := Lib.hid hl
  have HM := Lib.hid hm
  obtain ⟨h1, h3, h4⟩ := put_parts hm hk
  have e1 : rgE r = 0 := rgE_yes h1
  obtain ⟨a1, a2, a3, a4⟩ := ok_parts h h1
  have HN := Lib.hid a2
  have HN1 := Lib.hid a1
  have n8 : (n : Int) ≤ 8192 := by omega
  have hmk := mk8 n (by omega)
  clear h hk h1 hm hl a1 a2
  go_enter Tryd.func37, Tryd.ntmps37
  go_upto_region 8 with (first | (go_at_call 39; refine (Check_any r A n c _ (H.out.below (by (repeat' (first | (with_reducible exact Below.refl _ _) | (with_reducible assumption) | (with_reducible refine below_drewN ?_ _) | (with_reducible refine below_new ?_ _) | (with_reducible refine Below.alloc ?_ ?_ _) | (with_reducible refine Below.drew ?_) | (with_reducible refine Below.setCell ?_ ?_ _) | (with_reducible apply below_at; (case k => (with_reducible assumption)); (case hB => omega)) | (with_reducible apply below_on; (with_reducible assumption)) | (go_size; done) | (with_reducible apply size_of)))))).mono ?_; rintro e w1 ⟨rfl, hb1⟩; rw [e1]; have K1 : Lies (w1) (w.heap.size) 24 [.int .i64 (r).l, .slice (A) (n) (c), .int .i64 (r).n] := (by (repeat' (first | (with_reducible assumption) | (with_reducible exact Lies.fresh _ _ _) | (with_reducible apply Lies.fresh_at; (first | (with_reducible rfl) | (simp; done))) | (with_reducible refine Lies.drew ?_) | (with_reducible refine Lies.drewN ?_ _) | (with_reducible refine Lies.alloc ?_ _) | (with_reducible apply Lies.past; case hb => (with_reducible assumption)) | (with_reducible apply Lies.keeps; (case k => (with_reducible assumption)); (case ht => decide)) | (with_reducible apply Lies.store3) | (with_reducible apply Lies.other; case hp => (first | omega | (simp; done) | (simp; omega)))))); have Z1 : Lies (w1) (w.heap.size + 1) 24 [.int .i64 0, .slice none 0 0, .int .i64 0] := (by (repeat' (first | (with_reducible assumption) | (with_reducible exact Lies.fresh _ _ _) | (with_reducible apply Lies.fresh_at; (first | (with_reducible rfl) | (simp; done))) | (with_reducible refine Lies.drew ?_) | (with_reducible refine Lies.drewN ?_ _) | (with_reducible refine Lies.alloc ?_ _) | (with_reducible apply Lies.past; case hb => (with_reducible assumption)) | (with_reducible apply Lies.keeps; (case k => (with_reducible assumption)); (case ht => decide)) | (with_reducible apply Lies.store3) | (with_reducible apply Lies.other; case hp => (first | omega | (simp; done) | (simp; omega)))))); obtain ⟨p0, p1, p2, -, -, -⟩ := K1.three; obtain ⟨z0, z1, z2, y0, y1, y2⟩ := Z1.three; have HZ1 := Lib.hid Z1; have HK1 := Lib.hid K1; have HB1 := Lib.hid hb1; have lt1 := Z1.lt; have lt0 := K1.lt))
  go_cut [7] (fun s7 wx => ∃ g G, s7 = .pointer (some ⟨G, 0, none⟩) ∧ (Lies (wx) (G) 24 [.int .i64 (r).l, .slice ((some ⟨g, 0, none⟩)) (n) (n), .int .i64 (r).n]) ∧ OwnI wx (w.heap.size + 2) 5 .u8 (.slice (some ⟨g, 0, none⟩) n n) (List.replicate n 0) ∧ (Lies (wx) (w.heap.size) 24 [.int .i64 (r).l, .slice (A) (n) (c), .int .i64 (r).n]) ∧ (Lies (wx) (w.heap.size + 1) 24 [.int .i64 0, .slice none 0 0, .int .i64 0]) ∧ Below w.heap.size w wx ∧ w.heap.size + 1 < G)
  case first =>
    go_region
    all_goals
      go_wp2_with fail
      go_meet
      refine ⟨_, _, rfl, by (repeat' (first | (with_reducible assumption) | (with_reducible exact Lies.fresh _ _ _) | (with_reducible apply Lies.fresh_at; (first | (with_reducible rfl) | (simp; done))) | (with_reducible refine Lies.drew ?_) | (with_reducible refine Lies.drewN ?_ _) | (with_reducible refine Lies.alloc ?_ _) | (with_reducible apply Lies.past; case hb => (with_reducible assumption)) | (with_reducible apply Lies.keeps; (case k => (with_reducible assumption)); (case ht => decide)) | (with_reducible apply Lies.store3) | (with_reducible apply Lies.other; case hp => (first | omega | (simp; done) | (simp; omega))))), ?_, by (repeat' (first | (with_reducible assumption) | (with_reducible exact Lies.fresh _ _ _) | (with_reducible apply Lies.fresh_at; (first | (with_reducible rfl) | (simp; done))) | (with_reducible refine Lies.drew ?_) | (with_reducible refine Lies.drewN ?_ _) | (with_reducible refine Lies.alloc ?_ _) | (with_reducible apply Lies.past; case hb => (with_reducible assumption)) | (with_reducible apply Lies.keeps; (case k => (with_reducible assumption)); (case ht => decide)) | (with_reducible apply Lies.store3) | (with_reducible apply Lies.other; case hp => (first | omega | (simp; done) | (simp; omega))))), by (repeat' (first | (with_reducible assumption) | (with_reducible exact Lies.fresh _ _ _) | (with_reducible apply Lies.fresh_at; (first | (with_reducible rfl) | (simp; done))) | (with_reducible refine Lies.drew ?_) | (with_reducible refine Lies.drewN ?_ _) | (with_reducible refine Lies.alloc ?_ _) | (with_reducible apply Lies.past; case hb => (with_reducible assumption)) | (with_reducible apply Lies.keeps; (case k => (with_reducible assumption)); (case ht => decide)) | (with_reducible apply Lies.store3) | (with_reducible apply Lies.other; case hp => (first | omega | (simp; done) | (simp; omega))))), by (repeat' (first | (with_reducible exact Below.refl _ _) | (with_reducible assumption) | (with_reducible refine below_drewN ?_ _) | (with_reducible refine below_new ?_ _) | (with_reducible refine Below.alloc ?_ ?_ _) | (with_reducible refine Below.drew ?_) | (with_reducible refine Below.setCell ?_ ?_ _) | (with_reducible apply below_at; (case k => (with_reducible assumption)); (case hB => omega)) | (with_reducible apply below_on; (with_reducible assumption)) | (go_size; done) | (with_reducible apply size_of))), by first | omega | (simp; done) | (simp; omega)⟩
      repeat' (first | (refine own_z _ n ?_ ?_ ?_ <;> (first | omega | (simp; done) | (simp; omega) | decide | (simp only [maxLen]; omega))) | refine own_drew ?_ | refine own_alloc ?_ _)
  case rest =>
    obtain ⟨g, G, rfl, KG, O, K2, Z2, W2, ltG⟩ := hcut
    have HKG := Lib.hid KG
    have HO := Lib.hid O
    have HK2 := Lib.hid K2
    have HZ2 := Lib.hid Z2
    have HW2 := Lib.hid W2
    obtain ⟨q0, q1, q2, -, -, -⟩ := KG.three
    obtain ⟨s0, s1, s2, -, -, -⟩ := K2.three
    clear p0 p1 p2 z0 z1 z2 y0 y1 y2 K1 Z1 hb1 lt1 lt0 KG O K2 Z2 W2 hmk
    have HLTG := Lib.hid ltG
    clear ltG
    have HA4 := Lib.hid (And.intro a3 a4)
    have HM4 := Lib.hid (And.intro h3 h4)
    clear a3 a4 h3 h4
    have n0 : 0 < n := by have := HN1.out; omega
    go_wp2_with (with_reducible refine copy8 rfl _ _ rfl (w.heap.size + 2) g n n (List.replicate n 0) r.b rfl HO.out A c rfl (H.out.h.below HW2.out (Nat.le_refl _)) H.out.e n0 ?_; intro w3 O3 k3 b3; have HKG3 := Lib.hid (HKG.out.keeps k3 (by decide)); have HK3 := Lib.hid (HK2.out.keeps k3 (by decide)); have HZ3 := Lib.hid (HZ2.out.keeps k3 (by decide)); have HO3 := Lib.hid O3; have HB3 := Lib.hid b3)
    have gb := HO.out.base_le
    have HW3 : Hid (Below w.heap.size w w3) := Lib.hid (HW2.out.trans (HB3.out.mono (by omega)))
    have HGB := Lib.hid (show w.heap.size + 2 ≤ g by exact gb.1)
    have HSZ := Lib.hid (HKG3.out.lt)
    clear O3 k3 b3 q0 q1 q2 s0 s1 s2 gb HKG HK2 HZ2 HO HW2 HB3 
    have HNE : Hid (g ≠ G) := Lib.hid (fun e => own_ne HO3.out HKG3.out (by decide) (by rw [e]; rfl))
    go_loopw [45] (fun i wr => ∃ (q t : Nat), q ≤ m ∧ i = .int .i64 (q : Int) ∧ (t : Int) = r.n + q ∧ Lies wr G 24 [.int .i64 r.l, .slice (some ⟨g, 0, none⟩) n n, .int .i64 (t : Int)] ∧ OwnI wr (w.heap.size + 2) 5 .u8 (.slice (some ⟨g, 0, none⟩) n n) (putR r (l.take q)).b ∧ (Lies (wr) (w.heap.size + 1) 24 [.int .i64 0, .slice none 0 0, .int .i64 0]) ∧ Below w.heap.size w wr) (fun i _ => m - (intOf i).toNat)
    case atStart =>
      refine ⟨0, r.n.toNat, Nat.zero_le _, rfl, by have := HA4.out; omega, ?_, HO3.out, HZ3.out, HW3.out⟩
      have h := HKG3.out
      rw [show ((r.n.toNat : Nat) : Int) = r.n by have := HA4.out; omega]
      exact h
    case round =>
      obtain ⟨q, t, hq, rfl, ht, K, O, Z, acc⟩ := hrel
      have HK4 := Lib.hid K
      have HO4 := Lib.hid O
      have HZ4 := Lib.hid Z
      have HW4 := Lib.hid acc
      have HT := Lib.hid ht
      by_cases hlt : q < m
      · obtain ⟨bb, off, rfl, hbb, hcb⟩ := has_some HL.out (by rw [HM.out]; omega)
        have hcx : wr.cell? ⟨bb, off + q, none⟩ = some (.int .u8 (l.getD q 0)) := by rw [(bcell acc).1 bb _ hbb]; exact hcb q (by rw [HM.out]; exact hlt)
        have hlen : (putR r (l.take q)).b.length = n := by rw [putR_len]; exact H.out.e
        have HST := Lib.hid (put_step r l q (by rw [HM.out]; exact hlt))
        have HJ : Hid ((putR r (l.take q)).n.toNat % (putR r (l.take q)).b.length = t % n) := Lib.hid (by rw [hlen, putR_n, List.length_take, HM.out, show min q m = q by omega, ← ht, Int.toNat_natCast])
        have t1 : (t : Int) < 1073741824 := by have := HA4.out; have := HM4.out; omega
        have HT1 : Hid (t < 1073741824) := Lib.hid (by omega)
        have HLE := Lib.hid hlen
        obtain ⟨x, hx⟩ : ∃ x, l.getD q 0 = x := ⟨_, rfl⟩
        rw [hx] at hcx HST
        have q1 : (q : Int) < m := by omega
        have q0 : 0 ≤ (q : Int) := by omega
        have m1 : (m : Int) ≤ 20000 := HM4.out.1
        have HQ := Lib.hid hlt
        clear K O Z acc hlen hx hcb hlt hq ht t1
        go_wp2_with (go_at_call 47; refine (put_one r.l x _ (w.heap.size + 2) G g n n t _ HK4.out HO4.out (by have := HLTG.out; omega) HLE.out n0 (by omega) HT1.out HNE.out).mono ?_; rintro e w4 ⟨rfl, d4, rfl⟩)
        go_roundw
        case rel =>
          have K5 := HK4.out.other (p := ⟨g, t % n, none⟩) HNE.out (.int .u8 x)
          refine ⟨q + 1, t + 1, HQ.out, by go_num, by have := HT.out; omega, ?_, ?_, ?_, ?_⟩
          · have h := (K5.set 2 (.int .i64 ((t : Int) + 1))).drewN d4
            exact h
          · have h := own_set (HO4.out.store (t % n) x) (own_ne (HO4.out.store (t % n) x) K5 (by decide)) (.int .i64 ((t : Int) + 1)) (p := ⟨G, 2, none⟩)
            rw [HST.out, put1, HJ.out]
            exact h
          · exact ((HZ4.out.other (p := ⟨g, t % n, none⟩) (by have := HGB.out; show g ≠ w.heap.size + 1; omega) _).other (p := ⟨G, 2, none⟩) (by have := HLTG.out; show G ≠ w.heap.size + 1; omega) _).drewN d4
          · refine below_drewN ?_ d4
            have z1 : w.heap.size ≤ g := by have := HGB.out; omega
            have z2 : w.heap.size ≤ G := by have := HLTG.out; omega
            exact Below.setCell (Below.setCell HW4.out z1 _) z2 _
        case measure => simp [intOf]; omega
      · have he : q = m := by omega
        subst he
        obtain ⟨z0, z1, z2, y0, y1, y2⟩ := Z.three
        obtain ⟨p0, p1, p2, -, -, -⟩ := K.three
        clear K O Z acc hlt hq ht
        go_wp2
        obtain ⟨t0, t1, t2, -, -, -⟩ := (HZ4.out.store3 (a := .int .i64 r.l) (b := .slice (some ⟨g, 0, none⟩) n n) (c := .int .i64 (t : Int))).three
        refine bodyPost_ret (by simp [results, Tryd.results37, go_sem, t0, t1, t2]; try rfl) rfl ?_
        have hall : l.take q = l := List.take_of_length_le (by rw [HM.out]; exact Nat.le_refl _)
        refine ⟨g, n, ?_, ?_, below_store3 HW4.out (Nat.le_succ _)⟩
        · rw [putR_n, HM.out, ← HT.out]
        · have h := HO4.out
          rw [hall] at h
          exact (own_store3 h HZ4.out (by decide)).mono (by omega)
end Go.Proofs.YtpggdijhfdddpaaDoor.rgW
