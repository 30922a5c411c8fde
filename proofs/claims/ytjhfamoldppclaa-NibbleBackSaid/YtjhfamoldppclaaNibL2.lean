/- NibbleBack, by a walk. -/
import Derived.Test.YtjhfamoldppclaaNibL
namespace Go.Proofs.Ytjhfamoldppclaa.nibL
open Go.RowKit Go.Proofs.Ytjhfamoldppclaa.base Go.Proofs.Ytjhfamoldppclaa.nibP Go.Proofs.Ytjhfamoldppclaa.nibW
set_option linter.unusedVariables false
set_option linter.unusedSimpArgs false

set_option maxRecDepth 100000 in
set_option maxHeartbeats 2000000 in
theorem back_bad (p : Int) (A : Option Addr) (len cap : Nat) (w : World) (hm : len ≤ 9223372036854775807) (h : wOk p = false ∨ 7 < len) : Calls Try.prog 7 #[.agg #[.int .i64 (p)], .slice A len cap] w fun e w' => e = .returned (.bool true) ∧ Below w.heap.size w w' := by
  cases hp : wOk p
  · have e1 : wE p = 8 := wE_no hp
    clear h hp
    go_enter Try.func7, Try.ntmps7
    go_wp2_with fail
    refine (alive _).mono ?_
    rintro e w1 ⟨rfl, hb1⟩
    obtain ⟨cl1, fr1⟩ := bcell hb1; have sz1 := hb1.size; (try simp at sz1); (try have sy1 : w.heap.size + 1 < (w1).heap.size := (by omega)); have sx1 : w.heap.size < (w1).heap.size := (by omega)
    go_wp2_with fail
    refine (rCheck_any p _).mono ?_
    rintro e w2 ⟨rfl, hb2⟩
    rw [e1]
    obtain ⟨cl2, fr2⟩ := bcell hb2; have sz2 := hb2.size; (try simp at sz2); (try have sy2 : w.heap.size + 1 < (w2).heap.size := (by omega)); have sx2 : w.heap.size < (w2).heap.size := (by omega)
    go_wp2
    go_ret
    exact ⟨rfl, by (repeat' (first | (with_reducible exact Below.refl _ _) | (with_reducible assumption) | (with_reducible refine below_drewN ?_ _) | (with_reducible refine below_new ?_ _) | (with_reducible refine Below.alloc ?_ ?_ _) | (with_reducible refine Below.drew ?_) | (with_reducible refine Below.setCell ?_ ?_ _) | (with_reducible apply below_on; (with_reducible assumption)) | (go_size; done) | (with_reducible apply size_of)))⟩
  · have e1 : wE p = 0 := wE_yes hp
    have e2 : (7 : Int) < len := by rcases h with h | h; simp_all; omega
    clear h hp
    go_enter Try.func7, Try.ntmps7
    go_wp2_with fail
    refine (alive _).mono ?_
    rintro e w1 ⟨rfl, hb1⟩
    obtain ⟨cl1, fr1⟩ := bcell hb1; have sz1 := hb1.size; (try simp at sz1); (try have sy1 : w.heap.size + 1 < (w1).heap.size := (by omega)); have sx1 : w.heap.size < (w1).heap.size := (by omega)
    go_wp2_with fail
    refine (rCheck_any p _).mono ?_
    rintro e w2 ⟨rfl, hb2⟩
    rw [e1]
    obtain ⟨cl2, fr2⟩ := bcell hb2; have sz2 := hb2.size; (try simp at sz2); (try have sy2 : w.heap.size + 1 < (w2).heap.size := (by omega)); have sx2 : w.heap.size < (w2).heap.size := (by omega)
    go_wp2
    go_ret
    exact ⟨rfl, by (repeat' (first | (with_reducible exact Below.refl _ _) | (with_reducible assumption) | (with_reducible refine below_drewN ?_ _) | (with_reducible refine below_new ?_ _) | (with_reducible refine Below.alloc ?_ ?_ _) | (with_reducible refine Below.drew ?_) | (with_reducible refine Below.setCell ?_ ?_ _) | (with_reducible apply below_on; (with_reducible assumption)) | (go_size; done) | (with_reducible apply size_of)))⟩
theorem prt_le {l : List Bool} {k : Nat} (hk : k < l.length) (h : l.length ≤ 7) : prt (l.take k) < 128 := by
  have b := (prt_bd (l.take k)).2
  have e : (l.take k).length = k := by simp; omega
  rw [e] at b
  have : 2 ^ (k + 1) ≤ 2 ^ 7 := Nat.pow_le_pow_right (by omega) (by omega)
  omega
theorem prt_val {l : List Bool} (h : l.length ≤ 7) : 1 ≤ prt l ∧ prt l < 256 := by
  have b := prt_bd l
  have p1 : 2 ^ l.length ≥ 1 := Nat.one_le_two_pow
  have : 2 ^ (l.length + 1) ≤ 2 ^ 8 := Nat.pow_le_pow_right (by omega) (by omega)
  omega
set_option maxRecDepth 100000 in
set_option maxHeartbeats 8000000 in
theorem back_ok (n : Nat) (A : Option Addr) (len cap : Nat) (l : List Bool) (w : World) (h1 : 1 ≤ n) (h2 : n < 256) (hA : HasB w A l) (hl : l.length = len) (hm : len ≤ 7) :
    Calls Try.prog 7 #[.agg #[.int .i64 (n)], .slice A len cap] w fun e w' => e = .returned (.bool true) ∧ Below w.heap.size w w' := by
  have a1 : wOk n = true := (wOk_iff _).2 (by omega)
  have hv := prt_val (l := l) (by omega)
  have a2 : wOk (prt l : Nat) = true := (wOk_iff _).2 (by omega)
  have r7 := (rd_seven n h2 h1).1
  have W1 : Hid (wE n = 0 ∧ bsV n = rd n ∧ ofV (rd n) = n ∧ ofE (rd n) = 0 ∧ ofV l = prt l ∧ ofE l = 0 ∧ wE (prt l : Nat) = 0 ∧ bsV (prt l : Nat) = l) := Lib.hid ⟨wE_yes a1, by simp [bsV, a1], by rw [ofV, if_pos r7, prt_rd n (by omega) h1], by rw [ofE, if_pos r7], by rw [ofV, if_pos (by omega)], by rw [ofE, if_pos (by omega)], wE_yes a2, by rw [bsV, if_pos a2]; exact rd_prt l (by omega)⟩
  have HV := Lib.hid hv
  have HA := Lib.hid hA
  have HL := Lib.hid hl
  have HLE : Hid (∀ k, k < len → prt (l.take k) < 128 ∧ 1 ≤ prt (l.take k) ∧ prt (l.take (k + 1)) = 2 * prt (l.take k) + (l.getD k false).toNat) := Lib.hid (fun k hk => ⟨prt_le (by omega) (by omega), (prt_small (l := l) (by omega) k).1, prt_take l k (by omega)⟩)
  have hm7 : (len : Int) ≤ 7 := by omega
  clear a1 a2 hv hA hl
  go_enter Try.func7, Try.ntmps7
  go_wp2_with fail
  refine (alive _).mono ?_
  rintro e w1 ⟨rfl, hb1⟩
  have acc : Below w.heap.size w w1 := by (repeat' (first | (with_reducible exact Below.refl _ _) | (with_reducible assumption) | (with_reducible refine below_drewN ?_ _) | (with_reducible refine below_new ?_ _) | (with_reducible refine Below.alloc ?_ ?_ _) | (with_reducible refine Below.drew ?_) | (with_reducible refine Below.setCell ?_ ?_ _) | (with_reducible apply below_on; (with_reducible assumption)) | (go_size; done) | (with_reducible apply size_of)))
  have N1 : Hid (Lies w1 w.heap.size 23 [.int .i64 n]) := Lib.hid ((Lies.fresh _ _ _).past hb1)
  obtain ⟨p0, f0⟩ := N1.out.one
  go_wp2_with fail
  refine (rCheck_any n _).mono ?_
  rintro e w2 ⟨rfl, hb2⟩
  rw [W1.out.1]
  have N2 := Lib.hid (N1.out.past hb2)
  obtain ⟨p0, f0⟩ := N2.out.one
  replace acc : Below w.heap.size w w2 := by (repeat' (first | (with_reducible exact Below.refl _ _) | (with_reducible assumption) | (with_reducible refine below_drewN ?_ _) | (with_reducible refine below_new ?_ _) | (with_reducible refine Below.alloc ?_ ?_ _) | (with_reducible refine Below.drew ?_) | (with_reducible refine Below.setCell ?_ ?_ _) | (with_reducible apply below_on; (with_reducible assumption)) | (go_size; done) | (with_reducible apply size_of)))
  clear hb1 hb2
  go_wp2_with fail
  refine (Bits_any n _).mono ?_
  rintro e w3 ⟨P, cp, rfl, hP, lP, hb3⟩
  rw [W1.out.2.1] at hP lP ⊢
  rw [W1.out.1]
  have N3 := Lib.hid (N2.out.past hb3)
  replace acc : Below w.heap.size w w3 := by (repeat' (first | (with_reducible exact Below.refl _ _) | (with_reducible assumption) | (with_reducible refine below_drewN ?_ _) | (with_reducible refine below_new ?_ _) | (with_reducible refine Below.alloc ?_ ?_ _) | (with_reducible refine Below.drew ?_) | (with_reducible refine Below.setCell ?_ ?_ _) | (with_reducible apply below_on; (with_reducible assumption)) | (go_size; done) | (with_reducible apply size_of)))
  have HP := Lib.hid hP
  clear hb3 hP p0 f0
  go_wp2_with fail
  refine (Of_any P _ cp (rd n) _ HP.out rfl (by omega)).mono ?_
  rintro e w4 ⟨rfl, hb4⟩
  rw [W1.out.2.2.1, W1.out.2.2.2.1]
  have N4 := Lib.hid (N3.out.past hb4)
  replace acc : Below w.heap.size w w4 := by (repeat' (first | (with_reducible exact Below.refl _ _) | (with_reducible assumption) | (with_reducible refine below_drewN ?_ _) | (with_reducible refine below_new ?_ _) | (with_reducible refine Below.alloc ?_ ?_ _) | (with_reducible refine Below.drew ?_) | (with_reducible refine Below.setCell ?_ ?_ _) | (with_reducible apply below_on; (with_reducible assumption)) | (go_size; done) | (with_reducible apply size_of)))
  clear hb4
  have HA4 := Lib.hid (HA.out.below acc (Nat.le_refl _))
  go_wp2_with fail
  refine (Of_any A len cap l _ (HA4.out.below ((Below.refl _ _).alloc (Nat.le_refl _) _) (Nat.le_refl _)) HL.out (by omega)).mono ?_
  rintro e w5 ⟨rfl, hb5⟩
  rw [W1.out.2.2.2.2.1, W1.out.2.2.2.2.2.1]
  have N5 := Lib.hid ((N4.out.alloc _).past hb5)
  have V5 := Lib.hid ((Lies.fresh w4 23 [.int .i64 n]).past hb5)
  have z5 := V5.out.lt
  replace acc : Below w.heap.size w w5 := by (repeat' (first | (with_reducible exact Below.refl _ _) | (with_reducible assumption) | (with_reducible refine below_drewN ?_ _) | (with_reducible refine below_new ?_ _) | (with_reducible refine Below.alloc ?_ ?_ _) | (with_reducible refine Below.drew ?_) | (with_reducible refine Below.setCell ?_ ?_ _) | (with_reducible apply below_on; (with_reducible assumption)) | (go_size; done) | (with_reducible apply size_of)))
  clear hb5
  go_wp2_with fail
  refine (Bits_any (prt l : Nat) _).mono ?_
  rintro e w6 ⟨Q, cq, rfl, hQ, lQ, hb6⟩
  rw [W1.out.2.2.2.2.2.2.2] at hQ lQ ⊢
  rw [W1.out.2.2.2.2.2.2.1]
  have N6 := Lib.hid ((N5.out.alloc _).past hb6)
  have V6 := Lib.hid ((V5.out.alloc _).past hb6)
  have U6 := Lib.hid ((Lies.fresh w5 23 [.int .i64 (prt l : Nat)]).past hb6)
  have z6 := U6.out.lt
  replace acc : Below w.heap.size w w6 := by (repeat' (first | (with_reducible exact Below.refl _ _) | (with_reducible assumption) | (with_reducible refine below_drewN ?_ _) | (with_reducible refine below_new ?_ _) | (with_reducible refine Below.alloc ?_ ?_ _) | (with_reducible refine Below.drew ?_) | (with_reducible refine Below.setCell ?_ ?_ _) | (with_reducible apply below_on; (with_reducible assumption)) | (go_size; done) | (with_reducible apply size_of)))
  have HQ := Lib.hid hQ
  clear hb6 hQ
  go_wp2_with fail
  refine (New_any _).mono ?_
  rintro e w7 ⟨rfl, hb7⟩
  have N7 := Lib.hid (N6.out.past hb7)
  have V7 := Lib.hid (V6.out.past hb7)
  have U7 := Lib.hid (U6.out.past hb7)
  have HQ7 := Lib.hid (HQ.out.below hb7 (Nat.le_refl _))
  replace acc : Below w.heap.size w w7 := by (repeat' (first | (with_reducible exact Below.refl _ _) | (with_reducible assumption) | (with_reducible refine below_drewN ?_ _) | (with_reducible refine below_new ?_ _) | (with_reducible refine Below.alloc ?_ ?_ _) | (with_reducible refine Below.drew ?_) | (with_reducible refine Below.setCell ?_ ?_ _) | (with_reducible apply below_on; (with_reducible assumption)) | (go_size; done) | (with_reducible apply size_of)))
  have z7 := U7.out.lt
  have z8 := N7.out.lt
  have HA7 := Lib.hid (HA.out.below acc (Nat.le_refl _))
  have sQ := HQ7.out
  clear hb7 N1 N2 N3 N4 N5 N6 V5 V6 U6 sQ
  go_wp2_with fail
  go_loopw [15] (fun i wr => ∃ k : Nat, k ≤ len ∧ i = .int .i64 k ∧ Lies wr w7.heap.size 23 [.int .i64 (prt (l.take k) : Nat)] ∧ Below w7.heap.size w7 wr) (fun i _ => len - (intOf i).toNat)
  case atStart => exact ⟨0, by omega, rfl, Lies.fresh _ _ _, by (repeat' (first | (with_reducible exact Below.refl _ _) | (with_reducible assumption) | (with_reducible refine below_drewN ?_ _) | (with_reducible refine below_new ?_ _) | (with_reducible refine Below.alloc ?_ ?_ _) | (with_reducible refine Below.drew ?_) | (with_reducible refine Below.setCell ?_ ?_ _) | (with_reducible apply below_on; (with_reducible assumption)) | (go_size; done) | (with_reducible apply size_of)))⟩
  case round =>
    obtain ⟨k, hk, rfl, K, hbw⟩ := hrel
    have HK := Lib.hid K
    have HW := Lib.hid hbw
    obtain ⟨p0, f0⟩ := K.one
    have zk := K.lt
    clear K hbw
    by_cases hlt : k < len
    · obtain ⟨b, off, rfl, hb, hc⟩ := hasB_some HA7.out (by have := HL.out; omega)
      have hcell : wr.cell? ⟨b, off + k, none⟩ = some (.bool (l.getD k false)) := by rw [(bcell HW.out).1 b _ hb]; exact hc k (by have := HL.out; omega)
      obtain ⟨s1, s2, s3⟩ := HLE.out k hlt
      have S3 := Lib.hid s3
      clear hc s3
      generalize l.getD k false = x at *
      generalize hn : prt (l.take k) = m at *
      have HN := Lib.hid hn
      have E : Hid (wE m = 0 ∧ stP m x = ((2 * m + x.toNat : Nat) : Int) ∧ stD m = false ∧ stB m x = 0) := Lib.hid (by
        have a : wOk m = true := (wOk_iff _).2 (by omega)
        exact ⟨wE_yes a, by rw [stP, if_pos a, if_pos (by omega)]; cases x <;> simp, by rw [stD, a, decide_eq_false (by omega)]; rfl, by rw [stB, if_pos a, if_pos (by omega)]⟩)
      clear hn
      have HC : Hid (∀ x' : World, Below w7.heap.size w7 x' → x'.cell? ⟨b, off + k, none⟩ = some (.bool x)) := Lib.hid (fun x' h => by rw [← hcell, (bcell h).1 b _ hb, (bcell HW.out).1 b _ hb])
      go_upto_region 12 with fail
      go_cut [16, 17, 18, 19] (fun s16 s17 s18 s19 wx => ∃ g, s16 = .pointer (some ⟨g, 0, none⟩) ∧ s17 = .bool false ∧ s19 = .int .i64 0 ∧ Lies wx g 23 [.int .i64 (2 * (m : Int) + (x.toNat : Int))] ∧ g ≠ w7.heap.size ∧ Lies wx w7.heap.size 23 [.int .i64 m] ∧ Below w7.heap.size w7 wx)
      case first =>
        go_region_held3 (fun x' => x'.cell? ⟨w7.heap.size, 0, none⟩ = some (.int .i64 m) ∧ x'.cell? ⟨b, off + k, none⟩ = some (.bool x)) ((refine ⟨(show Lies _ w7.heap.size 23 [.int .i64 m] from (by have := HK.out; (repeat' (first | (with_reducible assumption) | (with_reducible exact Lies.fresh _ _ _) | (with_reducible apply Lies.fresh_at; (first | (with_reducible rfl) | (simp; done))) | (with_reducible refine Lies.drew ?_) | (with_reducible refine Lies.drewN ?_ _) | (with_reducible refine Lies.alloc ?_ _) | (with_reducible apply Lies.past; case hb => (with_reducible assumption)) | (with_reducible apply Lies.store3) | (with_reducible apply Lies.other; case hp => (first | omega | (simp; done) | (simp; omega))))))).cell 0, HC.out _ (by have := HW.out; (repeat' (first | (with_reducible exact Below.refl _ _) | (with_reducible assumption) | (with_reducible refine below_drewN ?_ _) | (with_reducible refine below_new ?_ _) | (with_reducible refine Below.alloc ?_ ?_ _) | (with_reducible refine Below.drew ?_) | (with_reducible refine Below.setCell ?_ ?_ _) | (with_reducible apply below_on; (with_reducible assumption)) | (go_size; done) | (with_reducible apply size_of))))⟩))
          (first | (go_at_call 8; refine (Step_any m x _).mono ?_; rintro e v1 ⟨rfl, hv1⟩; have zv : wr.heap.size ≤ v1.heap.size := (by have := hv1.size; (try simp at this); omega); rw [E.out.1, E.out.2.1, E.out.2.2.1, E.out.2.2.2]; (try (refine lay (P := Lies v1 wr.heap.size 23 [.int .i64 0]) ?_ ?_; (focus ((repeat' (first | (with_reducible assumption) | (with_reducible exact Lies.fresh _ _ _) | (with_reducible apply Lies.fresh_at; (first | (with_reducible rfl) | (simp; done))) | (with_reducible refine Lies.drew ?_) | (with_reducible refine Lies.drewN ?_ _) | (with_reducible refine Lies.alloc ?_ _) | (with_reducible apply Lies.past; case hb => (with_reducible assumption)) | (with_reducible apply Lies.store3) | (with_reducible apply Lies.other; case hp => (first | omega | (simp; done) | (simp; omega))))); done)); intro L9; obtain ⟨b0, g0⟩ := L9.one; have lb := L9.lt))))
        all_goals
          go_wp2_with fail
          go_meet
          first
          | exact ⟨_, rfl, rfl, rfl, L9.set 0 _, by omega, by have := HK.out; (repeat' (first | (with_reducible assumption) | (with_reducible exact Lies.fresh _ _ _) | (with_reducible apply Lies.fresh_at; (first | (with_reducible rfl) | (simp; done))) | (with_reducible refine Lies.drew ?_) | (with_reducible refine Lies.drewN ?_ _) | (with_reducible refine Lies.alloc ?_ _) | (with_reducible apply Lies.past; case hb => (with_reducible assumption)) | (with_reducible apply Lies.store3) | (with_reducible apply Lies.other; case hp => (first | omega | (simp; done) | (simp; omega))))), by have := HW.out; (repeat' (first | (with_reducible exact Below.refl _ _) | (with_reducible assumption) | (with_reducible refine below_drewN ?_ _) | (with_reducible refine below_new ?_ _) | (with_reducible refine Below.alloc ?_ ?_ _) | (with_reducible refine Below.drew ?_) | (with_reducible refine Below.setCell ?_ ?_ _) | (with_reducible apply below_on; (with_reducible assumption)) | (go_size; done) | (with_reducible apply size_of)))⟩
          | exact ⟨_, rfl, rfl, rfl, by (repeat' (first | (with_reducible assumption) | (with_reducible exact Lies.fresh _ _ _) | (with_reducible apply Lies.fresh_at; (first | (with_reducible rfl) | (simp; done))) | (with_reducible refine Lies.drew ?_) | (with_reducible refine Lies.drewN ?_ _) | (with_reducible refine Lies.alloc ?_ _) | (with_reducible apply Lies.past; case hb => (with_reducible assumption)) | (with_reducible apply Lies.store3) | (with_reducible apply Lies.other; case hp => (first | omega | (simp; done) | (simp; omega))))), by omega, by have := HK.out; (repeat' (first | (with_reducible assumption) | (with_reducible exact Lies.fresh _ _ _) | (with_reducible apply Lies.fresh_at; (first | (with_reducible rfl) | (simp; done))) | (with_reducible refine Lies.drew ?_) | (with_reducible refine Lies.drewN ?_ _) | (with_reducible refine Lies.alloc ?_ _) | (with_reducible apply Lies.past; case hb => (with_reducible assumption)) | (with_reducible apply Lies.store3) | (with_reducible apply Lies.other; case hp => (first | omega | (simp; done) | (simp; omega))))), by have := HW.out; (repeat' (first | (with_reducible exact Below.refl _ _) | (with_reducible assumption) | (with_reducible refine below_drewN ?_ _) | (with_reducible refine below_new ?_ _) | (with_reducible refine Below.alloc ?_ ?_ _) | (with_reducible refine Below.drew ?_) | (with_reducible refine Below.setCell ?_ ?_ _) | (with_reducible apply below_on; (with_reducible assumption)) | (go_size; done) | (with_reducible apply size_of)))⟩
      case rest =>
        obtain ⟨g, rfl, rfl, rfl, hg, hne, hk7, hbel⟩ := hcut
        obtain ⟨p0, f0⟩ := hk7.one
        obtain ⟨q0, f1⟩ := hg.one
        have HK7 := Lib.hid hk7
        have HBE := Lib.hid hbel
        clear hg hk7 hbel
        go_wp2_with fail
        go_roundw
        case rel => exact ⟨k + 1, by omega, by go_num, by rw [S3.out, show ((2 * m + x.toNat : Nat) : Int) = 2 * (m : Int) + (x.toNat : Int) by omega]; exact HK7.out.set 0 _, by have := HBE.out; (repeat' (first | (with_reducible exact Below.refl _ _) | (with_reducible assumption) | (with_reducible refine below_drewN ?_ _) | (with_reducible refine below_new ?_ _) | (with_reducible refine Below.alloc ?_ ?_ _) | (with_reducible refine Below.drew ?_) | (with_reducible refine Below.setCell ?_ ?_ _) | (with_reducible apply below_on; (with_reducible assumption)) | (go_size; done) | (with_reducible apply size_of)))⟩
        case measure => simp [intOf]; omega
    · have HX : Hid (prt (l.take k) = prt l) := Lib.hid (by rw [List.take_of_length_le (by have := HL.out; omega)])
      rw [HX.out] at p0
      have U8 := Lib.hid (U7.out.below HW.out (by omega))
      have V8 := Lib.hid (V7.out.below HW.out (by omega))
      have N8 := Lib.hid (N7.out.below HW.out (by omega))
      obtain ⟨u0, fu⟩ := U8.out.one
      obtain ⟨v0, fv⟩ := V8.out.one
      obtain ⟨n0, fn⟩ := N8.out.one
      go_wp2_with fail
      refine (rSame_any Q A l.length len cq cap l l _ (HQ7.out.below HW.out (Nat.le_refl _)) rfl (HA7.out.below HW.out (Nat.le_refl _)) HL.out (by have := HL.out; omega) (by omega)).mono ?_
      rintro e v2 ⟨rfl, hb2⟩
      rw [decide_eq_true (rfl : l = l)]
      have K2 := Lib.hid (HK.out.past hb2)
      have U9 := Lib.hid (U8.out.past hb2)
      rw [HX.out] at K2
      obtain ⟨k0, fk⟩ := K2.out.one
      obtain ⟨u0, fu⟩ := U9.out.one
      have hx := (acc.trans (HW.out.mono (by omega))).trans (hb2.mono (by have := HW.out.size; omega))
      have HXX := Lib.hid hx
      clear hb2 hx
      go_wp2
      go_ret
      exact ⟨rfl, HXX.out⟩
theorem back (p : Int) (A : Option Addr) (len cap : Nat) (l : List Bool) (w : World) (_ : WalkIn p) (hr : IsRowB w A len cap l) :
    Calls Try.prog 7 #[.agg #[.int .i64 (p)], .slice A len cap] w fun e w' => e = .returned (.bool true) ∧ Below w.heap.size w w' := by
  obtain ⟨hA, hl, -, hm, -⟩ := hr
  cases hp : wOk p
  · exact back_bad p A len cap w hm (.inl hp)
  · by_cases h7 : 7 < len
    · exact back_bad p A len cap w hm (.inr h7)
    · obtain ⟨n, rfl, h1, h2⟩ := part_of hp
      exact back_ok n A len cap l w h1 h2 hA hl (by omega)
end Go.Proofs.Ytjhfamoldppclaa.nibL
