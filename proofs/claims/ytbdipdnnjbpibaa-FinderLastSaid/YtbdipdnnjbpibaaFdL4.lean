/- FinderLast, by a walk. -/
import Derived.Test.YtbdipdnnjbpibaaFdL3
namespace Go.Proofs.Ytbdipdnnjbpibaa.fdL
open Go.RowKit Go.Proofs.Ytbdipdnnjbpibaa.base Go.Proofs.Ytbdipdnnjbpibaa.rgP Go.Proofs.Ytbdipdnnjbpibaa.fdP Go.Proofs.Ytbdipdnnjbpibaa.fdW Go.Proofs.Ytbdipdnnjbpibaa.hashW
set_option linter.unusedVariables false
set_option linter.unusedSimpArgs false

theorem Put_own (f : Fnd) (A : Option Addr) (n c : Nat) (x k : Int) (w : World) (h : FdIn w A n c f) (h1 : 0 ≤ x) (h2 : x ≤ 4294967295) :
    Calls Try.prog 12 #[.agg #[.int .i64 (f).l, .slice A n c], .int .u32 x, .int .i64 k] w fun e w' => ∃ A' n' c', e = .returned (.tuple #[.agg #[.int .i64 (fputV f x k).l, .slice A' n' c'], .int .i64 (fputE f k)]) ∧ FdIn w' A' n' c' (fputV f x k) ∧ OwnV w' w.heap.size (.slice A' n' c') (fputV f x k).s ∧ Below w.heap.size w w' := by
  by_cases hk : fputE f k = 0
  · refine (Put_ok f A n c x k w h h1 h2 hk).mono ?_
    rintro e w1 ⟨g, d, rfl, ho, hb1⟩
    have e1 : fputV f x k = fput f x k := by unfold fputV; rw [if_pos hk]
    rw [e1, hk]
    exact ⟨_, _, _, rfl, fput_in h hk ho, .inl ho, hb1⟩
  · refine (Put_bad f A n c x k w h h1 h2 hk).mono ?_
    rintro e w1 ⟨rfl, hb1⟩
    have e1 : fputV f x k = zeroF := by unfold fputV; rw [if_neg hk]
    rw [e1]
    exact ⟨none, 0, 0, rfl, zero_in _, .inr ⟨rfl, none, rfl⟩, hb1⟩
def pl (n : Nat) (x : Int) : Nat := (x % (n : Int)).toNat
theorem plc_pl {l : Int} {s : List Int} {n : Nat} (h : s.length = n) (x : Int) : plc ⟨l, s⟩ x = pl n x := by unfold plc pl; show (x % (s.length : Int)).toNat = _; rw [h]
theorem last_step {l : Int} {s : List Int} {n k : Nat} {x y wv : Int} (hn : s.length = n) (hok : fdOk ⟨l, s⟩ = true) (hk : k ≤ 40) (hw : s.getD (pl n x) 0 = wv) :
    fputE ⟨l, s⟩ (k : Int) = 0 ∧ fputV ⟨l, s⟩ y k = ⟨l, s.set (pl n y) k⟩ ∧ fdOk ⟨l, s.set (pl n y) k⟩ = true ∧ (s.set (pl n y) (k : Int)).length = n ∧ (s.set (pl n y) (k : Int)).getD (pl n x) 0 = (if pl n y = pl n x then (k : Int) else wv) := by
  have e1 : fputE ⟨l, s⟩ (k : Int) = 0 := by rw [fputE, if_pos hok, if_pos ⟨by omega, by omega⟩]
  have f1 : fput ⟨l, s⟩ y k = ⟨l, s.set (pl n y) k⟩ := by unfold fput; rw [plc_pl hn]
  have hlt : pl n y < s.length := by have := plc_lt hok y; rw [plc_pl hn] at this; exact this
  refine ⟨e1, by rw [fputV, if_pos e1, f1], by rw [← f1]; exact fput_ok hok (by omega) (by omega), by rw [List.length_set, hn], ?_⟩
  rw [getD_set_row _ _ _ _ hlt, hw]
theorem turned1 {f : FuncId} {args : Array Value} {w : World} {v : Value} (h : Calls Try.prog f args w fun e w' => e = .returned v ∧ w = w') : Calls Try.prog f args w fun e w' => e = .returned v ∧ w' = w := h.mono fun e w' ⟨a, b⟩ => ⟨a, b.symm⟩
set_option maxRecDepth 100000 in
set_option maxHeartbeats 4000000 in
theorem last (l : Int) (D : Option Addr) (q d : Nat) (z : List Int) (x : Int) (w : World) (l1 : -9223372036854775808 ≤ l) (l2 : l ≤ 9223372036854775807) (hrow : IsRow .u32 w D q d z) (x1 : 0 ≤ x) (x2 : x ≤ 4294967295) :
    Calls Try.prog 6 #[.int .i64 l, .slice D q d, .int .u32 x] w fun e w' => e = .returned (.bool true) ∧ Below w.heap.size w w' := by
  obtain ⟨hD, hL, hmm, hbb⟩ := has_of_row hrow
  have hmd := row_caps hrow
  unfold maxLen at hmm hmd
  obtain ⟨hs, hbs⟩ : ∃ y, z.take q = y := ⟨_, rfl⟩
  rw [hbs] at hD hL hbb
  have HBB : Hid (∀ y ∈ hs, 0 ≤ y ∧ y ≤ 4294967295) := Lib.hid (fun y hy => bounds_u32 (hbb y hy))
  have HD := Lib.hid hD
  have HL := Lib.hid hL
  clear hrow hbs hbb hD hL hmd
  cases hl : lvB l
  · have HLV := Lib.hid hl
    clear hl
    go_enter Try.func6, Try.ntmps6
    go_wp2_with (first | (go_at_call 27; refine (rgW.rLevel_any l _).mono ?_; rintro e w1 ⟨rfl, rfl⟩; rw [HLV.out]) | (go_at_call 18; refine (alive _).mono ?_; rintro e wz ⟨rfl, hbz⟩))
    go_ret
    exact ⟨rfl, by (repeat' (first | (with_reducible exact Below.refl _ _) | (with_reducible assumption) | (with_reducible refine below_drewN ?_ _) | (with_reducible refine below_new ?_ _) | (with_reducible refine Below.alloc ?_ ?_ _) | (with_reducible refine Below.drew ?_) | (with_reducible refine Below.setCell ?_ ?_ _) | (with_reducible apply below_at; (case k => (with_reducible assumption)); (case hB => omega)) | (with_reducible apply below_on; (with_reducible assumption)) | (go_size; done) | (with_reducible apply size_of)))⟩
  have HLV := Lib.hid hl
  by_cases c1 : 2 < l
  · clear hl
    go_enter Try.func6, Try.ntmps6
    go_wp2_with (first | (go_at_call 27; refine (rgW.rLevel_any l _).mono ?_; rintro e w1 ⟨rfl, rfl⟩; rw [HLV.out]) | (go_at_call 18; refine (alive _).mono ?_; rintro e wz ⟨rfl, hbz⟩))
    go_ret
    exact ⟨rfl, by (repeat' (first | (with_reducible exact Below.refl _ _) | (with_reducible assumption) | (with_reducible refine below_drewN ?_ _) | (with_reducible refine below_new ?_ _) | (with_reducible refine Below.alloc ?_ ?_ _) | (with_reducible refine Below.drew ?_) | (with_reducible refine Below.setCell ?_ ?_ _) | (with_reducible apply below_at; (case k => (with_reducible assumption)); (case hB => omega)) | (with_reducible apply below_on; (with_reducible assumption)) | (go_size; done) | (with_reducible apply size_of)))⟩
  by_cases c2 : (40 : Int) < q
  · clear hl
    go_enter Try.func6, Try.ntmps6
    go_wp2_with (first | (go_at_call 27; refine (rgW.rLevel_any l _).mono ?_; rintro e w1 ⟨rfl, rfl⟩; rw [HLV.out]) | (go_at_call 18; refine (alive _).mono ?_; rintro e wz ⟨rfl, hbz⟩))
    go_ret
    exact ⟨rfl, by (repeat' (first | (with_reducible exact Below.refl _ _) | (with_reducible assumption) | (with_reducible refine below_drewN ?_ _) | (with_reducible refine below_new ?_ _) | (with_reducible refine Below.alloc ?_ ?_ _) | (with_reducible refine Below.drew ?_) | (with_reducible refine Below.setCell ?_ ?_ _) | (with_reducible apply below_at; (case k => (with_reducible assumption)); (case hB => omega)) | (with_reducible apply below_on; (with_reducible assumption)) | (go_size; done) | (with_reducible apply size_of)))⟩
  obtain ⟨n, hn⟩ : ∃ n, szOf l = n := ⟨_, rfl⟩
  have hsz := sz_bd hl
  rw [hn] at hsz
  obtain ⟨s0, hs0⟩ : ∃ s, List.replicate n (-1 : Int) = s := ⟨_, rfl⟩
  have hN : newF l = ⟨l, s0⟩ := by unfold newF; rw [if_pos hl, hn, hs0]
  have HN : Hid (newF l = ⟨l, s0⟩ ∧ newE l = 0) := Lib.hid ⟨hN, by unfold newE; rw [if_pos hl]⟩
  have HOK : Hid (fdOk ⟨l, s0⟩ = true ∧ s0.length = n ∧ s0.getD (pl n x) 0 = -1) := Lib.hid (by
    have h := newF_ok hl
    rw [hN] at h
    have h1 := plc_lt h x
    have h2 : s0.length = n := by rw [← hs0]; simp
    rw [plc_pl h2] at h1
    refine ⟨h, h2, ?_⟩
    rw [← hs0, List.getD_eq_getElem?_getD, List.getElem?_replicate, if_pos (by have : pl n x < s0.length := h1; omega)]; rfl)
  have HSZ : Hid (∀ w : World, Calls Try.prog 29 #[.int .i64 l] w fun e w' => e = .returned (.int .i64 (n : Int)) ∧ w = w') := Lib.hid (fun w => by have := rgW.rSize_ok l w hl; rwa [hn] at this)
  have HPV : Hid (∀ y : Int, placeV y (n : Int) = (pl n y : Int) ∧ placeE (n : Int) = 0) := Lib.hid (fun y => by
    have h := fd_place (f := ⟨l, s0⟩) HOK.out.1 y
    rw [plc_pl HOK.out.2.1] at h
    have e : ((Fnd.mk l s0).s.length : Int) = (n : Int) := by show (s0.length : Int) = n; rw [HOK.out.2.1]
    rw [e] at h
    exact h)
  have HNB := Lib.hid hsz
  clear hl hn hs0 hN hsz
  go_enter Try.func6, Try.ntmps6
  go_wp2_with (first | (go_at_call 27; refine (rgW.rLevel_any l _).mono ?_; rintro e w1 ⟨rfl, rfl⟩; rw [HLV.out]))
  refine (New_any l _).mono ?_
  rintro e w2 ⟨A2, n2, c2', rfl, i2, hb2⟩
  rw [HN.out.1] at i2 ⊢
  rw [HN.out.2]
  have hnn : n = n2 := by have h1 : s0.length = n2 := i2.e; have := HOK.out.2.1; omega
  subst hnn
  have I2 : Hid (FdIn (w2.alloc (.cells #[.int .i64 l, .slice A2 n c2'] 24)) A2 n c2' ⟨l, s0⟩) := Lib.hid (i2.below ((Below.refl _ _).alloc (Nat.le_refl _) _))
  have HA2 : Hid (Below w.heap.size w (w2.alloc (.cells #[.int .i64 l, .slice A2 n c2'] 24))) := Lib.hid (by (repeat' (first | (with_reducible exact Below.refl _ _) | (with_reducible assumption) | (with_reducible refine below_drewN ?_ _) | (with_reducible refine below_new ?_ _) | (with_reducible refine Below.alloc ?_ ?_ _) | (with_reducible refine Below.drew ?_) | (with_reducible refine Below.setCell ?_ ?_ _) | (with_reducible apply below_at; (case k => (with_reducible assumption)); (case hB => omega)) | (with_reducible apply below_on; (with_reducible assumption)) | (go_size; done) | (with_reducible apply size_of))))
  have T2 : Hid (Lies (w2.alloc (.cells #[.int .i64 l, .slice A2 n c2'] 24)) (w2.heap.size) 24 [.int .i64 l, .slice (A2) (n) (c2')]) := Lib.hid (Lies.fresh _ _ _)
  have HG2 : Hid (w.heap.size ≤ w2.heap.size) := Lib.hid (by have := hb2.size; omega)
  clear i2 hb2
  go_wp2_with fail
  generalize hwx : w2.alloc (.cells #[.int .i64 l, .slice A2 n c2'] 24) = wx at *
  generalize w2.heap.size = G at *
  clear hwx
  go_loopw [9, 10] (fun v i wr => ∃ (k : Nat) (s : List Int) (wv : Int) (A : Option Addr) (c : Nat), k ≤ q ∧ i = .int .i64 (k : Int) ∧ v = .int .i64 wv ∧ (fdOk ⟨l, s⟩ = true ∧ s.length = n ∧ s.getD (pl n x) 0 = wv) ∧ (Lies (wr) (G) 24 [.int .i64 l, .slice (A) (n) (c)]) ∧ FdIn wr A n c ⟨l, s⟩ ∧ Below w.heap.size w wr) (fun _ i _ => q - (intOf i).toNat)
  case atStart => exact ⟨0, s0, -1, A2, c2', Nat.zero_le _, rfl, rfl, HOK.out, T2.out, I2.out, HA2.out⟩
  case round =>
    clear I2 HA2 T2 HN HOK
    obtain ⟨k, s, wv, A, c, hk, rfl, rfl, hok, T, I, acc⟩ := hrel
    rename World => wr
    have HOK := Lib.hid hok
    have HT := Lib.hid T
    have HI := Lib.hid I
    have HA := Lib.hid acc
    obtain ⟨t0, t1, f0, f1⟩ := T.two
    have ltT := T.lt
    by_cases hlt : k < q
    · obtain ⟨b, off, rfl, hb, hc⟩ := has_some HD.out (by rw [HL.out]; omega)
      have hcell : wr.cell? ⟨b, off + k, none⟩ = some (.int .u32 (hs.getD k 0)) := by rw [(bcell acc).1 b _ hb]; exact hc k (by rw [HL.out]; exact hlt)
      have hyb := HBB.out (hs.getD k 0) (by rw [List.getD_eq_getElem?_getD, List.getElem?_eq_getElem (by rw [HL.out]; exact hlt)]; exact List.getElem_mem _)
      obtain ⟨y, hy⟩ : ∃ y, hs.getD k 0 = y := ⟨_, rfl⟩
      rw [hy] at hcell hyb
      obtain ⟨y1, y2⟩ := hyb
      have HS := Lib.hid (last_step (l := l) (s := s) (n := n) (k := k) (x := x) (y := y) (wv := wv) hok.2.1 hok.1 (by omega) hok.2.2)
      have HCL : Hid (b < w.heap.size ∧ wr.cell? ⟨b, off + k, none⟩ = some (.int .u32 y)) := Lib.hid ⟨hb, hcell⟩
      have hblt : b < wr.heap.size := lt_of_cell hcell
      have k1 : (k : Int) < q := by omega
      have k0 : (0 : Int) ≤ k := by omega
      have HLT := Lib.hid hlt
      obtain ⟨p, hp⟩ : ∃ p, pl n y = p := ⟨_, rfl⟩
      obtain ⟨px, hpx⟩ : ∃ p, pl n x = p := ⟨_, rfl⟩
      have HPP := Lib.hid (And.intro hp hpx)
      rw [hp, hpx] at HS
      rw [hpx] at HOK
      obtain ⟨s', hs'⟩ : ∃ t, s.set p (k : Int) = t := ⟨_, rfl⟩
      rw [hs'] at HS
      clear hok T I acc hlt hk hc hy hb hp hpx hs'
      go_upto_region 10 with fail
      go_cut [11, 12] (fun s11 s12 wy => ∃ G' A' c', s11 = .pointer (some ⟨G', 0, none⟩) ∧ s12 = .int .i64 0 ∧ (Lies (wy) (G') 24 [.int .i64 l, .slice (A') (n) (c')]) ∧ FdIn wy A' n c' ⟨l, s'⟩ ∧ OwnV wy wr.heap.size (.slice A' n c') s' ∧ (Lies (wy) (G) 24 [.int .i64 l, .slice (A) (n) (c)]) ∧ Below wr.heap.size wr wy)
      case first =>
        go_region_law (first | (go_simp; go_at_call 12; refine (Put_own ⟨l, s⟩ A n c y k _ (HI.out.below (by (repeat' (first | (with_reducible exact Below.refl _ _) | (with_reducible assumption) | (with_reducible refine below_drewN ?_ _) | (with_reducible refine below_new ?_ _) | (with_reducible refine Below.alloc ?_ ?_ _) | (with_reducible refine Below.drew ?_) | (with_reducible refine Below.setCell ?_ ?_ _) | (with_reducible apply below_at; (case k => (with_reducible assumption)); (case hB => omega)) | (with_reducible apply below_on; (with_reducible assumption)) | (go_size; done) | (with_reducible apply size_of))))) y1 y2).mono ?_; rintro e w5 ⟨A5, n5, c5, rfl, i5, o5, hb5⟩; rw [HS.out.2.1] at i5 o5 ⊢; rw [HS.out.1]; have hn5 : n = n5 := (by have h1 : s'.length = n5 := i5.e; have := HS.out.2.2.2.1; omega); subst hn5; have K5 : Lies (w5) (G) 24 [.int .i64 l, .slice (A) (n) (c)] := (by have := HT.out; (repeat' (first | (with_reducible assumption) | (with_reducible exact Lies.fresh _ _ _) | (with_reducible apply Lies.fresh_at; (first | (with_reducible rfl) | (simp; done))) | (with_reducible refine Lies.drew ?_) | (with_reducible refine Lies.drewN ?_ _) | (with_reducible refine Lies.alloc ?_ _) | (with_reducible apply Lies.past; case hb => (with_reducible assumption)) | (with_reducible apply Lies.keeps; (case k => (with_reducible assumption)); (case ht => decide)) | (with_reducible apply Lies.store3) | (with_reducible apply Lies.other; case hp => (first | omega | (simp; done) | (simp; omega)))))); (first | (refine lay (P := Lies (w5) (wr.heap.size) 24 [.int .i64 0, .slice none 0 0]) ?_ ?_; (focus ((repeat' (first | (with_reducible assumption) | (with_reducible exact Lies.fresh _ _ _) | (with_reducible apply Lies.fresh_at; (first | (with_reducible rfl) | (simp; done))) | (with_reducible refine Lies.drew ?_) | (with_reducible refine Lies.drewN ?_ _) | (with_reducible refine Lies.alloc ?_ _) | (with_reducible apply Lies.past; case hb => (with_reducible assumption)) | (with_reducible apply Lies.keeps; (case k => (with_reducible assumption)); (case ht => decide)) | (with_reducible apply Lies.store3) | (with_reducible apply Lies.other; case hp => (first | omega | (simp; done) | (simp; omega))))); done)); intro L9; obtain ⟨b0, b1, g0, g1⟩ := L9.two) | skip)))
        all_goals
          go_wp2_with fail
          go_meet
          have z5 := hb5.size
          simp at z5
          refine ⟨_, _, _, rfl, rfl, by first | exact lies_store2 L9 | (repeat' (first | (with_reducible assumption) | (with_reducible exact Lies.fresh _ _ _) | (with_reducible apply Lies.fresh_at; (first | (with_reducible rfl) | (simp; done))) | (with_reducible refine Lies.drew ?_) | (with_reducible refine Lies.drewN ?_ _) | (with_reducible refine Lies.alloc ?_ _) | (with_reducible apply Lies.past; case hb => (with_reducible assumption)) | (with_reducible apply Lies.keeps; (case k => (with_reducible assumption)); (case ht => decide)) | (with_reducible apply Lies.store3) | (with_reducible apply Lies.other; case hp => (first | omega | (simp; done) | (simp; omega))))), ?_, ?_, by first | ((repeat' (first | (with_reducible assumption) | (with_reducible exact Lies.fresh _ _ _) | (with_reducible apply Lies.fresh_at; (first | (with_reducible rfl) | (simp; done))) | (with_reducible refine Lies.drew ?_) | (with_reducible refine Lies.drewN ?_ _) | (with_reducible refine Lies.alloc ?_ _) | (with_reducible apply Lies.past; case hb => (with_reducible assumption)) | (with_reducible apply Lies.keeps; (case k => (with_reducible assumption)); (case ht => decide)) | (with_reducible apply Lies.store3) | (with_reducible apply Lies.other; case hp => (first | omega | (simp; done) | (simp; omega))))); done) | exact (Lies.other (Lies.other K5 (by simp; omega) _) (by simp; omega) _), by (repeat' (first | (with_reducible exact Below.refl _ _) | (with_reducible assumption) | (with_reducible refine below_drewN ?_ _) | (with_reducible refine below_new ?_ _) | (with_reducible refine Below.alloc ?_ ?_ _) | (with_reducible refine Below.drew ?_) | (with_reducible refine Below.setCell ?_ ?_ _) | (with_reducible apply below_at; (case k => (with_reducible assumption)); (case hB => omega)) | (with_reducible apply below_on; (with_reducible assumption)) | (go_size; done) | (with_reducible apply size_of)))⟩
          first
            | exact i5.below ((Below.refl _ _).alloc (Nat.le_refl _) _)
            | exact twin_in i5 (OwnV.store2 o5 L9 (by decide))
          first
            | exact OwnV.mono (OwnV.alloc o5 _) (by simp)
            | exact OwnV.mono (OwnV.store2 o5 L9 (by decide)) (by simp)
      case rest =>
        obtain ⟨G', A', c', rfl, rfl, T', I', O', T0, bw⟩ := hcut
        rename World => wy
        have HT' := Lib.hid T'
        have HI' := Lib.hid I'
        have HO' := Lib.hid O'
        have HT0 := Lib.hid T0
        have HA' : Hid (Below w.heap.size w wy) := Lib.hid (HA.out.trans (bw.mono HA.out.size))
        have hcell' : wy.cell? ⟨b, off + k, none⟩ = some (.int .u32 y) := by rw [(bcell bw).1 b _ (lt_of_cell HCL.out.2)]; exact HCL.out.2
        have HP1 := HPV.out y
        have HP2 := HPV.out x
        rw [HPP.out.1] at HP1
        rw [HPP.out.2] at HP2
        have HP := Lib.hid (And.intro HP1 HP2)
        have px0 : (0 : Int) ≤ px := by omega
        have p0 : (0 : Int) ≤ p := by omega
        obtain ⟨s0', s1', -, -⟩ := T'.two
        obtain ⟨r0, r1, r2, r3⟩ := T0.two
        clear t0 t1 f0 f1 ltT hcell hblt T' I' O' T0 bw HP1 HP2
        go_wp2_with fail
        go_quiet ((first | (go_at_call 29; exact Calls.quiet_of_same (turned1 (HSZ.out _))) | (go_at_call 28; exact Calls.quiet_of_same (turned1 ((place_any y (n : Int) _ y1 y2))))))
        rw [HP.out.1.1, HP.out.1.2]
        by_cases hpp : p = px
        · have HF : Hid (s'.getD px 0 = (k : Int)) := Lib.hid (by rw [HS.out.2.2.2.2, if_pos hpp])
          subst hpp
          go_wp2_with (first | (go_at_call 29; refine (HSZ.out _).mono ?_; rintro e wq ⟨rfl, rfl⟩) | (go_at_call 28; refine (place_any x (n : Int) _ x1 x2).mono ?_; rintro e wq ⟨rfl, rfl⟩; rw [HP.out.2.1, HP.out.2.2]))
          go_roundw
          case rel =>
            refine ⟨k + 1, s', (k : Int), A', c', HLT.out, by go_num, rfl, ⟨HS.out.2.2.1, HS.out.2.2.2.1, by rw [HPP.out.2]; exact HF.out⟩, lies_store2 (HT0.out.drewN _), twin_in HI'.out (OwnV.store2 (HO'.out.drewN _) (HT0.out.drewN _) (by decide)), ?_⟩
            exact below_store2 (below_drewN HA'.out _) HG2.out
          case measure => simp [intOf]; have := HLT.out; omega
        · have HF : Hid (s'.getD px 0 = wv) := Lib.hid (by rw [HS.out.2.2.2.2, if_neg hpp])
          have hne : ((p : Int) == (px : Int)) = false := by simp; omega
          have hne2 : ¬ (p : Int) = (px : Int) := by omega
          go_wp2_with (first | (go_at_call 29; refine (HSZ.out _).mono ?_; rintro e wq ⟨rfl, rfl⟩) | (go_at_call 28; refine (place_any x (n : Int) _ x1 x2).mono ?_; rintro e wq ⟨rfl, rfl⟩; rw [HP.out.2.1, HP.out.2.2]))
          go_roundw
          case rel =>
            refine ⟨k + 1, s', wv, A', c', HLT.out, by go_num, rfl, ⟨HS.out.2.2.1, HS.out.2.2.2.1, by rw [HPP.out.2]; exact HF.out⟩, lies_store2 (HT0.out.drewN _), twin_in HI'.out (OwnV.store2 (HO'.out.drewN _) (HT0.out.drewN _) (by decide)), ?_⟩
            exact below_store2 (below_drewN HA'.out _) HG2.out
          case measure => simp [intOf]; have := HLT.out; omega
    · have he : k = q := by omega
      subst he
      have HW : Hid (findV ⟨l, s⟩ x = wv ∧ fdE ⟨l, s⟩ = 0) := Lib.hid ⟨by rw [findV, if_pos hok.1, plc_pl hok.2.1]; exact hok.2.2, fdE_yes hok.1⟩
      clear hok T I acc hlt hk f0 f1
      go_wp2_with fail
      refine (Find_any ⟨l, s⟩ A n c x _ HI.out x1 x2).mono ?_
      rintro e w6 ⟨rfl, hb6⟩
      rw [HW.out.1, HW.out.2]
      have HI6 := Lib.hid (HI.out.below hb6)
      have HA6 := Lib.hid (HA.out.trans (hb6.mono HA.out.size))
      have K6 := HT.out.past hb6
      obtain ⟨q0', q1', -, -⟩ := K6.two
      clear hb6 t0 t1 K6
      go_wp2_with (first | (go_at_call 24; refine (rCheck_any ⟨l, s⟩ A n c _ HI6.out).mono ?_; rintro e w7 ⟨rfl, hb7⟩; rw [HW.out.2]) | (go_at_call 18; refine (alive _).mono ?_; rintro e wz ⟨rfl, hbz⟩))
      go_ret
      exact ⟨rfl, by have := HA6.out; (repeat' (first | (with_reducible exact Below.refl _ _) | (with_reducible assumption) | (with_reducible refine below_drewN ?_ _) | (with_reducible refine below_new ?_ _) | (with_reducible refine Below.alloc ?_ ?_ _) | (with_reducible refine Below.drew ?_) | (with_reducible refine Below.setCell ?_ ?_ _) | (with_reducible apply below_at; (case k => (with_reducible assumption)); (case hB => omega)) | (with_reducible apply below_on; (with_reducible assumption)) | (go_size; done) | (with_reducible apply size_of)))⟩
end Go.Proofs.Ytbdipdnnjbpibaa.fdL
