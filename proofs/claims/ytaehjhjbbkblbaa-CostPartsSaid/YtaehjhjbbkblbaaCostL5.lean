/- CostParts, by a walk. -/
import Derived.Test.YtaehjhjbbkblbaaCostL4
namespace Go.Proofs.Ytaehjhjbbkblbaa.costL
open Go.RowKit Go.Proofs.Ytaehjhjbbkblbaa.base Go.Proofs.Ytaehjhjbbkblbaa.encP Go.Proofs.Ytaehjhjbbkblbaa.costP Go.Proofs.Ytaehjhjbbkblbaa.costW
set_option linter.unusedVariables false
set_option linter.unusedSimpArgs false

theorem id_add (ps : List Int) (bs : List Bool) (s : Int) : fold2 idN ps bs s = s + fold2 idN ps bs 0 := by
  induction ps generalizing bs s with
  | nil => simp [fold2]
  | cons p ps ih =>
    cases bs with
    | nil => simp [fold2]
    | cons b bs =>
      rw [fold2, fold2, ih, ih bs (idN 0 p b)]
      simp only [idN]; omega
theorem id_parts (n : Nat) (ps : List Int) (bs : List Bool) : idS ps bs = idS (ps.take n) (bs.take n) + idS (ps.drop n) (bs.drop n) := by
  unfold idS
  rw [fold2_cut idN n ps bs 0, id_add]
theorem c_grows : ∀ (ps : List Int) (bs : List Bool) (s : Int × Int × Int × Int), ps.all cOk = true → CGood s → s.2.2.1 ≤ (fold2 cN ps bs s).2.2.1 ∧ s.2.2.2 ≤ (fold2 cN ps bs s).2.2.2
  | [], _, s, _, _ => by simp [fold2]
  | _ :: _, [], s, _, _ => by simp [fold2]
  | p :: ps, b :: bs, s, ha, hg => by
    rw [List.all_cons, Bool.and_eq_true] at ha
    obtain ⟨i1, i2⟩ := c_grows ps bs (cN s p b) ha.2 (cgood_nxt s p b ha.1 hg)
    obtain ⟨g1, g2, g3, g4⟩ := hg
    have := (ctR (b := b) g1 g2 g3 ha.1).1
    rw [fold2]
    simp only [cN] at i1 i2 ⊢
    omega
theorem c_parts (n : Nat) (ps : List Int) (bs : List Bool) (h : ps.all cOk = true) : (cS (ps.take n) (bs.take n)).2.2.1 ≤ (cS ps bs).2.2.1 ∧ (cS (ps.take n) (bs.take n)).2.2.2 ≤ (cS ps bs).2.2.2 := by
  have := c_grows (ps.drop n) (bs.drop n) (cS (ps.take n) (bs.take n)) (all_drop h n) (cgood_all (all_take h n))
  rw [show fold2 cN (ps.drop n) (bs.drop n) (cS (ps.take n) (bs.take n)) = cS ps bs from (fold2_cut cN n ps bs c0).symm] at this
  exact this
theorem ck_of {ps : List Int} {nb : Nat} (h1 : ps.length = nb) (h2 : nb ≤ 2000) (h3 : ps.all cOk = true) : ckE ps nb = 0 := by
  rw [ckE, if_neg (by omega), if_pos h1]
  have : allC ps = true := h3
  rw [this]; rfl
theorem Ideal_at (A Bb : Option Addr) (lp cp lb cb : Nat) (ps : List Int) (bs : List Bool) (w : World) (hA : Has .i64 w A ps) (hB : HasB w Bb bs) (el : ps.length = lp) (eb : bs.length = lb) (hl : lp = lb) (h2k : lb ≤ 2000) (hal : ps.all cOk = true) :
    Calls Try.prog 39 #[.slice A lp cp, .slice Bb lb cb] w fun e w' => e = .returned (.tuple #[.int .i64 (idS ps bs), .int .i64 0]) ∧ w = w' := by
  subst el eb
  exact Ideal_ok A Bb cp cb ps bs w hA hB (ck_of hl h2k hal) hl h2k hal
theorem Real_at (A Bb : Option Addr) (lp cp lb cb : Nat) (ps : List Int) (bs : List Bool) (w : World) (hA : Has .i64 w A ps) (hB : HasB w Bb bs) (el : ps.length = lp) (eb : bs.length = lb) (hl : lp = lb) (h2k : lb ≤ 2000) (hal : ps.all cOk = true) :
    Calls Try.prog 41 #[.slice A lp cp, .slice Bb lb cb] w fun e w' => e = .returned (.tuple #[.int .i64 (cS ps bs).2.2.1, .int .i64 0]) ∧ Below w.heap.size w w' := by
  subst el eb
  have h := ck_of hl h2k hal
  have := Real_any A Bb cp cb ps bs w hA hB (by omega) (by omega)
  rwa [reV, if_pos h, h] at this
theorem Bytes_at (A Bb : Option Addr) (lp cp lb cb : Nat) (ps : List Int) (bs : List Bool) (w : World) (hA : Has .i64 w A ps) (hB : HasB w Bb bs) (el : ps.length = lp) (eb : bs.length = lb) (hl : lp = lb) (h2k : lb ≤ 2000) (hal : ps.all cOk = true) :
    Calls Try.prog 43 #[.slice A lp cp, .slice Bb lb cb] w fun e w' => e = .returned (.tuple #[.int .i64 (cS ps bs).2.2.2, .int .i64 0]) ∧ Below w.heap.size w w' := by
  subst el eb
  have h := ck_of hl h2k hal
  have := Bytes_any A Bb cp cb ps bs w hA hB (by omega) (by omega)
  rwa [byV, if_pos h, h] at this
theorem hasB_below {w w' : World} {A : Option Addr} {zs : List Bool} (h : HasB w A zs) (hb : Below w.heap.size w w') : HasB w' A zs := h.below hb (Nat.le_refl _)
theorem has_below {k : IntKind} {w w' : World} {A : Option Addr} {zs : List Int} (h : Has k w A zs) (hb : Below w.heap.size w w') : Has k w' A zs := h.below hb (Nat.le_refl _)
theorem id_bd {ps : List Int} {bs : List Bool} (h : ps.all cOk = true) : ∀ k : Nat, bs.length ≤ k → 0 ≤ idS ps bs ∧ idS ps bs ≤ 3000000 * k := by
  unfold idS
  induction ps generalizing bs with
  | nil => intro k hk; simp [fold2]; omega
  | cons p ps ih =>
    intro k hk
    cases bs with
    | nil => simp [fold2]; omega
    | cons b bs =>
      rw [List.all_cons, Bool.and_eq_true] at h
      obtain ⟨r1, r2, _⟩ := btR (b := b) h.1
      obtain ⟨i1, i2⟩ := ih h.2 (bs := bs) (k - 1) (by simp at hk; omega)
      rw [fold2, id_add]
      simp only [idN]
      simp at hk
      omega
set_option maxRecDepth 100000 in
set_option maxHeartbeats 4000000 in
theorem parts_in (A Bb : Option Addr) (cp cb n : Nat) (ps : List Int) (bs : List Bool) (w : World) (hA : Has .i64 w A ps) (hB : HasB w Bb bs) (hcp : ps.length ≤ cp) (hcb : bs.length ≤ cb) (m1 : cp ≤ 9223372036854775807) (m2 : cb ≤ 9223372036854775807) (h100 : bs.length ≤ 100) (hck : ckE ps bs.length = 0) (hn : n ≤ bs.length) :
    Calls Try.prog 15 #[.slice A ps.length cp, .slice Bb bs.length cb, .int .i64 n] w fun e w' => e = .returned (.bool true) ∧ Below w.heap.size w w' := by
  obtain ⟨hl, h2k, hal⟩ := ck_zero hck
  have HA := Lib.hid hA
  have HB := Lib.hid hB
  have HL := Lib.hid hl
  have HK := Lib.hid hck
  have HP := Lib.hid hal
  have HT := Lib.hid (all_take hal n)
  have HD := Lib.hid (all_drop hal n)
  have HAt := Lib.hid (hA.front n)
  have HBt := Lib.hid (hB.front n)
  have hAd := hA.cut (n := n) (cap := cp) (by omega) hcp
  have hBd := hB.cut (n := n) (cap := cb) hn hcb
  have HI := Lib.hid (id_parts n ps bs)
  obtain ⟨u1, u2⟩ := c_parts n ps bs hal
  obtain ⟨v1, v2⟩ := id_bd (bs := bs.take n) (all_take hal n) 100 (by simp; omega)
  obtain ⟨v3, v4⟩ := id_bd (bs := bs.drop n) (all_drop hal n) 100 (by simp; omega)
  have j1 : (n : Int) ≤ ps.length := by omega
  have j2 : (n : Int) ≤ bs.length := by omega
  have j3 : (ps.length : Int) ≤ cp := by omega
  have j4 : (bs.length : Int) ≤ cb := by omega
  have j5 : (n : Int) ≤ cp := by omega
  have j6 : (n : Int) ≤ cb := by omega
  have j7 : (0 : Int) ≤ n := by omega
  clear hl hck hal hA hB
  by_cases k1 : cp = n <;> by_cases k2 : cb = n
  all_goals
    first
    | (rw [if_pos k1] at hAd)
    | (rw [if_neg k1] at hAd)
    first
    | (rw [if_pos k2] at hBd)
    | (rw [if_neg k2] at hBd)
    have HAd := Lib.hid hAd
    have HBd := Lib.hid hBd
    clear hAd hBd
  all_goals
    go_enter Try.func15, Try.ntmps15
    go_wp2_with (first | (go_at_call 45; refine (alive _).mono ?_; rintro e w' ⟨rfl, rfl⟩) | (go_at_call 47; refine (rLists_any _ _ _ _ bs.length ps _ HA.out (by omega) (by omega)).mono ?_; rintro e w' ⟨rfl, rfl⟩; rw [HK.out]) | (go_at_call 39; refine (Ideal_at _ _ _ _ _ _ ps bs _ HA.out HB.out rfl rfl HL.out (by omega) HP.out).mono ?_; rintro e w' ⟨rfl, rfl⟩))
    go_quiet ((go_at_call 39; exact Calls.quiet_of_same (turned (Ideal_at _ _ _ _ _ _ (ps.take n) (bs.take n) _ (has_below HAt.out (by (repeat' (first | (with_reducible exact Below.refl _ _) | (with_reducible assumption) | (with_reducible refine below_drewN ?_ _) | (with_reducible refine below_new ?_ _) | (with_reducible refine Below.alloc ?_ ?_ _) | (with_reducible refine Below.drew ?_) | (with_reducible refine Below.setCell ?_ ?_ _) | (with_reducible apply below_at; (case k => (with_reducible assumption)); (case hB => omega)) | (with_reducible apply below_on; (with_reducible assumption)) | (go_size; done) | (with_reducible apply size_of))))) (hasB_below HBt.out (by (repeat' (first | (with_reducible exact Below.refl _ _) | (with_reducible assumption) | (with_reducible refine below_drewN ?_ _) | (with_reducible refine below_new ?_ _) | (with_reducible refine Below.alloc ?_ ?_ _) | (with_reducible refine Below.drew ?_) | (with_reducible refine Below.setCell ?_ ?_ _) | (with_reducible apply below_at; (case k => (with_reducible assumption)); (case hB => omega)) | (with_reducible apply below_on; (with_reducible assumption)) | (go_size; done) | (with_reducible apply size_of))))) (by simp; omega) (by simp; omega) rfl (by omega) HT.out))))
    go_wp2_with fail
    have B2 : Hid (Below w.heap.size w (w.drewN nq)) := Lib.hid (by (repeat' (first | (with_reducible exact Below.refl _ _) | (with_reducible assumption) | (with_reducible refine below_drewN ?_ _) | (with_reducible refine below_new ?_ _) | (with_reducible refine Below.alloc ?_ ?_ _) | (with_reducible refine Below.drew ?_) | (with_reducible refine Below.setCell ?_ ?_ _) | (with_reducible apply below_at; (case k => (with_reducible assumption)); (case hB => omega)) | (with_reducible apply below_on; (with_reducible assumption)) | (go_size; done) | (with_reducible apply size_of))))
    generalize w.drewN nq = w2 at *
    go_quiet ((go_at_call 39; exact Calls.quiet_of_same (turned (Ideal_at _ _ _ _ _ _ (ps.drop n) (bs.drop n) _ (has_below HAd.out (by have := B2.out; (repeat' (first | (with_reducible exact Below.refl _ _) | (with_reducible assumption) | (with_reducible refine below_drewN ?_ _) | (with_reducible refine below_new ?_ _) | (with_reducible refine Below.alloc ?_ ?_ _) | (with_reducible refine Below.drew ?_) | (with_reducible refine Below.setCell ?_ ?_ _) | (with_reducible apply below_at; (case k => (with_reducible assumption)); (case hB => omega)) | (with_reducible apply below_on; (with_reducible assumption)) | (go_size; done) | (with_reducible apply size_of))))) (hasB_below HBd.out (by have := B2.out; (repeat' (first | (with_reducible exact Below.refl _ _) | (with_reducible assumption) | (with_reducible refine below_drewN ?_ _) | (with_reducible refine below_new ?_ _) | (with_reducible refine Below.alloc ?_ ?_ _) | (with_reducible refine Below.drew ?_) | (with_reducible refine Below.setCell ?_ ?_ _) | (with_reducible apply below_at; (case k => (with_reducible assumption)); (case hB => omega)) | (with_reducible apply below_on; (with_reducible assumption)) | (go_size; done) | (with_reducible apply size_of))))) (by simp) (by simp) (by have := HL.out; omega) (by omega) HD.out))))
    go_wp2_with fail
    have B3 : Hid (Below w.heap.size w (w2.drewN nq)) := Lib.hid (by have := B2.out; (repeat' (first | (with_reducible exact Below.refl _ _) | (with_reducible assumption) | (with_reducible refine below_drewN ?_ _) | (with_reducible refine below_new ?_ _) | (with_reducible refine Below.alloc ?_ ?_ _) | (with_reducible refine Below.drew ?_) | (with_reducible refine Below.setCell ?_ ?_ _) | (with_reducible apply below_at; (case k => (with_reducible assumption)); (case hB => omega)) | (with_reducible apply below_on; (with_reducible assumption)) | (go_size; done) | (with_reducible apply size_of))))
    generalize w2.drewN nq = w3 at *
    refine (Real_at _ _ _ _ _ _ ps bs _ (has_below HA.out B3.out) (hasB_below HB.out B3.out) rfl rfl HL.out (by omega) HP.out).mono ?_
    rintro e w4 ⟨rfl, hb4⟩
    have B4 := Lib.hid (B3.out.trans (hb4.mono B3.out.size))
    clear hb4 B3 B2
    go_wp2_with fail
    go_upto_region 9 with fail
    go_cut [16, 17] (fun s16 s17 wx => s16 = .int .i64 (cS (ps.take n) (bs.take n)).2.2.1 ∧ s17 = .int .i64 0 ∧ Below w.heap.size w wx)
    case first =>
      go_region_law (first | (go_simp; go_at_call 41; refine (Real_at _ _ _ _ _ _ (ps.take n) (bs.take n) _ (has_below HAt.out (by have := B4.out; (repeat' (first | (with_reducible exact Below.refl _ _) | (with_reducible assumption) | (with_reducible refine below_drewN ?_ _) | (with_reducible refine below_new ?_ _) | (with_reducible refine Below.alloc ?_ ?_ _) | (with_reducible refine Below.drew ?_) | (with_reducible refine Below.setCell ?_ ?_ _) | (with_reducible apply below_at; (case k => (with_reducible assumption)); (case hB => omega)) | (with_reducible apply below_on; (with_reducible assumption)) | (go_size; done) | (with_reducible apply size_of))))) (hasB_below HBt.out (by have := B4.out; (repeat' (first | (with_reducible exact Below.refl _ _) | (with_reducible assumption) | (with_reducible refine below_drewN ?_ _) | (with_reducible refine below_new ?_ _) | (with_reducible refine Below.alloc ?_ ?_ _) | (with_reducible refine Below.drew ?_) | (with_reducible refine Below.setCell ?_ ?_ _) | (with_reducible apply below_at; (case k => (with_reducible assumption)); (case hB => omega)) | (with_reducible apply below_on; (with_reducible assumption)) | (go_size; done) | (with_reducible apply size_of))))) (by simp; omega) (by simp; omega) rfl (by omega) HT.out).mono ?_; rintro e w5 ⟨rfl, hb5⟩))
      all_goals
        go_wp2_with fail
        go_meet
        exact ⟨rfl, rfl, by have := B4.out; (repeat' (first | (with_reducible exact Below.refl _ _) | (with_reducible assumption) | (with_reducible refine below_drewN ?_ _) | (with_reducible refine below_new ?_ _) | (with_reducible refine Below.alloc ?_ ?_ _) | (with_reducible refine Below.drew ?_) | (with_reducible refine Below.setCell ?_ ?_ _) | (with_reducible apply below_at; (case k => (with_reducible assumption)); (case hB => omega)) | (with_reducible apply below_on; (with_reducible assumption)) | (go_size; done) | (with_reducible apply size_of)))⟩
    case rest =>
      obtain ⟨rfl, rfl, W5⟩ := hcut
      have B5 := Lib.hid W5
      clear W5
      go_wp2_with fail
      refine (Bytes_at _ _ _ _ _ _ ps bs _ (has_below HA.out B5.out) (hasB_below HB.out B5.out) rfl rfl HL.out (by omega) HP.out).mono ?_
      rintro e w6 ⟨rfl, hb6⟩
      have B6 := Lib.hid (B5.out.trans (hb6.mono B5.out.size))
      clear hb6
      go_wp2_with fail
      go_upto_region 11 with fail
      go_cut [20, 21] (fun s16 s17 wx => s16 = .int .i64 (cS (ps.take n) (bs.take n)).2.2.2 ∧ s17 = .int .i64 0 ∧ Below w.heap.size w wx)
      case first =>
        go_region_law (first | (go_simp; go_at_call 43; refine (Bytes_at _ _ _ _ _ _ (ps.take n) (bs.take n) _ (has_below HAt.out (by have := B6.out; (repeat' (first | (with_reducible exact Below.refl _ _) | (with_reducible assumption) | (with_reducible refine below_drewN ?_ _) | (with_reducible refine below_new ?_ _) | (with_reducible refine Below.alloc ?_ ?_ _) | (with_reducible refine Below.drew ?_) | (with_reducible refine Below.setCell ?_ ?_ _) | (with_reducible apply below_at; (case k => (with_reducible assumption)); (case hB => omega)) | (with_reducible apply below_on; (with_reducible assumption)) | (go_size; done) | (with_reducible apply size_of))))) (hasB_below HBt.out (by have := B6.out; (repeat' (first | (with_reducible exact Below.refl _ _) | (with_reducible assumption) | (with_reducible refine below_drewN ?_ _) | (with_reducible refine below_new ?_ _) | (with_reducible refine Below.alloc ?_ ?_ _) | (with_reducible refine Below.drew ?_) | (with_reducible refine Below.setCell ?_ ?_ _) | (with_reducible apply below_at; (case k => (with_reducible assumption)); (case hB => omega)) | (with_reducible apply below_on; (with_reducible assumption)) | (go_size; done) | (with_reducible apply size_of))))) (by simp; omega) (by simp; omega) rfl (by omega) HT.out).mono ?_; rintro e w5 ⟨rfl, hb5⟩))
        all_goals
          go_wp2_with fail
          go_meet
          exact ⟨rfl, rfl, by have := B6.out; (repeat' (first | (with_reducible exact Below.refl _ _) | (with_reducible assumption) | (with_reducible refine below_drewN ?_ _) | (with_reducible refine below_new ?_ _) | (with_reducible refine Below.alloc ?_ ?_ _) | (with_reducible refine Below.drew ?_) | (with_reducible refine Below.setCell ?_ ?_ _) | (with_reducible apply below_at; (case k => (with_reducible assumption)); (case hB => omega)) | (with_reducible apply below_on; (with_reducible assumption)) | (go_size; done) | (with_reducible apply size_of)))⟩
      case rest =>
        obtain ⟨rfl, rfl, W7⟩ := hcut
        have t1 : (idS ps bs == idS (ps.take n) (bs.take n) + idS (ps.drop n) (bs.drop n)) = true := by rw [← HI.out]; simp
        go_wp2
        go_ret
        exact ⟨rfl, W7⟩
end Go.Proofs.Ytaehjhjbbkblbaa.costL
