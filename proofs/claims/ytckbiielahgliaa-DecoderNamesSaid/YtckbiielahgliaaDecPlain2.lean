/- Plain: errors and values of getting bits, runs, and what coding gives back. No program. -/
import Derived.Test.YtckbiielahgliaaDecPlain
namespace Go.Proofs.Ytckbiielahgliaa.decP
open Go.RowKit Go.Proofs.Ytckbiielahgliaa.encP

abbrev DS := Int × Int × Int × Nat
/-- A state of decoding: a valid range and a place in it. -/
def DGood (s : DS) : Prop := 0 ≤ s.1 ∧ s.1 < s.2.1 ∧ s.2.1 ≤ 4294967295 ∧ s.1 / 16777216 ≠ s.2.1 / 16777216 ∧ s.1 ≤ s.2.2.1 ∧ s.2.2.1 ≤ s.2.1
def gnx (zs : List Int) (s : DS) (p : Int) : DS := gt zs s.1 s.2.1 s.2.2.1 s.2.2.2 p
def sbit (s : DS) (p : Int) : Bool := gbit s.1 s.2.1 s.2.2.1 p
theorem gnx_ok {zs : List Int} (hz : InB zs) {s : DS} (h : DGood s) {p : Int} (hp : pOk p = true) : DGood (gnx zs s p) ∧ s.2.2.2 ≤ (gnx zs s p).2.2.2 ∧ (gnx zs s p).2.2.2 ≤ s.2.2.2 + 4 := by
  obtain ⟨h1, h2, h3, h4, h5, h6⟩ := h
  obtain ⟨k1, k2, k3, k4, k5, k6⟩ := pu_ok (b := sbit s p) h1 h2 h3 hp
  obtain ⟨n1, n2, n3⟩ := nx_bd (b := sbit s p) h1 h2 h3 hp
  obtain ⟨i1, i2⟩ := nx_in (p := p) h5 h6
  obtain ⟨j1, j2⟩ := xs_bd hz 4 (nx s.1 s.2.1 p (sbit s p)).1 (nx s.1 s.2.1 p (sbit s p)).2 s.2.2.1 s.2.2.2 n1 n3 i1 i2
  exact ⟨⟨k1, k2, k3, k4, j1, j2⟩, Nat.le_add_right _ _, Nat.add_le_add_left k5 _⟩
/-- The error of getting a bit. -/
def dgE (x1 x2 x : Int) (zs : List Int) (t p : Int) : Int := if decOk x1 x2 x zs.length t then (if pOk p then (if (gt zs x1 x2 x t.toNat p).2.2.2 ≤ 1000000 then 0 else 4) else 2) else 8
def dgV (x1 x2 x : Int) (zs : List Int) (t p : Int) : Int × Int × Int × List Int × Nat :=
  if dgE x1 x2 x zs t p = 0 then ((gt zs x1 x2 x t.toNat p).1, (gt zs x1 x2 x t.toNat p).2.1, (gt zs x1 x2 x t.toNat p).2.2.1, zs, (gt zs x1 x2 x t.toNat p).2.2.2) else (0, 0, 0, [], 0)
def dgB (x1 x2 x : Int) (zs : List Int) (t p : Int) : Bool := if dgE x1 x2 x zs t p = 0 then gbit x1 x2 x p else false
theorem dgE_bad {x1 x2 x : Int} {zs : List Int} {t : Int} (p : Int) (h : decOk x1 x2 x zs.length t = false) : dgE x1 x2 x zs t p = 8 := by simp [dgE, h]
theorem dgE_arg {x1 x2 x : Int} {zs : List Int} {t p : Int} (h : decOk x1 x2 x zs.length t = true) (hp : pOk p = false) : dgE x1 x2 x zs t p = 2 := by simp [dgE, h, hp]
theorem dgE_ok {x1 x2 x : Int} {zs : List Int} {t p : Int} (h : decOk x1 x2 x zs.length t = true) (hp : pOk p = true) : dgE x1 x2 x zs t p = if (gt zs x1 x2 x t.toNat p).2.2.2 ≤ 1000000 then 0 else 4 := by rw [dgE, if_pos h, if_pos hp]
theorem dgV_no {x1 x2 x : Int} {zs : List Int} {t p : Int} (h : dgE x1 x2 x zs t p ≠ 0) : dgV x1 x2 x zs t p = (0, 0, 0, [], 0) ∧ dgB x1 x2 x zs t p = false := by rw [dgV, dgB, if_neg h, if_neg h]; exact ⟨rfl, rfl⟩
theorem dgV_yes {x1 x2 x : Int} {zs : List Int} {t p : Int} (h : dgE x1 x2 x zs t p = 0) : dgV x1 x2 x zs t p = ((gt zs x1 x2 x t.toNat p).1, (gt zs x1 x2 x t.toNat p).2.1, (gt zs x1 x2 x t.toNat p).2.2.1, zs, (gt zs x1 x2 x t.toNat p).2.2.2) ∧ dgB x1 x2 x zs t p = gbit x1 x2 x p := by rw [dgV, dgB, if_pos h, if_pos h]; exact ⟨rfl, rfl⟩
theorem dgE_cases (x1 x2 x : Int) (zs : List Int) (t p : Int) : dgE x1 x2 x zs t p = 0 ∨ dgE x1 x2 x zs t p = 2 ∨ dgE x1 x2 x zs t p = 4 ∨ dgE x1 x2 x zs t p = 8 := by
  unfold dgE
  by_cases h1 : decOk x1 x2 x zs.length t = true
  · rw [if_pos h1]
    by_cases h2 : pOk p = true
    · rw [if_pos h2]; split <;> simp
    · rw [if_neg h2]; simp
  · rw [if_neg h1]; simp
/-- A valid decoder's state. -/
theorem decOk_good {x1 x2 x : Int} {n : Nat} {t : Int} (h : decOk x1 x2 x n t = true) (a1 : 0 ≤ x1) (b2 : x2 ≤ 4294967295) : DGood (x1, x2, x, t.toNat) ∧ 4 ≤ t ∧ t ≤ 1000000 ∧ n ≤ 20000 := by
  obtain ⟨q1, q2, q3, q4, q5, q6, q7⟩ := (decOk_iff _ _ _ _ _).1 h
  exact ⟨⟨a1, q2, b2, q1, q3, q4⟩, q6, q7, q5⟩
theorem good_decOk {s : DS} {n : Nat} (h : DGood s) (hn : n ≤ 20000) (h4 : 4 ≤ s.2.2.2) (hm : s.2.2.2 ≤ 1000000) : decOk s.1 s.2.1 s.2.2.1 n (s.2.2.2 : Nat) = true :=
  (decOk_iff _ _ _ _ _).2 ⟨h.2.2.2.1, h.2.1, h.2.2.2.2.1, h.2.2.2.2.2, hn, by omega, by omega⟩
theorem dgV_bd {x1 x2 x : Int} {zs : List Int} (hz : InB zs) {t p : Int} (a1 : 0 ≤ x1) (b2 : x2 ≤ 4294967295) :
    0 ≤ (dgV x1 x2 x zs t p).1 ∧ (dgV x1 x2 x zs t p).1 ≤ 4294967295 ∧ 0 ≤ (dgV x1 x2 x zs t p).2.1 ∧ (dgV x1 x2 x zs t p).2.1 ≤ 4294967295 ∧ 0 ≤ (dgV x1 x2 x zs t p).2.2.1 ∧ (dgV x1 x2 x zs t p).2.2.1 ≤ 4294967295 ∧ (dgV x1 x2 x zs t p).2.2.2.1.length ≤ 20000 ∧ (dgV x1 x2 x zs t p).2.2.2.2 ≤ 1000000 := by
  by_cases h : dgE x1 x2 x zs t p = 0
  · have h' := h
    cases h1 : decOk x1 x2 x zs.length t
    · rw [dgE_bad p h1] at h; omega
    · cases h2 : pOk p
      · rw [dgE_arg h1 h2] at h; omega
      · obtain ⟨g, c4, cm, cn⟩ := decOk_good h1 a1 b2
        obtain ⟨⟨g1, g2, g3, g4, g5, g6⟩, _, _⟩ := gnx_ok hz g h2
        have hm : (gt zs x1 x2 x t.toNat p).2.2.2 ≤ 1000000 := by
          apply Classical.byContradiction
          intro hc
          rw [dgE_ok h1 h2, if_neg hc] at h; omega
        rw [(dgV_yes h').1]
        simp only [gnx] at g1 g2 g3 g5 g6
        exact ⟨g1, by show (gt zs x1 x2 x t.toNat p).1 ≤ _; omega, by show 0 ≤ (gt zs x1 x2 x t.toNat p).2.1; omega, g3, by show 0 ≤ (gt zs x1 x2 x t.toNat p).2.2.1; omega, by show (gt zs x1 x2 x t.toNat p).2.2.1 ≤ _; omega, cn, hm⟩
  · rw [(dgV_no h).1]; decide
/-- The states, one behind the other. -/
def stD (zs : List Int) : List Int → DS → DS
  | [], s => s
  | p :: ps, s => stD zs ps (gnx zs s p)
/-- The bits. -/
def btD (zs : List Int) : List Int → DS → List Bool
  | [], _ => []
  | p :: ps, s => sbit s p :: btD zs ps (gnx zs s p)
theorem btD_len (zs : List Int) : ∀ (ps : List Int) (s : DS), (btD zs ps s).length = ps.length
  | [], _ => rfl
  | p :: ps, s => by simp [btD, btD_len zs ps]
theorem stD_snoc (zs : List Int) : ∀ (ps : List Int) (s : DS) (k : Nat), k < ps.length → stD zs (ps.take (k + 1)) s = gnx zs (stD zs (ps.take k) s) (ps.getD k 0)
  | p :: ps, s, 0, _ => by simp [stD]
  | p :: ps, s, k + 1, h => by
    have := stD_snoc zs ps (gnx zs s p) k (by simpa using h)
    simpa [stD] using this
  | [], _, _, h => by simp at h
theorem btD_snoc (zs : List Int) : ∀ (ps : List Int) (s : DS) (k : Nat), k < ps.length → btD zs (ps.take (k + 1)) s = btD zs (ps.take k) s ++ [sbit (stD zs (ps.take k) s) (ps.getD k 0)]
  | p :: ps, s, 0, _ => by simp [btD, stD]
  | p :: ps, s, k + 1, h => by
    have := btD_snoc zs ps (gnx zs s p) k (by simpa using h)
    simpa [btD, stD] using this
  | [], _, _, h => by simp at h
theorem btD_take (zs : List Int) : ∀ (ps : List Int) (s : DS) (k : Nat), btD zs (ps.take k) s = (btD zs ps s).take k
  | [], s, k => by simp [btD]
  | p :: ps, s, 0 => by simp [btD]
  | p :: ps, s, k + 1 => by simp [btD, btD_take zs ps (gnx zs s p) k]
theorem btD_getD (zs : List Int) : ∀ (ps : List Int) (s : DS) (k : Nat), k < ps.length → (btD zs ps s).getD k false = sbit (stD zs (ps.take k) s) (ps.getD k 0)
  | p :: ps, s, 0, _ => by simp [btD, stD]
  | p :: ps, s, k + 1, h => by
    have := btD_getD zs ps (gnx zs s p) k (by simpa using h)
    simpa [btD, stD] using this
  | [], _, _, h => by simp at h
def sd0 (zs : List Int) : DS := (0, 4294967295, win zs 0, 4)
theorem good_sd0 {zs : List Int} (h : InB zs) : DGood (sd0 zs) := by
  obtain ⟨a, b⟩ := win_bd h 0
  exact ⟨by show (0 : Int) ≤ 0; decide, by show (0 : Int) < 4294967295; decide, by show (4294967295 : Int) ≤ 4294967295; decide, by show (0 : Int) / 16777216 ≠ 4294967295 / 16777216; decide, a, b⟩
theorem stD_good {zs : List Int} (hz : InB zs) (ps : List Int) : ∀ k, k ≤ ps.length → (ps.take k).all pOk = true → DGood (stD zs (ps.take k) (sd0 zs)) ∧ 4 ≤ (stD zs (ps.take k) (sd0 zs)).2.2.2 ∧ (stD zs (ps.take k) (sd0 zs)).2.2.2 ≤ 4 + 4 * k
  | 0, _, _ => by simp [stD]; exact ⟨good_sd0 hz, by simp [sd0]⟩
  | k + 1, hk, ha => by
    have hk' : k < ps.length := by omega
    have hsplit : ps.take (k + 1) = ps.take k ++ [ps.getD k 0] := by rw [List.take_succ_eq_append_getElem hk']; simp [List.getD_eq_getElem?_getD, List.getElem?_eq_getElem hk']
    have ha' := ha
    rw [hsplit, List.all_append] at ha
    have ha1 : (ps.take k).all pOk = true := by revert ha; cases (ps.take k).all pOk <;> simp
    have ha2 : pOk (ps.getD k 0) = true := by revert ha; rw [ha1]; simp
    obtain ⟨g, l0, l⟩ := stD_good hz ps k (by omega) ha1
    rw [stD_snoc zs ps (sd0 zs) k hk']
    obtain ⟨g2, l1, l2⟩ := gnx_ok hz g ha2
    exact ⟨g2, by omega, by omega⟩
/-- The error of a run, and its bits. -/
def drE (n : Nat) (ps : List Int) : Int := if 20000 < n then 4 else rnE ps ps.length
def drV (zs ps : List Int) : List Bool := if drE zs.length ps = 0 then btD zs ps (sd0 zs) else []
theorem drE_all {n : Nat} {ps : List Int} (h1 : n ≤ 20000) (h2 : ps.length ≤ 2000) : drE n ps = if ps.all pOk then 0 else 2 := by
  rw [drE, if_neg (by omega), rnE, if_neg (by omega), if_pos rfl]
theorem drV_no {zs ps : List Int} (h : drE zs.length ps ≠ 0) : drV zs ps = [] := by rw [drV, if_neg h]
theorem drV_yes {zs ps : List Int} (h : drE zs.length ps = 0) : drV zs ps = btD zs ps (sd0 zs) := by rw [drV, if_pos h]
theorem drV_len {zs ps : List Int} : (drV zs ps).length = if drE zs.length ps = 0 then ps.length else 0 := by
  rw [drV]; split
  · rw [btD_len]
  · rfl
/-- THE WINDOW GOES WITH THE ENCODER. -/
def Tied (zs : List Int) (s : DS) (y : Int × Int × List Int) : Prop := s = (y.1, y.2.1, win zs y.2.2.length, y.2.2.length + 4) ∧ ∀ i, i < y.2.2.length → y.2.2.getD i 0 = byt zs i
theorem tied_next {zs : List Int} (hz : InB zs) {s : DS} {y : Int × Int × List Int} (h : Tied zs s y) (g : DGood s) {p : Int} (hp : pOk p = true) : Tied zs (gnx zs s p) (nxt y p (sbit s p)) := by
  obtain ⟨rfl, h2⟩ := h
  obtain ⟨g1, g2, g3, g4, g5, g6⟩ := g
  simp only at g1 g2 g3 g4 g5 g6
  obtain ⟨i1, i2⟩ := nx_in (p := p) g5 g6
  obtain ⟨n1, n2, n3⟩ := nx_bd (b := gbit y.1 y.2.1 (win zs y.2.2.length) p) g1 g2 g3 hp
  obtain ⟨w1, w2, w3, w4⟩ := xs_win hz 4 _ _ y.2.2.length n1 n3 i1 i2
  refine ⟨?_, ?_⟩
  · simp only [gnx, gt, nxt, sbit, List.length_append]
    refine Prod.ext rfl (Prod.ext rfl (Prod.ext ?_ ?_))
    · exact w1
    · exact Nat.add_right_comm _ _ _
  · intro i hi
    have hi' : i < (y.2.2 ++ (pu y.1 y.2.1 p (gbit y.1 y.2.1 (win zs y.2.2.length) p)).2.2).length := hi
    rw [List.length_append] at hi'
    show (y.2.2 ++ (pu y.1 y.2.1 p (gbit y.1 y.2.1 (win zs y.2.2.length) p)).2.2).getD i 0 = byt zs i
    rcases Nat.lt_or_ge i y.2.2.length with hl | hl
    · rw [List.getD_eq_getElem?_getD, List.getElem?_append_left hl, ← List.getD_eq_getElem?_getD]; exact h2 i hl
    · rw [List.getD_eq_getElem?_getD, List.getElem?_append_right hl, ← List.getD_eq_getElem?_getD]
      have := w4 (i - y.2.2.length) (by show _ < (pu y.1 y.2.1 p (gbit y.1 y.2.1 (win zs y.2.2.length) p)).2.2.length; omega)
      rw [show y.2.2.length + (i - y.2.2.length) = i by omega] at this
      exact this
theorem tied_0 (zs : List Int) : Tied zs (sd0 zs) s0 := ⟨rfl, fun i hi => by simp [s0] at hi⟩
/-- Back from what was given out: the window lay in the range. -/
theorem given_back {zs : List Int} (hz : InB zs) : ∀ (f : Nat) (a b : Int) (q : Nat), 0 ≤ a → a ≤ b → b ≤ 4294967295 → (∀ i, i < (given f a b).2.2.length → (given f a b).2.2.getD i 0 = byt zs (q + i)) →
    (given f a b).1 ≤ win zs (q + (given f a b).2.2.length) → win zs (q + (given f a b).2.2.length) ≤ (given f a b).2.1 → a ≤ win zs q ∧ win zs q ≤ b
  | 0, a, b, q, _, _, _, _, h1, h2 => ⟨h1, h2⟩
  | f + 1, a, b, q, h0, hab, hb, hi, h1, h2 => by
    by_cases e : a / 16777216 = b / 16777216
    · obtain ⟨s1, s2, s3, s4, s5⟩ := step_bd h0 hab hb e
      simp only [given, if_pos e, List.length_cons] at hi h1 h2
      have ih := given_back hz f (a * 256 % 4294967296) (b * 256 % 4294967296 + 255) (q + 1) s1 (by omega) s2
      generalize given f (a * 256 % 4294967296) (b * 256 % 4294967296 + 255) = r at *
      have e0 : a / 16777216 = byt zs q := by simpa using hi 0 (by omega)
      rw [show q + (r.2.2.length + 1) = q + 1 + r.2.2.length by omega] at h1 h2
      obtain ⟨i1, i2⟩ := ih (fun i hl => by
        have := hi (i + 1) (by omega)
        rw [show q + (i + 1) = q + 1 + i by omega] at this
        simpa using this) h1 h2
      obtain ⟨w1, w2⟩ := win_step hz q
      obtain ⟨v1, v2⟩ := win_bd hz q
      obtain ⟨u1, u2⟩ := byt_bd hz (q + 4)
      omega
    · simp only [given, if_neg e] at h1 h2
      exact ⟨h1, h2⟩
/-- What was coded is decoded: where the last window lies in the last range, each bit is the bit that was put. -/
theorem back_bits {zs : List Int} (hz : InB zs) : ∀ (ps : List Int) (bs : List Bool) (y : Int × Int × List Int) (s : DS), ps.length = bs.length → ps.all pOk = true → EGood y →
    (∀ i, i < (runS ps bs y).2.2.length → (runS ps bs y).2.2.getD i 0 = byt zs i) → (runS ps bs y).1 ≤ win zs (runS ps bs y).2.2.length → win zs (runS ps bs y).2.2.length ≤ (runS ps bs y).2.1 →
    Tied zs s y → (y.1 ≤ win zs y.2.2.length ∧ win zs y.2.2.length ≤ y.2.1) ∧ btD zs ps s = bs
  | [], [], y, s, _, _, _, _, h1, h2, _ => ⟨⟨h1, h2⟩, rfl⟩
  | p :: ps, b :: bs, y, s, hl, ha, hg, hi, h1, h2, ht => by
    rw [List.all_cons] at ha
    have hp : pOk p = true := by revert ha; cases pOk p <;> simp
    have hps : ps.all pOk = true := by revert ha; rw [hp]; simp
    have hg' := (good_nxt hg hp b).1
    have hlen : ps.length = bs.length := by simpa using hl
    -- what was given out stays
    have hpre : ∀ (ps : List Int) (bs : List Bool) (y : Int × Int × List Int), ∃ o, (runS ps bs y).2.2 = y.2.2 ++ o := by
      intro ps
      induction ps with
      | nil => intro bs y; exact ⟨[], by simp [runS]⟩
      | cons p ps ih =>
        intro bs y
        cases bs with
        | nil => exact ⟨[], by simp [runS]⟩
        | cons b bs =>
          obtain ⟨o, ho⟩ := ih bs ((pu y.1 y.2.1 p b).1, (pu y.1 y.2.1 p b).2.1, y.2.2 ++ (pu y.1 y.2.1 p b).2.2)
          exact ⟨(pu y.1 y.2.1 p b).2.2 ++ o, by rw [runS, ho, List.append_assoc]⟩
    obtain ⟨o, ho⟩ := hpre ps bs (nxt y p b)
    have hrun : runS (p :: ps) (b :: bs) y = runS ps bs (nxt y p b) := rfl
    rw [hrun] at hi h1 h2
    -- the window behind this bit, by what follows (it needs no state of the decoder)
    have key : ∀ (ps : List Int) (bs : List Bool) (y : Int × Int × List Int), ps.length = bs.length → ps.all pOk = true → EGood y →
        (∀ i, i < (runS ps bs y).2.2.length → (runS ps bs y).2.2.getD i 0 = byt zs i) → (runS ps bs y).1 ≤ win zs (runS ps bs y).2.2.length → win zs (runS ps bs y).2.2.length ≤ (runS ps bs y).2.1 →
        y.1 ≤ win zs y.2.2.length ∧ win zs y.2.2.length ≤ y.2.1 := by
      intro ps
      induction ps with
      | nil => intro bs y _ _ _ _ h1 h2; simp only [runS] at h1 h2; exact ⟨h1, h2⟩
      | cons p ps ih =>
        intro bs y hl ha hg hi h1 h2
        cases bs with
        | nil => simp at hl
        | cons b bs =>
          rw [List.all_cons] at ha
          have hp : pOk p = true := by revert ha; cases pOk p <;> simp
          have hps : ps.all pOk = true := by revert ha; rw [hp]; simp
          have hrun : runS (p :: ps) (b :: bs) y = runS ps bs (nxt y p b) := rfl
          rw [hrun] at hi h1 h2
          obtain ⟨j1, j2⟩ := ih bs (nxt y p b) (by simpa using hl) hps (good_nxt hg hp b).1 hi h1 h2
          obtain ⟨o, ho⟩ := hpre ps bs (nxt y p b)
          obtain ⟨e1, e2, e3, e4⟩ := hg
          obtain ⟨n1, n2, n3⟩ := nx_bd (b := b) e1 e2 e3 hp
          obtain ⟨m1, m2⟩ := mid_bd e2 ((pOk_iff p).1 hp).1 ((pOk_iff p).1 hp).2
          have hb := given_back hz 4 (nx y.1 y.2.1 p b).1 (nx y.1 y.2.1 p b).2 y.2.2.length n1 n2 n3 (fun i hl => by
              have hlo : (nxt y p b).2.2.length = y.2.2.length + (given 4 (nx y.1 y.2.1 p b).1 (nx y.1 y.2.1 p b).2).2.2.length := by simp only [nxt, pu, List.length_append]
              have := hi (y.2.2.length + i) (by rw [ho, List.length_append]; omega)
              rw [ho, List.getD_eq_getElem?_getD, List.getElem?_append_left (by omega)] at this
              simp only [nxt, pu] at this
              rw [List.getElem?_append_right (by omega), show y.2.2.length + i - y.2.2.length = i by omega, ← List.getD_eq_getElem?_getD] at this
              exact this)
            (by simpa only [nxt, pu, List.length_append] using j1) (by simpa only [nxt, pu, List.length_append] using j2)
          cases b
          · have : mid y.1 y.2.1 p + 1 ≤ win zs y.2.2.length ∧ win zs y.2.2.length ≤ y.2.1 := hb
            omega
          · have : y.1 ≤ win zs y.2.2.length ∧ win zs y.2.2.length ≤ mid y.1 y.2.1 p := hb
            omega
    obtain ⟨j1, j2⟩ := key ps bs (nxt y p b) hlen hps hg' hi h1 h2
    obtain ⟨e1, e2, e3, e4⟩ := hg
    obtain ⟨n1, n2, n3⟩ := nx_bd (b := b) e1 e2 e3 hp
    obtain ⟨m1, m2⟩ := mid_bd e2 ((pOk_iff p).1 hp).1 ((pOk_iff p).1 hp).2
    have hb := given_back hz 4 (nx y.1 y.2.1 p b).1 (nx y.1 y.2.1 p b).2 y.2.2.length n1 n2 n3 (fun i hl => by
        have hlo : (nxt y p b).2.2.length = y.2.2.length + (given 4 (nx y.1 y.2.1 p b).1 (nx y.1 y.2.1 p b).2).2.2.length := by simp only [nxt, pu, List.length_append]
        have := hi (y.2.2.length + i) (by rw [ho, List.length_append]; omega)
        rw [ho, List.getD_eq_getElem?_getD, List.getElem?_append_left (by omega)] at this
        simp only [nxt, pu] at this
        rw [List.getElem?_append_right (by omega), show y.2.2.length + i - y.2.2.length = i by omega, ← List.getD_eq_getElem?_getD] at this
        exact this)
      (by simpa only [nxt, pu, List.length_append] using j1) (by simpa only [nxt, pu, List.length_append] using j2)
    have hs := ht.1
    have hbit : sbit s p = b := by
      rw [hs]
      unfold sbit gbit
      simp only
      cases b
      · have : mid y.1 y.2.1 p + 1 ≤ win zs y.2.2.length ∧ win zs y.2.2.length ≤ y.2.1 := hb
        exact decide_eq_false (by omega)
      · have : y.1 ≤ win zs y.2.2.length ∧ win zs y.2.2.length ≤ mid y.1 y.2.1 p := hb
        exact decide_eq_true (by omega)
    have hw : y.1 ≤ win zs y.2.2.length ∧ win zs y.2.2.length ≤ y.2.1 := by
      cases b
      · have : mid y.1 y.2.1 p + 1 ≤ win zs y.2.2.length ∧ win zs y.2.2.length ≤ y.2.1 := hb
        omega
      · have : y.1 ≤ win zs y.2.2.length ∧ win zs y.2.2.length ≤ mid y.1 y.2.1 p := hb
        omega
    have hsg : DGood s := by rw [hs]; exact ⟨e1, e2, e3, e4, hw.1, hw.2⟩
    have ht' := tied_next hz ht hsg hp
    rw [hbit] at ht'
    have ih := back_bits hz ps bs (nxt y p b) (gnx zs s p) hlen hps hg' hi h1 h2 ht'
    exact ⟨hw, by rw [btD, hbit, ih.2]⟩
  | [], _ :: _, _, _, hl, _, _, _, _, _, _ => by simp at hl
  | _ :: _, [], _, _, hl, _, _, _, _, _, _ => by simp at hl
theorem getD_app_left {zs ys : List Int} {i : Nat} (h : i < zs.length) : (zs ++ ys).getD i 0 = zs.getD i 0 := by
  rw [List.getD_eq_getElem?_getD, List.getElem?_append_left h, ← List.getD_eq_getElem?_getD]
/-- Of a run's bytes, with whatever behind them, the bits are got again. -/
theorem back_all {ps : List Int} {bs : List Bool} {more : List Int} (hl : ps.length = bs.length) (ha : ps.all pOk = true) (hz : InB ((runS ps bs s0).2.2 ++ b4 (runS ps bs s0).1 ++ more)) :
    btD ((runS ps bs s0).2.2 ++ b4 (runS ps bs s0).1 ++ more) ps (sd0 ((runS ps bs s0).2.2 ++ b4 (runS ps bs s0).1 ++ more)) = bs := by
  have hrg := (run_good ps bs hl ps.length (Nat.le_refl _) (by rw [List.take_of_length_le (Nat.le_refl _)]; exact ha)).1
  rw [List.take_of_length_le (Nat.le_refl _), List.take_of_length_le (by omega)] at hrg
  obtain ⟨r1, r2, r3, r4⟩ := hrg
  have hwin : win ((runS ps bs s0).2.2 ++ b4 (runS ps bs s0).1 ++ more) (runS ps bs s0).2.2.length = (runS ps bs s0).1 := by
    have hby : ∀ j, j < 4 → byt ((runS ps bs s0).2.2 ++ b4 (runS ps bs s0).1 ++ more) ((runS ps bs s0).2.2.length + j) = (b4 (runS ps bs s0).1).getD j 0 := by
      intro j hj
      unfold byt
      rw [List.append_assoc, List.getD_eq_getElem?_getD, List.getElem?_append_right (by omega), show (runS ps bs s0).2.2.length + j - (runS ps bs s0).2.2.length = j by omega, List.getElem?_append_left (by simpa [b4] using hj), ← List.getD_eq_getElem?_getD]
    have q0 := hby 0 (by omega)
    have q1 := hby 1 (by omega)
    have q2 := hby 2 (by omega)
    have q3 := hby 3 (by omega)
    rw [Nat.add_zero] at q0
    unfold win
    rw [q0, q1, q2, q3]
    simp only [b4, List.getD_cons_zero, List.getD_cons_succ]
    omega
  refine (back_bits hz ps bs s0 _ hl ha good_s0 ?_ ?_ ?_ (tied_0 _)).2
  · intro i hi
    unfold byt
    rw [List.append_assoc, getD_app_left hi]
  · rw [hwin]; exact Int.le_refl _
  · rw [hwin]; omega
end Go.Proofs.Ytckbiielahgliaa.decP
