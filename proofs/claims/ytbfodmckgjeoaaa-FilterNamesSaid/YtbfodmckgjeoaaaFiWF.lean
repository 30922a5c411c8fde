/- Filters: One and Back of both, by walks. -/
import Derived.Test.YtbfodmckgjeoaaaFiWE
namespace Go.Proofs.Ytbfodmckgjeoaaa.fiW
set_option maxRecDepth 100000
open Go.RowKit Go.Proofs.Ytbfodmckgjeoaaa.base Go.Proofs.Ytbfodmckgjeoaaa.fiP
set_option linter.unusedVariables false
set_option linter.unusedSimpArgs false
set_option maxRecDepth 100000
def FiAt (w : World) (g : Nat) (k n : Int) : Prop := Lies w g 23 [.int .u8 k, .int .i64 n]
theorem FiAt.past {w w' : World} {g : Nat} {k n : Int} (h : FiAt w g k n) (hb : Below w.heap.size w w') : FiAt w' g k n := Lies.past h hb
theorem FiAt.c0 {w : World} {g : Nat} {k n : Int} (h : FiAt w g k n) : w.cell? ⟨g, 0, none⟩ = some (.int .u8 k) := Lies.cell h 0
theorem FiAt.c1 {w : World} {g : Nat} {k n : Int} (h : FiAt w g k n) : w.cell? ⟨g, 1, none⟩ = some (.int .i64 n) := Lies.cell h 1
theorem fi_new (w : World) (k n : Int) : FiAt (w.alloc (.cells #[.int .u8 k, .int .i64 n] 23)) w.heap.size k n := Lies.fresh _ _ _
theorem fi_box (w : World) (k n : Int) : Below w.heap.size w (w.alloc (.cells #[.int .u8 k, .int .i64 n] 23)) := (Below.refl _ _).alloc (Nat.le_refl _) _
theorem below_bs {w w1 w2 : World} (h : Below w.heap.size w w1) (hb : Below w1.heap.size w1 w2) : Below w.heap.size w w2 := h.trans (hb.mono h.size)
def oneO (f : Int × Int) (b : List Int) : Option (List Int) := if okF f = true ∧ b.length ≤ 10125 then some (oneF f b) else none
def oneE (f : Int × Int) : Int := if okF f = true then 4 else 8
def backO (f : Int × Int) (b : List Int) : Option (List Int) := if okF f = true ∧ b.length ≤ 10125 then backF f b else none
def backE (f : Int × Int) (b : List Int) : Int := if okF f = true then (if b.length ≤ 10125 then 12 else 4) else 8
theorem Res.some {w' : World} {B n : Nat} {s : List Int} {er : Int} {A : Option Addr} {c : Nat} {r : Option (List Int)} (hr : r = some s) (hn : s.length = n) (o : OwnZ w' B (.slice A n c) s) : Res w' B r er (.returned (.tuple #[.slice A n c, .int .i64 0])) := by
  subst hn; exact .inl ⟨s, A, c, hr, rfl, o⟩
theorem Res.none {w' : World} {B : Nat} {er er' : Int} {r : Option (List Int)} (hr : r = Option.none) (he : er' = er) : Res w' B r er (.returned (.tuple #[.slice Option.none 0 0, .int .i64 er'])) := by
  subst he; exact .inr ⟨hr, rfl⟩
theorem Res.mono {w' : World} {B B' : Nat} {r : Option (List Int)} {er : Int} {e : Ending} (h : Res w' B r er e) (hB : B' ≤ B) : Res w' B' r er e := by
  rcases h with ⟨s, A, c, h1, h2, h3⟩ | h
  · refine .inl ⟨s, A, c, h1, h2, ?_⟩
    rcases h3 with h3 | h3
    · exact .inl (h3.mono hB)
    · exact .inr h3
  · exact .inr h
theorem OwnZ.le {w : World} {B B' : Nat} {v : Value} {zs : List Int} (h : OwnZ w B v zs) (hB : B' ≤ B) : OwnZ w B' v zs := by
  rcases h with h3 | h3
  · exact .inl (h3.mono hB)
  · exact .inr h3
/-! ### made, unmade -/

set_option maxHeartbeats 4000000 in
theorem One_any (k n : Int) (b : List Int) (A : Option Addr) (m c : Nat) (w : World) (h : Ib w A m c b) :
    Calls Try.prog 10 #[.agg #[.int .u8 k, .int .i64 n], .slice A m c] w fun e w' => Res w' w.heap.size (oneO (k, n) b) (oneE (k, n)) e ∧ Below w.heap.size w w' := by
  have HH := Lib.hid h
  have hn : b.length = m := h.e
  have HN := Lib.hid hn
  have m9 : (m : Int) ≤ 9223372036854775807 := by have := h.c1; have := h.c2; omega
  clear h hn
  by_cases hok : okF (k, n) = true
  · have HCK : Hid (ckF (k, n) = 0) := Lib.hid (if_pos hok)
    have HOK := Lib.hid hok
    by_cases hm : m ≤ 10125
    · have HO : Hid (oneO (k, n) b = some (oneF (k, n) b)) := Lib.hid (if_pos ⟨hok, by rw [HN.out]; exact hm⟩)
      have HM := Lib.hid hm
      have m8 : (m : Int) ≤ 10125 := by omega
      clear hok hm
      rcases okF_cases HOK.out with ⟨h1, h2, h3⟩ | ⟨h1, h2⟩ | ⟨h1, h2⟩
      · simp only at h1 h2 h3
        obtain ⟨q, rfl⟩ := Int.eq_ofNat_of_zero_le (show 0 ≤ n by omega)
        subst h1
        have HQ : Hid (1 ≤ q ∧ q ≤ 8) := Lib.hid (by omega)
        clear h2 h3
        have HV : Hid (oneF (1, (q : Int)) b = dl b q) := Lib.hid (by simp [oneF])
        have K0 := fi_new w 1 (q : Int)
        have B0 := fi_box w 1 (q : Int)
        go_enter Try.func10, Try.ntmps10
        go_upto_region 1 with fail
        generalize hw0 : (w.alloc (.cells #[.int .u8 1, .int .i64 (q : Int)] 23)) = w0 at *
        have HK0 := Lib.hid K0
        have p0 := K0.c0
        have p1 := K0.c1
        have HB0 := Lib.hid B0
        clear K0 B0 hw0
        go_wp2_with fail
        refine (Check_any 1 (q : Int) _).mono ?_
        rintro e w1 ⟨rfl, hb1⟩
        rw [HCK.out]
        have HK1 := Lib.hid (HK0.out.past hb1)
        have HB1 := Lib.hid (below_bs HB0.out hb1)
        clear hb1 p0 p1
        have p0 := HK1.out.c0
        have p1 := HK1.out.c1
        go_wp2_with (first | (go_at_call 26; refine (differences_any b A m c q _ (HH.out.below HB1.out) (by have := HM.out; omega) HQ.out.1 HQ.out.2).mono ?_; rintro e w2 ⟨A2, c2, rfl, o2, b2⟩; have HO2 := Lib.hid o2; have HB2 := Lib.hid b2; clear o2 b2))
        go_ret2
        exact ⟨Res.some HO.out (by rw [HV.out, dl, bld_len, HN.out]) (OwnZ.le (by rw [HV.out]; exact HO2.out) HB1.out.size), HB1.out.trans (HB2.out.mono HB1.out.size)⟩
      · simp only at h1 h2
        subst h1 h2
        have HV : Hid (oneF (2, 0) b = fr tab b) := Lib.hid (by simp [oneF])
        have K0 := fi_new w 2 0
        have B0 := fi_box w 2 0
        go_enter Try.func10, Try.ntmps10
        go_upto_region 1 with fail
        generalize hw0 : (w.alloc (.cells #[.int .u8 2, .int .i64 0] 23)) = w0 at *
        have HK0 := Lib.hid K0
        have p0 := K0.c0
        have p1 := K0.c1
        have HB0 := Lib.hid B0
        clear K0 B0 hw0
        go_wp2_with fail
        refine (Check_any 2 0 _).mono ?_
        rintro e w1 ⟨rfl, hb1⟩
        rw [HCK.out]
        have HK1 := Lib.hid (HK0.out.past hb1)
        have HB1 := Lib.hid (below_bs HB0.out hb1)
        clear hb1 p0 p1
        have p0 := HK1.out.c0
        have p1 := HK1.out.c1
        go_wp2_with (first | (go_at_call 27; refine (places_any b A m c _ (HH.out.below HB1.out) (by have := HM.out; omega)).mono ?_; rintro e w2 ⟨A2, c2, rfl, o2, b2⟩; have HO2 := Lib.hid o2; have HB2 := Lib.hid b2; clear o2 b2))
        go_ret2
        exact ⟨Res.some HO.out (by rw [HV.out, fr_len, HN.out]) (OwnZ.le (by rw [HV.out]; exact .inl HO2.out) HB1.out.size), HB1.out.trans (HB2.out.mono HB1.out.size)⟩
      · simp only at h1 h2
        subst h1 h2
        have HV : Hid (oneF (3, 0) b = cn b 0) := Lib.hid (by simp [oneF])
        have K0 := fi_new w 3 0
        have B0 := fi_box w 3 0
        go_enter Try.func10, Try.ntmps10
        go_upto_region 1 with fail
        generalize hw0 : (w.alloc (.cells #[.int .u8 3, .int .i64 0] 23)) = w0 at *
        have HK0 := Lib.hid K0
        have p0 := K0.c0
        have p1 := K0.c1
        have HB0 := Lib.hid B0
        clear K0 B0 hw0
        go_wp2_with fail
        refine (Check_any 3 0 _).mono ?_
        rintro e w1 ⟨rfl, hb1⟩
        rw [HCK.out]
        have HK1 := Lib.hid (HK0.out.past hb1)
        have HB1 := Lib.hid (below_bs HB0.out hb1)
        clear hb1 p0 p1
        have p0 := HK1.out.c0
        have p1 := HK1.out.c1
        go_wp2_with (first | (go_at_call 28; refine (runs_any b A m c _ (HH.out.below HB1.out) (by have := HM.out; omega)).mono ?_; rintro e w2 ⟨A2, n2, c2, rfl, hn2, o2, b2⟩; have HN2 := Lib.hid hn2; clear hn2; have HO2 := Lib.hid o2; have HB2 := Lib.hid b2; clear o2 b2))
        go_ret2
        exact ⟨Res.some HO.out (by rw [HV.out, HN2.out]) (OwnZ.le (by rw [HV.out]; exact .inl HO2.out) HB1.out.size), HB1.out.trans (HB2.out.mono HB1.out.size)⟩
    · have HO : Hid (oneO (k, n) b = none) := Lib.hid (if_neg (fun hh => hm (by rw [← HN.out]; exact hh.2)))
      have HE : Hid (4 = oneE (k, n)) := Lib.hid (by simp [oneE, backE, hok, HN.out, hm])
      have m8 : (10125 : Int) < m := by omega
      clear hok hm
      have K0 := fi_new w k n
      have B0 := fi_box w k n
      go_enter Try.func10, Try.ntmps10
      go_upto_region 1 with fail
      generalize hw0 : (w.alloc (.cells #[.int .u8 k, .int .i64 n] 23)) = w0 at *
      have HK0 := Lib.hid K0
      have p0 := K0.c0
      have p1 := K0.c1
      have HB0 := Lib.hid B0
      clear K0 B0 hw0
      go_wp2_with fail
      refine (Check_any k n _).mono ?_
      rintro e w1 ⟨rfl, hb1⟩
      rw [HCK.out]
      have HK1 := Lib.hid (HK0.out.past hb1)
      have HB1 := Lib.hid (below_bs HB0.out hb1)
      clear hb1 p0 p1
      have p0 := HK1.out.c0
      have p1 := HK1.out.c1
      go_wp2_with fail
      go_ret2
      exact ⟨Res.none HO.out HE.out, HB1.out⟩
  · have HCK : Hid (ckF (k, n) = 8) := Lib.hid (if_neg hok)
    have HO : Hid (oneO (k, n) b = none) := Lib.hid (if_neg (fun hh => hok hh.1))
    have HE : Hid (8 = oneE (k, n)) := Lib.hid (by simp [oneE, backE, hok])
    clear hok
    have K0 := fi_new w k n
    have B0 := fi_box w k n
    go_enter Try.func10, Try.ntmps10
    go_upto_region 1 with fail
    generalize hw0 : (w.alloc (.cells #[.int .u8 k, .int .i64 n] 23)) = w0 at *
    have HK0 := Lib.hid K0
    have p0 := K0.c0
    have p1 := K0.c1
    have HB0 := Lib.hid B0
    clear K0 B0 hw0
    go_wp2_with fail
    refine (Check_any k n _).mono ?_
    rintro e w1 ⟨rfl, hb1⟩
    rw [HCK.out]
    have HK1 := Lib.hid (HK0.out.past hb1)
    have HB1 := Lib.hid (below_bs HB0.out hb1)
    clear hb1 p0 p1
    have p0 := HK1.out.c0
    have p1 := HK1.out.c1
    go_wp2_with fail
    go_ret2
    exact ⟨Res.none HO.out HE.out, HB1.out⟩

set_option maxHeartbeats 4000000 in
theorem Back_any (k n : Int) (b : List Int) (A : Option Addr) (m c : Nat) (w : World) (h : Ib w A m c b) :
    Calls Try.prog 12 #[.agg #[.int .u8 k, .int .i64 n], .slice A m c] w fun e w' => Res w' w.heap.size (backO (k, n) b) (backE (k, n) b) e ∧ Below w.heap.size w w' := by
  have HH := Lib.hid h
  have hn : b.length = m := h.e
  have HN := Lib.hid hn
  have m9 : (m : Int) ≤ 9223372036854775807 := by have := h.c1; have := h.c2; omega
  clear h hn
  by_cases hok : okF (k, n) = true
  · have HCK : Hid (ckF (k, n) = 0) := Lib.hid (if_pos hok)
    have HOK := Lib.hid hok
    by_cases hm : m ≤ 10125
    · have HO : Hid (backO (k, n) b = backF (k, n) b) := Lib.hid (if_pos ⟨hok, by rw [HN.out]; exact hm⟩)
      have HM := Lib.hid hm
      have m8 : (m : Int) ≤ 10125 := by omega
      clear hok hm
      rcases okF_cases HOK.out with ⟨h1, h2, h3⟩ | ⟨h1, h2⟩ | ⟨h1, h2⟩
      · simp only at h1 h2 h3
        obtain ⟨q, rfl⟩ := Int.eq_ofNat_of_zero_le (show 0 ≤ n by omega)
        subst h1
        have HQ : Hid (1 ≤ q ∧ q ≤ 8) := Lib.hid (by omega)
        clear h2 h3
        have HV : Hid (backF (1, (q : Int)) b = some (sm b q)) := Lib.hid (by simp [backF])
        have K0 := fi_new w 1 (q : Int)
        have B0 := fi_box w 1 (q : Int)
        go_enter Try.func12, Try.ntmps12
        go_upto_region 1 with fail
        generalize hw0 : (w.alloc (.cells #[.int .u8 1, .int .i64 (q : Int)] 23)) = w0 at *
        have HK0 := Lib.hid K0
        have p0 := K0.c0
        have p1 := K0.c1
        have HB0 := Lib.hid B0
        clear K0 B0 hw0
        go_wp2_with fail
        refine (Check_any 1 (q : Int) _).mono ?_
        rintro e w1 ⟨rfl, hb1⟩
        rw [HCK.out]
        have HK1 := Lib.hid (HK0.out.past hb1)
        have HB1 := Lib.hid (below_bs HB0.out hb1)
        clear hb1 p0 p1
        have p0 := HK1.out.c0
        have p1 := HK1.out.c1
        go_wp2_with (first | (go_at_call 30; refine (sums_any b A m c q _ (HH.out.below HB1.out) (by have := HM.out; omega) HQ.out.1 HQ.out.2).mono ?_; rintro e w2 ⟨A2, c2, rfl, o2, b2⟩; have HO2 := Lib.hid o2; have HB2 := Lib.hid b2; clear o2 b2))
        go_ret2
        exact ⟨Res.some (by rw [HO.out, HV.out]) (by rw [sm, bld_len, HN.out]) (OwnZ.le (HO2.out) HB1.out.size), HB1.out.trans (HB2.out.mono HB1.out.size)⟩
      · simp only at h1 h2
        subst h1 h2
        have HV : Hid (backF (2, 0) b = some (nm tab b)) := Lib.hid (by simp [backF])
        have K0 := fi_new w 2 0
        have B0 := fi_box w 2 0
        go_enter Try.func12, Try.ntmps12
        go_upto_region 1 with fail
        generalize hw0 : (w.alloc (.cells #[.int .u8 2, .int .i64 0] 23)) = w0 at *
        have HK0 := Lib.hid K0
        have p0 := K0.c0
        have p1 := K0.c1
        have HB0 := Lib.hid B0
        clear K0 B0 hw0
        go_wp2_with fail
        refine (Check_any 2 0 _).mono ?_
        rintro e w1 ⟨rfl, hb1⟩
        rw [HCK.out]
        have HK1 := Lib.hid (HK0.out.past hb1)
        have HB1 := Lib.hid (below_bs HB0.out hb1)
        clear hb1 p0 p1
        have p0 := HK1.out.c0
        have p1 := HK1.out.c1
        go_wp2_with (first | (go_at_call 31; refine (moved_any b A m c _ (HH.out.below HB1.out) (by have := HM.out; omega)).mono ?_; rintro e w2 ⟨A2, c2, rfl, o2, b2⟩; have HO2 := Lib.hid o2; have HB2 := Lib.hid b2; clear o2 b2))
        go_ret2
        exact ⟨Res.some (by rw [HO.out, HV.out]) (by rw [nm_len, HN.out]) (OwnZ.le (.inl HO2.out) HB1.out.size), HB1.out.trans (HB2.out.mono HB1.out.size)⟩
      · simp only at h1 h2
        subst h1 h2
        have HV : Hid (backF (3, 0) b = un b ∧ backE (3, 0) b = 12) := Lib.hid ⟨by simp [backF], by simp [backE, HOK.out, HN.out, HM.out]⟩
        have K0 := fi_new w 3 0
        have B0 := fi_box w 3 0
        go_enter Try.func12, Try.ntmps12
        go_upto_region 1 with fail
        generalize hw0 : (w.alloc (.cells #[.int .u8 3, .int .i64 0] 23)) = w0 at *
        have HK0 := Lib.hid K0
        have p0 := K0.c0
        have p1 := K0.c1
        have HB0 := Lib.hid B0
        clear K0 B0 hw0
        go_wp2_with fail
        refine (Check_any 3 0 _).mono ?_
        rintro e w1 ⟨rfl, hb1⟩
        rw [HCK.out]
        have HK1 := Lib.hid (HK0.out.past hb1)
        have HB1 := Lib.hid (below_bs HB0.out hb1)
        clear hb1 p0 p1
        have p0 := HK1.out.c0
        have p1 := HK1.out.c1
        go_wp2_with fail
        refine (unrolled_any b A m c _ (HH.out.below HB1.out) HM.out).mono ?_
        rintro e w2 ⟨⟨s, A2, c2, hs, rfl, o2⟩ | ⟨hs, rfl⟩, b2⟩
        · have HS := Lib.hid hs
          have HO2 := Lib.hid o2
          have HB2 := Lib.hid b2
          clear o2 b2 hs
          go_wp2_with fail
          go_ret2
          exact ⟨Res.some (by rw [HO.out, HV.out.1, HS.out]) rfl (OwnZ.le HO2.out HB1.out.size), HB1.out.trans (HB2.out.mono HB1.out.size)⟩
        · have HS := Lib.hid hs
          have HB2 := Lib.hid b2
          clear b2 hs
          go_wp2_with fail
          go_ret2
          exact ⟨Res.none (by rw [HO.out, HV.out.1, HS.out]) HV.out.2.symm, HB1.out.trans (HB2.out.mono HB1.out.size)⟩
    · have HO : Hid (backO (k, n) b = none) := Lib.hid (if_neg (fun hh => hm (by rw [← HN.out]; exact hh.2)))
      have HE : Hid (4 = backE (k, n) b) := Lib.hid (by simp [oneE, backE, hok, HN.out, hm])
      have m8 : (10125 : Int) < m := by omega
      clear hok hm
      have K0 := fi_new w k n
      have B0 := fi_box w k n
      go_enter Try.func12, Try.ntmps12
      go_upto_region 1 with fail
      generalize hw0 : (w.alloc (.cells #[.int .u8 k, .int .i64 n] 23)) = w0 at *
      have HK0 := Lib.hid K0
      have p0 := K0.c0
      have p1 := K0.c1
      have HB0 := Lib.hid B0
      clear K0 B0 hw0
      go_wp2_with fail
      refine (Check_any k n _).mono ?_
      rintro e w1 ⟨rfl, hb1⟩
      rw [HCK.out]
      have HK1 := Lib.hid (HK0.out.past hb1)
      have HB1 := Lib.hid (below_bs HB0.out hb1)
      clear hb1 p0 p1
      have p0 := HK1.out.c0
      have p1 := HK1.out.c1
      go_wp2_with fail
      go_ret2
      exact ⟨Res.none HO.out HE.out, HB1.out⟩
  · have HCK : Hid (ckF (k, n) = 8) := Lib.hid (if_neg hok)
    have HO : Hid (backO (k, n) b = none) := Lib.hid (if_neg (fun hh => hok hh.1))
    have HE : Hid (8 = backE (k, n) b) := Lib.hid (by simp [oneE, backE, hok])
    clear hok
    have K0 := fi_new w k n
    have B0 := fi_box w k n
    go_enter Try.func12, Try.ntmps12
    go_upto_region 1 with fail
    generalize hw0 : (w.alloc (.cells #[.int .u8 k, .int .i64 n] 23)) = w0 at *
    have HK0 := Lib.hid K0
    have p0 := K0.c0
    have p1 := K0.c1
    have HB0 := Lib.hid B0
    clear K0 B0 hw0
    go_wp2_with fail
    refine (Check_any k n _).mono ?_
    rintro e w1 ⟨rfl, hb1⟩
    rw [HCK.out]
    have HK1 := Lib.hid (HK0.out.past hb1)
    have HB1 := Lib.hid (below_bs HB0.out hb1)
    clear hb1 p0 p1
    have p0 := HK1.out.c0
    have p1 := HK1.out.c1
    go_wp2_with fail
    go_ret2
    exact ⟨Res.none HO.out HE.out, HB1.out⟩

def MadePost (f : Int × Int) (b : List Int) (w w' : World) (e : Ending) : Prop := ∃ A t c, e = .returned (.slice A t c) ∧ (oneF f b).length = t ∧ OwnI w' w.heap.size 5 .u8 (.slice A t c) (oneF f b) ∧ Below w.heap.size w w'
def UnPost (f : Int × Int) (b : List Int) (w w' : World) (e : Ending) : Prop := ∃ A t c zs ok, e = .returned (.tuple #[.slice A t c, .bool ok]) ∧ zs.length = t ∧ OwnI w' w.heap.size 5 .u8 (.slice A t c) zs ∧ (backF f b = if ok = true then some zs else none) ∧ Below w.heap.size w w'

set_option maxHeartbeats 4000000 in
theorem rMade (k n : Int) (b : List Int) (A : Option Addr) (m c : Nat) (w : World) (h : Ib w A m c b) (hok : okF (k, n) = true) (hm : m ≤ 10125) :
    Calls Try.prog 29 #[.agg #[.int .u8 k, .int .i64 n], .slice A m c] w fun e w' => MadePost (k, n) b w w' e := by
  have HH := Lib.hid h
  have hn : b.length = m := h.e
  have HN := Lib.hid hn
  have m8 : (m : Int) ≤ 10125 := by omega
  have HM := Lib.hid hm
  have HOK := Lib.hid hok
  clear h hn hm hok
  rcases okF_cases HOK.out with ⟨h1, h2, h3⟩ | ⟨h1, h2⟩ | ⟨h1, h2⟩
  · simp only at h1 h2 h3
    obtain ⟨q, rfl⟩ := Int.eq_ofNat_of_zero_le (show 0 ≤ n by omega)
    subst h1
    have HQ : Hid (1 ≤ q ∧ q ≤ 8) := Lib.hid (by omega)
    clear h2 h3
    have HV : Hid (oneF (1, (q : Int)) b = dl b q) := Lib.hid (by simp [oneF])
    have K0 := fi_new w 1 (q : Int)
    have B0 := fi_box w 1 (q : Int)
    go_enter Try.func29, Try.ntmps29
    go_upto_region 1 with fail
    generalize hw0 : (w.alloc (.cells #[.int .u8 1, .int .i64 (q : Int)] 23)) = w0 at *
    have HK0 := Lib.hid K0
    have p0 := K0.c0
    have p1 := K0.c1
    have HB0 := Lib.hid B0
    clear K0 B0 hw0
    have HB1 := HB0
    go_wp2_with (first | (go_at_call 41; refine (rDeltas b A m c q _ (HH.out.below HB1.out) (by have := HM.out; omega) HQ.out.1 HQ.out.2).mono ?_; rintro e w2 ⟨A2, c2, rfl, o2, b2⟩; have HO2 := Lib.hid o2; have HB2 := Lib.hid b2; clear o2 b2))
    go_ret
    exact ⟨A2, _, c2, rfl, (by rw [HV.out, dl, bld_len, HN.out]), (by rw [HV.out]; exact HO2.out.mono HB1.out.size), HB1.out.trans (HB2.out.mono HB1.out.size)⟩
  · simp only at h1 h2
    subst h1 h2
    have HV : Hid (oneF (2, 0) b = fr tab b) := Lib.hid (by simp [oneF])
    have K0 := fi_new w 2 0
    have B0 := fi_box w 2 0
    go_enter Try.func29, Try.ntmps29
    go_upto_region 1 with fail
    generalize hw0 : (w.alloc (.cells #[.int .u8 2, .int .i64 0] 23)) = w0 at *
    have HK0 := Lib.hid K0
    have p0 := K0.c0
    have p1 := K0.c1
    have HB0 := Lib.hid B0
    clear K0 B0 hw0
    have HB1 := HB0
    go_wp2_with (first | (go_at_call 42; refine (rFronts b A m c _ (HH.out.below HB1.out) (by have := HM.out; omega)).mono ?_; rintro e w2 ⟨A2, c2, rfl, o2, b2⟩; have HO2 := Lib.hid o2; have HB2 := Lib.hid b2; clear o2 b2))
    go_ret
    exact ⟨A2, _, c2, rfl, (by rw [HV.out, fr_len, HN.out]), (by rw [HV.out]; exact HO2.out.mono HB1.out.size), HB1.out.trans (HB2.out.mono HB1.out.size)⟩
  · simp only at h1 h2
    subst h1 h2
    have HV : Hid (oneF (3, 0) b = cn b 0) := Lib.hid (by simp [oneF])
    have K0 := fi_new w 3 0
    have B0 := fi_box w 3 0
    go_enter Try.func29, Try.ntmps29
    go_upto_region 1 with fail
    generalize hw0 : (w.alloc (.cells #[.int .u8 3, .int .i64 0] 23)) = w0 at *
    have HK0 := Lib.hid K0
    have p0 := K0.c0
    have p1 := K0.c1
    have HB0 := Lib.hid B0
    clear K0 B0 hw0
    have HB1 := HB0
    go_wp2_with (first | (go_at_call 43; refine (rCounted b A m c _ (HH.out.below HB1.out) (by have := HM.out; omega)).mono ?_; rintro e w2 ⟨A2, n2, c2, rfl, hn2, o2, b2⟩; have HN2 := Lib.hid hn2; clear hn2; have HO2 := Lib.hid o2; have HB2 := Lib.hid b2; clear o2 b2))
    go_ret
    exact ⟨A2, _, c2, rfl, (by rw [HV.out, HN2.out]), (by rw [HV.out]; exact HO2.out.mono HB1.out.size), HB1.out.trans (HB2.out.mono HB1.out.size)⟩

set_option maxHeartbeats 4000000 in
theorem rUnmade (k n : Int) (b : List Int) (A : Option Addr) (m c : Nat) (w : World) (h : Ib w A m c b) (hok : okF (k, n) = true) (hm : m ≤ 10125) :
    Calls Try.prog 33 #[.agg #[.int .u8 k, .int .i64 n], .slice A m c] w fun e w' => UnPost (k, n) b w w' e := by
  have HH := Lib.hid h
  have hn : b.length = m := h.e
  have HN := Lib.hid hn
  have m8 : (m : Int) ≤ 10125 := by omega
  have HM := Lib.hid hm
  have HOK := Lib.hid hok
  clear h hn hm hok
  rcases okF_cases HOK.out with ⟨h1, h2, h3⟩ | ⟨h1, h2⟩ | ⟨h1, h2⟩
  · simp only at h1 h2 h3
    obtain ⟨q, rfl⟩ := Int.eq_ofNat_of_zero_le (show 0 ≤ n by omega)
    subst h1
    have HQ : Hid (1 ≤ q ∧ q ≤ 8) := Lib.hid (by omega)
    clear h2 h3
    have HV : Hid (backF (1, (q : Int)) b = some (sm b q)) := Lib.hid (by simp [backF])
    have K0 := fi_new w 1 (q : Int)
    have B0 := fi_box w 1 (q : Int)
    go_enter Try.func33, Try.ntmps33
    go_upto_region 1 with fail
    generalize hw0 : (w.alloc (.cells #[.int .u8 1, .int .i64 (q : Int)] 23)) = w0 at *
    have HK0 := Lib.hid K0
    have p0 := K0.c0
    have p1 := K0.c1
    have HB0 := Lib.hid B0
    clear K0 B0 hw0
    have HB1 := HB0
    go_wp2_with (first | (go_at_call 46; refine (rSums b A m c q _ (HH.out.below HB1.out) (by have := HM.out; omega) HQ.out.1 HQ.out.2).mono ?_; rintro e w2 ⟨A2, c2, rfl, o2, b2⟩; have HO2 := Lib.hid o2; have HB2 := Lib.hid b2; clear o2 b2))
    go_ret2
    exact ⟨A2, _, c2, _, true, rfl, (by rw [sm, bld_len, HN.out]), HO2.out.mono HB1.out.size, by rw [HV.out]; rfl, HB1.out.trans (HB2.out.mono HB1.out.size)⟩
  · simp only at h1 h2
    subst h1 h2
    have HV : Hid (backF (2, 0) b = some (nm tab b)) := Lib.hid (by simp [backF])
    have K0 := fi_new w 2 0
    have B0 := fi_box w 2 0
    go_enter Try.func33, Try.ntmps33
    go_upto_region 1 with fail
    generalize hw0 : (w.alloc (.cells #[.int .u8 2, .int .i64 0] 23)) = w0 at *
    have HK0 := Lib.hid K0
    have p0 := K0.c0
    have p1 := K0.c1
    have HB0 := Lib.hid B0
    clear K0 B0 hw0
    have HB1 := HB0
    go_wp2_with (first | (go_at_call 47; refine (rNamed b A m c _ (HH.out.below HB1.out) (by have := HM.out; omega)).mono ?_; rintro e w2 ⟨A2, c2, rfl, o2, b2⟩; have HO2 := Lib.hid o2; have HB2 := Lib.hid b2; clear o2 b2))
    go_ret2
    exact ⟨A2, _, c2, _, true, rfl, (by rw [nm_len, HN.out]), HO2.out.mono HB1.out.size, by rw [HV.out]; rfl, HB1.out.trans (HB2.out.mono HB1.out.size)⟩
  · simp only at h1 h2
    subst h1 h2
    have HV : Hid (backF (3, 0) b = un b) := Lib.hid (by simp [backF])
    have K0 := fi_new w 3 0
    have B0 := fi_box w 3 0
    go_enter Try.func33, Try.ntmps33
    go_upto_region 1 with fail
    generalize hw0 : (w.alloc (.cells #[.int .u8 3, .int .i64 0] 23)) = w0 at *
    have HK0 := Lib.hid K0
    have p0 := K0.c0
    have p1 := K0.c1
    have HB0 := Lib.hid B0
    clear K0 B0 hw0
    have HB1 := HB0
    go_wp2_with fail
    refine (rSpelled b A m c _ (HH.out.below HB1.out) HM.out).mono ?_
    rintro e w2 ⟨A2, t, c2, zs, rfl, ht, o2, hby, htm, hun, b2⟩
    have HT := Lib.hid ht
    have HO2 := Lib.hid o2
    have HB2 := Lib.hid (HB1.out.trans (b2.mono HB1.out.size))
    have HBY := Lib.hid hby
    have HUN := Lib.hid hun
    have HIN := Lib.hid (HH.out.below HB2.out)
    by_cases h10 : t ≤ 10125
    · have T10 := Lib.hid h10
      have t1 : (t : Int) ≤ 10125 := by omega
      clear ht o2 b2 hby hun h10 htm p0 p1
      go_wp2_with (first | (go_at_call 43; refine (rCounted zs A2 t c2 _ ⟨HO2.out.has, HT.out, (own_cap HO2.out).1, (own_cap HO2.out).2, HBY.out⟩ (by have := T10.out; omega)).mono ?_; rintro e w3 ⟨A3, n3, c3, rfl, hn3, o3, b3⟩; have HN3 := Lib.hid hn3; have HO3 := Lib.hid o3; have HB3 := Lib.hid b3; clear hn3 o3 b3) | (go_at_call 16; refine (sameB_any A3 A n3 m c3 c (cn zs 0) b _ HO3.out.has HN3.out.symm (HIN.out.h.below HB3.out (Nat.le_refl _)) HN.out (by rw [HN3.out]; have := cn_len zs _ 0 rfl; have := HT.out; have := T10.out; omega) (by have := HM.out; omega)).mono ?_; rintro e w4 ⟨rfl, b4⟩; have HB4 := Lib.hid b4; clear b4))
      go_ret2
      exact ⟨A2, t, c2, zs, _, rfl, HT.out, (HO2.out.below (HB3.out.trans (HB4.out.mono HB3.out.size)) (Nat.le_refl _)).mono HB1.out.size, by rw [HV.out, HUN.out]; simp [T10.out], (HB2.out.trans (HB3.out.mono HB2.out.size)).trans (HB4.out.mono (HB2.out.trans (HB3.out.mono HB2.out.size)).size)⟩
    · have T10 := Lib.hid h10
      have t1 : ¬ (t : Int) ≤ 10125 := by omega
      clear ht o2 b2 hby hun h10 htm p0 p1
      go_wp2_with fail
      go_ret2
      exact ⟨A2, t, c2, zs, false, rfl, HT.out, HO2.out.mono HB1.out.size, by rw [HV.out, HUN.out, if_neg (fun hh => T10.out hh.1)]; rfl, HB2.out⟩

set_option maxHeartbeats 4000000 in
theorem rOne_any (k n : Int) (b : List Int) (A : Option Addr) (m c : Nat) (w : World) (h : Ib w A m c b) :
    Calls Try.prog 11 #[.agg #[.int .u8 k, .int .i64 n], .slice A m c] w fun e w' => Res w' w.heap.size (oneO (k, n) b) (oneE (k, n)) e ∧ Below w.heap.size w w' := by
  have HH := Lib.hid h
  have hn : b.length = m := h.e
  have HN := Lib.hid hn
  have m9 : (m : Int) ≤ 9223372036854775807 := by have := h.c1; have := h.c2; omega
  clear h hn
  by_cases hok : okF (k, n) = true
  · have HCK : Hid (ckF (k, n) = 0) := Lib.hid (if_pos hok)
    have HOK := Lib.hid hok
    by_cases hm : m ≤ 10125
    · have HO : Hid (oneO (k, n) b = some (oneF (k, n) b)) := Lib.hid (if_pos ⟨hok, by rw [HN.out]; exact hm⟩)
      have HM := Lib.hid hm
      have m8 : (m : Int) ≤ 10125 := by omega
      clear hok hm
      have K0 := fi_new w k n
      have B0 := fi_box w k n
      go_enter Try.func11, Try.ntmps11
      go_upto_region 1 with fail
      generalize hw0 : (w.alloc (.cells #[.int .u8 k, .int .i64 n] 23)) = w0 at *
      have HK0 := Lib.hid K0
      have p0 := K0.c0
      have p1 := K0.c1
      have HB0 := Lib.hid B0
      clear K0 B0 hw0
      go_wp2_with fail
      refine (rCheck k n _).mono ?_
      rintro e w1 ⟨rfl, hb1⟩
      rw [HCK.out]
      have HK1 := Lib.hid (HK0.out.past hb1)
      have HB1 := Lib.hid (below_bs HB0.out hb1)
      clear hb1 p0 p1
      have p0 := HK1.out.c0
      have p1 := HK1.out.c1
      go_wp2_with fail
      refine (rMade k n b A m c _ (HH.out.below HB1.out) HOK.out HM.out).mono ?_
      rintro e w2 ⟨A2, t2, c2, rfl, ht, o2, b2⟩
      have HT := Lib.hid ht
      have HO2 := Lib.hid o2
      have HB2 := Lib.hid b2
      clear o2 b2
      clear ht
      go_wp2_with fail
      go_ret2
      exact ⟨Res.some HO.out HT.out (.inl (HO2.out.mono HB1.out.size)), HB1.out.trans (HB2.out.mono HB1.out.size)⟩
    · have HO : Hid (oneO (k, n) b = none) := Lib.hid (if_neg (fun hh => hm (by rw [← HN.out]; exact hh.2)))
      have HE : Hid (4 = oneE (k, n)) := Lib.hid (by simp [oneE, backE, hok, HN.out, hm])
      have m8 : (10125 : Int) < m := by omega
      clear hok hm
      have K0 := fi_new w k n
      have B0 := fi_box w k n
      go_enter Try.func11, Try.ntmps11
      go_upto_region 1 with fail
      generalize hw0 : (w.alloc (.cells #[.int .u8 k, .int .i64 n] 23)) = w0 at *
      have HK0 := Lib.hid K0
      have p0 := K0.c0
      have p1 := K0.c1
      have HB0 := Lib.hid B0
      clear K0 B0 hw0
      go_wp2_with fail
      refine (rCheck k n _).mono ?_
      rintro e w1 ⟨rfl, hb1⟩
      rw [HCK.out]
      have HK1 := Lib.hid (HK0.out.past hb1)
      have HB1 := Lib.hid (below_bs HB0.out hb1)
      clear hb1 p0 p1
      have p0 := HK1.out.c0
      have p1 := HK1.out.c1
      go_wp2_with fail
      go_ret2
      exact ⟨Res.none HO.out HE.out, HB1.out⟩
  · have HCK : Hid (ckF (k, n) = 8) := Lib.hid (if_neg hok)
    have HO : Hid (oneO (k, n) b = none) := Lib.hid (if_neg (fun hh => hok hh.1))
    have HE : Hid (8 = oneE (k, n)) := Lib.hid (by simp [oneE, backE, hok])
    clear hok
    have K0 := fi_new w k n
    have B0 := fi_box w k n
    go_enter Try.func11, Try.ntmps11
    go_upto_region 1 with fail
    generalize hw0 : (w.alloc (.cells #[.int .u8 k, .int .i64 n] 23)) = w0 at *
    have HK0 := Lib.hid K0
    have p0 := K0.c0
    have p1 := K0.c1
    have HB0 := Lib.hid B0
    clear K0 B0 hw0
    go_wp2_with fail
    refine (rCheck k n _).mono ?_
    rintro e w1 ⟨rfl, hb1⟩
    rw [HCK.out]
    have HK1 := Lib.hid (HK0.out.past hb1)
    have HB1 := Lib.hid (below_bs HB0.out hb1)
    clear hb1 p0 p1
    have p0 := HK1.out.c0
    have p1 := HK1.out.c1
    go_wp2_with fail
    go_ret2
    exact ⟨Res.none HO.out HE.out, HB1.out⟩

set_option maxHeartbeats 4000000 in
theorem rBack_any (k n : Int) (b : List Int) (A : Option Addr) (m c : Nat) (w : World) (h : Ib w A m c b) :
    Calls Try.prog 13 #[.agg #[.int .u8 k, .int .i64 n], .slice A m c] w fun e w' => Res w' w.heap.size (backO (k, n) b) (backE (k, n) b) e ∧ Below w.heap.size w w' := by
  have HH := Lib.hid h
  have hn : b.length = m := h.e
  have HN := Lib.hid hn
  have m9 : (m : Int) ≤ 9223372036854775807 := by have := h.c1; have := h.c2; omega
  clear h hn
  by_cases hok : okF (k, n) = true
  · have HCK : Hid (ckF (k, n) = 0) := Lib.hid (if_pos hok)
    have HOK := Lib.hid hok
    by_cases hm : m ≤ 10125
    · have HO : Hid (backO (k, n) b = backF (k, n) b) := Lib.hid (if_pos ⟨hok, by rw [HN.out]; exact hm⟩)
      have HM := Lib.hid hm
      have m8 : (m : Int) ≤ 10125 := by omega
      clear hok hm
      have HV : Hid (backE (k, n) b = 12) := Lib.hid (by simp [backE, HOK.out, HN.out, HM.out])
      have K0 := fi_new w k n
      have B0 := fi_box w k n
      go_enter Try.func13, Try.ntmps13
      go_upto_region 1 with fail
      generalize hw0 : (w.alloc (.cells #[.int .u8 k, .int .i64 n] 23)) = w0 at *
      have HK0 := Lib.hid K0
      have p0 := K0.c0
      have p1 := K0.c1
      have HB0 := Lib.hid B0
      clear K0 B0 hw0
      go_wp2_with fail
      refine (rCheck k n _).mono ?_
      rintro e w1 ⟨rfl, hb1⟩
      rw [HCK.out]
      have HK1 := Lib.hid (HK0.out.past hb1)
      have HB1 := Lib.hid (below_bs HB0.out hb1)
      clear hb1 p0 p1
      have p0 := HK1.out.c0
      have p1 := HK1.out.c1
      go_wp2_with fail
      refine (rUnmade k n b A m c _ (HH.out.below HB1.out) HOK.out HM.out).mono ?_
      rintro e w2 ⟨A2, t2, c2, zs, ok, rfl, ht, o2, hv, b2⟩
      have HT := Lib.hid ht
      have HW := Lib.hid hv
      have HO2 := Lib.hid o2
      have HB2 := Lib.hid b2
      clear o2 b2
      clear ht hv
      cases ok
      · go_wp2_with fail
        go_ret2
        exact ⟨Res.none (by rw [HO.out, HW.out]; rfl) HV.out.symm, HB1.out.trans (HB2.out.mono HB1.out.size)⟩
      · go_wp2_with fail
        go_ret2
        exact ⟨Res.some (by rw [HO.out, HW.out]; rfl) HT.out (.inl (HO2.out.mono HB1.out.size)), HB1.out.trans (HB2.out.mono HB1.out.size)⟩
    · have HO : Hid (backO (k, n) b = none) := Lib.hid (if_neg (fun hh => hm (by rw [← HN.out]; exact hh.2)))
      have HE : Hid (4 = backE (k, n) b) := Lib.hid (by simp [oneE, backE, hok, HN.out, hm])
      have m8 : (10125 : Int) < m := by omega
      clear hok hm
      have K0 := fi_new w k n
      have B0 := fi_box w k n
      go_enter Try.func13, Try.ntmps13
      go_upto_region 1 with fail
      generalize hw0 : (w.alloc (.cells #[.int .u8 k, .int .i64 n] 23)) = w0 at *
      have HK0 := Lib.hid K0
      have p0 := K0.c0
      have p1 := K0.c1
      have HB0 := Lib.hid B0
      clear K0 B0 hw0
      go_wp2_with fail
      refine (rCheck k n _).mono ?_
      rintro e w1 ⟨rfl, hb1⟩
      rw [HCK.out]
      have HK1 := Lib.hid (HK0.out.past hb1)
      have HB1 := Lib.hid (below_bs HB0.out hb1)
      clear hb1 p0 p1
      have p0 := HK1.out.c0
      have p1 := HK1.out.c1
      go_wp2_with fail
      go_ret2
      exact ⟨Res.none HO.out HE.out, HB1.out⟩
  · have HCK : Hid (ckF (k, n) = 8) := Lib.hid (if_neg hok)
    have HO : Hid (backO (k, n) b = none) := Lib.hid (if_neg (fun hh => hok hh.1))
    have HE : Hid (8 = backE (k, n) b) := Lib.hid (by simp [oneE, backE, hok])
    clear hok
    have K0 := fi_new w k n
    have B0 := fi_box w k n
    go_enter Try.func13, Try.ntmps13
    go_upto_region 1 with fail
    generalize hw0 : (w.alloc (.cells #[.int .u8 k, .int .i64 n] 23)) = w0 at *
    have HK0 := Lib.hid K0
    have p0 := K0.c0
    have p1 := K0.c1
    have HB0 := Lib.hid B0
    clear K0 B0 hw0
    go_wp2_with fail
    refine (rCheck k n _).mono ?_
    rintro e w1 ⟨rfl, hb1⟩
    rw [HCK.out]
    have HK1 := Lib.hid (HK0.out.past hb1)
    have HB1 := Lib.hid (below_bs HB0.out hb1)
    clear hb1 p0 p1
    have p0 := HK1.out.c0
    have p1 := HK1.out.c1
    go_wp2_with fail
    go_ret2
    exact ⟨Res.none HO.out HE.out, HB1.out⟩
end Go.Proofs.Ytbfodmckgjeoaaa.fiW
