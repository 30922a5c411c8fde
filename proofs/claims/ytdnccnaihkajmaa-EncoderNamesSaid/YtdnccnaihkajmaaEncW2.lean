/- What Check, Put and End return, by walks. -/
import Derived.Test.YtdnccnaihkajmaaEncT
import Derived.Test.YtdnccnaihkajmaaEncPlain3
import Derived.Deep.RegionHeld3
import Derived.Deep.DeepCutAuto
namespace Go.Proofs.Ytdnccnaihkajmaa.encW
open Go.RowKit Go.Proofs.Ytdnccnaihkajmaa.base Go.Proofs.Ytdnccnaihkajmaa.encP
set_option linter.unusedVariables false
set_option linter.unusedSimpArgs false

set_option maxHeartbeats 1000000 in
theorem Check_any (x1 x2 : Int) (A : Option Addr) (n c : Nat) (w : World) (a1 : 0 ≤ x1) (a2 : x1 ≤ 4294967295) (b1 : 0 ≤ x2) (b2 : x2 ≤ 4294967295) (m : n ≤ 9223372036854775807) :
    Calls Try.prog 18 #[.agg #[.int .u32 (x1), .int .u32 (x2), .slice (A) (n) (c)]] w fun e w' => e = .returned (.int .i64 (ckV x1 x2 n)) ∧ Below w.heap.size w w' := by
  by_cases h1 : x1 / 16777216 = x2 / 16777216
  · have HV : Hid (ckV x1 x2 n = 8) := Lib.hid (by simp [ckV, encOk, h1])
    have g1 : (x1 / 16777216 == x2 / 16777216) = true := by simpa using h1
    clear h1
    go_enter Try.func18, Try.ntmps18
    go_wp2
    go_ret
    exact ⟨ret1 (by rw [HV.out]), by (repeat' (first | (with_reducible exact Below.refl _ _) | (with_reducible assumption) | (with_reducible refine below_drewN ?_ _) | (with_reducible refine below_new ?_ _) | (with_reducible refine Below.alloc ?_ ?_ _) | (with_reducible refine Below.drew ?_) | (with_reducible refine Below.setCell ?_ ?_ _) | (with_reducible apply below_at; (case k => (with_reducible assumption)); (case hB => omega)) | (with_reducible apply below_on; (with_reducible assumption)) | (go_size; done) | (with_reducible apply size_of)))⟩
  · have g1 : (x1 / 16777216 == x2 / 16777216) = false := by simpa using h1
    by_cases h2 : x1 < x2
    · by_cases h3 : n ≤ 20000
      · have HV : Hid (ckV x1 x2 n = 0) := Lib.hid (by simp [ckV, encOk, h1, h2, h3])
        clear h1
        go_enter Try.func18, Try.ntmps18
        go_wp2
        go_ret
        exact ⟨ret1 (by rw [HV.out]), by (repeat' (first | (with_reducible exact Below.refl _ _) | (with_reducible assumption) | (with_reducible refine below_drewN ?_ _) | (with_reducible refine below_new ?_ _) | (with_reducible refine Below.alloc ?_ ?_ _) | (with_reducible refine Below.drew ?_) | (with_reducible refine Below.setCell ?_ ?_ _) | (with_reducible apply below_at; (case k => (with_reducible assumption)); (case hB => omega)) | (with_reducible apply below_on; (with_reducible assumption)) | (go_size; done) | (with_reducible apply size_of)))⟩
      · have HV : Hid (ckV x1 x2 n = 8) := Lib.hid (by simp [ckV, encOk, h1, h2, h3])
        clear h1
        go_enter Try.func18, Try.ntmps18
        go_wp2
        go_ret
        exact ⟨ret1 (by rw [HV.out]), by (repeat' (first | (with_reducible exact Below.refl _ _) | (with_reducible assumption) | (with_reducible refine below_drewN ?_ _) | (with_reducible refine below_new ?_ _) | (with_reducible refine Below.alloc ?_ ?_ _) | (with_reducible refine Below.drew ?_) | (with_reducible refine Below.setCell ?_ ?_ _) | (with_reducible apply below_at; (case k => (with_reducible assumption)); (case hB => omega)) | (with_reducible apply below_on; (with_reducible assumption)) | (go_size; done) | (with_reducible apply size_of)))⟩
    · have HV : Hid (ckV x1 x2 n = 8) := Lib.hid (by simp [ckV, encOk, h1, h2])
      clear h1
      go_enter Try.func18, Try.ntmps18
      go_wp2
      go_ret
      exact ⟨ret1 (by rw [HV.out]), by (repeat' (first | (with_reducible exact Below.refl _ _) | (with_reducible assumption) | (with_reducible refine below_drewN ?_ _) | (with_reducible refine below_new ?_ _) | (with_reducible refine Below.alloc ?_ ?_ _) | (with_reducible refine Below.drew ?_) | (with_reducible refine Below.setCell ?_ ?_ _) | (with_reducible apply below_at; (case k => (with_reducible assumption)); (case hB => omega)) | (with_reducible apply below_on; (with_reducible assumption)) | (go_size; done) | (with_reducible apply size_of)))⟩
set_option maxHeartbeats 1000000 in
theorem rCheck_any (x1 x2 : Int) (A : Option Addr) (n c : Nat) (w : World) (a1 : 0 ≤ x1) (a2 : x1 ≤ 4294967295) (b1 : 0 ≤ x2) (b2 : x2 ≤ 4294967295) (m : n ≤ 9223372036854775807) :
    Calls Try.prog 19 #[.agg #[.int .u32 (x1), .int .u32 (x2), .slice (A) (n) (c)]] w fun e w' => e = .returned (.int .i64 (ckV x1 x2 n)) ∧ Below w.heap.size w w' := by
  by_cases h2 : x1 < x2
  · by_cases h1 : x1 / 16777216 = x2 / 16777216
    · have HV : Hid (ckV x1 x2 n = 8) := Lib.hid (by simp [ckV, encOk, h1])
      have g1 : (x1 / 16777216 == x2 / 16777216) = true := by simpa using h1
      clear h1
      go_enter Try.func19, Try.ntmps19
      go_wp2
      go_ret
      exact ⟨ret1 (by rw [HV.out]), by (repeat' (first | (with_reducible exact Below.refl _ _) | (with_reducible assumption) | (with_reducible refine below_drewN ?_ _) | (with_reducible refine below_new ?_ _) | (with_reducible refine Below.alloc ?_ ?_ _) | (with_reducible refine Below.drew ?_) | (with_reducible refine Below.setCell ?_ ?_ _) | (with_reducible apply below_at; (case k => (with_reducible assumption)); (case hB => omega)) | (with_reducible apply below_on; (with_reducible assumption)) | (go_size; done) | (with_reducible apply size_of)))⟩
    · have g1 : (x1 / 16777216 == x2 / 16777216) = false := by simpa using h1
      by_cases h3 : n ≤ 20000
      · have HV : Hid (ckV x1 x2 n = 0) := Lib.hid (by simp [ckV, encOk, h1, h2, h3])
        clear h1
        go_enter Try.func19, Try.ntmps19
        go_wp2
        go_ret
        exact ⟨ret1 (by rw [HV.out]), by (repeat' (first | (with_reducible exact Below.refl _ _) | (with_reducible assumption) | (with_reducible refine below_drewN ?_ _) | (with_reducible refine below_new ?_ _) | (with_reducible refine Below.alloc ?_ ?_ _) | (with_reducible refine Below.drew ?_) | (with_reducible refine Below.setCell ?_ ?_ _) | (with_reducible apply below_at; (case k => (with_reducible assumption)); (case hB => omega)) | (with_reducible apply below_on; (with_reducible assumption)) | (go_size; done) | (with_reducible apply size_of)))⟩
      · have HV : Hid (ckV x1 x2 n = 8) := Lib.hid (by simp [ckV, encOk, h1, h2, h3])
        clear h1
        go_enter Try.func19, Try.ntmps19
        go_wp2
        go_ret
        exact ⟨ret1 (by rw [HV.out]), by (repeat' (first | (with_reducible exact Below.refl _ _) | (with_reducible assumption) | (with_reducible refine below_drewN ?_ _) | (with_reducible refine below_new ?_ _) | (with_reducible refine Below.alloc ?_ ?_ _) | (with_reducible refine Below.drew ?_) | (with_reducible refine Below.setCell ?_ ?_ _) | (with_reducible apply below_at; (case k => (with_reducible assumption)); (case hB => omega)) | (with_reducible apply below_on; (with_reducible assumption)) | (go_size; done) | (with_reducible apply size_of)))⟩
  · have HV : Hid (ckV x1 x2 n = 8) := Lib.hid (by simp [ckV, encOk, h2])
    go_enter Try.func19, Try.ntmps19
    go_wp2
    go_ret
    exact ⟨ret1 (by rw [HV.out]), by (repeat' (first | (with_reducible exact Below.refl _ _) | (with_reducible assumption) | (with_reducible refine below_drewN ?_ _) | (with_reducible refine below_new ?_ _) | (with_reducible refine Below.alloc ?_ ?_ _) | (with_reducible refine Below.drew ?_) | (with_reducible refine Below.setCell ?_ ?_ _) | (with_reducible apply below_at; (case k => (with_reducible assumption)); (case hB => omega)) | (with_reducible apply below_on; (with_reducible assumption)) | (go_size; done) | (with_reducible apply size_of)))⟩
theorem Lies.cells3 {w : World} {g : Nat} {t : TypeId} {a b c : Value} (h : Lies w g t [a, b, c]) : w.cell? ⟨g, 0, none⟩ = some a ∧ w.cell? ⟨g, 1, none⟩ = some b ∧ w.cell? ⟨g, 2, none⟩ = some c := ⟨h.cell 0, h.cell 1, h.cell 2⟩
theorem Split_bad (x1 x2 p : Int) (w : World) (a1 : 0 ≤ x1) (a2 : x1 < x2) (a3 : x2 ≤ 4294967295) (hp : pOk p = false) : Calls Try.prog 9 #[.int .u32 x1, .int .u32 x2, .int .i64 p] w fun e w' => e = .returned (.tuple #[.int .u32 0, .int .i64 2]) ∧ w = w' := by
  have h : ¬ spOk x1 x2 p = true := by simp [spOk, hp]
  have := Split_any x1 x2 p w a1 (by omega) (by omega) a3
  rwa [spV, if_neg h, spE, if_neg h] at this
set_option maxHeartbeats 1000000 in
theorem put_bad (x1 x2 p : Int) (b : Bool) (g : Nat) (v : Value) (w : World) (a1 : 0 ≤ x1) (a2 : x1 < x2) (a3 : x2 ≤ 4294967295) (hp : pOk p = false) (K : Lies w g 25 [.int .u32 x1, .int .u32 x2, v]) :
    Calls Try.prog 29 #[.pointer (some ⟨g, 0, none⟩), .int .i64 p, .bool b] w (fun e w' => e = .returned (.int .i64 2) ∧ ∃ n, w' = w.drewN n) := by
  have HS := Lib.hid (fun W => Split_bad x1 x2 p W a1 a2 a3 hp)
  obtain ⟨p0, p1, p2, f0, f1, f2⟩ := K.three
  clear K hp
  go_enter Try.func29, Try.ntmps29
  go_wp2
  go_step3
  go_wp2
  go_quiet ((go_at_call 9; exact Calls.quiet_of_same (turned (HS.out _))))
  go_wp2
  rw [Exit.noGoto_ret]
  go_ret
  exact ⟨rfl, _, rfl⟩
theorem nx_pair (x1 x2 p : Int) (b : Bool) : ((nx x1 x2 p b).1, (nx x1 x2 p b).2) = if b then (x1, mid x1 x2 p) else (mid x1 x2 p + 1, x2) := by cases b <;> rfl
/-- put, told by the plain words. -/
def PutSays (x1 x2 p : Int) (b : Bool) (g B : Nat) (zs : List Int) (w : World) (e : Ending) (w' : World) : Prop :=
  e = .returned (.int .i64 (if zs.length + (pu x1 x2 p b).2.2.length ≤ 20000 then 0 else 4)) ∧ Below B w w' ∧
    (zs.length + (pu x1 x2 p b).2.2.length ≤ 20000 → ∃ A c, Lies (w') (g) 25 [.int .u32 ((pu x1 x2 p b).1), .int .u32 ((pu x1 x2 p b).2.1), .slice (A) ((zs.length + (pu x1 x2 p b).2.2.length)) (c)] ∧ OwnZ w' B (.slice A (zs.length + (pu x1 x2 p b).2.2.length) c) (zs ++ (pu x1 x2 p b).2.2))
theorem put_any (x1 x2 p : Int) (b : Bool) (g B : Nat) (v : Value) (zs : List Int) (w : World) (a1 : 0 ≤ x1) (a2 : x1 < x2) (a3 : x2 ≤ 4294967295) (hp : pOk p = true) (K : Lies w g 25 [.int .u32 x1, .int .u32 x2, v])
    (ho : OwnZ w B v zs) (hB : B ≤ w.heap.size) (hg : B ≤ g) (hz : zs.length ≤ 20000) :
    Calls Try.prog 29 #[.pointer (some ⟨g, 0, none⟩), .int .i64 p, .bool b] w (PutSays x1 x2 p b g B zs w) := by
  refine (put_t x1 x2 p b g B v zs w a1 a2 a3 hp K ho hB hg hz _ _ (nx_pair x1 x2 p b)).mono ?_
  rintro e w' ⟨rfl, hb, h⟩
  refine ⟨rfl, hb, fun hl => ?_⟩
  obtain ⟨v', K', O'⟩ := h hl
  obtain ⟨A, c, rfl, _, _⟩ := O'.val
  rw [List.length_append] at K' O'
  exact ⟨A, c, K', O'⟩
set_option maxRecDepth 100000 in
set_option maxHeartbeats 2000000 in
theorem Put_any (x1 x2 p : Int) (b : Bool) (A : Option Addr) (n c : Nat) (zs : List Int) (w : World) (a1 : 0 ≤ x1) (a2 : x1 ≤ 4294967295) (b1 : 0 ≤ x2) (b2 : x2 ≤ 4294967295) (hA : Has .u8 w A zs) (hn : zs.length = n) (hc : n ≤ c) (m : n ≤ 140737488355328) :
    Calls Try.prog 11 #[.agg #[.int .u32 (x1), .int .u32 (x2), .slice (A) (n) (c)], .int .i64 p, .bool b] w fun e w' => ∃ A' c', e = .returned (.tuple #[.agg #[.int .u32 ((puV x1 x2 zs p b).1), .int .u32 ((puV x1 x2 zs p b).2.1), .slice (A') ((puV x1 x2 zs p b).2.2.length) (c')], .int .i64 (puE x1 x2 n p b)]) ∧ Has .u8 w' A' (puV x1 x2 zs p b).2.2 ∧ (puV x1 x2 zs p b).2.2.length ≤ c' ∧ Below w.heap.size w w' := by
  have HA := Lib.hid hA
  subst hn
  clear hA
  cases hok : encOk x1 x2 zs.length
  · have E' : ckV x1 x2 zs.length = 8 := by simp [ckV, hok]
    have HE := Lib.hid (puE_bad (x1 := x1) (x2 := x2) p b hok)
    have HVV := Lib.hid (puV_no (x1 := x1) (x2 := x2) (zs := zs) (p := p) (b := b) (by rw [HE.out]; omega))
    clear hok
    go_enter Try.func11, Try.ntmps11
    go_wp2_with (first | (go_at_call 18; refine (Check_any _ _ _ _ _ _ a1 a2 b1 b2 (by omega)).mono ?_; rintro e w1 ⟨rfl, hb⟩; obtain ⟨cl1, fr1⟩ := bcell hb; have sz1 := hb.size; (try simp at sz1); (try have sy1 : w.heap.size + 1 < (w1).heap.size := (by omega)); have sx1 : w.heap.size < (w1).heap.size := (by omega)))
    refine bodyPost_ret (by simp [results, Try.results11, go_sem, cl1, sy1]; try rfl) rfl ?_
    rw [HVV.out, HE.out]
    exact ⟨none, 0, rfl, .inl rfl, by simp, by (repeat' (first | (with_reducible exact Below.refl _ _) | (with_reducible assumption) | (with_reducible refine below_drewN ?_ _) | (with_reducible refine below_new ?_ _) | (with_reducible refine Below.alloc ?_ ?_ _) | (with_reducible refine Below.drew ?_) | (with_reducible refine Below.setCell ?_ ?_ _) | (with_reducible apply below_at; (case k => (with_reducible assumption)); (case hB => omega)) | (with_reducible apply below_on; (with_reducible assumption)) | (go_size; done) | (with_reducible apply size_of)))⟩
  · obtain ⟨q1, q2, q3⟩ := (encOk_iff _ _ _).1 hok
    have E' : ckV x1 x2 zs.length = 0 := by simp [ckV, hok]
    have HOK := Lib.hid hok
    clear hok q1
    go_enter Try.func11, Try.ntmps11
    go_wp2_with (first | (go_at_call 18; refine (Check_any _ _ _ _ _ _ a1 a2 b1 b2 (by omega)).mono ?_; rintro e w1 ⟨rfl, hb⟩; have L1 : Lies (w1) (w.heap.size) 25 [.int .u32 (x1), .int .u32 (x2), .slice (A) (zs.length) (c)] := (by (repeat' (first | (with_reducible assumption) | (with_reducible exact Lies.fresh _ _ _) | (with_reducible apply Lies.fresh_at; (first | (with_reducible rfl) | (simp; done))) | (with_reducible refine Lies.drew ?_) | (with_reducible refine Lies.drewN ?_ _) | (with_reducible refine Lies.alloc ?_ _) | (with_reducible apply Lies.past; case hb => (with_reducible assumption)) | (with_reducible apply Lies.keeps; (case k => (with_reducible assumption)); (case ht => decide)) | (with_reducible apply Lies.store3) | (with_reducible apply Lies.other; case hp => (first | omega | (simp; done) | (simp; omega)))))); have L2 : Lies (w1) (w.heap.size + 1) 25 [.int .u32 (0), .int .u32 (0), .slice (none) (0) (0)] := (by (repeat' (first | (with_reducible assumption) | (with_reducible exact Lies.fresh _ _ _) | (with_reducible apply Lies.fresh_at; (first | (with_reducible rfl) | (simp; done))) | (with_reducible refine Lies.drew ?_) | (with_reducible refine Lies.drewN ?_ _) | (with_reducible refine Lies.alloc ?_ _) | (with_reducible apply Lies.past; case hb => (with_reducible assumption)) | (with_reducible apply Lies.keeps; (case k => (with_reducible assumption)); (case ht => decide)) | (with_reducible apply Lies.store3) | (with_reducible apply Lies.other; case hp => (first | omega | (simp; done) | (simp; omega)))))); have W1 : Below w.heap.size w w1 := (by (repeat' (first | (with_reducible exact Below.refl _ _) | (with_reducible assumption) | (with_reducible refine below_drewN ?_ _) | (with_reducible refine below_new ?_ _) | (with_reducible refine Below.alloc ?_ ?_ _) | (with_reducible refine Below.drew ?_) | (with_reducible refine Below.setCell ?_ ?_ _) | (with_reducible apply below_at; (case k => (with_reducible assumption)); (case hB => omega)) | (with_reducible apply below_on; (with_reducible assumption)) | (go_size; done) | (with_reducible apply size_of)))); have HL1 := Lib.hid L1; have HL2 := Lib.hid L2; have HW1 := Lib.hid W1; obtain ⟨p0, p1, p2, f0, f1, f2⟩ := L1.three; clear hb L1 L2 W1))
    clear p0 p1 p2 f0 f1 f2
    go_upto_region 5 with fail
    go_cut [9] (fun s9 wx => ∃ (g B0 : Nat) (A' : Option Addr) (c' : Nat), s9 = .pointer (some ⟨g, 0, none⟩) ∧ (Lies (wx) (g) 25 [.int .u32 (x1), .int .u32 (x2), .slice (A') (zs.length) (c')]) ∧ OwnZ wx B0 (.slice A' zs.length c') zs ∧ (Lies (wx) (w.heap.size + 1) 25 [.int .u32 (0), .int .u32 (0), .slice (none) (0) (0)]) ∧ Below w.heap.size w wx ∧ w.heap.size + 1 < B0 ∧ B0 ≤ g ∧ B0 ≤ wx.heap.size)
    case first =>
      have lt2 := HL2.out.lt
      go_region_held3 (fun x => x.cell? ⟨w.heap.size, 0, none⟩ = some (.int .u32 x1) ∧ x.cell? ⟨w.heap.size, 1, none⟩ = some (.int .u32 x2) ∧ x.cell? ⟨w.heap.size, 2, none⟩ = some (.slice A zs.length c)) ((exact Lies.cells3 (show Lies (_) (w.heap.size) 25 [.int .u32 (x1), .int .u32 (x2), .slice (A) (zs.length) (c)] from (by have := HL1.out; (repeat' (first | (with_reducible assumption) | (with_reducible exact Lies.fresh _ _ _) | (with_reducible apply Lies.fresh_at; (first | (with_reducible rfl) | (simp; done))) | (with_reducible refine Lies.drew ?_) | (with_reducible refine Lies.drewN ?_ _) | (with_reducible refine Lies.alloc ?_ _) | (with_reducible apply Lies.past; case hb => (with_reducible assumption)) | (with_reducible apply Lies.keeps; (case k => (with_reducible assumption)); (case ht => decide)) | (with_reducible apply Lies.store3) | (with_reducible apply Lies.other; case hp => (first | omega | (simp; done) | (simp; omega)))))))))
        (first | (go_at_call 28; refine (Clone8 (HA.out.below (by have := HW1.out; (repeat' (first | (with_reducible exact Below.refl _ _) | (with_reducible assumption) | (with_reducible refine below_drewN ?_ _) | (with_reducible refine below_new ?_ _) | (with_reducible refine Below.alloc ?_ ?_ _) | (with_reducible refine Below.drew ?_) | (with_reducible refine Below.setCell ?_ ?_ _) | (with_reducible apply below_at; (case k => (with_reducible assumption)); (case hB => omega)) | (with_reducible apply below_on; (with_reducible assumption)) | (go_size; done) | (with_reducible apply size_of)))) (Nat.le_refl _)) rfl hc m).mono ?_; rintro e w3 ⟨A3, c3, rfl, hh3, ho3, hb3⟩; try (refine lay (P := Lies (w3) (w1.heap.size) 25 [.int .u32 (0), .int .u32 (0), .slice (none) (0) (0)]) ?_ ?_; (focus ((repeat' (first | (with_reducible assumption) | (with_reducible exact Lies.fresh _ _ _) | (with_reducible apply Lies.fresh_at; (first | (with_reducible rfl) | (simp; done))) | (with_reducible refine Lies.drew ?_) | (with_reducible refine Lies.drewN ?_ _) | (with_reducible refine Lies.alloc ?_ _) | (with_reducible apply Lies.past; case hb => (with_reducible assumption)) | (with_reducible apply Lies.keeps; (case k => (with_reducible assumption)); (case ht => decide)) | (with_reducible apply Lies.store3) | (with_reducible apply Lies.other; case hp => (first | omega | (simp; done) | (simp; omega))))); done)); intro L9; obtain ⟨b0, b1, b2, g0, g1, g2⟩ := L9.three; have lb := L9.lt)))
      all_goals
        go_wp2_with fail
        go_meet
        have hs1 := HW1.out.size
        have hs2 := HL2.out.lt
        have hs3 := hb3.size
        simp at hs3
      · exact ⟨w3.heap.size, w1.heap.size, A3, c3, rfl, by (repeat' (first | (with_reducible assumption) | (with_reducible exact Lies.fresh _ _ _) | (with_reducible apply Lies.fresh_at; (first | (with_reducible rfl) | (simp; done))) | (with_reducible refine Lies.drew ?_) | (with_reducible refine Lies.drewN ?_ _) | (with_reducible refine Lies.alloc ?_ _) | (with_reducible apply Lies.past; case hb => (with_reducible assumption)) | (with_reducible apply Lies.keeps; (case k => (with_reducible assumption)); (case ht => decide)) | (with_reducible apply Lies.store3) | (with_reducible apply Lies.other; case hp => (first | omega | (simp; done) | (simp; omega))))), (ho3.alloc _).mono (by simp), by have := HL2.out; (repeat' (first | (with_reducible assumption) | (with_reducible exact Lies.fresh _ _ _) | (with_reducible apply Lies.fresh_at; (first | (with_reducible rfl) | (simp; done))) | (with_reducible refine Lies.drew ?_) | (with_reducible refine Lies.drewN ?_ _) | (with_reducible refine Lies.alloc ?_ _) | (with_reducible apply Lies.past; case hb => (with_reducible assumption)) | (with_reducible apply Lies.keeps; (case k => (with_reducible assumption)); (case ht => decide)) | (with_reducible apply Lies.store3) | (with_reducible apply Lies.other; case hp => (first | omega | (simp; done) | (simp; omega))))), by have := HW1.out; (repeat' (first | (with_reducible exact Below.refl _ _) | (with_reducible assumption) | (with_reducible refine below_drewN ?_ _) | (with_reducible refine below_new ?_ _) | (with_reducible refine Below.alloc ?_ ?_ _) | (with_reducible refine Below.drew ?_) | (with_reducible refine Below.setCell ?_ ?_ _) | (with_reducible apply below_at; (case k => (with_reducible assumption)); (case hB => omega)) | (with_reducible apply below_on; (with_reducible assumption)) | (go_size; done) | (with_reducible apply size_of))), by omega, by omega, by simp; omega⟩
      · exact ⟨w1.heap.size, w1.heap.size, A3, c3, rfl, Lies.store3 L9, (((ho3.other L9 (by decide) _ _).other (L9.set 0 _) (by decide) _ _).other ((L9.set 0 _).set 1 _) (by decide) _ _).mono (by simp), by have := HL2.out; (repeat' (first | (with_reducible assumption) | (with_reducible exact Lies.fresh _ _ _) | (with_reducible apply Lies.fresh_at; (first | (with_reducible rfl) | (simp; done))) | (with_reducible refine Lies.drew ?_) | (with_reducible refine Lies.drewN ?_ _) | (with_reducible refine Lies.alloc ?_ _) | (with_reducible apply Lies.past; case hb => (with_reducible assumption)) | (with_reducible apply Lies.keeps; (case k => (with_reducible assumption)); (case ht => decide)) | (with_reducible apply Lies.store3) | (with_reducible apply Lies.other; case hp => (first | omega | (simp; done) | (simp; omega))))), by have := HW1.out; (repeat' (first | (with_reducible exact Below.refl _ _) | (with_reducible assumption) | (with_reducible refine below_drewN ?_ _) | (with_reducible refine below_new ?_ _) | (with_reducible refine Below.alloc ?_ ?_ _) | (with_reducible refine Below.drew ?_) | (with_reducible refine Below.setCell ?_ ?_ _) | (with_reducible apply below_at; (case k => (with_reducible assumption)); (case hB => omega)) | (with_reducible apply below_on; (with_reducible assumption)) | (go_size; done) | (with_reducible apply size_of))), by omega, by omega, by simp [World.setCell]; omega⟩
    case rest =>
      obtain ⟨g, B0, A', c', rfl, L3, O3, L2, W2, hg, hg2, hg3⟩ := hcut
      have HL1 := Lib.hid L3
      have HL2 := Lib.hid L2
      have HO3 := Lib.hid O3
      have HW2 := Lib.hid W2
      have lt3 := L3.lt
      have lt2 := L2.lt
      cases hp : pOk p
      · have HE := Lib.hid (puE_arg (x1 := x1) (x2 := x2) (n := zs.length) (p := p) b HOK.out hp)
        have HVV := Lib.hid (puV_no (x1 := x1) (x2 := x2) (zs := zs) (p := p) (b := b) (by rw [HE.out]; omega))
        have HP := Lib.hid hp
        obtain ⟨p0, p1, p2, f0, f1, f2⟩ := L2.three
        clear hp L2 L3 O3 W2 E'
        go_wp2_with (first | (go_at_call 29; refine (put_bad x1 x2 p b g _ _ a1 q2 b2 HP.out HL1.out).mono ?_; rintro e w4 ⟨rfl, n4, rfl⟩))
        refine bodyPost_ret (by simp [results, Try.results11, go_sem, p0, p1, p2]; try rfl) rfl ?_
        rw [HVV.out, HE.out]
        exact ⟨none, 0, rfl, .inl rfl, by simp, by have := HW2.out; (repeat' (first | (with_reducible exact Below.refl _ _) | (with_reducible assumption) | (with_reducible refine below_drewN ?_ _) | (with_reducible refine below_new ?_ _) | (with_reducible refine Below.alloc ?_ ?_ _) | (with_reducible refine Below.drew ?_) | (with_reducible refine Below.setCell ?_ ?_ _) | (with_reducible apply below_at; (case k => (with_reducible assumption)); (case hB => omega)) | (with_reducible apply below_on; (with_reducible assumption)) | (go_size; done) | (with_reducible apply size_of)))⟩
      · have HE := Lib.hid (puE_ok (x1 := x1) (x2 := x2) (n := zs.length) (p := p) (b := b) HOK.out hp)
        have HP := Lib.hid hp
        clear hp L2 L3 O3 W2 E'
        go_wp2_with fail
        refine (put_any x1 x2 p b g B0 _ zs _ a1 q2 b2 HP.out HL1.out HO3.out hg3 hg2 q3).mono ?_
        rintro e w4 ⟨rfl, hb4, h4⟩
        by_cases hl : zs.length + (pu x1 x2 p b).2.2.length ≤ 20000
        · rw [if_pos hl]
          obtain ⟨A4, c4, K4, O4⟩ := h4 hl
          have HO4 := Lib.hid O4
          have HCL : Hid (zs.length + (pu x1 x2 p b).2.2.length ≤ c4) := Lib.hid (by
            obtain ⟨A5, c5, e5, _, h5⟩ := O4.val
            injection e5 with _ _ e6
            rw [e6]; simpa using h5)
          have HV := Lib.hid (puV_yes (x1 := x1) (x2 := x2) (zs := zs) (p := p) (b := b) (by rw [HE.out, if_pos hl]))
          rw [if_pos hl] at HE
          have KR := HL2.out.below hb4 hg
          obtain ⟨p0, p1, p2, f0, f1, f2⟩ := KR.three
          obtain ⟨q0, q1, q2, g0, g1, g2⟩ := K4.three
          have W4 := HW2.out.trans (hb4.mono (by have := HW2.out.size; omega))
          have lt4 := KR.lt
          have lg4 := K4.lt
          have HKR := Lib.hid KR
          have HW4 := Lib.hid W4
          clear hb4 h4 hl KR K4 O4 W4
          go_wp2
          have KF := (HKR.out.store3 (a := .int .u32 (pu x1 x2 p b).1) (b := .int .u32 (pu x1 x2 p b).2.1) (c := .slice A4 (zs.length + (pu x1 x2 p b).2.2.length) c4)).three
          obtain ⟨r0, r1, r2, _, _, _⟩ := KF
          refine bodyPost_ret (by simp [results, Try.results11, go_sem, r0, r1, r2]; try rfl) rfl ?_
          rw [HV.out, HE.out]
          refine ⟨A4, c4, by simp, (((HO4.out.other HKR.out (by decide) _ _).other (HKR.out.set 0 _) (by decide) _ _).other ((HKR.out.set 0 _).set 1 _) (by decide) _ _).has, by simpa using HCL.out, by have := HW4.out; (repeat' (first | (with_reducible exact Below.refl _ _) | (with_reducible assumption) | (with_reducible refine below_drewN ?_ _) | (with_reducible refine below_new ?_ _) | (with_reducible refine Below.alloc ?_ ?_ _) | (with_reducible refine Below.drew ?_) | (with_reducible refine Below.setCell ?_ ?_ _) | (with_reducible apply below_at; (case k => (with_reducible assumption)); (case hB => omega)) | (with_reducible apply below_on; (with_reducible assumption)) | (go_size; done) | (with_reducible apply size_of)))⟩
        · rw [if_neg hl]
          have HV := Lib.hid (puV_no (x1 := x1) (x2 := x2) (zs := zs) (p := p) (b := b) (by rw [HE.out, if_neg hl]; omega))
          rw [if_neg hl] at HE
          have KR := HL2.out.below hb4 hg
          obtain ⟨p0, p1, p2, f0, f1, f2⟩ := KR.three
          have W4 := HW2.out.trans (hb4.mono (by have := HW2.out.size; omega))
          have lt4 := KR.lt
          have HKR := Lib.hid KR
          have HW4 := Lib.hid W4
          clear hb4 h4 hl KR W4
          go_wp2
          refine bodyPost_ret (by simp [results, Try.results11, go_sem, p0, p1, p2]; try rfl) rfl ?_
          rw [HV.out, HE.out]
          refine ⟨none, 0, rfl, .inl rfl, by simp, by have := HW4.out; (repeat' (first | (with_reducible exact Below.refl _ _) | (with_reducible assumption) | (with_reducible refine below_drewN ?_ _) | (with_reducible refine below_new ?_ _) | (with_reducible refine Below.alloc ?_ ?_ _) | (with_reducible refine Below.drew ?_) | (with_reducible refine Below.setCell ?_ ?_ _) | (with_reducible apply below_at; (case k => (with_reducible assumption)); (case hB => omega)) | (with_reducible apply below_on; (with_reducible assumption)) | (go_size; done) | (with_reducible apply size_of)))⟩
end Go.Proofs.Ytdnccnaihkajmaa.encW
