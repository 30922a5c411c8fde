/- Several texts as one: RgW8, RgW9, RgW10, RgW11. -/
import Derived.Test.YtemiecghdmagnaaGH
import Derived.Test.YtemiecghdmagnaaGF
namespace Go.Proofs.Ytemiecghdmagnaa.rgW
set_option maxRecDepth 100000
open Go.RowKit Go.Proofs.Ytemiecghdmagnaa.base Go.Proofs.Ytemiecghdmagnaa.rgP
set_option linter.unusedVariables false
set_option linter.unusedSimpArgs false

theorem last_kinds {r : Rg} {n : Nat} (he : r.b.length = n) (k : Int) (h : lastE r k ≠ 0) : rgOk r = false ∧ lastE r k = 8 ∨ rgOk r = true ∧ lastE r k = 2 ∧ (k < 0 ∨ ¬ k < 0 ∧ (n : Int) < k) ∨ rgOk r = true ∧ lastE r k = 18 ∧ ¬ k < 0 ∧ ¬ (n : Int) < k ∧ r.n < k := by
  unfold lastE at *
  rw [he] at *
  cases hok : rgOk r
  · left; simp
  · right
    rw [hok] at h
    simp only [if_true] at h ⊢
    by_cases c1 : 0 ≤ k ∧ k ≤ (n : Int)
    · rw [if_pos c1] at h ⊢
      by_cases c2 : r.n < k
      · rw [if_pos c2] at h ⊢
        exact .inr ⟨by trivial, by trivial, by omega, by omega, c2⟩
      · rw [if_neg c2] at h; exact absurd rfl h
    · rw [if_neg c1] at h ⊢
      exact .inl ⟨by trivial, by trivial, by omega⟩
set_option maxHeartbeats 2000000 in
theorem Last_bad (r : Rg) (A : Option Addr) (n c : Nat) (k : Int) (w : World) (h : RgIn w A n c r) (hk : lastE r k ≠ 0) :
    Calls Try.prog 64 #[.agg #[.int .i64 (r).l, .slice A n c, .int .i64 (r).n], .int .i64 k] w fun e w' => e = .returned (.tuple #[.slice none 0 0, .int .i64 (lastE r k)]) ∧ Below w.heap.size w w' := by
  have H := Lib.hid h
  have a6 : (n : Int) ≤ 9223372036854775807 := by have := h.c1; have := h.c2; omega
  rcases last_kinds h.e k hk with ⟨h1, h2⟩ | ⟨h1, h2, h3 | ⟨h3, h4⟩⟩ | ⟨h1, h2, h3, h4, h5⟩
  · have e1 : rgE r = 8 := rgE_no h1
    rw [h2]; clear h hk h2 h1
    go_enter Try.func64, Try.ntmps64
    go_wp2_with (first | (go_at_call 33; refine (Check_any r A n c _ (H.out.below (by (repeat' (first | (with_reducible exact Below.refl _ _) | (with_reducible assumption) | (with_reducible refine below_drewN ?_ _) | (with_reducible refine below_new ?_ _) | (with_reducible refine Below.alloc ?_ ?_ _) | (with_reducible refine Below.drew ?_) | (with_reducible refine Below.setCell ?_ ?_ _) | (with_reducible apply below_at; (case k => (with_reducible assumption)); (case hB => omega)) | (with_reducible apply below_on; (with_reducible assumption)) | (go_size; done) | (with_reducible apply size_of)))))).mono ?_; rintro e w1 ⟨rfl, hb1⟩; rw [e1]; have K1 : Lies (w1) (w.heap.size) 26 [.int .i64 (r).l, .slice (A) (n) (c), .int .i64 (r).n] := (by (repeat' (first | (with_reducible assumption) | (with_reducible exact Lies.fresh _ _ _) | (with_reducible apply Lies.fresh_at; (first | (with_reducible rfl) | (simp; done))) | (with_reducible refine Lies.drew ?_) | (with_reducible refine Lies.drewN ?_ _) | (with_reducible refine Lies.alloc ?_ _) | (with_reducible apply Lies.past; case hb => (with_reducible assumption)) | (with_reducible apply Lies.keeps; (case k => (with_reducible assumption)); (case ht => decide)) | (with_reducible apply Lies.store3) | (with_reducible apply Lies.other; case hp => (first | omega | (simp; done) | (simp; omega)))))); obtain ⟨p0, p1, p2, -, -, -⟩ := K1.three))
    go_ret2
    exact ⟨rfl, by (repeat' (first | (with_reducible exact Below.refl _ _) | (with_reducible assumption) | (with_reducible refine below_drewN ?_ _) | (with_reducible refine below_new ?_ _) | (with_reducible refine Below.alloc ?_ ?_ _) | (with_reducible refine Below.drew ?_) | (with_reducible refine Below.setCell ?_ ?_ _) | (with_reducible apply below_at; (case k => (with_reducible assumption)); (case hB => omega)) | (with_reducible apply below_on; (with_reducible assumption)) | (go_size; done) | (with_reducible apply size_of)))⟩
  all_goals
    have e1 : rgE r = 0 := rgE_yes h1
    rw [h2]; clear h hk h2 h1
    go_enter Try.func64, Try.ntmps64
    go_wp2_with (first | (go_at_call 33; refine (Check_any r A n c _ (H.out.below (by (repeat' (first | (with_reducible exact Below.refl _ _) | (with_reducible assumption) | (with_reducible refine below_drewN ?_ _) | (with_reducible refine below_new ?_ _) | (with_reducible refine Below.alloc ?_ ?_ _) | (with_reducible refine Below.drew ?_) | (with_reducible refine Below.setCell ?_ ?_ _) | (with_reducible apply below_at; (case k => (with_reducible assumption)); (case hB => omega)) | (with_reducible apply below_on; (with_reducible assumption)) | (go_size; done) | (with_reducible apply size_of)))))).mono ?_; rintro e w1 ⟨rfl, hb1⟩; rw [e1]; have K1 : Lies (w1) (w.heap.size) 26 [.int .i64 (r).l, .slice (A) (n) (c), .int .i64 (r).n] := (by (repeat' (first | (with_reducible assumption) | (with_reducible exact Lies.fresh _ _ _) | (with_reducible apply Lies.fresh_at; (first | (with_reducible rfl) | (simp; done))) | (with_reducible refine Lies.drew ?_) | (with_reducible refine Lies.drewN ?_ _) | (with_reducible refine Lies.alloc ?_ _) | (with_reducible apply Lies.past; case hb => (with_reducible assumption)) | (with_reducible apply Lies.keeps; (case k => (with_reducible assumption)); (case ht => decide)) | (with_reducible apply Lies.store3) | (with_reducible apply Lies.other; case hp => (first | omega | (simp; done) | (simp; omega)))))); obtain ⟨p0, p1, p2, -, -, -⟩ := K1.three))
    go_ret2
    exact ⟨rfl, by (repeat' (first | (with_reducible exact Below.refl _ _) | (with_reducible assumption) | (with_reducible refine below_drewN ?_ _) | (with_reducible refine below_new ?_ _) | (with_reducible refine Below.alloc ?_ ?_ _) | (with_reducible refine Below.drew ?_) | (with_reducible refine Below.setCell ?_ ?_ _) | (with_reducible apply below_at; (case k => (with_reducible assumption)); (case hB => omega)) | (with_reducible apply below_on; (with_reducible assumption)) | (go_size; done) | (with_reducible apply size_of)))⟩
end Go.Proofs.Ytemiecghdmagnaa.rgW

namespace Go.Proofs.Ytemiecghdmagnaa.rgW
set_option maxRecDepth 100000
open Go.RowKit Go.Proofs.Ytemiecghdmagnaa.base Go.Proofs.Ytemiecghdmagnaa.rgP
set_option linter.unusedVariables false
set_option linter.unusedSimpArgs false

theorem lastL_len (r : Rg) (k : Nat) : (lastL r k).length = k := by simp [lastL]
theorem lastL_get (r : Rg) (k i : Nat) (hi : i < k) (hk : (k : Int) ≤ r.n) : r.b.getD ((r.n - (k : Int) + (i : Int)).toNat % r.b.length) 0 = (lastL r k).getD i 0 := by
  have h : (lastL r k).getD i 0 = ago r ((k : Int) - (i : Int)) := by
    unfold lastL
    simp [List.getD_eq_getElem?_getD, List.getElem?_range hi]
  rw [h, ago, if_neg (by omega), show r.n - ((k : Int) - (i : Int)) = r.n - (k : Int) + (i : Int) by omega]
/-- What has been filled in, and zeros. -/
def fillZ (l : List Int) (i : Nat) : List Int := l.take i ++ List.replicate (l.length - i) 0
theorem fillZ_zero (l : List Int) : fillZ l 0 = List.replicate l.length 0 := by simp [fillZ]
theorem fillZ_all (l : List Int) : fillZ l l.length = l := by simp [fillZ]
theorem fillZ_len (l : List Int) (i : Nat) (hi : i ≤ l.length) : (fillZ l i).length = l.length := by simp [fillZ]; omega
theorem fillZ_set (l : List Int) (i : Nat) (hi : i < l.length) : (fillZ l i).set i (l.getD i 0) = fillZ l (i + 1) := by
  unfold fillZ
  rw [show l.length - i = (l.length - (i + 1)) + 1 by omega, List.replicate_succ, List.set_append_right _ _ (by simp; omega), show i - (l.take i).length = 0 by simp; omega, List.set_cons_zero]
  rw [take_snoc 0 l i hi]
  simp
set_option maxHeartbeats 4000000 in
theorem Last_ok (r : Rg) (A : Option Addr) (n c k : Nat) (w : World) (h : RgIn w A n c r) (hk : lastE r k = 0) :
    Calls Try.prog 64 #[.agg #[.int .i64 (r).l, .slice A n c, .int .i64 (r).n], .int .i64 (k : Int)] w fun e w' => ∃ (A' : Option Addr) (c' : Nat), e = .returned (.tuple #[.slice A' k c', .int .i64 0]) ∧ k ≤ c' ∧ c' ≤ 8192 ∧ Has .u8 w' A' (lastL r k) ∧ Below w.heap.size w w' := by
  have H := Lib.hid h
  have hok : rgOk r = true := by
    cases x : rgOk r
    · rw [lastE, x] at hk; simp at hk
    · rfl
  have e1 : rgE r = 0 := rgE_yes hok
  have HOK := Lib.hid hok
  obtain ⟨a1, a2, a3, a4⟩ := ok_parts h hok
  have he := h.e
  have c1 : (k : Int) ≤ n := by
    rw [lastE, if_pos hok, he] at hk
    by_cases c : 0 ≤ (k : Int) ∧ (k : Int) ≤ (n : Int)
    · exact c.2
    · rw [if_neg c] at hk; simp at hk
  have c2 : (k : Int) ≤ r.n := by
    rw [lastE, if_pos hok, he, if_pos ⟨by omega, c1⟩] at hk
    by_cases c : r.n < k
    · rw [if_pos c] at hk; simp at hk
    · omega
  have HK := Lib.hid (show k ≤ 8192 by omega)
  have k0 : 0 ≤ (k : Int) := by omega
  have k1 : (k : Int) ≤ 8192 := by omega
  have a6 : (n : Int) ≤ 8192 := by omega
  clear h hok a1 a2 he hk
  go_enter Try.func64, Try.ntmps64
  go_wp2_with (first | (go_at_call 33; refine (Check_any r A n c _ (H.out.below (by (repeat' (first | (with_reducible exact Below.refl _ _) | (with_reducible assumption) | (with_reducible refine below_drewN ?_ _) | (with_reducible refine below_new ?_ _) | (with_reducible refine Below.alloc ?_ ?_ _) | (with_reducible refine Below.drew ?_) | (with_reducible refine Below.setCell ?_ ?_ _) | (with_reducible apply below_at; (case k => (with_reducible assumption)); (case hB => omega)) | (with_reducible apply below_on; (with_reducible assumption)) | (go_size; done) | (with_reducible apply size_of)))))).mono ?_; rintro e w1 ⟨rfl, hb1⟩; rw [e1]; have K1 : Lies (w1) (w.heap.size) 26 [.int .i64 (r).l, .slice (A) (n) (c), .int .i64 (r).n] := (by (repeat' (first | (with_reducible assumption) | (with_reducible exact Lies.fresh _ _ _) | (with_reducible apply Lies.fresh_at; (first | (with_reducible rfl) | (simp; done))) | (with_reducible refine Lies.drew ?_) | (with_reducible refine Lies.drewN ?_ _) | (with_reducible refine Lies.alloc ?_ _) | (with_reducible apply Lies.past; case hb => (with_reducible assumption)) | (with_reducible apply Lies.keeps; (case k => (with_reducible assumption)); (case ht => decide)) | (with_reducible apply Lies.store3) | (with_reducible apply Lies.other; case hp => (first | omega | (simp; done) | (simp; omega)))))); obtain ⟨p0, p1, p2, -, -, -⟩ := K1.three) | (at_make; refine make8 rfl _ _ rfl _ _ k rfl rfl (by have := HK.out; omega) (w.heap.size + 1) (by have := K1.lt; omega) ?_; intro wm own hbm))
  obtain ⟨lz, hlz⟩ : ∃ l, lastL r k = l := ⟨_, rfl⟩
  have hll : lz.length = k := by rw [← hlz]; exact lastL_len r k
  have HL := Lib.hid hlz
  have HLL := Lib.hid hll
  have K2 : Lies (wm) (w.heap.size) 26 [.int .i64 (r).l, .slice (A) (n) (c), .int .i64 (r).n] := K1.past hbm
  have HK2 := Lib.hid K2
  have HO : OwnI wm (w.heap.size + 1) 5 .u8 (.slice (some ⟨w1.heap.size, 0, none⟩) k k) (fillZ lz 0) := by rw [fillZ_zero, hll]; exact own
  have HO2 := Lib.hid HO
  have HW : Hid (Below w.heap.size w wm) := Lib.hid (by (repeat' (first | (with_reducible exact Below.refl _ _) | (with_reducible assumption) | (with_reducible refine below_drewN ?_ _) | (with_reducible refine below_new ?_ _) | (with_reducible refine Below.alloc ?_ ?_ _) | (with_reducible refine Below.drew ?_) | (with_reducible refine Below.setCell ?_ ?_ _) | (with_reducible apply below_at; (case k => (with_reducible assumption)); (case hB => omega)) | (with_reducible apply below_on; (with_reducible assumption)) | (go_size; done) | (with_reducible apply size_of))))
  clear K1 p0 p1 p2 K2 HO own hlz hll hbm a3 a4
  generalize w1.heap.size = g at *
  go_loopw [30] (fun i wr => ∃ q : Nat, q ≤ k ∧ i = .int .i64 (q : Int) ∧ (Lies (wr) (w.heap.size) 26 [.int .i64 (r).l, .slice (A) (n) (c), .int .i64 (r).n]) ∧ OwnI wr (w.heap.size + 1) 5 .u8 (.slice (some ⟨g, 0, none⟩) k k) (fillZ lz q) ∧ Below w.heap.size w wr) (fun i _ => k - (intOf i).toNat)
  case atStart => exact ⟨0, Nat.zero_le _, rfl, HK2.out, HO2.out, HW.out⟩
  case round =>
    clear HK2 HO2 HW
    obtain ⟨q, hq, rfl, K, O, acc⟩ := hrel
    have HK3 := Lib.hid K
    have HO3 := Lib.hid O
    have HW3 := Lib.hid acc
    have gb := O.base_le
    have hne : g ≠ w.heap.size := by omega
    obtain ⟨p0, p1, p2, -, -, -⟩ := K.three
    by_cases hlt : q < k
    · obtain ⟨x, hx⟩ : ∃ x, lz.getD q 0 = x := ⟨_, rfl⟩
      have HX : Hid (r.b.getD ((r.n - (k : Int) + (q : Int)).toNat % r.b.length) 0 = x) := Lib.hid (by rw [← hx, ← HL.out]; exact lastL_get r k q hlt c2)
      have HXE := Lib.hid hx
      have HFL : Hid (q < (fillZ lz q).length) := Lib.hid (by rw [fillZ_len _ _ (by rw [HLL.out]; omega), HLL.out]; exact hlt)
      have d1 : 0 ≤ r.n - (k : Int) + (q : Int) := by omega
      have HN := Lib.hid (rgOk_iff r |>.1 HOK.out)
      have d2 : r.n - (k : Int) + (q : Int) ≤ 9223372036854775807 := by have := HN.out.1; omega
      have d3 : r.n ≤ 1073741824 := HN.out.1.2.2.2
      have hq2 : (q : Int) < k := by omega
      have HLT := Lib.hid hlt
      clear K O acc hlt hq hx
      go_wp2_with (first | (go_at_call 54; refine (byNumber_at r A n c _ _ (H.out.below HW3.out) HOK.out d1 d2 _ HX.out).mono ?_; rintro e w2 ⟨rfl, hb2⟩; have HK4 := Lib.hid (HK3.out.past hb2); have O2 := HO3.out.below hb2 (Nat.le_refl _); have hc2 := O2.cell q HFL.out; have hf2 := O2.frozen q; have HO4 := Lib.hid O2; have HW4 := Lib.hid (HW3.out.trans (hb2.mono (Nat.le_of_lt HK3.out.lt))); clear O2; generalize (fillZ lz q).getD q 0 = y at hc2))
      go_roundw
      case rel =>
        refine ⟨q + 1, by have := HLT.out; omega, by go_num, HK4.out.other hne _, ?_, Below.setCell HW4.out (by show w.heap.size ≤ g; omega) _⟩
        have h := HO4.out.store q x
        rw [← HXE.out, fillZ_set lz q (by rw [HLL.out]; exact HLT.out)] at h
        rw [← HXE.out]
        exact h
      case measure => simp [intOf]; omega
    · have he : q = k := by omega
      subst he
      clear K O acc hlt hq
      go_wp2
      go_ret2
      refine ⟨some ⟨g, 0, none⟩, q, rfl, Nat.le_refl _, HK.out, ?_, HW3.out⟩
      have h := HO3.out.has
      have e := fillZ_all lz
      rw [HLL.out] at e
      rw [e] at h
      rw [HL.out]
      exact h
end Go.Proofs.Ytemiecghdmagnaa.rgW

namespace Go.Proofs.Ytemiecghdmagnaa.rgW
set_option maxRecDepth 100000
open Go.RowKit Go.Proofs.Ytemiecghdmagnaa.base Go.Proofs.Ytemiecghdmagnaa.rgP
set_option linter.unusedVariables false
set_option linter.unusedSimpArgs false

theorem last_parts {r : Rg} {A : Option Addr} {n c k : Nat} {w : World} (h : RgIn w A n c r) (hk : lastE r k = 0) : rgOk r = true ∧ 64 ≤ n ∧ n ≤ 8192 ∧ 0 ≤ r.n ∧ r.n ≤ 1073741824 ∧ (k : Int) ≤ n ∧ (k : Int) ≤ r.n := by
  have hok : rgOk r = true := by
    cases x : rgOk r
    · rw [lastE, x] at hk; simp at hk
    · rfl
  obtain ⟨a1, a2, a3, a4⟩ := ok_parts h hok
  have he := h.e
  have c1 : (k : Int) ≤ n := by
    rw [lastE, if_pos hok, he] at hk
    by_cases c : 0 ≤ (k : Int) ∧ (k : Int) ≤ (n : Int)
    · exact c.2
    · rw [if_neg c] at hk; simp at hk
  have c2 : (k : Int) ≤ r.n := by
    rw [lastE, if_pos hok, he, if_pos ⟨by omega, c1⟩] at hk
    by_cases c : r.n < k
    · rw [if_pos c] at hk; simp at hk
    · omega
  exact ⟨hok, a1, a2, a3, a4, c1, c2⟩
theorem lastL_at (r : Rg) (k j : Nat) (hj : j < k) : ago r ((k : Int) - (j : Int)) = (lastL r k).getD j 0 := by
  unfold lastL
  simp [List.getD_eq_getElem?_getD, List.getElem?_range hj]
end Go.Proofs.Ytemiecghdmagnaa.rgW

namespace Go.Proofs.Ytemiecghdmagnaa.rgW
set_option maxRecDepth 100000
open Go.RowKit Go.Proofs.Ytemiecghdmagnaa.base Go.Proofs.Ytemiecghdmagnaa.rgP
set_option linter.unusedVariables false
set_option linter.unusedSimpArgs false

set_option maxHeartbeats 400000 in
theorem great_any (r : Rg) (A : Option Addr) (n c : Nat) (w : World) (m1 : n ≤ 9223372036854775807) :
    Calls Try.prog 8 #[.agg #[.int .i64 (r).l, .slice A n c, .int .i64 (r).n]] w fun e w' => e = .returned (.bool (decide (8300 < n))) ∧ Below w.heap.size w w' := by
  generalize r.l = l
  generalize r.n = m
  by_cases h1 : 8300 < n
  · have g : ((8300 : Int) < (n : Int)) := by omega
    go_enter Try.func8, Try.ntmps8
    go_wp2
    go_ret
    exact ⟨retb (by simp [h1]), by (repeat' (first | (with_reducible exact Below.refl _ _) | (with_reducible assumption) | (with_reducible refine below_drewN ?_ _) | (with_reducible refine below_new ?_ _) | (with_reducible refine Below.alloc ?_ ?_ _) | (with_reducible refine Below.drew ?_) | (with_reducible refine Below.setCell ?_ ?_ _) | (with_reducible apply below_at; (case k => (with_reducible assumption)); (case hB => omega)) | (with_reducible apply below_on; (with_reducible assumption)) | (go_size; done) | (with_reducible apply size_of)))⟩
  · have g : ¬ ((8300 : Int) < (n : Int)) := by omega
    go_enter Try.func8, Try.ntmps8
    go_wp2
    go_ret
    exact ⟨retb (by simp [h1]), by (repeat' (first | (with_reducible exact Below.refl _ _) | (with_reducible assumption) | (with_reducible refine below_drewN ?_ _) | (with_reducible refine below_new ?_ _) | (with_reducible refine Below.alloc ?_ ?_ _) | (with_reducible refine Below.drew ?_) | (with_reducible refine Below.setCell ?_ ?_ _) | (with_reducible apply below_at; (case k => (with_reducible assumption)); (case hB => omega)) | (with_reducible apply below_on; (with_reducible assumption)) | (go_size; done) | (with_reducible apply size_of)))⟩

set_option maxHeartbeats 400000 in
theorem same8_any (A B : Option Addr) (lp ln cp cn : Nat) (ys zs : List Int) (w : World) (hA : Has .u8 w A ys) (eA : ys.length = lp) (hB : Has .u8 w B zs) (eB : zs.length = ln)
    (m1 : lp ≤ 9223372036854775807) (m2 : ln ≤ 9223372036854775807) :
    Calls Try.prog 47 #[.slice A lp cp, .slice B ln cn] w fun e w' => e = .returned (.bool (decide (ys = zs))) ∧ Below w.heap.size w w' := by
  subst eA eB
  by_cases hl : ys.length = zs.length
  · have hl' : ((ys.length : Int)) = (zs.length : Int) := by omega
    rcases hA with h0 | ⟨b, off, rfl, hb, hcA⟩
    · subst h0
      have h1 : zs = [] := List.eq_nil_of_length_eq_zero (by rw [← hl]; rfl)
      subst h1
      clear hB
      go_enter Try.func47, Try.ntmps47
      go_wp2_with fail
      go_loop [5] (fun i => i = .int .i64 0) (fun i => 0)
      case atStart => rfl
      case round =>
        subst hrel
        go_wp2
        go_ret
        exact ⟨rfl, by (repeat' (first | (with_reducible exact Below.refl _ _) | (with_reducible assumption) | (with_reducible refine below_drewN ?_ _) | (with_reducible refine below_new ?_ _) | (with_reducible refine Below.alloc ?_ ?_ _) | (with_reducible refine Below.drew ?_) | (with_reducible refine Below.setCell ?_ ?_ _) | (with_reducible apply below_at; (case k => (with_reducible assumption)); (case hB => omega)) | (with_reducible apply below_on; (with_reducible assumption)) | (go_size; done) | (with_reducible apply size_of)))⟩
    · rcases hB with h0 | ⟨c, off2, rfl, hb2, hcB⟩
      · subst h0
        have h1 : ys = [] := List.eq_nil_of_length_eq_zero (by rw [hl]; rfl)
        subst h1
        clear hcA
        go_enter Try.func47, Try.ntmps47
        go_wp2_with fail
        go_loop [5] (fun i => i = .int .i64 0) (fun i => 0)
        case atStart => rfl
        case round =>
          subst hrel
          go_wp2
          go_ret
          exact ⟨rfl, by (repeat' (first | (with_reducible exact Below.refl _ _) | (with_reducible assumption) | (with_reducible refine below_drewN ?_ _) | (with_reducible refine below_new ?_ _) | (with_reducible refine Below.alloc ?_ ?_ _) | (with_reducible refine Below.drew ?_) | (with_reducible refine Below.setCell ?_ ?_ _) | (with_reducible apply below_at; (case k => (with_reducible assumption)); (case hB => omega)) | (with_reducible apply below_on; (with_reducible assumption)) | (go_size; done) | (with_reducible apply size_of)))⟩
      · have HA := Lib.hid hcA
        have HB := Lib.hid hcB
        have HL := Lib.hid hl
        clear hcA hcB hl
        go_enter Try.func47, Try.ntmps47
        go_wp2_with fail
        clear hl'
        go_loopw [5] (fun i wr => ∃ k : Nat, k ≤ ys.length ∧ i = .int .i64 k ∧ ys.take k = zs.take k ∧ Below w.heap.size w wr) (fun i _ => ys.length - (intOf i).toNat)
        case atStart => exact ⟨0, Nat.zero_le _, rfl, rfl, Below.refl _ _⟩
        case round =>
          obtain ⟨k, hk, rfl, hall, acc⟩ := hrel
          have HE := Lib.hid hall
          clear hall
          by_cases hlt : k < ys.length
          · have hlt2 : k < zs.length := by have := HL.out; omega
            have hca : wr.cell? ⟨b, off + k, none⟩ = some (.int .u8 (ys.getD k 0)) := by rw [(bcell acc).1 b _ hb]; exact HA.out k hlt
            have hcb : wr.cell? ⟨c, off2 + k, none⟩ = some (.int .u8 (zs.getD k 0)) := by rw [(bcell acc).1 c _ hb2]; exact HB.out k hlt2
            have g1 := take_snoc 0 ys k hlt
            have g2 := take_snoc 0 zs k hlt2
            have G1 := Lib.hid g1
            have G2 := Lib.hid g2
            have HN : Hid (ys.getD k 0 ≠ zs.getD k 0 → ys ≠ zs) := Lib.hid fun h1 h2 => h1 (by rw [h2])
            clear g1 g2
            generalize ys.getD k 0 = x at *
            generalize zs.getD k 0 = y at *
            by_cases hxy : x = y
            · subst hxy
              go_wp2
              go_quiet (fail)
              go_wp2
              go_roundw
              case rel => exact ⟨k + 1, by omega, by go_num, by rw [G1.out, G2.out, HE.out], by (repeat' (first | (with_reducible exact Below.refl _ _) | (with_reducible assumption) | (with_reducible refine below_drewN ?_ _) | (with_reducible refine below_new ?_ _) | (with_reducible refine Below.alloc ?_ ?_ _) | (with_reducible refine Below.drew ?_) | (with_reducible refine Below.setCell ?_ ?_ _) | (with_reducible apply below_at; (case k => (with_reducible assumption)); (case hB => omega)) | (with_reducible apply below_on; (with_reducible assumption)) | (go_size; done) | (with_reducible apply size_of)))⟩
              case measure => simp [intOf]; omega
            · have hne : (x == y) = false := by simpa using hxy
              go_wp2
              go_quiet (fail)
              go_wp2
              go_ret
              exact ⟨retb (by simpa using HN.out hxy), by (repeat' (first | (with_reducible exact Below.refl _ _) | (with_reducible assumption) | (with_reducible refine below_drewN ?_ _) | (with_reducible refine below_new ?_ _) | (with_reducible refine Below.alloc ?_ ?_ _) | (with_reducible refine Below.drew ?_) | (with_reducible refine Below.setCell ?_ ?_ _) | (with_reducible apply below_at; (case k => (with_reducible assumption)); (case hB => omega)) | (with_reducible apply below_on; (with_reducible assumption)) | (go_size; done) | (with_reducible apply size_of)))⟩
          · have e1 : ys = zs := by
              have := HE.out
              rw [List.take_of_length_le (by omega), List.take_of_length_le (by have := HL.out; omega)] at this
              exact this
            have HE1 := Lib.hid e1
            clear e1
            go_wp2
            go_ret
            exact ⟨retb (by simpa using HE1.out), by (repeat' (first | (with_reducible exact Below.refl _ _) | (with_reducible assumption) | (with_reducible refine below_drewN ?_ _) | (with_reducible refine below_new ?_ _) | (with_reducible refine Below.alloc ?_ ?_ _) | (with_reducible refine Below.drew ?_) | (with_reducible refine Below.setCell ?_ ?_ _) | (with_reducible apply below_at; (case k => (with_reducible assumption)); (case hB => omega)) | (with_reducible apply below_on; (with_reducible assumption)) | (go_size; done) | (with_reducible apply size_of)))⟩
  · have hl' : ¬ ((ys.length : Int)) = (zs.length : Int) := by omega
    have hl2 : (((ys.length : Int)) == (zs.length : Int)) = false := by simpa using hl'
    clear hA hB
    go_enter Try.func47, Try.ntmps47
    go_wp2
    go_ret
    exact ⟨retb (by simp; intro h; exact hl (by rw [h])), by (repeat' (first | (with_reducible exact Below.refl _ _) | (with_reducible assumption) | (with_reducible refine below_drewN ?_ _) | (with_reducible refine below_new ?_ _) | (with_reducible refine Below.alloc ?_ ?_ _) | (with_reducible refine Below.drew ?_) | (with_reducible refine Below.setCell ?_ ?_ _) | (with_reducible apply below_at; (case k => (with_reducible assumption)); (case hB => omega)) | (with_reducible apply below_on; (with_reducible assumption)) | (go_size; done) | (with_reducible apply size_of)))⟩
end Go.Proofs.Ytemiecghdmagnaa.rgW
