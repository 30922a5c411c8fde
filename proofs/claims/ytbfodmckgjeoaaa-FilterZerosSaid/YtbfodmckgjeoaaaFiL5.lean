/- FilterZeros. -/
import Derived.Test.YtbfodmckgjeoaaaFiL2
namespace Go.Proofs.Ytbfodmckgjeoaaa.fiL
set_option maxRecDepth 100000
open Go.RowKit Go.Proofs.Ytbfodmckgjeoaaa.base Go.Proofs.Ytbfodmckgjeoaaa.fiP Go.Proofs.Ytbfodmckgjeoaaa.fiW Go.Proofs.Ytbfodmckgjeoaaa.fiU
set_option linter.unusedVariables false
set_option linter.unusedSimpArgs false
set_option maxRecDepth 100000
theorem ix_tab {c : Int} (h0 : 0 ≤ c) (h1 : c ≤ 255) : (ix tab c : Int) = c := by
  have h := ix_getD (l := tab) (i := c.toNat) tab_full.nd (by rw [tab_len]; omega)
  rw [tab_at (by omega)] at h
  have e : ((c.toNat : Nat) : Int) = c := by omega
  rw [e] at h
  omega
theorem fr_first {b : List Int} (hb : Byt b) (h : 0 < b.length) : (fr tab b).getD 0 0 = b.getD 0 0 := by
  match b, h with
  | c :: r, _ =>
    have hc := hb c (by simp)
    show (ix tab c : Int) = c
    exact ix_tab hc.1 hc.2
theorem fr_next : ∀ {b l : List Int} (i : Nat), Full l → Byt b → i + 1 < b.length → ((fr l b).getD (i + 1) 0 = 0 ↔ b.getD (i + 1) 0 = b.getD i 0)
  | [], l, i, _, _, h => by simp at h
  | [c], l, i, _, _, h => by simp at h
  | c :: d :: r, l, 0, hl, hb, _ => by
    have hc := hb c (by simp)
    have hi := hl.ix hc.1 hc.2
    show ((ix (mv l (ix l c)) d : Int) = 0 ↔ d = c)
    have e : mv l (ix l c) = c :: (l.take (ix l c) ++ l.drop (ix l c + 1)) := by unfold mv; rw [hi.2]
    rw [e, ix]
    by_cases hcd : c = d
    · rw [if_pos hcd]; simp [hcd]
    · rw [if_neg hcd]
      constructor
      · intro h; omega
      · intro h; exact absurd h.symm hcd
  | c :: d :: r, l, i + 1, hl, hb, h => by
    have hc := hb c (by simp)
    have hi := hl.ix hc.1 hc.2
    have := fr_next (b := d :: r) (l := mv l (ix l c)) i (hl.mv hi.1) (fun z hz => hb z (by simp [hz])) (by simpa using h)
    simpa [fr] using this
theorem dl_small {b : List Int} {n i : Nat} (hb : Byt b) (h : i < n) (hi : i < b.length) : (dl b n).getD i 0 = b.getD i 0 := by
  have e : (dl b n).getD i 0 = (b.getD i 0 - bef b n i) % 256 := bld_at _ hi
  have := at_bd hb i
  rw [e]; unfold bef; rw [if_neg (by omega)]; omega
theorem dl_zero {b : List Int} {n i : Nat} (hb : Byt b) (h : n ≤ i) (hi : i < b.length) : (dl b n).getD i 0 = 0 ↔ b.getD i 0 = b.getD (i - n) 0 := by
  have e : (dl b n).getD i 0 = (b.getD i 0 - bef b n i) % 256 := bld_at _ hi
  have h1 := at_bd hb i
  have h2 := at_bd hb (i - n)
  rw [e]; unfold bef; rw [if_pos h]; omega
set_option maxHeartbeats 20000000 in
theorem zeros_law (n : Int) (a : Option Addr) (len cap : Nat) (z : List Int) (w : World) (hn1 : -9223372036854775808 ≤ n) (hn2 : n ≤ 9223372036854775807) (hz : IsRow .u8 w a len cap z) :
    Calls Try.prog 7 #[.int .i64 n, .slice a len cap] w fun e w' => e = .returned (.bool true) ∧ Below w.heap.size w w' := by
  have hin := ib_of hz
  obtain ⟨b, hb⟩ : ∃ b, z.take len = b := ⟨_, rfl⟩
  rw [hb] at hin
  have l9 : (len : Int) ≤ 9223372036854775807 := by have := hin.c1; have := hin.c2; omega
  have HIN := Lib.hid hin
  have HL := Lib.hid hin.e
  clear hz hb hin
  go_enter Try.func7, Try.ntmps7
  go_wp2_with fail
  refine (alive_yes w).mono ?_
  rintro e w1 ⟨rfl, b1⟩
  have HIN := Lib.hid (HIN.out.below b1)
  have HW := Lib.hid b1
  clear b1
  by_cases c1 : n < 1
  · go_wp2_with fail
    go_ret
    exact ⟨rfl, HW.out⟩
  by_cases c2 : 8 < n
  · have c1' : 1 ≤ n := by omega
    clear c1
    go_wp2_with fail
    go_ret
    exact ⟨rfl, HW.out⟩
  by_cases c3 : 300 < len
  · have i3 : (300 : Int) < len := by omega
    clear c3
    go_wp2_with fail
    go_ret
    exact ⟨rfl, HW.out⟩
  have i3 : ¬ (300 : Int) < len := by omega
  obtain ⟨q, rfl⟩ := Int.eq_ofNat_of_zero_le (show 0 ≤ n by omega)
  have HQ : Hid (1 ≤ q ∧ q ≤ 8) := Lib.hid (by omega)
  have HP1 : Hid (oneO (1, (q : Int)) b = some (dl b q)) := Lib.hid (by
    have hok : okF (1, (q : Int)) = true := by have := HQ.out; simp [okF]; omega
    have : oneF (1, (q : Int)) b = dl b q := by simp [oneF]
    rw [← this]; exact if_pos ⟨hok, by rw [HL.out]; omega⟩)
  have HP2 : Hid (oneO (2, 0) b = some (fr tab b)) := Lib.hid (by
    have : oneF (2, 0) b = fr tab b := by simp [oneF]
    rw [← this]; exact if_pos ⟨by decide, by rw [HL.out]; omega⟩)
  have HB1 := Lib.hid (bld_bd (dF_bd b q) b.length)
  have HB2 := Lib.hid (fr_bd tab_full HIN.out.bd)
  have HX1 := Lib.hid (fun i (h : i < q) (hi : i < len) => dl_small (n := q) HIN.out.bd h (by rw [HL.out]; exact hi))
  have HX2 := Lib.hid (fun i (h : q ≤ i) (hi : i < len) => dl_zero (n := q) HIN.out.bd h (by rw [HL.out]; exact hi))
  have HY1 := Lib.hid (fun (h : 0 < len) => fr_first HIN.out.bd (by rw [HL.out]; exact h))
  have HY2 := Lib.hid (fun i (h : i + 1 < len) => fr_next i tab_full HIN.out.bd (by rw [HL.out]; exact h))
  have LD : Hid ((dl b q).length = len) := Lib.hid (by rw [dl, bld_len, HL.out])
  have LF : Hid ((fr tab b).length = len) := Lib.hid (by rw [fr_len, HL.out])
  have HB1 : Hid (Byt (dl b q)) := HB1
  generalize dl b q = x at *
  generalize fr tab b = y at *
  have c1' : 1 ≤ (q : Int) := by omega
  have c2' : ¬ (8 : Int) < q := by omega
  clear c1 c2 c3
  go_wp2_with fail; refine (One_any 1 (q : Int) b a len cap _ HIN.out).mono ?_; rintro e w3 ⟨hres, b2⟩; obtain ⟨A1, c1', rfl, o2⟩ := Res.get hres HP1.out; have HIN := Lib.hid (HIN.out.below b2); have HW := Lib.hid (HW.out.trans ((b2).mono HW.out.size)); have HO1 := Lib.hid (ib_ownz o2 rfl HB1.out); have HBN := Lib.hid b2; clear o2 b2 hres
  rw [LD.out] at HO1 ⊢
  go_wp2_with fail; refine (One_any 2 0 b a len cap _ HIN.out).mono ?_; rintro e w4 ⟨hres, b2⟩; obtain ⟨A2, c2', rfl, o2⟩ := Res.get hres HP2.out; have HIN := Lib.hid (HIN.out.below b2); have HW := Lib.hid (HW.out.trans ((b2).mono HW.out.size)); have HO2 := Lib.hid (ib_ownz o2 rfl HB2.out); have HBN := Lib.hid b2; clear o2 b2 hres
  have HO1 := Lib.hid (HO1.out.below HBN.out)
  rw [LF.out] at HO2 ⊢
  go_wp2_with fail
  go_loopw [10] (fun u wr => ∃ k : Nat, k ≤ len ∧ u = .int .i64 k ∧ Below w4.heap.size w4 wr) (fun u _ => len - (intOf u).toNat)
  case atStart => exact ⟨0, Nat.zero_le _, rfl, Below.refl _ _⟩
  case round =>
    obtain ⟨k, hk, rfl, hb⟩ := hrel
    have HWR := Lib.hid hb
    by_cases hlt : k < len
    · have HLT := Lib.hid hlt
      have k1 : (k : Int) < len := by omega
      have k2 : k < len := hlt
      obtain ⟨bb, off, rfl, -, hc⟩ := in_at HIN.out hb hlt
      obtain ⟨b1, o1, rfl, -, hc1⟩ := in_at HO1.out hb hlt
      obtain ⟨b2, o2, rfl, -, hc2⟩ := in_at HO2.out hb hlt
      have HC := Lib.hid hc
      have HC1 := Lib.hid hc1
      have HC2 := Lib.hid hc2
      have p1 := hc k hlt
      have q1 := hc1 k hlt
      clear hk hb hlt hc hc1 hc2
      by_cases hkq : k < q
      · have i1 : (k : Int) < q := by omega
        rw [HX1.out k hkq HLT.out] at q1
        generalize b.getD k 0 = v at p1 q1
        have m3 : (v != v) = false := by simp
        have g1 : decide ((k : Int) < q) = true := decide_eq_true i1
        have g2 : decide ((q : Int) ≤ k) = false := decide_eq_false (by omega)
        have i2 : ¬ (q : Int) ≤ k := by omega
        have g3 : decide (q ≤ k) = false := decide_eq_false (by omega)
        clear hkq
        go_wp2_with fail
        go_quiet (fail)
        go_wp2_with fail
        (have HC : Hid (∀ j, j < len → (wr.drewN nq).cell? ⟨bb, off + j, none⟩ = some (.int .u8 (b.getD j 0))) := HC); (have HC2 : Hid (∀ j, j < len → (wr.drewN nq).cell? ⟨b2, o2 + j, none⟩ = some (.int .u8 (y.getD j 0))) := HC2); (have HWR : Hid (Below w4.heap.size w4 (wr.drewN nq)) := Lib.hid (below_drewN HWR.out _)); generalize wr.drewN nq = wq at *
        clear p1 q1 i1 i2 g1 g2 g3 m3
        rcases Nat.eq_zero_or_pos k with h0 | hp; (case inl => (subst h0; (have m1 := HC.out 0 HLT.out); (have m2 := HC2.out 0 HLT.out); rw [HY1.out HLT.out] at m2; rw [Nat.add_zero] at m1 m2; (obtain ⟨y1, y2⟩ := at_bd HIN.out.bd 0); generalize b.getD 0 0 = v at *; (have m3 : (v != v) = false := by simp); go_wp2_with fail; go_quiet (fail); go_wp2_with fail; go_roundw; (case rel => exact ⟨0 + 1, HLT.out, by go_num, below_drewN HWR.out _⟩); (case measure => simp [intOf]; have := HLT.out; omega))); (case inr => ((have m1 := HC.out k HLT.out); (have m2 := HC2.out k HLT.out); (obtain ⟨i, hi⟩ : ∃ i, k - 1 = i := ⟨_, rfl⟩); (have hki : k = i + 1 := by omega); (have m3 := HC.out i (by have := HLT.out; omega)); (have m4 : (y.getD k 0 = 0 ↔ b.getD k 0 = b.getD i 0) := by have h := HY2.out i (by have := HLT.out; omega); rw [← hki] at h; exact h); (have m5 : ¬ (k : Int) = 0 := (by omega)); (have m6 : ((k : Int) == 0) = false := by simpa using m5); (have m7 : (0 : Int) < k := (by omega)); (have m8 : IntKind.i64.wrap ((k : Int) - 1) = (i : Int) := by rw [IntWalk.i64_in _ (by omega)]; omega); (have m9 : (i : Int) < len := (by have := HLT.out; omega)); (have m0 : i < len := (by have := HLT.out; omega)); (have mm : (0 : Int) ≤ i := (by omega)); (have n1 : decide ((0 : Int) < k) = true := decide_eq_true m7); (have n2 : decide (0 < k) = true := decide_eq_true hp); (have n4 : ¬ k = 0 := (by omega)); (have n5 : (k == 0) = false := by simpa using n4); clear hi hki; generalize b.getD k 0 = v at *; generalize b.getD i 0 = u at *; generalize y.getD k 0 = t at *; by_cases hvu : v = u; (case pos => ((have ht : t = 0 := m4.2 hvu); subst hvu; subst ht; clear m4; go_wp2_with fail; go_quiet (fail); go_wp2_with fail; go_roundw; (case rel => exact ⟨k + 1, HLT.out, by go_num, below_drewN HWR.out _⟩); (case measure => simp [intOf]; have := HLT.out; omega))); (case neg => ((have ht : ¬ t = 0 := fun h => hvu (m4.1 h)); (have e1 : (v == u) = false := by simpa using hvu); (have e2 : (t == 0) = false := by simpa using ht); clear m4 hvu ht; go_wp2_with fail; go_quiet (fail); go_wp2_with fail; go_roundw; (case rel => exact ⟨k + 1, HLT.out, by go_num, below_drewN HWR.out _⟩); (case measure => simp [intOf]; have := HLT.out; omega)))))
      · have i1 : ¬ (k : Int) < q := by omega
        have i1' : (q : Int) ≤ k := by omega
        have hx := HX2.out k (by omega) HLT.out
        obtain ⟨j, hj⟩ : ∃ j, k - q = j := ⟨_, rfl⟩
        rw [hj] at hx
        have r1 := HC.out j (by have := HLT.out; omega)
        have w1 : IntKind.i64.wrap ((k : Int) - q) = (j : Int) := by rw [IntWalk.i64_in _ (by omega)]; omega
        have j1 : (j : Int) < len := by omega
        have j2 : j < len := by omega
        have j3 : (0 : Int) ≤ j := by omega
        have g1 : decide ((k : Int) < q) = false := decide_eq_false i1
        have g2 : decide ((q : Int) ≤ k) = true := decide_eq_true i1'
        have g3 : decide (q ≤ k) = true := decide_eq_true (by omega)
        generalize hv : b.getD k 0 = v at p1 hx
        generalize hu : b.getD j 0 = u at r1 hx
        generalize ht : x.getD k 0 = t at q1 hx
        by_cases hvu : v = u
        · have h0 : t = 0 := hx.2 hvu
          subst hvu
          subst h0
          clear hx hj hv hu ht
          go_wp2_with fail
          go_quiet (fail)
          go_wp2_with fail
          (have HC : Hid (∀ j, j < len → (wr.drewN nq).cell? ⟨bb, off + j, none⟩ = some (.int .u8 (b.getD j 0))) := HC); (have HC2 : Hid (∀ j, j < len → (wr.drewN nq).cell? ⟨b2, o2 + j, none⟩ = some (.int .u8 (y.getD j 0))) := HC2); (have HWR : Hid (Below w4.heap.size w4 (wr.drewN nq)) := Lib.hid (below_drewN HWR.out _)); generalize wr.drewN nq = wq at *
          clear p1 q1 r1 i1 i1' g1 g2 g3 w1 j1 j2 j3
          rcases Nat.eq_zero_or_pos k with h0 | hp; (case inl => (subst h0; (have m1 := HC.out 0 HLT.out); (have m2 := HC2.out 0 HLT.out); rw [HY1.out HLT.out] at m2; rw [Nat.add_zero] at m1 m2; (obtain ⟨y1, y2⟩ := at_bd HIN.out.bd 0); generalize b.getD 0 0 = v at *; (have m3 : (v != v) = false := by simp); go_wp2_with fail; go_quiet (fail); go_wp2_with fail; go_roundw; (case rel => exact ⟨0 + 1, HLT.out, by go_num, below_drewN HWR.out _⟩); (case measure => simp [intOf]; have := HLT.out; omega))); (case inr => ((have m1 := HC.out k HLT.out); (have m2 := HC2.out k HLT.out); (obtain ⟨i, hi⟩ : ∃ i, k - 1 = i := ⟨_, rfl⟩); (have hki : k = i + 1 := by omega); (have m3 := HC.out i (by have := HLT.out; omega)); (have m4 : (y.getD k 0 = 0 ↔ b.getD k 0 = b.getD i 0) := by have h := HY2.out i (by have := HLT.out; omega); rw [← hki] at h; exact h); (have m5 : ¬ (k : Int) = 0 := (by omega)); (have m6 : ((k : Int) == 0) = false := by simpa using m5); (have m7 : (0 : Int) < k := (by omega)); (have m8 : IntKind.i64.wrap ((k : Int) - 1) = (i : Int) := by rw [IntWalk.i64_in _ (by omega)]; omega); (have m9 : (i : Int) < len := (by have := HLT.out; omega)); (have m0 : i < len := (by have := HLT.out; omega)); (have mm : (0 : Int) ≤ i := (by omega)); (have n1 : decide ((0 : Int) < k) = true := decide_eq_true m7); (have n2 : decide (0 < k) = true := decide_eq_true hp); (have n4 : ¬ k = 0 := (by omega)); (have n5 : (k == 0) = false := by simpa using n4); clear hi hki; generalize b.getD k 0 = v at *; generalize b.getD i 0 = u at *; generalize y.getD k 0 = t at *; by_cases hvu : v = u; (case pos => ((have ht : t = 0 := m4.2 hvu); subst hvu; subst ht; clear m4; go_wp2_with fail; go_quiet (fail); go_wp2_with fail; go_roundw; (case rel => exact ⟨k + 1, HLT.out, by go_num, below_drewN HWR.out _⟩); (case measure => simp [intOf]; have := HLT.out; omega))); (case neg => ((have ht : ¬ t = 0 := fun h => hvu (m4.1 h)); (have e1 : (v == u) = false := by simpa using hvu); (have e2 : (t == 0) = false := by simpa using ht); clear m4 hvu ht; go_wp2_with fail; go_quiet (fail); go_wp2_with fail; go_roundw; (case rel => exact ⟨k + 1, HLT.out, by go_num, below_drewN HWR.out _⟩); (case measure => simp [intOf]; have := HLT.out; omega)))))
        · have h0 : ¬ t = 0 := fun h => hvu (hx.1 h)
          have e1 : (v == u) = false := by simpa using hvu
          have e2 : (t == 0) = false := by simpa using h0
          clear hx hj hv hu ht hvu h0
          go_wp2_with fail
          go_quiet (fail)
          go_wp2_with fail
          (have HC : Hid (∀ j, j < len → (wr.drewN nq).cell? ⟨bb, off + j, none⟩ = some (.int .u8 (b.getD j 0))) := HC); (have HC2 : Hid (∀ j, j < len → (wr.drewN nq).cell? ⟨b2, o2 + j, none⟩ = some (.int .u8 (y.getD j 0))) := HC2); (have HWR : Hid (Below w4.heap.size w4 (wr.drewN nq)) := Lib.hid (below_drewN HWR.out _)); generalize wr.drewN nq = wq at *
          clear p1 q1 r1 i1 i1' g1 g2 g3 w1 j1 j2 j3 e1 e2
          rcases Nat.eq_zero_or_pos k with h0 | hp; (case inl => (subst h0; (have m1 := HC.out 0 HLT.out); (have m2 := HC2.out 0 HLT.out); rw [HY1.out HLT.out] at m2; rw [Nat.add_zero] at m1 m2; (obtain ⟨y1, y2⟩ := at_bd HIN.out.bd 0); generalize b.getD 0 0 = v at *; (have m3 : (v != v) = false := by simp); go_wp2_with fail; go_quiet (fail); go_wp2_with fail; go_roundw; (case rel => exact ⟨0 + 1, HLT.out, by go_num, below_drewN HWR.out _⟩); (case measure => simp [intOf]; have := HLT.out; omega))); (case inr => ((have m1 := HC.out k HLT.out); (have m2 := HC2.out k HLT.out); (obtain ⟨i, hi⟩ : ∃ i, k - 1 = i := ⟨_, rfl⟩); (have hki : k = i + 1 := by omega); (have m3 := HC.out i (by have := HLT.out; omega)); (have m4 : (y.getD k 0 = 0 ↔ b.getD k 0 = b.getD i 0) := by have h := HY2.out i (by have := HLT.out; omega); rw [← hki] at h; exact h); (have m5 : ¬ (k : Int) = 0 := (by omega)); (have m6 : ((k : Int) == 0) = false := by simpa using m5); (have m7 : (0 : Int) < k := (by omega)); (have m8 : IntKind.i64.wrap ((k : Int) - 1) = (i : Int) := by rw [IntWalk.i64_in _ (by omega)]; omega); (have m9 : (i : Int) < len := (by have := HLT.out; omega)); (have m0 : i < len := (by have := HLT.out; omega)); (have mm : (0 : Int) ≤ i := (by omega)); (have n1 : decide ((0 : Int) < k) = true := decide_eq_true m7); (have n2 : decide (0 < k) = true := decide_eq_true hp); (have n4 : ¬ k = 0 := (by omega)); (have n5 : (k == 0) = false := by simpa using n4); clear hi hki; generalize b.getD k 0 = v at *; generalize b.getD i 0 = u at *; generalize y.getD k 0 = t at *; by_cases hvu : v = u; (case pos => ((have ht : t = 0 := m4.2 hvu); subst hvu; subst ht; clear m4; go_wp2_with fail; go_quiet (fail); go_wp2_with fail; go_roundw; (case rel => exact ⟨k + 1, HLT.out, by go_num, below_drewN HWR.out _⟩); (case measure => simp [intOf]; have := HLT.out; omega))); (case neg => ((have ht : ¬ t = 0 := fun h => hvu (m4.1 h)); (have e1 : (v == u) = false := by simpa using hvu); (have e2 : (t == 0) = false := by simpa using ht); clear m4 hvu ht; go_wp2_with fail; go_quiet (fail); go_wp2_with fail; go_roundw; (case rel => exact ⟨k + 1, HLT.out, by go_num, below_drewN HWR.out _⟩); (case measure => simp [intOf]; have := HLT.out; omega)))))
    · obtain rfl : k = len := by omega
      have k1 : ¬ (k : Int) < k := by omega
      clear hk hb hlt
      go_wp2_with fail
      go_ret
      exact ⟨rfl, below_bs HW.out HWR.out⟩
end Go.Proofs.Ytbfodmckgjeoaaa.fiL
