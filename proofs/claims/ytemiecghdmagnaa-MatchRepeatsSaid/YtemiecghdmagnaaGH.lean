/- Several texts as one: RgW2, RgW3, RgW4, RgW5, RgW6, RgW7. -/
import Derived.Test.YtemiecghdmagnaaRgCount
import Derived.BigQuiet
namespace Go.Proofs.Ytemiecghdmagnaa.rgW
set_option maxRecDepth 100000
open Go.RowKit Go.Proofs.Ytemiecghdmagnaa.base Go.Proofs.Ytemiecghdmagnaa.rgP
set_option linter.unusedVariables false
set_option linter.unusedSimpArgs false

theorem rgE_no {r : Rg} (h : rgOk r = false) : rgE r = 8 := by simp [rgE, h]
theorem rgE_yes {r : Rg} (h : rgOk r = true) : rgE r = 0 := by simp [rgE, h]
theorem shape_no {r : Rg} (h : ¬ (lvB r.l = true ∧ r.b.length = szOf r.l ∧ 0 ≤ r.n ∧ r.n ≤ 1073741824)) : rgOk r = false := by
  cases h' : rgOk r
  · rfl
  · exact absurd ((rgOk_iff r).1 h').1 h
set_option maxHeartbeats 2000000 in
theorem Check_shape (r : Rg) (A : Option Addr) (n c : Nat) (w : World) (h : RgIn w A n c r) (hs : ¬ (lvB r.l = true ∧ r.b.length = szOf r.l ∧ 0 ≤ r.n ∧ r.n ≤ 1073741824)) :
    Calls Try.prog 33 #[.agg #[.int .i64 (r).l, .slice A n c, .int .i64 (r).n]] w fun e w' => e = .returned (.int .i64 8) ∧ Below w.heap.size w w' := by
  have he := h.e
  obtain ⟨l1, l2, n1, n2, -, -, c1, c2, -⟩ := h
  have hn9 : (n : Int) ≤ 9223372036854775807 := by omega
  have HS := Lib.hid hs
  have HC := Lib.hid (And.intro c1 c2)
  have HEN := Lib.hid he
  clear hs c1 c2 he
  cases hl : lvB r.l
  · have HLV : Hid (∀ w : World, Calls Try.prog 48 #[.int .i64 r.l] w fun e w' => e = .returned (.bool false) ∧ w = w') := Lib.hid (fun w => by have := isLevel_any r.l w; rwa [hl] at this)
    clear hl
    generalize r.l = l at *
    generalize r.n = m at *
    go_enter Try.func33, Try.ntmps33
    go_wp2_with fail
    go_quiet ((first | (go_at_call 48; exact Calls.quiet_of_same (turned (HLV.out _)))))
    go_wp2
    go_ret
    exact ⟨rfl, by (repeat' (first | (with_reducible exact Below.refl _ _) | (with_reducible assumption) | (with_reducible refine below_drewN ?_ _) | (with_reducible refine below_new ?_ _) | (with_reducible refine Below.alloc ?_ ?_ _) | (with_reducible refine Below.drew ?_) | (with_reducible refine Below.setCell ?_ ?_ _) | (with_reducible apply below_at; (case k => (with_reducible assumption)); (case hB => omega)) | (with_reducible apply below_on; (with_reducible assumption)) | (go_size; done) | (with_reducible apply size_of)))⟩
  · have HLV : Hid (∀ w : World, Calls Try.prog 48 #[.int .i64 r.l] w fun e w' => e = .returned (.bool true) ∧ w = w') := Lib.hid (fun w => by have := isLevel_any r.l w; rwa [hl] at this)
    have HPL : Hid (∀ w : World, Calls Try.prog 49 #[.int .i64 r.l] w fun e w' => e = .returned (.int .i64 (szOf r.l : Int)) ∧ w = w') := Lib.hid (fun w => places_ok r.l w hl)
    have hsz := sz_bd hl
    have hz1 : (64 : Int) ≤ (szOf r.l : Int) := by omega
    have hz2 : (szOf r.l : Int) ≤ 8192 := by omega
    clear hsz
    by_cases hln : (n : Int) = (szOf r.l : Int)
    · have hbe : ((n : Int) != (szOf r.l : Int)) = false := by simpa using hln
      have hx : r.n < 0 ∨ (0 ≤ r.n ∧ 1073741824 < r.n) := by
        rcases Int.lt_or_le r.n 0 with h | h
        · exact .inl h
        · refine .inr ⟨h, Int.lt_of_not_ge (fun h2 => HS.out ⟨hl, by have := HEN.out; omega, h, h2⟩)⟩
      clear hl hln
      generalize (szOf r.l : Int) = sz at *
      generalize r.l = l at *
      generalize r.n = m at *
      rcases hx with hx | ⟨hx, hy⟩
      · have d1 : decide (m < 0) = true := decide_eq_true hx
        go_enter Try.func33, Try.ntmps33
        go_wp2_with fail
        go_quiet ((first | (go_at_call 48; exact Calls.quiet_of_same (turned (HLV.out _))) | (go_at_call 49; exact Calls.quiet_of_same (turned (HPL.out _)))))
        go_wp2
        go_ret
        exact ⟨rfl, by (repeat' (first | (with_reducible exact Below.refl _ _) | (with_reducible assumption) | (with_reducible refine below_drewN ?_ _) | (with_reducible refine below_new ?_ _) | (with_reducible refine Below.alloc ?_ ?_ _) | (with_reducible refine Below.drew ?_) | (with_reducible refine Below.setCell ?_ ?_ _) | (with_reducible apply below_at; (case k => (with_reducible assumption)); (case hB => omega)) | (with_reducible apply below_on; (with_reducible assumption)) | (go_size; done) | (with_reducible apply size_of)))⟩
      · have d1 : decide (m < 0) = false := by simpa using hx
        have d2 : decide (1073741824 < m) = true := decide_eq_true hy
        go_enter Try.func33, Try.ntmps33
        go_wp2_with fail
        go_quiet ((first | (go_at_call 48; exact Calls.quiet_of_same (turned (HLV.out _))) | (go_at_call 49; exact Calls.quiet_of_same (turned (HPL.out _)))))
        go_wp2
        go_ret
        exact ⟨rfl, by (repeat' (first | (with_reducible exact Below.refl _ _) | (with_reducible assumption) | (with_reducible refine below_drewN ?_ _) | (with_reducible refine below_new ?_ _) | (with_reducible refine Below.alloc ?_ ?_ _) | (with_reducible refine Below.drew ?_) | (with_reducible refine Below.setCell ?_ ?_ _) | (with_reducible apply below_at; (case k => (with_reducible assumption)); (case hB => omega)) | (with_reducible apply below_on; (with_reducible assumption)) | (go_size; done) | (with_reducible apply size_of)))⟩
    · have hbe : ((n : Int) != (szOf r.l : Int)) = true := by simpa using hln
      clear hl
      generalize (szOf r.l : Int) = sz at *
      generalize r.l = l at *
      generalize r.n = m at *
      go_enter Try.func33, Try.ntmps33
      go_wp2_with fail
      go_quiet ((first | (go_at_call 48; exact Calls.quiet_of_same (turned (HLV.out _))) | (go_at_call 49; exact Calls.quiet_of_same (turned (HPL.out _)))))
      go_wp2
      go_ret
      exact ⟨rfl, by (repeat' (first | (with_reducible exact Below.refl _ _) | (with_reducible assumption) | (with_reducible refine below_drewN ?_ _) | (with_reducible refine below_new ?_ _) | (with_reducible refine Below.alloc ?_ ?_ _) | (with_reducible refine Below.drew ?_) | (with_reducible refine Below.setCell ?_ ?_ _) | (with_reducible apply below_at; (case k => (with_reducible assumption)); (case hB => omega)) | (with_reducible apply below_on; (with_reducible assumption)) | (go_size; done) | (with_reducible apply size_of)))⟩
end Go.Proofs.Ytemiecghdmagnaa.rgW

namespace Go.Proofs.Ytemiecghdmagnaa.rgW
set_option maxRecDepth 100000
open Go.RowKit Go.Proofs.Ytemiecghdmagnaa.base Go.Proofs.Ytemiecghdmagnaa.rgP
set_option linter.unusedVariables false
set_option linter.unusedSimpArgs false

theorem rest_iff {b : List Int} {k : Nat} (h : ∀ z ∈ b, 0 ≤ z ∧ z ≤ 255) : zeros (b.drop k) = (b.drop k).length ↔ restB b k = true := by
  rw [zeros_all (fun z hz => h z (List.mem_of_mem_drop hz))]
  unfold restB
  rw [List.all_eq_true]
  simp
set_option maxHeartbeats 4000000 in
theorem Check_good (r : Rg) (A : Option Addr) (n c : Nat) (w : World) (h : RgIn w A n c r) (hl : lvB r.l = true) (hsz : r.b.length = szOf r.l) (n0 : 0 ≤ r.n) (nm : r.n ≤ 1073741824) :
    Calls Try.prog 33 #[.agg #[.int .i64 (r).l, .slice A n c, .int .i64 (r).n]] w fun e w' => e = .returned (.int .i64 (rgE r)) ∧ Below w.heap.size w w' := by
  have hs := sz_bd hl
  have HLV : Hid (∀ w : World, Calls Try.prog 48 #[.int .i64 r.l] w fun e w' => e = .returned (.bool true) ∧ w = w') := Lib.hid (fun w => by have := isLevel_any r.l w; rwa [hl] at this)
  have HPL : Hid (∀ w : World, Calls Try.prog 49 #[.int .i64 r.l] w fun e w' => e = .returned (.int .i64 (n : Int)) ∧ w = w') := Lib.hid (fun w => by rw [← h.e, hsz]; exact places_ok r.l w hl)
  obtain ⟨k, hk⟩ : ∃ k : Nat, r.n = k := ⟨r.n.toNat, by omega⟩
  obtain ⟨m, hm, hmn⟩ : ∃ m : Nat, m = min k n ∧ m ≤ n := ⟨min k n, rfl, Nat.min_le_right _ _⟩
  have hdrop : restB r.b r.n.toNat = restB r.b m := by
    rw [hk, Int.toNat_natCast]
    rcases Nat.le_total k n with h1 | h1
    · rw [hm, Nat.min_eq_left h1]
    · rw [hm, Nat.min_eq_right h1]
      have e1 : r.b.drop k = [] := List.drop_eq_nil_of_le (by rw [h.e]; exact h1)
      have e2 : r.b.drop n = [] := List.drop_eq_nil_of_le (by rw [h.e]; exact Nat.le_refl _)
      unfold restB; rw [e1, e2]
  have HE : Hid (rgE r = if zeros (r.b.drop m) = (r.b.drop m).length then 0 else 8) := Lib.hid (by
    have hsh : rgShape r = true := (rgShape_iff r).2 ⟨hl, hsz, n0, nm⟩
    unfold rgE rgOk
    rw [hsh, hdrop, Bool.true_and]
    by_cases hz : restB r.b m = true
    · rw [if_pos hz, if_pos ((rest_iff h.b).2 hz)]
    · rw [if_neg hz, if_neg (fun hh => hz ((rest_iff h.b).1 hh))])
  have hcut := h.h.cut (n := m) (by rw [h.e]; exact hmn) (by rw [h.e]; exact h.c1)
  have hdl : (r.b.drop m).length = n - m := by rw [List.length_drop, h.e]
  have c1 := h.c1
  have c2 := h.c2
  have hn9 : (n : Int) ≤ 8192 := by have := h.e; omega
  have hmk : (if (n : Int) < (k : Int) then (n : Int) else (k : Int)) = (m : Int) := by rw [hm]; split <;> omega
  have HMIN : Hid ((min (k : Int) (n : Int)).toNat = m) := Lib.hid (by rw [hm]; omega)
  have hmi : (m : Int) ≤ n := by omega
  have hnc : (n : Int) ≤ c := by omega
  have hc9 : (c : Int) ≤ 9223372036854775807 := by omega
  have hmc : m ≤ c := by omega
  have d1 : decide (r.n < 0) = false := by simpa using n0
  have d2 : decide (1073741824 < r.n) = false := by simpa using nm
  have HDL := Lib.hid hdl
  have HMN := Lib.hid hmn
  rw [hk] at d1 d2 n0 nm ⊢
  have HB := Lib.hid h.b
  clear h hl hsz hs hdrop hm hdl hmn c2 hk
  generalize r.l = l at *
  generalize r.b.drop m = xs at *
  have HX : Hid (zeros xs ≤ 9223372036854775807) := Lib.hid (by have : zeros xs ≤ xs.length := by unfold zeros Lib.countByte; rw [← Lib.bytesOf_length xs]; exact List.count_le_length
                                                                have := HDL.out; omega)
  have hbe : ((n : Int) != (n : Int)) = false := by simp
  by_cases hcm : c = m
  all_goals
    first
    | rw [if_pos hcm] at hcut
    | (rw [if_neg hcm] at hcut; generalize hA2 : Option.map (fun x => x.add m) A = A2 at hcut)
    have HCUT := Lib.hid hcut
    clear hcut c1
    by_cases hz : zeros xs = n - m
    · have HV : Hid (rgE r = 0) := Lib.hid (by rw [HE.out, if_pos (by rw [HDL.out]; exact hz)])
      have hze : ((zeros xs : Int) != ((n - m : Nat) : Int)) = false := by simp [hz]
      clear hz
      obtain ⟨zx, hzx⟩ : ∃ zx : Int, (zeros xs : Int) = zx := ⟨_, rfl⟩
      have HZEQ := Lib.hid hzx
      rw [hzx] at hze
      clear hzx
      go_enter Try.func33, Try.ntmps33
      go_wp2_with fail
      go_quiet ((first | (go_at_call 48; exact Calls.quiet_of_same (turned (HLV.out _))) | (go_at_call 49; exact Calls.quiet_of_same (turned (HPL.out _)))))
      go_wp2_with fail
      rw [HMIN.out]
      try rw [hA2]
      refine (Count_any _ (n - m) _ (w.heap.size + 1) 1 xs _ (HCUT.out.below (by (repeat' (first | (with_reducible exact Below.refl _ _) | (with_reducible assumption) | (with_reducible refine below_drewN ?_ _) | (with_reducible refine below_new ?_ _) | (with_reducible refine Below.alloc ?_ ?_ _) | (with_reducible refine Below.drew ?_) | (with_reducible refine Below.setCell ?_ ?_ _) | (with_reducible apply below_at; (case k => (with_reducible assumption)); (case hB => omega)) | (with_reducible apply below_on; (with_reducible assumption)) | (go_size; done) | (with_reducible apply size_of)))) (Nat.le_refl _)) HDL.out ((show Lies _ (w.heap.size + 1) 5 [.int .u8 0] from (by (repeat' (first | (with_reducible assumption) | (with_reducible exact Lies.fresh _ _ _) | (with_reducible apply Lies.fresh_at; (first | (with_reducible rfl) | (simp; done))) | (with_reducible refine Lies.drew ?_) | (with_reducible refine Lies.drewN ?_ _) | (with_reducible refine Lies.alloc ?_ _) | (with_reducible apply Lies.past; case hb => (with_reducible assumption)) | (with_reducible apply Lies.keeps; (case k => (with_reducible assumption)); (case ht => decide)) | (with_reducible apply Lies.store3) | (with_reducible apply Lies.other; case hp => (first | omega | (simp; done) | (simp; omega))))))).cell 0)).mono ?_
      rintro e w1 ⟨rfl, rfl⟩
      have HZX := HZEQ.out
      try rw [HZX]
      go_wp2_with fail
      go_ret
      exact ⟨ret1 HV.out.symm, by (repeat' (first | (with_reducible exact Below.refl _ _) | (with_reducible assumption) | (with_reducible refine below_drewN ?_ _) | (with_reducible refine below_new ?_ _) | (with_reducible refine Below.alloc ?_ ?_ _) | (with_reducible refine Below.drew ?_) | (with_reducible refine Below.setCell ?_ ?_ _) | (with_reducible apply below_at; (case k => (with_reducible assumption)); (case hB => omega)) | (with_reducible apply below_on; (with_reducible assumption)) | (go_size; done) | (with_reducible apply size_of)))⟩
    · have HV : Hid (rgE r = 8) := Lib.hid (by rw [HE.out, if_neg (by rw [HDL.out]; exact hz)])
      have hze : ((zeros xs : Int) != ((n - m : Nat) : Int)) = true := by simp; omega
      clear hz
      obtain ⟨zx, hzx⟩ : ∃ zx : Int, (zeros xs : Int) = zx := ⟨_, rfl⟩
      have HZEQ := Lib.hid hzx
      rw [hzx] at hze
      clear hzx
      go_enter Try.func33, Try.ntmps33
      go_wp2_with fail
      go_quiet ((first | (go_at_call 48; exact Calls.quiet_of_same (turned (HLV.out _))) | (go_at_call 49; exact Calls.quiet_of_same (turned (HPL.out _)))))
      go_wp2_with fail
      rw [HMIN.out]
      try rw [hA2]
      refine (Count_any _ (n - m) _ (w.heap.size + 1) 1 xs _ (HCUT.out.below (by (repeat' (first | (with_reducible exact Below.refl _ _) | (with_reducible assumption) | (with_reducible refine below_drewN ?_ _) | (with_reducible refine below_new ?_ _) | (with_reducible refine Below.alloc ?_ ?_ _) | (with_reducible refine Below.drew ?_) | (with_reducible refine Below.setCell ?_ ?_ _) | (with_reducible apply below_at; (case k => (with_reducible assumption)); (case hB => omega)) | (with_reducible apply below_on; (with_reducible assumption)) | (go_size; done) | (with_reducible apply size_of)))) (Nat.le_refl _)) HDL.out ((show Lies _ (w.heap.size + 1) 5 [.int .u8 0] from (by (repeat' (first | (with_reducible assumption) | (with_reducible exact Lies.fresh _ _ _) | (with_reducible apply Lies.fresh_at; (first | (with_reducible rfl) | (simp; done))) | (with_reducible refine Lies.drew ?_) | (with_reducible refine Lies.drewN ?_ _) | (with_reducible refine Lies.alloc ?_ _) | (with_reducible apply Lies.past; case hb => (with_reducible assumption)) | (with_reducible apply Lies.keeps; (case k => (with_reducible assumption)); (case ht => decide)) | (with_reducible apply Lies.store3) | (with_reducible apply Lies.other; case hp => (first | omega | (simp; done) | (simp; omega))))))).cell 0)).mono ?_
      rintro e w1 ⟨rfl, rfl⟩
      have HZX := HZEQ.out
      try rw [HZX]
      go_wp2_with fail
      go_ret
      exact ⟨ret1 HV.out.symm, by (repeat' (first | (with_reducible exact Below.refl _ _) | (with_reducible assumption) | (with_reducible refine below_drewN ?_ _) | (with_reducible refine below_new ?_ _) | (with_reducible refine Below.alloc ?_ ?_ _) | (with_reducible refine Below.drew ?_) | (with_reducible refine Below.setCell ?_ ?_ _) | (with_reducible apply below_at; (case k => (with_reducible assumption)); (case hB => omega)) | (with_reducible apply below_on; (with_reducible assumption)) | (go_size; done) | (with_reducible apply size_of)))⟩
theorem Check_any (r : Rg) (A : Option Addr) (n c : Nat) (w : World) (h : RgIn w A n c r) :
    Calls Try.prog 33 #[.agg #[.int .i64 (r).l, .slice A n c, .int .i64 (r).n]] w fun e w' => e = .returned (.int .i64 (rgE r)) ∧ Below w.heap.size w w' := by
  by_cases hs : lvB r.l = true ∧ r.b.length = szOf r.l ∧ 0 ≤ r.n ∧ r.n ≤ 1073741824
  · exact Check_good r A n c w h hs.1 hs.2.1 hs.2.2.1 hs.2.2.2
  · rw [rgE_no (shape_no hs)]
    exact Check_shape r A n c w h hs
end Go.Proofs.Ytemiecghdmagnaa.rgW

namespace Go.Proofs.Ytemiecghdmagnaa.rgW
set_option maxRecDepth 100000
open Go.RowKit Go.Proofs.Ytemiecghdmagnaa.base Go.Proofs.Ytemiecghdmagnaa.rgP
set_option linter.unusedVariables false
set_option linter.unusedSimpArgs false

theorem ok_parts {r : Rg} {w : World} {A : Option Addr} {n c : Nat} (h : RgIn w A n c r) (hr : rgOk r = true) : 64 ≤ n ∧ n ≤ 8192 ∧ 0 ≤ r.n ∧ r.n ≤ 1073741824 := by
  have hs := (rgOk_iff r).1 hr
  have hz := sz_bd hs.1.1
  have := h.e
  omega
set_option maxHeartbeats 1000000 in
theorem byNumber_any (r : Rg) (A : Option Addr) (n c : Nat) (q : Int) (w : World) (h : RgIn w A n c r) (hn : 64 ≤ n) (hn2 : n ≤ 8192) (q0 : 0 ≤ q) (q1 : q ≤ 9223372036854775807) :
    Calls Try.prog 54 #[.agg #[.int .i64 (r).l, .slice A n c, .int .i64 (r).n], .int .i64 q] w fun e w' => e = .returned (.int .u8 (r.b.getD (q.toNat % n) 0)) ∧ Below w.heap.size w w' := by
  obtain ⟨k, rfl⟩ := Int.eq_ofNat_of_zero_le q0
  obtain ⟨j, hj⟩ : ∃ j, k % n = j := ⟨_, rfl⟩
  have hjn : j < n := by rw [← hj]; exact Nat.mod_lt _ (by omega)
  have ht : Int.tmod (k : Int) (n : Int) = (j : Int) := by rw [← hj]; exact (Int.ofNat_tmod k n).symm
  obtain ⟨b, off, rfl, hb, hc⟩ := has_some h.h (by rw [h.e]; omega)
  have hcell := hc j (by rw [h.e]; exact hjn)
  rw [Int.toNat_natCast, hj]
  have hn3 : ¬ ((n : Int) = 0) := by omega
  have hn4 : ((n : Int) == 0) = false := by simpa using hn3
  have hn5 : (n : Int) ≤ 8192 := by omega
  have hj2 : (j : Int) < n := by omega
  clear h hn hn2 hjn hj hc
  generalize r.b.getD j 0 = x at *
  generalize r.l = l at *
  generalize r.n = m at *
  go_enter Try.func54, Try.ntmps54
  go_wp2_with fail
  go_quiet (fail)
  go_wp2
  go_ret
  exact ⟨rfl, by (repeat' (first | (with_reducible exact Below.refl _ _) | (with_reducible assumption) | (with_reducible refine below_drewN ?_ _) | (with_reducible refine below_new ?_ _) | (with_reducible refine Below.alloc ?_ ?_ _) | (with_reducible refine Below.drew ?_) | (with_reducible refine Below.setCell ?_ ?_ _) | (with_reducible apply below_at; (case k => (with_reducible assumption)); (case hB => omega)) | (with_reducible apply below_on; (with_reducible assumption)) | (go_size; done) | (with_reducible apply size_of)))⟩
theorem byNumber_at (r : Rg) (A : Option Addr) (n c : Nat) (q : Int) (w : World) (h : RgIn w A n c r) (hr : rgOk r = true) (q0 : 0 ≤ q) (q1 : q ≤ 9223372036854775807) (x : Int) (hx : r.b.getD (q.toNat % r.b.length) 0 = x) :
    Calls Try.prog 54 #[.agg #[.int .i64 (r).l, .slice A n c, .int .i64 (r).n], .int .i64 q] w fun e w' => e = .returned (.int .u8 x) ∧ Below w.heap.size w w' := by
  have := ok_parts h hr
  subst hx
  rw [h.e]
  exact byNumber_any r A n c q w h this.1 this.2.1 q0 q1
end Go.Proofs.Ytemiecghdmagnaa.rgW

namespace Go.Proofs.Ytemiecghdmagnaa.rgW
set_option maxRecDepth 100000
open Go.RowKit Go.Proofs.Ytemiecghdmagnaa.base Go.Proofs.Ytemiecghdmagnaa.rgP
set_option linter.unusedVariables false
set_option linter.unusedSimpArgs false

theorem ret3 {k k' : IntKind} {a b c d : Int} {p q : Bool} (h : a = b) (h2 : p = q) (h3 : c = d) :
    Ending.returned (.tuple #[.int k a, .bool p, .int k' c]) = .returned (.tuple #[.int k b, .bool q, .int k' d]) := by rw [h, h2, h3]
set_option maxHeartbeats 2000000 in
theorem At_any (r : Rg) (A : Option Addr) (n c : Nat) (q : Int) (w : World) (h : RgIn w A n c r) (k1 : -9223372036854775808 ≤ q) (k2 : q ≤ 9223372036854775807) :
    Calls Try.prog 28 #[.agg #[.int .i64 (r).l, .slice A n c, .int .i64 (r).n], .int .i64 q] w fun e w' => e = .returned (.tuple #[.int .u8 (atV r q), .bool (atB r q), .int .i64 (atE r q)]) ∧ Below w.heap.size w w' := by
  have H := Lib.hid h
  cases hok : rgOk r
  · have e1 : rgE r = 8 := rgE_no hok
    have HV : Hid (atE r q = 8 ∧ atV r q = 0 ∧ atB r q = false) := Lib.hid (by
      have e : atE r q = 8 := by rw [atE, if_neg (by rw [hok]; decide)]
      exact ⟨e, by rw [atV, if_neg (by rw [e]; decide)], by rw [atB, if_neg (by rw [e]; decide)]⟩)
    clear h hok
    go_enter Try.func28, Try.ntmps28
    go_wp2_with (first | (go_at_call 33; refine (Check_any r A n c _ (H.out.below (by (repeat' (first | (with_reducible exact Below.refl _ _) | (with_reducible assumption) | (with_reducible refine below_drewN ?_ _) | (with_reducible refine below_new ?_ _) | (with_reducible refine Below.alloc ?_ ?_ _) | (with_reducible refine Below.drew ?_) | (with_reducible refine Below.setCell ?_ ?_ _) | (with_reducible apply below_at; (case k => (with_reducible assumption)); (case hB => omega)) | (with_reducible apply below_on; (with_reducible assumption)) | (go_size; done) | (with_reducible apply size_of)))))).mono ?_; rintro e w1 ⟨rfl, hb1⟩; rw [e1]; have K1 : Lies (w1) (w.heap.size) 26 [.int .i64 (r).l, .slice (A) (n) (c), .int .i64 (r).n] := (by (repeat' (first | (with_reducible assumption) | (with_reducible exact Lies.fresh _ _ _) | (with_reducible apply Lies.fresh_at; (first | (with_reducible rfl) | (simp; done))) | (with_reducible refine Lies.drew ?_) | (with_reducible refine Lies.drewN ?_ _) | (with_reducible refine Lies.alloc ?_ _) | (with_reducible apply Lies.past; case hb => (with_reducible assumption)) | (with_reducible apply Lies.keeps; (case k => (with_reducible assumption)); (case ht => decide)) | (with_reducible apply Lies.store3) | (with_reducible apply Lies.other; case hp => (first | omega | (simp; done) | (simp; omega)))))); obtain ⟨p0, p1, p2, -, -, -⟩ := K1.three))
    go_ret3
    exact ⟨ret3 HV.out.2.1.symm HV.out.2.2.symm HV.out.1.symm, by (repeat' (first | (with_reducible exact Below.refl _ _) | (with_reducible assumption) | (with_reducible refine below_drewN ?_ _) | (with_reducible refine below_new ?_ _) | (with_reducible refine Below.alloc ?_ ?_ _) | (with_reducible refine Below.drew ?_) | (with_reducible refine Below.setCell ?_ ?_ _) | (with_reducible apply below_at; (case k => (with_reducible assumption)); (case hB => omega)) | (with_reducible apply below_on; (with_reducible assumption)) | (go_size; done) | (with_reducible apply size_of)))⟩
  · have e1 : rgE r = 0 := rgE_yes hok
    have HOK := Lib.hid hok
    obtain ⟨a1, a2, a3, a4⟩ := ok_parts h hok
    have he := h.e
    have a5 : (64 : Int) ≤ n := by omega
    have a6 : (n : Int) ≤ 8192 := by omega
    by_cases c1 : 0 ≤ q
    · have HE : Hid (atE r q = 0) := Lib.hid (by rw [atE, if_pos hok, if_pos c1])
      by_cases c2 : q < r.n ∧ r.n - q ≤ n
      · have hB : isB r q = true := by unfold isB; rw [he, decide_eq_true c2.1, decide_eq_true c2.2]; rfl
        have HB : Hid (atB r q = true) := Lib.hid (by rw [atB, if_pos HE.out, hB])
        have HV : Hid (r.b.getD (q.toNat % r.b.length) 0 = atV r q) := Lib.hid (by rw [atV, if_pos HE.out, if_pos hB, ago, if_neg (by omega), show r.n - (r.n - q) = q by omega])
        obtain ⟨b1, b2⟩ := c2
        clear h hok a1 a2 he hB
        go_enter Try.func28, Try.ntmps28
        go_wp2_with (first | (go_at_call 33; refine (Check_any r A n c _ (H.out.below (by (repeat' (first | (with_reducible exact Below.refl _ _) | (with_reducible assumption) | (with_reducible refine below_drewN ?_ _) | (with_reducible refine below_new ?_ _) | (with_reducible refine Below.alloc ?_ ?_ _) | (with_reducible refine Below.drew ?_) | (with_reducible refine Below.setCell ?_ ?_ _) | (with_reducible apply below_at; (case k => (with_reducible assumption)); (case hB => omega)) | (with_reducible apply below_on; (with_reducible assumption)) | (go_size; done) | (with_reducible apply size_of)))))).mono ?_; rintro e w1 ⟨rfl, hb1⟩; rw [e1]; have K1 : Lies (w1) (w.heap.size) 26 [.int .i64 (r).l, .slice (A) (n) (c), .int .i64 (r).n] := (by (repeat' (first | (with_reducible assumption) | (with_reducible exact Lies.fresh _ _ _) | (with_reducible apply Lies.fresh_at; (first | (with_reducible rfl) | (simp; done))) | (with_reducible refine Lies.drew ?_) | (with_reducible refine Lies.drewN ?_ _) | (with_reducible refine Lies.alloc ?_ _) | (with_reducible apply Lies.past; case hb => (with_reducible assumption)) | (with_reducible apply Lies.keeps; (case k => (with_reducible assumption)); (case ht => decide)) | (with_reducible apply Lies.store3) | (with_reducible apply Lies.other; case hp => (first | omega | (simp; done) | (simp; omega)))))); obtain ⟨p0, p1, p2, -, -, -⟩ := K1.three) | (go_at_call 54; refine (byNumber_at r A n c q _ (H.out.below (by (repeat' (first | (with_reducible exact Below.refl _ _) | (with_reducible assumption) | (with_reducible refine below_drewN ?_ _) | (with_reducible refine below_new ?_ _) | (with_reducible refine Below.alloc ?_ ?_ _) | (with_reducible refine Below.drew ?_) | (with_reducible refine Below.setCell ?_ ?_ _) | (with_reducible apply below_at; (case k => (with_reducible assumption)); (case hB => omega)) | (with_reducible apply below_on; (with_reducible assumption)) | (go_size; done) | (with_reducible apply size_of))))) HOK.out c1 k2 _ HV.out).mono ?_; rintro e w2 ⟨rfl, hb2⟩))
        go_ret3
        exact ⟨ret3 rfl HB.out.symm HE.out.symm, by (repeat' (first | (with_reducible exact Below.refl _ _) | (with_reducible assumption) | (with_reducible refine below_drewN ?_ _) | (with_reducible refine below_new ?_ _) | (with_reducible refine Below.alloc ?_ ?_ _) | (with_reducible refine Below.drew ?_) | (with_reducible refine Below.setCell ?_ ?_ _) | (with_reducible apply below_at; (case k => (with_reducible assumption)); (case hB => omega)) | (with_reducible apply below_on; (with_reducible assumption)) | (go_size; done) | (with_reducible apply size_of)))⟩
      · have hB : isB r q = false := by
          unfold isB; rw [he]
          cases h1 : decide (q < r.n)
          · rfl
          · cases h2 : decide (r.n - q ≤ (n : Int))
            · rfl
            · exact absurd ⟨of_decide_eq_true h1, of_decide_eq_true h2⟩ c2
        have HB : Hid (atB r q = false ∧ atV r q = 0) := Lib.hid ⟨by rw [atB, if_pos HE.out, hB], by rw [atV, if_pos HE.out, if_neg (by rw [hB]; decide)]⟩
        have c3 : r.n ≤ q ∨ (¬ r.n ≤ q ∧ (n : Int) < r.n - q) := by omega
        clear h hok a1 a2 he hB c2
        rcases c3 with c3 | ⟨c3, c4⟩
        all_goals
          go_enter Try.func28, Try.ntmps28
          go_wp2_with (first | (go_at_call 33; refine (Check_any r A n c _ (H.out.below (by (repeat' (first | (with_reducible exact Below.refl _ _) | (with_reducible assumption) | (with_reducible refine below_drewN ?_ _) | (with_reducible refine below_new ?_ _) | (with_reducible refine Below.alloc ?_ ?_ _) | (with_reducible refine Below.drew ?_) | (with_reducible refine Below.setCell ?_ ?_ _) | (with_reducible apply below_at; (case k => (with_reducible assumption)); (case hB => omega)) | (with_reducible apply below_on; (with_reducible assumption)) | (go_size; done) | (with_reducible apply size_of)))))).mono ?_; rintro e w1 ⟨rfl, hb1⟩; rw [e1]; have K1 : Lies (w1) (w.heap.size) 26 [.int .i64 (r).l, .slice (A) (n) (c), .int .i64 (r).n] := (by (repeat' (first | (with_reducible assumption) | (with_reducible exact Lies.fresh _ _ _) | (with_reducible apply Lies.fresh_at; (first | (with_reducible rfl) | (simp; done))) | (with_reducible refine Lies.drew ?_) | (with_reducible refine Lies.drewN ?_ _) | (with_reducible refine Lies.alloc ?_ _) | (with_reducible apply Lies.past; case hb => (with_reducible assumption)) | (with_reducible apply Lies.keeps; (case k => (with_reducible assumption)); (case ht => decide)) | (with_reducible apply Lies.store3) | (with_reducible apply Lies.other; case hp => (first | omega | (simp; done) | (simp; omega)))))); obtain ⟨p0, p1, p2, -, -, -⟩ := K1.three))
          go_ret3
          exact ⟨ret3 HB.out.2.symm HB.out.1.symm HE.out.symm, by (repeat' (first | (with_reducible exact Below.refl _ _) | (with_reducible assumption) | (with_reducible refine below_drewN ?_ _) | (with_reducible refine below_new ?_ _) | (with_reducible refine Below.alloc ?_ ?_ _) | (with_reducible refine Below.drew ?_) | (with_reducible refine Below.setCell ?_ ?_ _) | (with_reducible apply below_at; (case k => (with_reducible assumption)); (case hB => omega)) | (with_reducible apply below_on; (with_reducible assumption)) | (go_size; done) | (with_reducible apply size_of)))⟩
    · have HV : Hid (atE r q = 2 ∧ atV r q = 0 ∧ atB r q = false) := Lib.hid (by
        have e : atE r q = 2 := by rw [atE, if_pos hok, if_neg c1]
        exact ⟨e, by rw [atV, if_neg (by rw [e]; decide)], by rw [atB, if_neg (by rw [e]; decide)]⟩)
      clear h hok a1 a2 he
      go_enter Try.func28, Try.ntmps28
      go_wp2_with (first | (go_at_call 33; refine (Check_any r A n c _ (H.out.below (by (repeat' (first | (with_reducible exact Below.refl _ _) | (with_reducible assumption) | (with_reducible refine below_drewN ?_ _) | (with_reducible refine below_new ?_ _) | (with_reducible refine Below.alloc ?_ ?_ _) | (with_reducible refine Below.drew ?_) | (with_reducible refine Below.setCell ?_ ?_ _) | (with_reducible apply below_at; (case k => (with_reducible assumption)); (case hB => omega)) | (with_reducible apply below_on; (with_reducible assumption)) | (go_size; done) | (with_reducible apply size_of)))))).mono ?_; rintro e w1 ⟨rfl, hb1⟩; rw [e1]; have K1 : Lies (w1) (w.heap.size) 26 [.int .i64 (r).l, .slice (A) (n) (c), .int .i64 (r).n] := (by (repeat' (first | (with_reducible assumption) | (with_reducible exact Lies.fresh _ _ _) | (with_reducible apply Lies.fresh_at; (first | (with_reducible rfl) | (simp; done))) | (with_reducible refine Lies.drew ?_) | (with_reducible refine Lies.drewN ?_ _) | (with_reducible refine Lies.alloc ?_ _) | (with_reducible apply Lies.past; case hb => (with_reducible assumption)) | (with_reducible apply Lies.keeps; (case k => (with_reducible assumption)); (case ht => decide)) | (with_reducible apply Lies.store3) | (with_reducible apply Lies.other; case hp => (first | omega | (simp; done) | (simp; omega)))))); obtain ⟨p0, p1, p2, -, -, -⟩ := K1.three))
      go_ret3
      exact ⟨ret3 HV.out.2.1.symm HV.out.2.2.symm HV.out.1.symm, by (repeat' (first | (with_reducible exact Below.refl _ _) | (with_reducible assumption) | (with_reducible refine below_drewN ?_ _) | (with_reducible refine below_new ?_ _) | (with_reducible refine Below.alloc ?_ ?_ _) | (with_reducible refine Below.drew ?_) | (with_reducible refine Below.setCell ?_ ?_ _) | (with_reducible apply below_at; (case k => (with_reducible assumption)); (case hB => omega)) | (with_reducible apply below_on; (with_reducible assumption)) | (go_size; done) | (with_reducible apply size_of)))⟩
theorem dbl_bd {n : Nat} (h : n ≤ 7) : 64 ≤ dbl n ∧ dbl n ≤ 8192 := by
  rcases (show n = 0 ∨ n = 1 ∨ n = 2 ∨ n = 3 ∨ n = 4 ∨ n = 5 ∨ n = 6 ∨ n = 7 by omega) with rfl | rfl | rfl | rfl | rfl | rfl | rfl | rfl <;> decide +kernel
set_option maxHeartbeats 1000000 in
theorem rSize_ok (l : Int) (w : World) (h : lvB l = true) : Calls Try.prog 53 #[.int .i64 l] w fun e w' => e = .returned (.int .i64 (szOf l : Int)) ∧ w = w' := by
  have hl := (lvB_iff l).1 h
  obtain ⟨h1, h2⟩ := hl
  have HD := Lib.hid (dbl_sz h1)
  clear h
  go_enter Try.func53, Try.ntmps53
  go_wp2_with fail
  go_loopw [3, 4] (fun m i wr => wr = w ∧ ∃ q : Int, 0 ≤ q ∧ q ≤ l ∧ i = .int .i64 q ∧ m = .int .i64 (dbl q.toNat)) (fun _ i _ => l.toNat - (intOf i).toNat)
  case atStart => exact ⟨rfl, 0, by omega, h1, rfl, by rfl⟩
  case round =>
    obtain ⟨rfl, q, q1, q2, rfl, rfl⟩ := hrel
    have hb := dbl_bd (n := q.toNat) (by omega)
    have HN : Hid (dbl (q + 1).toNat = dbl q.toNat * 2) := Lib.hid (by rw [show (q + 1).toNat = q.toNat + 1 by omega, dbl_next])
    have HQ : Hid (q = l → dbl q.toNat = (szOf l : Int)) := Lib.hid (fun e => by rw [e]; exact HD.out)
    obtain ⟨b1, b2⟩ := hb
    generalize dbl q.toNat = x at *
    by_cases hlt : q < l
    · go_wp2
      go_roundw
      case rel => exact ⟨by trivial, q + 1, by omega, by omega, by first | rfl | go_num, by rw [HN.out]⟩
      case measure => simp [intOf]; omega
    · go_wp2
      go_ret
      exact ⟨ret1 (HQ.out (by omega)), rfl⟩
end Go.Proofs.Ytemiecghdmagnaa.rgW

namespace Go.Proofs.Ytemiecghdmagnaa.rgW
set_option maxRecDepth 100000
open Go.RowKit Go.Proofs.Ytemiecghdmagnaa.base Go.Proofs.Ytemiecghdmagnaa.rgP
set_option linter.unusedVariables false
set_option linter.unusedSimpArgs false

set_option maxHeartbeats 2000000 in
theorem rCheck_shape (r : Rg) (A : Option Addr) (n c : Nat) (w : World) (h : RgIn w A n c r) (hs : ¬ (lvB r.l = true ∧ r.b.length = szOf r.l ∧ 0 ≤ r.n ∧ r.n ≤ 1073741824)) :
    Calls Try.prog 27 #[.agg #[.int .i64 (r).l, .slice A n c, .int .i64 (r).n]] w fun e w' => e = .returned (.int .i64 8) ∧ Below w.heap.size w w' := by
  have he := h.e
  obtain ⟨l1, l2, n1, n2, -, -, c1, c2, -⟩ := h
  have hn9 : (n : Int) ≤ 9223372036854775807 := by omega
  have HS := Lib.hid hs
  have HC := Lib.hid (And.intro c1 c2)
  have HEN := Lib.hid he
  clear hs c1 c2 he
  cases hl : lvB r.l
  · have HLV : Hid (∀ w : World, Calls Try.prog 52 #[.int .i64 r.l] w fun e w' => e = .returned (.bool false) ∧ w = w') := Lib.hid (fun w => by have := rLevel_any r.l w; rwa [hl] at this)
    clear hl
    generalize r.l = l at *
    generalize r.n = m at *
    go_enter Try.func27, Try.ntmps27
    go_wp2_with fail
    go_quiet ((first | (go_at_call 52; exact Calls.quiet_of_same (turned (HLV.out _)))))
    go_wp2
    go_ret
    exact ⟨rfl, by (repeat' (first | (with_reducible exact Below.refl _ _) | (with_reducible assumption) | (with_reducible refine below_drewN ?_ _) | (with_reducible refine below_new ?_ _) | (with_reducible refine Below.alloc ?_ ?_ _) | (with_reducible refine Below.drew ?_) | (with_reducible refine Below.setCell ?_ ?_ _) | (with_reducible apply below_at; (case k => (with_reducible assumption)); (case hB => omega)) | (with_reducible apply below_on; (with_reducible assumption)) | (go_size; done) | (with_reducible apply size_of)))⟩
  · have HLV : Hid (∀ w : World, Calls Try.prog 52 #[.int .i64 r.l] w fun e w' => e = .returned (.bool true) ∧ w = w') := Lib.hid (fun w => by have := rLevel_any r.l w; rwa [hl] at this)
    have HPL : Hid (∀ w : World, Calls Try.prog 53 #[.int .i64 r.l] w fun e w' => e = .returned (.int .i64 (szOf r.l : Int)) ∧ w = w') := Lib.hid (fun w => rSize_ok r.l w hl)
    have hsz := sz_bd hl
    have hz1 : (64 : Int) ≤ (szOf r.l : Int) := by omega
    have hz2 : (szOf r.l : Int) ≤ 8192 := by omega
    clear hsz
    by_cases hln : (n : Int) = (szOf r.l : Int)
    · have hbe : ((n : Int) != (szOf r.l : Int)) = false := by simpa using hln
      have hx : r.n < 0 ∨ (0 ≤ r.n ∧ 1073741824 < r.n) := by
        rcases Int.lt_or_le r.n 0 with h | h
        · exact .inl h
        · refine .inr ⟨h, Int.lt_of_not_ge (fun h2 => HS.out ⟨hl, by have := HEN.out; omega, h, h2⟩)⟩
      clear hl hln
      generalize (szOf r.l : Int) = sz at *
      generalize r.l = l at *
      generalize r.n = m at *
      rcases hx with hx | ⟨hx, hy⟩
      · have d1 : decide (m < 0) = true := decide_eq_true hx
        go_enter Try.func27, Try.ntmps27
        go_wp2_with fail
        go_quiet ((first | (go_at_call 52; exact Calls.quiet_of_same (turned (HLV.out _))) | (go_at_call 53; exact Calls.quiet_of_same (turned (HPL.out _)))))
        go_wp2
        go_ret
        exact ⟨rfl, by (repeat' (first | (with_reducible exact Below.refl _ _) | (with_reducible assumption) | (with_reducible refine below_drewN ?_ _) | (with_reducible refine below_new ?_ _) | (with_reducible refine Below.alloc ?_ ?_ _) | (with_reducible refine Below.drew ?_) | (with_reducible refine Below.setCell ?_ ?_ _) | (with_reducible apply below_at; (case k => (with_reducible assumption)); (case hB => omega)) | (with_reducible apply below_on; (with_reducible assumption)) | (go_size; done) | (with_reducible apply size_of)))⟩
      · have d1 : decide (m < 0) = false := by simpa using hx
        have d2 : decide (1073741824 < m) = true := decide_eq_true hy
        go_enter Try.func27, Try.ntmps27
        go_wp2_with fail
        go_quiet ((first | (go_at_call 52; exact Calls.quiet_of_same (turned (HLV.out _))) | (go_at_call 53; exact Calls.quiet_of_same (turned (HPL.out _)))))
        go_wp2
        go_ret
        exact ⟨rfl, by (repeat' (first | (with_reducible exact Below.refl _ _) | (with_reducible assumption) | (with_reducible refine below_drewN ?_ _) | (with_reducible refine below_new ?_ _) | (with_reducible refine Below.alloc ?_ ?_ _) | (with_reducible refine Below.drew ?_) | (with_reducible refine Below.setCell ?_ ?_ _) | (with_reducible apply below_at; (case k => (with_reducible assumption)); (case hB => omega)) | (with_reducible apply below_on; (with_reducible assumption)) | (go_size; done) | (with_reducible apply size_of)))⟩
    · have hbe : ((n : Int) != (szOf r.l : Int)) = true := by simpa using hln
      clear hl
      generalize (szOf r.l : Int) = sz at *
      generalize r.l = l at *
      generalize r.n = m at *
      go_enter Try.func27, Try.ntmps27
      go_wp2_with fail
      go_quiet ((first | (go_at_call 52; exact Calls.quiet_of_same (turned (HLV.out _))) | (go_at_call 53; exact Calls.quiet_of_same (turned (HPL.out _)))))
      go_wp2
      go_ret
      exact ⟨rfl, by (repeat' (first | (with_reducible exact Below.refl _ _) | (with_reducible assumption) | (with_reducible refine below_drewN ?_ _) | (with_reducible refine below_new ?_ _) | (with_reducible refine Below.alloc ?_ ?_ _) | (with_reducible refine Below.drew ?_) | (with_reducible refine Below.setCell ?_ ?_ _) | (with_reducible apply below_at; (case k => (with_reducible assumption)); (case hB => omega)) | (with_reducible apply below_on; (with_reducible assumption)) | (go_size; done) | (with_reducible apply size_of)))⟩
/-- The places from the first one on are empty, as far as k. -/
def upTo (b : List Int) (i k : Nat) : Prop := ∀ j, i ≤ j → j < k → b.getD j 0 = 0
set_option maxHeartbeats 4000000 in
theorem rCheck_good (r : Rg) (A : Option Addr) (n c : Nat) (w : World) (h : RgIn w A n c r) (hl : lvB r.l = true) (hsz : r.b.length = szOf r.l) (n0 : 0 ≤ r.n) (nm : r.n ≤ 1073741824) :
    Calls Try.prog 27 #[.agg #[.int .i64 (r).l, .slice A n c, .int .i64 (r).n]] w fun e w' => e = .returned (.int .i64 (rgE r)) ∧ Below w.heap.size w w' := by
  have hs := sz_bd hl
  have HLV : Hid (∀ w : World, Calls Try.prog 52 #[.int .i64 r.l] w fun e w' => e = .returned (.bool true) ∧ w = w') := Lib.hid (fun w => by have := rLevel_any r.l w; rwa [hl] at this)
  have HPL : Hid (∀ w : World, Calls Try.prog 53 #[.int .i64 r.l] w fun e w' => e = .returned (.int .i64 (n : Int)) ∧ w = w') := Lib.hid (fun w => by rw [← h.e, hsz]; exact rSize_ok r.l w hl)
  have HYES : Hid (upTo r.b r.n.toNat n → rgE r = 0) := Lib.hid (fun hu => rgE_yes ((rgOk_iff r).2 ⟨⟨hl, hsz, n0, nm⟩, fun i hi => by
    rcases Nat.lt_or_ge i n with h1 | h1
    · exact hu i hi h1
    · rw [List.getD_eq_getElem?_getD, List.getElem?_eq_none (by rw [h.e]; exact h1)]; rfl⟩))
  have HNO : Hid (∀ i, r.n.toNat ≤ i → r.b.getD i 0 ≠ 0 → rgE r = 8) := Lib.hid (fun i hi hx => rgE_no (by
    cases h' : rgOk r
    · rfl
    · exact absurd (((rgOk_iff r).1 h').2 i hi) hx))
  have hn9 : (n : Int) ≤ 8192 := by have := h.e; omega
  have hn8 : (64 : Int) ≤ n := by have := h.e; omega
  have d1 : decide (r.n < 0) = false := by simpa using n0
  have d2 : decide (1073741824 < r.n) = false := by simpa using nm
  obtain ⟨b, off, rfl, hb, hc⟩ := has_some h.h (by rw [h.e]; omega)
  have HCE := Lib.hid hc
  have HEN := Lib.hid h.e
  have hbe : ((n : Int) != (n : Int)) = false := by simp
  clear h hl hsz hs hc
  generalize r.l = l at *
  generalize r.n = m at *
  have LL := Lib.hid (Lies.fresh w 26 [.int .i64 l, .slice (some ⟨b, off, none⟩) n c, .int .i64 m])
  go_enter Try.func27, Try.ntmps27
  go_wp2_with fail
  go_quiet ((first | (go_at_call 52; exact Calls.quiet_of_same (turned (HLV.out _))) | (go_at_call 53; exact Calls.quiet_of_same (turned (HPL.out _)))))
  go_wp2_with fail
  clear d1 d2 hbe
  go_loopw [3] (fun i wr => ∃ q : Int, m ≤ q ∧ i = .int .i64 q ∧ (q ≤ 1073741824) ∧ upTo r.b m.toNat q.toNat ∧ Lies wr w.heap.size 26 [.int .i64 l, .slice (some ⟨b, off, none⟩) n c, .int .i64 m] ∧ Below w.heap.size w wr) (fun i _ => n - (intOf i).toNat)
  case atStart => exact ⟨m, Int.le_refl _, rfl, nm, fun j h1 h2 => by omega, by have := LL.out; (repeat' (first | (with_reducible assumption) | (with_reducible exact Lies.fresh _ _ _) | (with_reducible apply Lies.fresh_at; (first | (with_reducible rfl) | (simp; done))) | (with_reducible refine Lies.drew ?_) | (with_reducible refine Lies.drewN ?_ _) | (with_reducible refine Lies.alloc ?_ _) | (with_reducible apply Lies.past; case hb => (with_reducible assumption)) | (with_reducible apply Lies.keeps; (case k => (with_reducible assumption)); (case ht => decide)) | (with_reducible apply Lies.store3) | (with_reducible apply Lies.other; case hp => (first | omega | (simp; done) | (simp; omega))))), by (repeat' (first | (with_reducible exact Below.refl _ _) | (with_reducible assumption) | (with_reducible refine below_drewN ?_ _) | (with_reducible refine below_new ?_ _) | (with_reducible refine Below.alloc ?_ ?_ _) | (with_reducible refine Below.drew ?_) | (with_reducible refine Below.setCell ?_ ?_ _) | (with_reducible apply below_at; (case k => (with_reducible assumption)); (case hB => omega)) | (with_reducible apply below_on; (with_reducible assumption)) | (go_size; done) | (with_reducible apply size_of)))⟩
  case round =>
    obtain ⟨q, q1, rfl, q2, hall, K, acc⟩ := hrel
    obtain ⟨p0, p1, p2, -, -, -⟩ := K.three
    have lt := K.lt
    have HA := Lib.hid hall
    have HK := Lib.hid K
    have HACC := Lib.hid acc
    have hq0 : 0 ≤ q := by omega
    by_cases hlt : q < (n : Int)
    · have hcell : wr.cell? ⟨b, off + q.toNat, none⟩ = some (.int .u8 (r.b.getD q.toNat 0)) := by rw [(bcell acc).1 b _ hb]; exact HCE.out q.toNat (by have := HEN.out; omega)
      have HX : Hid (r.b.getD q.toNat 0 ≠ 0 → rgE r = 8) := Lib.hid (HNO.out q.toNat (by omega))
      have HN : Hid (r.b.getD q.toNat 0 = 0 → upTo r.b m.toNat (q + 1).toNat) := Lib.hid (fun e j h1 h2 => by
        rcases Nat.lt_or_ge j q.toNat with h3 | h3
        · exact HA.out j h1 h3
        · rw [show j = q.toNat by omega]; exact e)
      clear hall K acc
      generalize r.b.getD q.toNat 0 = x at *
      by_cases hx : x = 0
      · subst hx
        go_wp2
        go_roundw
        case rel => exact ⟨q + 1, by omega, by first | rfl | go_num, by omega, HN.out rfl, by have := HK.out; (repeat' (first | (with_reducible assumption) | (with_reducible exact Lies.fresh _ _ _) | (with_reducible apply Lies.fresh_at; (first | (with_reducible rfl) | (simp; done))) | (with_reducible refine Lies.drew ?_) | (with_reducible refine Lies.drewN ?_ _) | (with_reducible refine Lies.alloc ?_ _) | (with_reducible apply Lies.past; case hb => (with_reducible assumption)) | (with_reducible apply Lies.keeps; (case k => (with_reducible assumption)); (case ht => decide)) | (with_reducible apply Lies.store3) | (with_reducible apply Lies.other; case hp => (first | omega | (simp; done) | (simp; omega))))), by have := HACC.out; (repeat' (first | (with_reducible exact Below.refl _ _) | (with_reducible assumption) | (with_reducible refine below_drewN ?_ _) | (with_reducible refine below_new ?_ _) | (with_reducible refine Below.alloc ?_ ?_ _) | (with_reducible refine Below.drew ?_) | (with_reducible refine Below.setCell ?_ ?_ _) | (with_reducible apply below_at; (case k => (with_reducible assumption)); (case hB => omega)) | (with_reducible apply below_on; (with_reducible assumption)) | (go_size; done) | (with_reducible apply size_of)))⟩
        case measure => simp [intOf]; omega
      · have hxb : (x != 0) = true := by simpa using hx
        go_wp2
        go_ret
        exact ⟨ret1 (HX.out hx).symm, by have := HACC.out; (repeat' (first | (with_reducible exact Below.refl _ _) | (with_reducible assumption) | (with_reducible refine below_drewN ?_ _) | (with_reducible refine below_new ?_ _) | (with_reducible refine Below.alloc ?_ ?_ _) | (with_reducible refine Below.drew ?_) | (with_reducible refine Below.setCell ?_ ?_ _) | (with_reducible apply below_at; (case k => (with_reducible assumption)); (case hB => omega)) | (with_reducible apply below_on; (with_reducible assumption)) | (go_size; done) | (with_reducible apply size_of)))⟩
    · clear hall K acc
      have HG : Hid (rgE r = 0) := Lib.hid (HYES.out (fun j h1 h2 => HA.out j h1 (by omega)))
      go_wp2
      go_ret
      exact ⟨ret1 HG.out.symm, by have := HACC.out; (repeat' (first | (with_reducible exact Below.refl _ _) | (with_reducible assumption) | (with_reducible refine below_drewN ?_ _) | (with_reducible refine below_new ?_ _) | (with_reducible refine Below.alloc ?_ ?_ _) | (with_reducible refine Below.drew ?_) | (with_reducible refine Below.setCell ?_ ?_ _) | (with_reducible apply below_at; (case k => (with_reducible assumption)); (case hB => omega)) | (with_reducible apply below_on; (with_reducible assumption)) | (go_size; done) | (with_reducible apply size_of)))⟩
theorem rCheck_any (r : Rg) (A : Option Addr) (n c : Nat) (w : World) (h : RgIn w A n c r) :
    Calls Try.prog 27 #[.agg #[.int .i64 (r).l, .slice A n c, .int .i64 (r).n]] w fun e w' => e = .returned (.int .i64 (rgE r)) ∧ Below w.heap.size w w' := by
  by_cases hs : lvB r.l = true ∧ r.b.length = szOf r.l ∧ 0 ≤ r.n ∧ r.n ≤ 1073741824
  · exact rCheck_good r A n c w h hs.1 hs.2.1 hs.2.2.1 hs.2.2.2
  · rw [rgE_no (shape_no hs)]
    exact rCheck_shape r A n c w h hs
end Go.Proofs.Ytemiecghdmagnaa.rgW

namespace Go.Proofs.Ytemiecghdmagnaa.rgW
set_option maxRecDepth 100000
open Go.RowKit Go.Proofs.Ytemiecghdmagnaa.base Go.Proofs.Ytemiecghdmagnaa.rgP
set_option linter.unusedVariables false
set_option linter.unusedSimpArgs false

set_option maxHeartbeats 1000000 in
theorem rAgo_any (r : Rg) (A : Option Addr) (n c : Nat) (k : Int) (w : World) (h : RgIn w A n c r) (hok : rgOk r = true) (k0 : 0 ≤ k) (k1 : k ≤ 9223372036854775807) :
    Calls Try.prog 60 #[.agg #[.int .i64 (r).l, .slice A n c, .int .i64 (r).n], .int .i64 k] w fun e w' => e = .returned (.int .u8 (ago r k)) ∧ Below w.heap.size w w' := by
  obtain ⟨a1, a2, a3, a4⟩ := ok_parts h hok
  by_cases c1 : r.n < k
  · have HV : Hid (ago r k = 0) := Lib.hid (by rw [ago, if_pos c1])
    clear h hok
    generalize hm : r.n = m at *
    go_enter Try.func60, Try.ntmps60
    go_wp2_with fail
    go_ret
    exact ⟨ret1 HV.out.symm, by (repeat' (first | (with_reducible exact Below.refl _ _) | (with_reducible assumption) | (with_reducible refine below_drewN ?_ _) | (with_reducible refine below_new ?_ _) | (with_reducible refine Below.alloc ?_ ?_ _) | (with_reducible refine Below.drew ?_) | (with_reducible refine Below.setCell ?_ ?_ _) | (with_reducible apply below_at; (case k => (with_reducible assumption)); (case hB => omega)) | (with_reducible apply below_on; (with_reducible assumption)) | (go_size; done) | (with_reducible apply size_of)))⟩
  · obtain ⟨j, hj⟩ : ∃ j : Nat, r.n - k = j := ⟨(r.n - k).toNat, by omega⟩
    have HV : Hid (ago r k = r.b.getD (j % n) 0) := Lib.hid (by rw [ago, if_neg c1, hj, Int.toNat_natCast, h.e])
    obtain ⟨i, hi⟩ : ∃ i, j % n = i := ⟨_, rfl⟩
    have hin : i < n := by rw [← hi]; exact Nat.mod_lt _ (by omega)
    have ht : Int.tmod (r.n - k) (n : Int) = (i : Int) := by rw [hj, ← hi]; exact (Int.ofNat_tmod j n).symm
    obtain ⟨b, off, rfl, hb, hc⟩ := has_some h.h (by rw [h.e]; omega)
    have hcell := hc i (by rw [h.e]; exact hin)
    have hn3 : ¬ ((n : Int) = 0) := by omega
    have hn4 : ((n : Int) == 0) = false := by simpa using hn3
    have hn5 : (n : Int) ≤ 8192 := by omega
    have hi2 : (i : Int) < n := by omega
    have hw : IntKind.i64.wrap (r.n - k) = r.n - k := by rw [IntKind.wrap_i64]; omega
    rw [hi] at HV
    clear h hok a1 a2 hin hi hc hj
    generalize hx : r.b.getD i 0 = x at *
    go_enter Try.func60, Try.ntmps60
    go_wp2_with fail
    go_quiet (fail)
    go_wp2
    go_ret
    exact ⟨ret1 HV.out.symm, by (repeat' (first | (with_reducible exact Below.refl _ _) | (with_reducible assumption) | (with_reducible refine below_drewN ?_ _) | (with_reducible refine below_new ?_ _) | (with_reducible refine Below.alloc ?_ ?_ _) | (with_reducible refine Below.drew ?_) | (with_reducible refine Below.setCell ?_ ?_ _) | (with_reducible apply below_at; (case k => (with_reducible assumption)); (case hB => omega)) | (with_reducible apply below_on; (with_reducible assumption)) | (go_size; done) | (with_reducible apply size_of)))⟩
set_option maxHeartbeats 1000000 in
theorem rThere_any (r : Rg) (A : Option Addr) (n c : Nat) (q : Int) (w : World) (q0 : 0 ≤ q) (q1 : q ≤ 9223372036854775807) (n0 : 0 ≤ r.n) (n1 : r.n ≤ 1073741824) (hn : n ≤ 8192) (he : r.b.length = n) :
    Calls Try.prog 59 #[.agg #[.int .i64 (r).l, .slice A n c, .int .i64 (r).n], .int .i64 q] w fun e w' => e = .returned (.bool (isB r q)) ∧ Below w.heap.size w w' := by
  have HE : Hid (isB r q = (decide (q < r.n) && decide (r.n - q ≤ (n : Int)))) := Lib.hid (by unfold isB; rw [he])
  have hn2 : (n : Int) ≤ 8192 := by omega
  clear he hn
  rw [HE.out]
  generalize r.l = l at *
  generalize r.n = m at *
  by_cases c1 : q < m
  · go_enter Try.func59, Try.ntmps59
    go_wp2
    go_ret
    exact ⟨retb (by simp [c1]), by (repeat' (first | (with_reducible exact Below.refl _ _) | (with_reducible assumption) | (with_reducible refine below_drewN ?_ _) | (with_reducible refine below_new ?_ _) | (with_reducible refine Below.alloc ?_ ?_ _) | (with_reducible refine Below.drew ?_) | (with_reducible refine Below.setCell ?_ ?_ _) | (with_reducible apply below_at; (case k => (with_reducible assumption)); (case hB => omega)) | (with_reducible apply below_on; (with_reducible assumption)) | (go_size; done) | (with_reducible apply size_of)))⟩
  · go_enter Try.func59, Try.ntmps59
    go_wp2
    go_ret
    exact ⟨retb (by simp; intro h; omega), by (repeat' (first | (with_reducible exact Below.refl _ _) | (with_reducible assumption) | (with_reducible refine below_drewN ?_ _) | (with_reducible refine below_new ?_ _) | (with_reducible refine Below.alloc ?_ ?_ _) | (with_reducible refine Below.drew ?_) | (with_reducible refine Below.setCell ?_ ?_ _) | (with_reducible apply below_at; (case k => (with_reducible assumption)); (case hB => omega)) | (with_reducible apply below_on; (with_reducible assumption)) | (go_size; done) | (with_reducible apply size_of)))⟩
end Go.Proofs.Ytemiecghdmagnaa.rgW
