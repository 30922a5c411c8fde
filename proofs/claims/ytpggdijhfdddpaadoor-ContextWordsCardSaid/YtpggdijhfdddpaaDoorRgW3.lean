/- Check of rings that have their shape, by walks. -/
import Derived.Test.YtpggdijhfdddpaaDoorRgW2
namespace Go.Proofs.YtpggdijhfdddpaaDoor.rgW
open Go.RowKit Go.Proofs.YtpggdijhfdddpaaDoor.base Go.Proofs.YtpggdijhfdddpaaDoor.rgP
set_option linter.unusedVariables false
set_option linter.unusedSimpArgs false

theorem rest_iff {b : List Int} {k : Nat} (h : ∀ z ∈ b, 0 ≤ z ∧ z ≤ 255) : zeros (b.drop k) = (b.drop k).length ↔ restB b k = true := by
  rw [zeros_all (fun z hz => h z (List.mem_of_mem_drop hz))]
  unfold restB
  rw [List.all_eq_true]
  simp
set_option maxHeartbeats 4000000 in
theorem Check_good (r : Rg) (A : Option Addr) (n c : Nat) (w : World) (h : RgIn w A n c r) (hl : lvB r.l = true) (hsz : r.b.length = szOf r.l) (n0 : 0 ≤ r.n) (nm : r.n ≤ 1073741824) :
    Calls Tryd.prog 39 #[.agg #[.int .i64 (r).l, .slice A n c, .int .i64 (r).n]] w fun e w' => e = .returned (.int .i64 (rgE r)) ∧ Below w.heap.size w w' := by
  have hs := sz_bd hl
  have HLV : Hid (∀ w : World, Calls Tryd.prog 45 #[.int .i64 r.l] w fun e w' => e = .returned (.bool true) ∧ w = w') := Lib.hid (fun w => by have := isLevel_any r.l w; rwa [hl] at this)
  have HPL : Hid (∀ w : World, Calls Tryd.prog 46 #[.int .i64 r.l] w fun e w' => e = .returned (.int .i64 (n : Int)) ∧ w = w') := Lib.hid (fun w => by rw [← h.e, hsz]; exact places_ok r.l w hl)
  obtain ⟨k, hk⟩ : ∃ k : Nat, r.n = k := ⟨r.n.toNat, by omega⟩
  obtain ⟨m, hm, hmn⟩ : ∃ m : Nat, m = min k n ∧ m ≤ n := ⟨min k n, rfl, Nat.min_le_right _ _⟩
  have hdrop : restB r.b r.n.toNat = restB r.b m := by
    rw [hk, Int.toNat_natCast]
    rcases Nat.le_total k n with h1 | h1
    · rw [hm, Nat.min_eq_left h1]
    · rw [hm, Nat.min_eq_right h1]
      have e1 : r.b.drop k = [] := List.drop_eq_nil_of_le (by rw [h.e]; exact h1)
      have e2 : r.b.drop n = [] := List.drop_eq_nil_of_le (by rw [h.e]; exact Nat.le_refl _)
      unfold restB; rw [e1, e2]
  have HE : Hid (rgE r = if zeros (r.b.drop m) = (r.b.drop m).length then 0 else 8) := Lib.hid (by
    have hsh : rgShape r = true := (rgShape_iff r).2 ⟨hl, hsz, n0, nm⟩
    unfold rgE rgOk
    rw [hsh, hdrop, Bool.true_and]
    by_cases hz : restB r.b m = true
    · rw [if_pos hz, if_pos ((rest_iff h.b).2 hz)]
    · rw [if_neg hz, if_neg (fun hh => hz ((rest_iff h.b).1 hh))])
  have hcut := h.h.cut (n := m) (by rw [h.e]; exact hmn) (by rw [h.e]; exact h.c1)
  have hdl : (r.b.drop m).length = n - m := by rw [List.length_drop, h.e]
  have c1 := h.c1
  have c2 := h.c2
  have hn9 : (n : Int) ≤ 8192 := by have := h.e; omega
  have hmk : (if (n : Int) < (k : Int) then (n : Int) else (k : Int)) = (m : Int) := by rw [hm]; split <;> omega
  have HMIN : Hid ((min (k : Int) (n : Int)).toNat = m) := Lib.hid (by rw [hm]; omega)
  have hmi : (m : Int) ≤ n := by omega
  have hnc : (n : Int) ≤ c := by omega
  have hc9 : (c : Int) ≤ 9223372036854775807 := by omega
  have hmc : m ≤ c := by omega
  have d1 : decide (r.n < 0) = false := by simpa using n0
  have d2 : decide (1073741824 < r.n) = false := by simpa using nm
  have HDL := Lib.hid hdl
  have HMN := Lib.hid hmn
  rw [hk] at d1 d2 n0 nm ⊢
  have HB := Lib.hid h.b
  clear h hl hsz hs hdrop hm hdl hmn c2 hk
  generalize r.l = l at *
  generalize r.b.drop m = xs at *
  have HX : Hid (zeros xs ≤ 9223372036854775807) := Lib.hid (by have : zeros xs ≤ xs.length := by unfold zeros Lib.countByte; rw [← Lib.bytesOf_length xs]; exact List.count_le_length
                                                                have := HDL.out; omega)
  have hbe : ((n : Int) != (n : Int)) = false := by simp
  by_cases hcm : c = m
  all_goals
    first
    | rw [if_pos hcm] at hcut
    | (rw [if_neg hcm] at hcut; generalize hA2 : Option.map (fun x => x.add m) A = A2 at hcut)
    have HCUT := Lib.hid hcut
    clear hcut c1
    by_cases hz : zeros xs = n - m
    · have HV : Hid (rgE r = 0) := Lib.hid (by rw [HE.out, if_pos (by rw [HDL.out]; exact hz)])
      have hze : ((zeros xs : Int) != ((n - m : Nat) : Int)) = false := by simp [hz]
      clear hz
      obtain ⟨zx, hzx⟩ : ∃ zx : Int, (zeros xs : Int) = zx := ⟨_, rfl⟩
      have HZEQ := Lib.hid hzx
      rw [hzx] at hze
      clear hzx
      go_enter Tryd.func39, Tryd.ntmps39
      go_wp2_with fail
      go_quiet ((first | (go_at_call 45; exact Calls.quiet_of_same (turned (HLV.out _))) | (go_at_call 46; exact Calls.quiet_of_same (turned (HPL.out _)))))
      go_wp2_with fail
      rw [HMIN.out]
      try rw [hA2]
      refine (Count_any _ (n - m) _ (w.heap.size + 1) 1 xs _ (HCUT.out.below (by (repeat' (first | (with_reducible exact Below.refl _ _) | (with_reducible assumption) | (with_reducible refine below_drewN ?_ _) | (with_reducible refine below_new ?_ _) | (with_reducible refine Below.alloc ?_ ?_ _) | (with_reducible refine Below.drew ?_) | (with_reducible refine Below.setCell ?_ ?_ _) | (with_reducible apply below_at; (case k => (with_reducible assumption)); (case hB => omega)) | (with_reducible apply below_on; (with_reducible assumption)) | (go_size; done) | (with_reducible apply size_of)))) (Nat.le_refl _)) HDL.out ((show Lies _ (w.heap.size + 1) 5 [.int .u8 0] from (by (repeat' (first | (with_reducible assumption) | (with_reducible exact Lies.fresh _ _ _) | (with_reducible apply Lies.fresh_at; (first | (with_reducible rfl) | (simp; done))) | (with_reducible refine Lies.drew ?_) | (with_reducible refine Lies.drewN ?_ _) | (with_reducible refine Lies.alloc ?_ _) | (with_reducible apply Lies.past; case hb => (with_reducible assumption)) | (with_reducible apply Lies.keeps; (case k => (with_reducible assumption)); (case ht => decide)) | (with_reducible apply Lies.store3) | (with_reducible apply Lies.other; case hp => (first | omega | (simp; done) | (simp; omega))))))).cell 0)).mono ?_
      rintro e w1 ⟨rfl, rfl⟩
      have HZX := HZEQ.out
      try rw [HZX]
      go_wp2_with fail
      go_ret
      exact ⟨ret1 HV.out.symm, by (repeat' (first | (with_reducible exact Below.refl _ _) | (with_reducible assumption) | (with_reducible refine below_drewN ?_ _) | (with_reducible refine below_new ?_ _) | (with_reducible refine Below.alloc ?_ ?_ _) | (with_reducible refine Below.drew ?_) | (with_reducible refine Below.setCell ?_ ?_ _) | (with_reducible apply below_at; (case k => (with_reducible assumption)); (case hB => omega)) | (with_reducible apply below_on; (with_reducible assumption)) | (go_size; done) | (with_reducible apply size_of)))⟩
    · have HV : Hid (rgE r = 8) := Lib.hid (by rw [HE.out, if_neg (by rw [HDL.out]; exact hz)])
      have hze : ((zeros xs : Int) != ((n - m : Nat) : Int)) = true := by simp; omega
      clear hz
      obtain ⟨zx, hzx⟩ : ∃ zx : Int, (zeros xs : Int) = zx := ⟨_, rfl⟩
      have HZEQ := Lib.hid hzx
      rw [hzx] at hze
      clear hzx
      go_enter Tryd.func39, Tryd.ntmps39
      go_wp2_with fail
      go_quiet ((first | (go_at_call 45; exact Calls.quiet_of_same (turned (HLV.out _))) | (go_at_call 46; exact Calls.quiet_of_same (turned (HPL.out _)))))
      go_wp2_with fail
      rw [HMIN.out]
      try rw [hA2]
      refine (Count_any _ (n - m) _ (w.heap.size + 1) 1 xs _ (HCUT.out.below (by (repeat' (first | (with_reducible exact Below.refl _ _) | (with_reducible assumption) | (with_reducible refine below_drewN ?_ _) | (with_reducible refine below_new ?_ _) | (with_reducible refine Below.alloc ?_ ?_ _) | (with_reducible refine Below.drew ?_) | (with_reducible refine Below.setCell ?_ ?_ _) | (with_reducible apply below_at; (case k => (with_reducible assumption)); (case hB => omega)) | (with_reducible apply below_on; (with_reducible assumption)) | (go_size; done) | (with_reducible apply size_of)))) (Nat.le_refl _)) HDL.out ((show Lies _ (w.heap.size + 1) 5 [.int .u8 0] from (by (repeat' (first | (with_reducible assumption) | (with_reducible exact Lies.fresh _ _ _) | (with_reducible apply Lies.fresh_at; (first | (with_reducible rfl) | (simp; done))) | (with_reducible refine Lies.drew ?_) | (with_reducible refine Lies.drewN ?_ _) | (with_reducible refine Lies.alloc ?_ _) | (with_reducible apply Lies.past; case hb => (with_reducible assumption)) | (with_reducible apply Lies.keeps; (case k => (with_reducible assumption)); (case ht => decide)) | (with_reducible apply Lies.store3) | (with_reducible apply Lies.other; case hp => (first | omega | (simp; done) | (simp; omega))))))).cell 0)).mono ?_
      rintro e w1 ⟨rfl, rfl⟩
      have HZX := HZEQ.out
      try rw [HZX]
      go_wp2_with fail
      go_ret
      exact ⟨ret1 HV.out.symm, by (repeat' (first | (with_reducible exact Below.refl _ _) | (with_reducible assumption) | (with_reducible refine below_drewN ?_ _) | (with_reducible refine below_new ?_ _) | (with_reducible refine Below.alloc ?_ ?_ _) | (with_reducible refine Below.drew ?_) | (with_reducible refine Below.setCell ?_ ?_ _) | (with_reducible apply below_at; (case k => (with_reducible assumption)); (case hB => omega)) | (with_reducible apply below_on; (with_reducible assumption)) | (go_size; done) | (with_reducible apply size_of)))⟩
theorem Check_any (r : Rg) (A : Option Addr) (n c : Nat) (w : World) (h : RgIn w A n c r) :
    Calls Tryd.prog 39 #[.agg #[.int .i64 (r).l, .slice A n c, .int .i64 (r).n]] w fun e w' => e = .returned (.int .i64 (rgE r)) ∧ Below w.heap.size w w' := by
  by_cases hs : lvB r.l = true ∧ r.b.length = szOf r.l ∧ 0 ≤ r.n ∧ r.n ≤ 1073741824
  · exact Check_good r A n c w h hs.1 hs.2.1 hs.2.2.1 hs.2.2.2
  · rw [rgE_no (shape_no hs)]
    exact Check_shape r A n c w h hs
end Go.Proofs.YtpggdijhfdddpaaDoor.rgW
