/- What the functions of the reference of nibble return. -/
import Derived.Test.YtjhfamoldppclaaNibW3
namespace Go.Proofs.Ytjhfamoldppclaa.nibW
open Go.RowKit Go.Proofs.Ytjhfamoldppclaa.base Go.Proofs.Ytjhfamoldppclaa.nibP
set_option linter.unusedVariables false
set_option linter.unusedSimpArgs false

def RdRes (n : Nat) (w : World) (e : Ending) (w' : World) : Prop := ∃ A c, e = .returned (.slice A (rd n).length c) ∧ OwnB w' w.heap.size 4 (.slice A (rd n).length c) (rd n) ∧ Below w.heap.size w w'
set_option maxHeartbeats 1000000 in
theorem rRead_any : ∀ (f n : Nat) (w : World), 1 ≤ n → n < 512 → n < 2 ^ f → Calls Try.prog 27 #[.int .i64 n] w (RdRes n w)
  | 0, n, w, h1, _, h => by simp at h; omega
  | f + 1, n, w, h1, h2, h => by
    by_cases c : n = 1
    · subst c
      go_enter Try.func27, Try.ntmps27
      go_wp2
      go_ret
      exact ⟨none, 0, rfl, OwnB.nil _ _ _, Below.refl _ _⟩
    · have hh : n / 2 < 2 ^ f := by rw [Nat.pow_succ] at h; omega
      have IH := rRead_any f (n / 2) w (by omega) (by omega) hh
      have HS := Lib.hid (rd_step n h2 (by omega))
      have hl := (rd_len (n / 2) (by omega)).1
      have g : ¬ (n : Int) = 1 := by omega
      have gB : ((n : Int) == 1) = false := by simpa using g
      have HQ : Hid ((((n : Int) % 2) == 1) = (n % 2 == 1)) := Lib.hid (by rw [Bool.eq_iff_iff]; simp; omega)
      obtain ⟨m, hm⟩ : ∃ m : Nat, m = n / 2 := ⟨_, rfl⟩
      rw [← hm] at IH hl
      have eN : (n : Int) / 2 = (m : Int) := by omega
      have HM := Lib.hid hm
      clear h hh c
      generalize hr : rd m = r at *
      have HR := Lib.hid hr
      clear hr hm
      go_enter Try.func27, Try.ntmps27
      go_wp2_with fail
      refine IH.mono ?_
      rintro e w1 ⟨A, c, rfl, own, hb⟩
      rw [HR.out] at own ⊢
      have HO := Lib.hid own
      have HBB := Lib.hid hb
      have hsz := hb.size
      clear own hb
      go_wp2_with (at_builtin; refine appB rfl _ _ rfl w.heap.size _ r rfl (HO.out.below ((Below.refl _ _).alloc (Nat.le_refl _) _) (Nat.le_refl _)) (some ⟨w1.heap.size, 0, none⟩) 1 1 [((n : Int) % 2 == 1)] rfl rfl (hasB_lit (zs := [((n : Int) % 2 == 1)]) rfl (by simp [maxLen])) (r.length + 1) rfl (by omega) (by simp; omega) ?_; intro A1 c1 w2 own2 hg2 hb2)
      go_ret
      have e1 : rd n = r ++ [((n : Int) % 2 == 1)] := by rw [HS.out, ← HM.out, HR.out, HQ.out]
      have e2 : (rd n).length = r.length + 1 := by rw [e1]; simp
      exact ⟨A1, c1, by rw [e2]; rfl, by rw [e2, e1]; exact own2, (HBB.out.alloc hsz _).trans hb2⟩

set_option maxHeartbeats 1000000 in
theorem rAt_any (n : Nat) (w : World) (h1 : 1 ≤ n) (h2 : n < 256) : Calls Try.prog 29 #[.agg #[.int .i64 (n)]] w fun e w' => e = .returned (.int .i64 ((nd n : Nat) : Int)) ∧ Below w.heap.size w w' := by
  have hl := rd_len n (by omega)
  by_cases c : n < 16
  · have hl4 : (rd n).length < 4 := by omega
    have HN : Hid (nd n = n) := Lib.hid (by simp [nd, c])
    clear hl c
    go_enter Try.func29, Try.ntmps29
    go_wp2_with (go_at_call 27; refine (rRead_any 9 n _ h1 (by omega) (by omega)).mono ?_; rintro e w1 ⟨A, c, rfl, own, hb1⟩; obtain ⟨cl1, fr1⟩ := bcell hb1; have sz1 := hb1.size; (try simp at sz1); (try have sy1 : w.heap.size + 1 < (w1).heap.size := (by omega)); have sx1 : w.heap.size < (w1).heap.size := (by omega))
    go_ret
    exact ⟨ret1 (by rw [HN.out]), by (repeat' (first | (with_reducible exact Below.refl _ _) | (with_reducible assumption) | (with_reducible refine below_drewN ?_ _) | (with_reducible refine below_new ?_ _) | (with_reducible refine Below.alloc ?_ ?_ _) | (with_reducible refine Below.drew ?_) | (with_reducible refine Below.setCell ?_ ?_ _) | (with_reducible apply below_on; (with_reducible assumption)) | (go_size; done) | (with_reducible apply size_of)))⟩
  · have hl4 : ¬ (rd n).length < 4 := by omega
    have hl8 : (rd n).length ≤ 8 := hl.1
    have HN : Hid (nd n = prt ((rd n).drop 4)) := Lib.hid (by simp [nd, c])
    clear hl c
    go_enter Try.func29, Try.ntmps29
    go_wp2_with fail
    refine (rRead_any 9 n _ h1 (by omega) (by omega)).mono ?_
    rintro e w1 ⟨A, c, rfl, own, hb1⟩
    obtain ⟨A', c', hv, hh, hc, -⟩ := own.val
    injection hv with e1 e2 e3
    subst e1 e3
    obtain ⟨b, off, rfl, hlt, hcell⟩ := hasB_some hh (by omega)
    obtain ⟨cl1, fr1⟩ := bcell hb1; have sz1 := hb1.size; (try simp at sz1); (try have sy1 : w.heap.size + 1 < (w1).heap.size := (by omega)); have sx1 : w.heap.size < (w1).heap.size := (by omega)
    clear own e2 hcell
    have HH := Lib.hid hh
    clear hh
    by_cases hc4 : c = 4
    · subst hc4
      go_wp2_with fail
      refine (rPart_any _ _ _ ((rd n).drop 4) _ (hasB_gone hc) (by simp; omega) (by omega)).mono ?_
      rintro e w2 ⟨rfl, rfl⟩
      go_wp2
      go_ret
      exact ⟨ret1 (by rw [HN.out]), by (repeat' (first | (with_reducible exact Below.refl _ _) | (with_reducible assumption) | (with_reducible refine below_drewN ?_ _) | (with_reducible refine below_new ?_ _) | (with_reducible refine Below.alloc ?_ ?_ _) | (with_reducible refine Below.drew ?_) | (with_reducible refine Below.setCell ?_ ?_ _) | (with_reducible apply below_on; (with_reducible assumption)) | (go_size; done) | (with_reducible apply size_of)))⟩
    · go_wp2_with fail
      refine (rPart_any _ _ _ ((rd n).drop 4) _ (HH.out.dropAt 4) (by simp) (by omega)).mono ?_
      rintro e w2 ⟨rfl, rfl⟩
      go_wp2
      go_ret
      exact ⟨ret1 (by rw [HN.out]), by (repeat' (first | (with_reducible exact Below.refl _ _) | (with_reducible assumption) | (with_reducible refine below_drewN ?_ _) | (with_reducible refine below_new ?_ _) | (with_reducible refine Below.alloc ?_ ?_ _) | (with_reducible refine Below.drew ?_) | (with_reducible refine Below.setCell ?_ ?_ _) | (with_reducible apply below_on; (with_reducible assumption)) | (go_size; done) | (with_reducible apply size_of)))⟩
end Go.Proofs.Ytjhfamoldppclaa.nibW
