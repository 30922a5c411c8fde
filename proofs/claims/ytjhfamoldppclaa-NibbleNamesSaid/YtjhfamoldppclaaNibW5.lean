/- What the functions of the reference of nibble return on walks; Bits. -/
import Derived.Test.YtjhfamoldppclaaNibW4
namespace Go.Proofs.Ytjhfamoldppclaa.nibW
open Go.RowKit Go.Proofs.Ytjhfamoldppclaa.base Go.Proofs.Ytjhfamoldppclaa.nibP
set_option linter.unusedVariables false
set_option linter.unusedSimpArgs false

def bsV (p : Int) : List Bool := if wOk p then rd p.toNat else []
def BsRes (p : Int) (w : World) (e : Ending) (w' : World) : Prop := ∃ A c, e = .returned (.tuple #[.slice A (bsV p).length c, .int .i64 (wE p)]) ∧ HasB w' A (bsV p) ∧ (bsV p).length ≤ c ∧ Below w.heap.size w w'

set_option maxHeartbeats 1000000 in
theorem rNode_any (p : Int) (w : World) : Calls Try.prog 11 #[.agg #[.int .i64 (p)]] w fun e w' => e = .returned (.tuple #[.int .i64 (ndV p), .int .i64 (wE p)]) ∧ Below w.heap.size w w' := by
  cases hk : wOk p
  · have e1 : wE p = 8 := wE_no hk
    have HK := Lib.hid hk
    clear hk
    go_enter Try.func11, Try.ntmps11
    go_wp2_with fail
    refine (rCheck_any _ _).mono ?_
    rintro e w1 ⟨rfl, hb1⟩
    obtain ⟨cl1, fr1⟩ := bcell hb1; have sz1 := hb1.size; (try simp at sz1); (try have sy1 : w.heap.size + 1 < (w1).heap.size := (by omega)); have sx1 : w.heap.size < (w1).heap.size := (by omega)
    rw [e1]
    go_wp2_with fail
    refine (rCheck_any _ _).mono ?_
    rintro e w2 ⟨rfl, hb2⟩
    rw [e1]
    go_wp2
    go_ret2
    exact ⟨ret2 (by simp [ndV, HK.out]) e1.symm, by (repeat' (first | (with_reducible exact Below.refl _ _) | (with_reducible assumption) | (with_reducible refine below_drewN ?_ _) | (with_reducible refine below_new ?_ _) | (with_reducible refine Below.alloc ?_ ?_ _) | (with_reducible refine Below.drew ?_) | (with_reducible refine Below.setCell ?_ ?_ _) | (with_reducible apply below_on; (with_reducible assumption)) | (go_size; done) | (with_reducible apply size_of)))⟩
  · have e1 : wE p = 0 := wE_yes hk
    have h := (wOk_iff p).1 hk
    obtain ⟨n, rfl⟩ : ∃ n : Nat, p = n := ⟨p.toNat, by omega⟩
    have h1 : 1 ≤ n := by omega
    have h2 : n < 256 := by omega
    have HK := Lib.hid hk
    clear hk h
    go_enter Try.func11, Try.ntmps11
    go_wp2_with (first | (go_at_call 20; refine (rCheck_any _ _).mono ?_; rintro e w1 ⟨rfl, hb1⟩; obtain ⟨cl1, fr1⟩ := bcell hb1; have sz1 := hb1.size; (try simp at sz1); (try have sy1 : w.heap.size + 1 < (w1).heap.size := (by omega)); have sx1 : w.heap.size < (w1).heap.size := (by omega)) | (go_at_call 29; refine (rAt_any n _ h1 h2).mono ?_; rintro e w2 ⟨rfl, hb2⟩))
    go_ret2
    exact ⟨ret2 (by simp [ndV, HK.out]) e1.symm, by (repeat' (first | (with_reducible exact Below.refl _ _) | (with_reducible assumption) | (with_reducible refine below_drewN ?_ _) | (with_reducible refine below_new ?_ _) | (with_reducible refine Below.alloc ?_ ?_ _) | (with_reducible refine Below.drew ?_) | (with_reducible refine Below.setCell ?_ ?_ _) | (with_reducible apply below_on; (with_reducible assumption)) | (go_size; done) | (with_reducible apply size_of)))⟩
set_option maxHeartbeats 1000000 in
theorem rSecond_any (p : Int) (w : World) : Calls Try.prog 13 #[.agg #[.int .i64 (p)]] w fun e w' => e = .returned (.tuple #[.bool (scV p), .int .i64 (wE p)]) ∧ Below w.heap.size w w' := by
  cases hk : wOk p
  · have e1 : wE p = 8 := wE_no hk
    have HK := Lib.hid hk
    clear hk
    go_enter Try.func13, Try.ntmps13
    go_wp2_with fail
    refine (rCheck_any _ _).mono ?_
    rintro e w1 ⟨rfl, hb1⟩
    obtain ⟨cl1, fr1⟩ := bcell hb1; have sz1 := hb1.size; (try simp at sz1); (try have sy1 : w.heap.size + 1 < (w1).heap.size := (by omega)); have sx1 : w.heap.size < (w1).heap.size := (by omega)
    rw [e1]
    go_wp2_with fail
    refine (rCheck_any _ _).mono ?_
    rintro e w2 ⟨rfl, hb2⟩
    rw [e1]
    go_wp2
    go_ret2
    exact ⟨by simp [scV, HK.out, e1], by (repeat' (first | (with_reducible exact Below.refl _ _) | (with_reducible assumption) | (with_reducible refine below_drewN ?_ _) | (with_reducible refine below_new ?_ _) | (with_reducible refine Below.alloc ?_ ?_ _) | (with_reducible refine Below.drew ?_) | (with_reducible refine Below.setCell ?_ ?_ _) | (with_reducible apply below_on; (with_reducible assumption)) | (go_size; done) | (with_reducible apply size_of)))⟩
  · have e1 : wE p = 0 := wE_yes hk
    have h := (wOk_iff p).1 hk
    obtain ⟨n, rfl⟩ : ∃ n : Nat, p = n := ⟨p.toNat, by omega⟩
    have h1 : 1 ≤ n := by omega
    have h2 : n < 256 := by omega
    have HK := Lib.hid hk
    have HL := Lib.hid (rd_len n (by omega))
    have hl8 := HL.out.1
    clear hk h
    go_enter Try.func13, Try.ntmps13
    go_wp2_with (first | (go_at_call 20; refine (rCheck_any _ _).mono ?_; rintro e w1 ⟨rfl, hb1⟩; obtain ⟨cl1, fr1⟩ := bcell hb1; have sz1 := hb1.size; (try simp at sz1); (try have sy1 : w.heap.size + 1 < (w1).heap.size := (by omega)); have sx1 : w.heap.size < (w1).heap.size := (by omega)) | (go_at_call 27; refine (rRead_any 9 n _ h1 (by omega) (by omega)).mono ?_; rintro e w2 ⟨A, c, rfl, own, hb2⟩; obtain ⟨cl2, fr2⟩ := bcell hb2; have sz2 := hb2.size; (try simp at sz2); (try have sy2 : w.heap.size + 1 < (w2).heap.size := (by omega)); have sx2 : w.heap.size < (w2).heap.size := (by omega); have HOWN := Lib.hid own; clear own))
    go_ret2
    exact ⟨by have := HL.out; simp [scV, HK.out, e1]; omega, by (repeat' (first | (with_reducible exact Below.refl _ _) | (with_reducible assumption) | (with_reducible refine below_drewN ?_ _) | (with_reducible refine below_new ?_ _) | (with_reducible refine Below.alloc ?_ ?_ _) | (with_reducible refine Below.drew ?_) | (with_reducible refine Below.setCell ?_ ?_ _) | (with_reducible apply below_on; (with_reducible assumption)) | (go_size; done) | (with_reducible apply size_of)))⟩
set_option maxHeartbeats 1000000 in
theorem rBits_any (p : Int) (w : World) : Calls Try.prog 15 #[.agg #[.int .i64 (p)]] w (BsRes p w) := by
  cases hk : wOk p
  · have e1 : wE p = 8 := wE_no hk
    have HK := Lib.hid hk
    clear hk
    go_enter Try.func15, Try.ntmps15
    go_wp2_with fail
    refine (rCheck_any _ _).mono ?_
    rintro e w1 ⟨rfl, hb1⟩
    obtain ⟨cl1, fr1⟩ := bcell hb1; have sz1 := hb1.size; (try simp at sz1); (try have sy1 : w.heap.size + 1 < (w1).heap.size := (by omega)); have sx1 : w.heap.size < (w1).heap.size := (by omega)
    rw [e1]
    go_wp2_with fail
    refine (rCheck_any _ _).mono ?_
    rintro e w2 ⟨rfl, hb2⟩
    rw [e1]
    go_wp2
    go_ret2
    have hv : bsV p = [] := by simp [bsV, HK.out]
    exact ⟨none, 0, by rw [hv, e1]; rfl, by rw [hv]; exact .inl rfl, by rw [hv]; simp, by (repeat' (first | (with_reducible exact Below.refl _ _) | (with_reducible assumption) | (with_reducible refine below_drewN ?_ _) | (with_reducible refine below_new ?_ _) | (with_reducible refine Below.alloc ?_ ?_ _) | (with_reducible refine Below.drew ?_) | (with_reducible refine Below.setCell ?_ ?_ _) | (with_reducible apply below_on; (with_reducible assumption)) | (go_size; done) | (with_reducible apply size_of)))⟩
  · have e1 : wE p = 0 := wE_yes hk
    have h := (wOk_iff p).1 hk
    obtain ⟨n, rfl⟩ : ∃ n : Nat, p = n := ⟨p.toNat, by omega⟩
    have h1 : 1 ≤ n := by omega
    have h2 : n < 256 := by omega
    have HK := Lib.hid hk
    clear hk h
    go_enter Try.func15, Try.ntmps15
    go_wp2_with (first | (go_at_call 20; refine (rCheck_any _ _).mono ?_; rintro e w1 ⟨rfl, hb1⟩; obtain ⟨cl1, fr1⟩ := bcell hb1; have sz1 := hb1.size; (try simp at sz1); (try have sy1 : w.heap.size + 1 < (w1).heap.size := (by omega)); have sx1 : w.heap.size < (w1).heap.size := (by omega)) | (go_at_call 27; refine (rRead_any 9 n _ h1 (by omega) (by omega)).mono ?_; rintro e w2 ⟨A, c, rfl, own, hb2⟩; obtain ⟨cl2, fr2⟩ := bcell hb2; have sz2 := hb2.size; (try simp at sz2); (try have sy2 : w.heap.size + 1 < (w2).heap.size := (by omega)); have sx2 : w.heap.size < (w2).heap.size := (by omega); have HOWN := Lib.hid own; clear own))
    go_ret2
    have hv : bsV n = rd n := by simp [bsV, HK.out]
    obtain ⟨A', c', hh, h3, h4, -⟩ := HOWN.out.val
    injection hh with e3 _ e4
    subst e3 e4
    exact ⟨A, c, by rw [hv, e1]; rfl, by rw [hv]; exact h3, by rw [hv]; exact h4, by (repeat' (first | (with_reducible exact Below.refl _ _) | (with_reducible assumption) | (with_reducible refine below_drewN ?_ _) | (with_reducible refine below_new ?_ _) | (with_reducible refine Below.alloc ?_ ?_ _) | (with_reducible refine Below.drew ?_) | (with_reducible refine Below.setCell ?_ ?_ _) | (with_reducible apply below_on; (with_reducible assumption)) | (go_size; done) | (with_reducible apply size_of)))⟩
set_option maxHeartbeats 1000000 in
theorem rOf_any (A : Option Addr) (len cap : Nat) (l : List Bool) (w : World) (hA : HasB w A l) (hl : l.length = len) (hm : len ≤ 9223372036854775807) :
    Calls Try.prog 17 #[.slice A len cap] w fun e w' => e = .returned (.tuple #[.agg #[.int .i64 (ofV l)], .int .i64 (ofE l)]) ∧ Below w.heap.size w w' := by
  by_cases h7 : len ≤ 7
  · have g7 : (len : Int) ≤ 7 := by omega
    have HA := Lib.hid hA
    have HL := Lib.hid hl
    clear hA hl
    go_enter Try.func17, Try.ntmps17
    go_wp2_with (go_at_call 25; refine (rPart_any _ _ _ l _ (HA.out.below ((Below.refl _ _).alloc (Nat.le_refl _) _) (Nat.le_refl _)) HL.out (by omega)).mono ?_; rintro e w' ⟨rfl, rfl⟩)
    refine bodyPost_ret (by simp [results, Try.results17, go_sem, ]; try rfl) rfl ?_
    exact ⟨by have := HL.out; simp [ofV, ofE, this, h7], by (repeat' (first | (with_reducible exact Below.refl _ _) | (with_reducible assumption) | (with_reducible refine below_drewN ?_ _) | (with_reducible refine below_new ?_ _) | (with_reducible refine Below.alloc ?_ ?_ _) | (with_reducible refine Below.drew ?_) | (with_reducible refine Below.setCell ?_ ?_ _) | (with_reducible apply below_on; (with_reducible assumption)) | (go_size; done) | (with_reducible apply size_of)))⟩
  · have g7 : ¬ (len : Int) ≤ 7 := by omega
    go_enter Try.func17, Try.ntmps17
    go_wp2
    refine bodyPost_ret (by simp [results, Try.results17, go_sem, ]; try rfl) rfl ?_
    exact ⟨by simp [ofV, ofE, hl, h7], by (repeat' (first | (with_reducible exact Below.refl _ _) | (with_reducible assumption) | (with_reducible refine below_drewN ?_ _) | (with_reducible refine below_new ?_ _) | (with_reducible refine Below.alloc ?_ ?_ _) | (with_reducible refine Below.drew ?_) | (with_reducible refine Below.setCell ?_ ?_ _) | (with_reducible apply below_on; (with_reducible assumption)) | (go_size; done) | (with_reducible apply size_of)))⟩
end Go.Proofs.Ytjhfamoldppclaa.nibW
