/- The reference's new finders, by walks; new finders and putting, all ways at once. -/
import Derived.Test.YtbdipdnnjbpibaaFdW8
namespace Go.Proofs.Ytbdipdnnjbpibaa.fdW
open Go.RowKit Go.Proofs.Ytbdipdnnjbpibaa.base Go.Proofs.Ytbdipdnnjbpibaa.rgP Go.Proofs.Ytbdipdnnjbpibaa.rgW Go.Proofs.Ytbdipdnnjbpibaa.fdP Go.Proofs.Ytbdipdnnjbpibaa.hashW
set_option linter.unusedVariables false
set_option linter.unusedSimpArgs false

def negs (q : Nat) : List Int := List.replicate q (-1)
theorem negs_len (q : Nat) : (negs q).length = q := by simp [negs]
theorem negs_succ (q : Nat) : negs q ++ [-1] = negs (q + 1) := by simp [negs, List.replicate_succ']
theorem negs_eq (q : Nat) : negs q = List.replicate q (-1) := rfl
attribute [irreducible] negs
set_option maxHeartbeats 4000000 in
theorem Begin_ok (l : Int) (w : World) (h : lvB l = true) :
    Calls Try.prog 42 #[.int .i64 l] w fun e w' => ∃ A c, e = .returned (.agg #[.int .i64 l, .slice A (szOf l) c]) ∧ OwnI w' w.heap.size 3 .i64 (.slice A (szOf l) c) (List.replicate (szOf l) (-1)) ∧ Below w.heap.size w w' := by
  have H := Lib.hid h
  have HS := Lib.hid (sz_bd h)
  clear h
  generalize hs : szOf l = s at *
  have HSZ := Lib.hid hs
  clear hs
  have s1 := HS.out
  have s2 : (s : Int) ≤ 8192 := by omega
  clear s1
  have HT0 : Hid (Lies ((w.alloc (.cells #[.int .i64 0, .slice none 0 0] 24)).alloc (.cells #[.int .i64 l, .slice none 0 0] 24)) (w.heap.size + 1) 24 [.int .i64 l, .slice none 0 0] ∧ Lies ((w.alloc (.cells #[.int .i64 0, .slice none 0 0] 24)).alloc (.cells #[.int .i64 l, .slice none 0 0] 24)) (w.heap.size) 24 [.int .i64 0, .slice none 0 0] ∧ Below w.heap.size w ((w.alloc (.cells #[.int .i64 0, .slice none 0 0] 24)).alloc (.cells #[.int .i64 l, .slice none 0 0] 24))) := Lib.hid ⟨by (repeat' (first | (with_reducible assumption) | (with_reducible exact Lies.fresh _ _ _) | (with_reducible apply Lies.fresh_at; (first | (with_reducible rfl) | (simp; done))) | (with_reducible refine Lies.drew ?_) | (with_reducible refine Lies.drewN ?_ _) | (with_reducible refine Lies.alloc ?_ _) | (with_reducible apply Lies.past; case hb => (with_reducible assumption)) | (with_reducible apply Lies.keeps; (case k => (with_reducible assumption)); (case ht => decide)) | (with_reducible apply Lies.store3) | (with_reducible apply Lies.other; case hp => (first | omega | (simp; done) | (simp; omega))))), by (repeat' (first | (with_reducible assumption) | (with_reducible exact Lies.fresh _ _ _) | (with_reducible apply Lies.fresh_at; (first | (with_reducible rfl) | (simp; done))) | (with_reducible refine Lies.drew ?_) | (with_reducible refine Lies.drewN ?_ _) | (with_reducible refine Lies.alloc ?_ _) | (with_reducible apply Lies.past; case hb => (with_reducible assumption)) | (with_reducible apply Lies.keeps; (case k => (with_reducible assumption)); (case ht => decide)) | (with_reducible apply Lies.store3) | (with_reducible apply Lies.other; case hp => (first | omega | (simp; done) | (simp; omega))))), by (repeat' (first | (with_reducible exact Below.refl _ _) | (with_reducible assumption) | (with_reducible refine below_drewN ?_ _) | (with_reducible refine below_new ?_ _) | (with_reducible refine Below.alloc ?_ ?_ _) | (with_reducible refine Below.drew ?_) | (with_reducible refine Below.setCell ?_ ?_ _) | (with_reducible apply below_at; (case k => (with_reducible assumption)); (case hB => omega)) | (with_reducible apply below_on; (with_reducible assumption)) | (go_size; done) | (with_reducible apply size_of)))⟩
  go_enter Try.func42, Try.ntmps42
  go_wp2_with fail
  go_loopw [4] (fun i wr => ∃ (q : Nat) (A : Option Addr) (c : Nat), q ≤ s ∧ i = .int .i64 (q : Int) ∧ Lies wr (w.heap.size + 1) 24 [.int .i64 l, .slice A q c] ∧ OwnI wr (w.heap.size + 2) 3 .i64 (.slice A q c) (negs q) ∧ (Lies (wr) (w.heap.size) 24 [.int .i64 0, .slice none 0 0]) ∧ Below w.heap.size w wr) (fun i _ => s - (intOf i).toNat)
  case atStart => exact ⟨0, none, 0, Nat.zero_le _, rfl, HT0.out.1, by rw [negs_eq]; exact OwnI.nil _ _ _ _, HT0.out.2.1, HT0.out.2.2⟩
  case round =>
    clear HT0
    obtain ⟨q, A, c, hq, rfl, T, O, Z, acc⟩ := hrel
    have HT1 := Lib.hid T
    have HO1 := Lib.hid O
    have HZ1 := Lib.hid Z
    have HA1 := Lib.hid acc
    obtain ⟨p0, p1, f0, f1⟩ := T.two
    have lt1 := T.lt
    by_cases hlt : q < s
    · have q1 : (q : Int) < s := by omega
      have q0 : (0 : Int) ≤ q := by omega
      have HQ := Lib.hid hlt
      obtain ⟨wl, hwl⟩ : ∃ x, wr.alloc (.cells #[.int .i64 (-1)] 3) = x := ⟨_, rfl⟩
      have HNEW : Hid (Has .i64 (wr.alloc (.cells #[.int .i64 (-1)] 3)) (some ⟨wr.heap.size, 0, none⟩) [-1]) := Lib.hid (has_lit rfl (by simp [maxLen]))
      have HO2 := Lib.hid (own_alloc O (.cells #[.int .i64 (-1)] 3))
      have HT2 := Lib.hid (T.alloc (.cells #[.int .i64 (-1)] 3))
      have HZ2 := Lib.hid (Z.alloc (.cells #[.int .i64 (-1)] 3))
      have HA2 := Lib.hid (acc.alloc acc.size (.cells #[.int .i64 (-1)] 3))
      clear T O Z acc hlt hq hwl wl
      go_wp2_with (first | (go_at_call 29; refine (rSize_ok l _ H.out).mono ?_; rintro e w2 ⟨rfl, rfl⟩; rw [HSZ.out]) | (at_builtin; refine appI rfl _ _ rfl (w.heap.size + 2) _ _ rfl HO2.out (some ⟨_, 0, none⟩) 1 1 [-1] rfl rfl HNEW.out (q + 1) (by rw [negs_len]) (by have := HQ.out; have := HS.out; omega) (by simp; omega) ?_; intro A2 c2 w3 ho3 hg3 hb3; have HO3 := Lib.hid ho3; have HT3 := Lib.hid (HT2.out.below hb3 (by omega)); have HZ3 := Lib.hid (HZ2.out.below hb3 (by omega)); have HA3 := Lib.hid (HA2.out.trans (hb3.mono (by omega))); obtain ⟨r0, r1, r2, r3⟩ := HT3.out.two))
      go_roundw
      case rel =>
        refine ⟨q + 1, A2, c2, HQ.out, by go_num, HT3.out.set 1 _, ?_, HZ3.out.other (by show w.heap.size + 1 ≠ w.heap.size; omega) _, Below.setCell HA3.out (by show w.heap.size ≤ w.heap.size + 1; omega) _⟩
        have h := HO3.out
        rw [negs_succ] at h
        exact own_set h (own_ne h HT3.out (by decide)) _
      case measure => simp [intOf]; have := HQ.out; omega
    · have he : q = s := by omega
      subst he
      obtain ⟨r0, r1, r2, r3⟩ := Z.two
      clear T O Z acc hlt hq f0 f1
      go_wp2_with (first | (go_at_call 29; refine (rSize_ok l _ H.out).mono ?_; rintro e w2 ⟨rfl, rfl⟩; rw [HSZ.out]))
      obtain ⟨t0, t1, -, -⟩ := (lies_store2 HZ1.out (a := .int .i64 l) (b := .slice A q c)).two
      refine bodyPost_ret (by simp [results, Try.results42, go_sem, t0, t1]; try rfl) rfl ?_
      refine ⟨A, c, rfl, ?_, below_store2 HA1.out (Nat.le_refl _)⟩
      have h := HO1.out
      rw [negs_eq] at h
      exact (own_store2 h HZ1.out (by decide)).mono (by omega)
set_option maxHeartbeats 1000000 in
theorem rNew_ok (l : Int) (w : World) (h : lvB l = true) :
    Calls Try.prog 20 #[.int .i64 l] w fun e w' => ∃ A c, e = .returned (.tuple #[.agg #[.int .i64 l, .slice A (szOf l) c], .int .i64 0]) ∧ OwnI w' w.heap.size 3 .i64 (.slice A (szOf l) c) (List.replicate (szOf l) (-1)) ∧ Below w.heap.size w w' := by
  have H := Lib.hid h
  clear h
  obtain ⟨s, hs⟩ : ∃ s, szOf l = s := ⟨_, rfl⟩
  have HSZ := Lib.hid hs
  rw [hs]
  clear hs
  go_enter Try.func20, Try.ntmps20
  go_wp2_with (first | (go_at_call 27; refine (rLevel_any l _).mono ?_; rintro e w1 ⟨rfl, rfl⟩; rw [H.out]) | (go_at_call 42; refine (Begin_ok l _ H.out).mono ?_; rintro e wm ⟨A, c, rfl, own, hbm⟩; rw [HSZ.out] at own ⊢; have HO := Lib.hid own; have KM : Lies (wm) (w.heap.size) 24 [.int .i64 0, .slice none 0 0] := (by (repeat' (first | (with_reducible assumption) | (with_reducible exact Lies.fresh _ _ _) | (with_reducible apply Lies.fresh_at; (first | (with_reducible rfl) | (simp; done))) | (with_reducible refine Lies.drew ?_) | (with_reducible refine Lies.drewN ?_ _) | (with_reducible refine Lies.alloc ?_ _) | (with_reducible apply Lies.past; case hb => (with_reducible assumption)) | (with_reducible apply Lies.keeps; (case k => (with_reducible assumption)); (case ht => decide)) | (with_reducible apply Lies.store3) | (with_reducible apply Lies.other; case hp => (first | omega | (simp; done) | (simp; omega)))))); obtain ⟨p0, p1, f0, f1⟩ := KM.two; have HM := Lib.hid KM; have lt := KM.lt; have HB := Lib.hid hbm))
  obtain ⟨t0, t1, -, -⟩ := (lies_store2 HM.out (a := .int .i64 l) (b := .slice A s c)).two
  clear p0 p1 f0 f1 lt
  refine bodyPost_ret (by simp [results, Try.results20, go_sem, t0, t1]; try rfl) rfl ?_
  refine ⟨A, c, rfl, ?_, below_store2 (by have := HB.out; (repeat' (first | (with_reducible exact Below.refl _ _) | (with_reducible assumption) | (with_reducible refine below_drewN ?_ _) | (with_reducible refine below_new ?_ _) | (with_reducible refine Below.alloc ?_ ?_ _) | (with_reducible refine Below.drew ?_) | (with_reducible refine Below.setCell ?_ ?_ _) | (with_reducible apply below_at; (case k => (with_reducible assumption)); (case hB => omega)) | (with_reducible apply below_on; (with_reducible assumption)) | (go_size; done) | (with_reducible apply size_of)))) (Nat.le_refl _)⟩
  exact (own_store2 HO.out HM.out (by decide)).mono (by simp)
end Go.Proofs.Ytbdipdnnjbpibaa.fdW
