/- The reference's putting; new finders, by walks. -/
import Derived.Test.YtbdipdnnjbpibaaFdW7
namespace Go.Proofs.Ytbdipdnnjbpibaa.fdW
open Go.RowKit Go.Proofs.Ytbdipdnnjbpibaa.base Go.Proofs.Ytbdipdnnjbpibaa.rgP Go.Proofs.Ytbdipdnnjbpibaa.rgW Go.Proofs.Ytbdipdnnjbpibaa.fdP Go.Proofs.Ytbdipdnnjbpibaa.hashW
set_option linter.unusedVariables false
set_option linter.unusedSimpArgs false

set_option maxHeartbeats 2000000 in
theorem rPut_ok (f : Fnd) (A : Option Addr) (n c : Nat) (x k : Int) (w : World) (h : FdIn w A n c f) (h1 : 0 ≤ x) (h2 : x ≤ 4294967295) (hk : fputE f k = 0) :
    Calls Try.prog 22 #[.agg #[.int .i64 (f).l, .slice A n c], .int .u32 x, .int .i64 k] w fun e w' => ∃ g c', e = .returned (.tuple #[.agg #[.int .i64 f.l, .slice (some ⟨g, 0, none⟩) n c'], .int .i64 0]) ∧ OwnI w' w.heap.size 3 .i64 (.slice (some ⟨g, 0, none⟩) n c') (fput f x k).s ∧ Below w.heap.size w w' := by
  have H := Lib.hid h
  obtain ⟨a1, a2, a3⟩ := fput_parts hk
  have HOK := Lib.hid a1
  have e1 := fdE_yes a1
  clear h hk a1
  go_enter Try.func22, Try.ntmps22
  go_wp2_with (first | (go_at_call 24; refine (rCheck_any f _ n c _ (H.out.below (by (repeat' (first | (with_reducible exact Below.refl _ _) | (with_reducible assumption) | (with_reducible refine below_drewN ?_ _) | (with_reducible refine below_new ?_ _) | (with_reducible refine Below.alloc ?_ ?_ _) | (with_reducible refine Below.drew ?_) | (with_reducible refine Below.setCell ?_ ?_ _) | (with_reducible apply below_at; (case k => (with_reducible assumption)); (case hB => omega)) | (with_reducible apply below_on; (with_reducible assumption)) | (go_size; done) | (with_reducible apply size_of)))))).mono ?_; rintro e w1 ⟨rfl, hb1⟩; rw [e1]; have K1 : Lies (w1) (w.heap.size) 24 [.int .i64 (f).l, .slice (A) (n) (c)] := (by (repeat' (first | (with_reducible assumption) | (with_reducible exact Lies.fresh _ _ _) | (with_reducible apply Lies.fresh_at; (first | (with_reducible rfl) | (simp; done))) | (with_reducible refine Lies.drew ?_) | (with_reducible refine Lies.drewN ?_ _) | (with_reducible refine Lies.alloc ?_ _) | (with_reducible apply Lies.past; case hb => (with_reducible assumption)) | (with_reducible apply Lies.keeps; (case k => (with_reducible assumption)); (case ht => decide)) | (with_reducible apply Lies.store3) | (with_reducible apply Lies.other; case hp => (first | omega | (simp; done) | (simp; omega)))))); have Z1 : Lies (w1) (w.heap.size + 1) 24 [.int .i64 0, .slice none 0 0] := (by (repeat' (first | (with_reducible assumption) | (with_reducible exact Lies.fresh _ _ _) | (with_reducible apply Lies.fresh_at; (first | (with_reducible rfl) | (simp; done))) | (with_reducible refine Lies.drew ?_) | (with_reducible refine Lies.drewN ?_ _) | (with_reducible refine Lies.alloc ?_ _) | (with_reducible apply Lies.past; case hb => (with_reducible assumption)) | (with_reducible apply Lies.keeps; (case k => (with_reducible assumption)); (case ht => decide)) | (with_reducible apply Lies.store3) | (with_reducible apply Lies.other; case hp => (first | omega | (simp; done) | (simp; omega)))))); obtain ⟨p0, p1, -, -⟩ := K1.two; obtain ⟨z0, z1, y0, y1⟩ := Z1.two; have HZ1 := Lib.hid Z1; have HK1 := Lib.hid K1; have HB1 := Lib.hid hb1; have lt1 := Z1.lt; have lt0 := K1.lt) | (go_at_call 44; refine (With_ok f A n c x k _ (H.out.below (by have := HB1.out; (repeat' (first | (with_reducible exact Below.refl _ _) | (with_reducible assumption) | (with_reducible refine below_drewN ?_ _) | (with_reducible refine below_new ?_ _) | (with_reducible refine Below.alloc ?_ ?_ _) | (with_reducible refine Below.drew ?_) | (with_reducible refine Below.setCell ?_ ?_ _) | (with_reducible apply below_at; (case k => (with_reducible assumption)); (case hB => omega)) | (with_reducible apply below_on; (with_reducible assumption)) | (go_size; done) | (with_reducible apply size_of))))) HOK.out h1 h2).mono ?_; rintro e w2 ⟨g, c2, rfl, O2, hb2⟩; have Z2 : Lies (w2) (w.heap.size + 1) 24 [.int .i64 0, .slice none 0 0] := (by have := HZ1.out; (repeat' (first | (with_reducible assumption) | (with_reducible exact Lies.fresh _ _ _) | (with_reducible apply Lies.fresh_at; (first | (with_reducible rfl) | (simp; done))) | (with_reducible refine Lies.drew ?_) | (with_reducible refine Lies.drewN ?_ _) | (with_reducible refine Lies.alloc ?_ _) | (with_reducible apply Lies.past; case hb => (with_reducible assumption)) | (with_reducible apply Lies.keeps; (case k => (with_reducible assumption)); (case ht => decide)) | (with_reducible apply Lies.store3) | (with_reducible apply Lies.other; case hp => (first | omega | (simp; done) | (simp; omega)))))); obtain ⟨r0, r1, r2, r3⟩ := Z2.two; have HZ2 := Lib.hid Z2; have HO2 := Lib.hid O2; have HB2 : Hid (Below w.heap.size w w2) := Lib.hid (by have := HB1.out; (repeat' (first | (with_reducible exact Below.refl _ _) | (with_reducible assumption) | (with_reducible refine below_drewN ?_ _) | (with_reducible refine below_new ?_ _) | (with_reducible refine Below.alloc ?_ ?_ _) | (with_reducible refine Below.drew ?_) | (with_reducible refine Below.setCell ?_ ?_ _) | (with_reducible apply below_at; (case k => (with_reducible assumption)); (case hB => omega)) | (with_reducible apply below_on; (with_reducible assumption)) | (go_size; done) | (with_reducible apply size_of))))))
  obtain ⟨t0, t1, -, -⟩ := (lies_store2 HZ2.out (a := .int .i64 f.l) (b := .slice (some ⟨g, 0, none⟩) n c2)).two
  refine bodyPost_ret (by simp [results, Try.results22, go_sem, t0, t1]; try rfl) rfl ?_
  exact ⟨g, c2, rfl, (own_store2 HO2.out HZ2.out (by decide)).mono (by omega), below_store2 HB2.out (Nat.le_succ _)⟩
/-- Ones less than nothing, then zeros. -/
def fillM (n q : Nat) : List Int := List.replicate q (-1) ++ List.replicate (n - q) 0
theorem fillM_zero (n : Nat) : fillM n 0 = List.replicate n 0 := by simp [fillM]
theorem fillM_all (n : Nat) : fillM n n = List.replicate n (-1) := by simp [fillM]
theorem fillM_len {n q : Nat} (h : q ≤ n) : (fillM n q).length = n := by simp [fillM]; omega
theorem fillM_set {n q : Nat} (h : q < n) : (fillM n q).set q (-1) = fillM n (q + 1) := by
  unfold fillM
  rw [show n - q = (n - (q + 1)) + 1 by omega, List.replicate_succ, List.set_append_right _ _ (by simp), List.length_replicate, Nat.sub_self, List.set_cons_zero, List.replicate_succ']
  simp
attribute [irreducible] fillM
set_option maxHeartbeats 1000000 in
theorem New_bad (l : Int) (w : World) (h : lvB l = false) :
    Calls Try.prog 9 #[.int .i64 l] w fun e w' => e = .returned (.tuple #[.agg #[.int .i64 0, .slice none 0 0], .int .i64 2]) ∧ Below w.heap.size w w' := by
  have H := Lib.hid h
  clear h
  go_enter Try.func9, Try.ntmps9
  go_wp2_with (refine (isLevel_any l _).mono ?_; rintro e w1 ⟨rfl, rfl⟩; rw [H.out])
  refine bodyPost_ret (by simp [results, Try.results9, go_sem, ]; try rfl) rfl ?_
  exact ⟨rfl, by (repeat' (first | (with_reducible exact Below.refl _ _) | (with_reducible assumption) | (with_reducible refine below_drewN ?_ _) | (with_reducible refine below_new ?_ _) | (with_reducible refine Below.alloc ?_ ?_ _) | (with_reducible refine Below.drew ?_) | (with_reducible refine Below.setCell ?_ ?_ _) | (with_reducible apply below_at; (case k => (with_reducible assumption)); (case hB => omega)) | (with_reducible apply below_on; (with_reducible assumption)) | (go_size; done) | (with_reducible apply size_of)))⟩
set_option maxHeartbeats 1000000 in
theorem rNew_bad (l : Int) (w : World) (h : lvB l = false) :
    Calls Try.prog 20 #[.int .i64 l] w fun e w' => e = .returned (.tuple #[.agg #[.int .i64 0, .slice none 0 0], .int .i64 2]) ∧ Below w.heap.size w w' := by
  have H := Lib.hid h
  clear h
  go_enter Try.func20, Try.ntmps20
  go_wp2_with (refine (rLevel_any l _).mono ?_; rintro e w1 ⟨rfl, rfl⟩; rw [H.out])
  refine bodyPost_ret (by simp [results, Try.results20, go_sem, ]; try rfl) rfl ?_
  exact ⟨rfl, by (repeat' (first | (with_reducible exact Below.refl _ _) | (with_reducible assumption) | (with_reducible refine below_drewN ?_ _) | (with_reducible refine below_new ?_ _) | (with_reducible refine Below.alloc ?_ ?_ _) | (with_reducible refine Below.drew ?_) | (with_reducible refine Below.setCell ?_ ?_ _) | (with_reducible apply below_at; (case k => (with_reducible assumption)); (case hB => omega)) | (with_reducible apply below_on; (with_reducible assumption)) | (go_size; done) | (with_reducible apply size_of)))⟩
set_option maxHeartbeats 4000000 in
theorem New_ok (l : Int) (w : World) (h : lvB l = true) :
    Calls Try.prog 9 #[.int .i64 l] w fun e w' => ∃ g, e = .returned (.tuple #[.agg #[.int .i64 l, .slice (some ⟨g, 0, none⟩) (szOf l) (szOf l)], .int .i64 0]) ∧ OwnI w' w.heap.size 3 .i64 (.slice (some ⟨g, 0, none⟩) (szOf l) (szOf l)) (List.replicate (szOf l) (-1)) ∧ Below w.heap.size w w' := by
  have H := Lib.hid h
  have HS := Lib.hid (sz_bd h)
  clear h
  generalize hs : szOf l = s at *
  have HSZ := Lib.hid hs
  clear hs
  go_enter Try.func9, Try.ntmps9
  go_wp2_with (first | (go_at_call 32; refine (isLevel_any l _).mono ?_; rintro e w1 ⟨rfl, rfl⟩; rw [H.out]) | (go_at_call 33; refine (places_ok l _ H.out).mono ?_; rintro e w2 ⟨rfl, rfl⟩; rw [HSZ.out]) | (at_make; refine makeI rfl _ _ rfl _ _ s rfl rfl (by have := HS.out; omega) (w.heap.size + 1) (by simp) ?_; intro wm own hbm; have HO := Lib.hid own; have KM : Lies (wm) (w.heap.size) 24 [.int .i64 0, .slice none 0 0] := (by (repeat' (first | (with_reducible assumption) | (with_reducible exact Lies.fresh _ _ _) | (with_reducible apply Lies.fresh_at; (first | (with_reducible rfl) | (simp; done))) | (with_reducible refine Lies.drew ?_) | (with_reducible refine Lies.drewN ?_ _) | (with_reducible refine Lies.alloc ?_ _) | (with_reducible apply Lies.past; case hb => (with_reducible assumption)) | (with_reducible apply Lies.keeps; (case k => (with_reducible assumption)); (case ht => decide)) | (with_reducible apply Lies.store3) | (with_reducible apply Lies.other; case hp => (first | omega | (simp; done) | (simp; omega)))))); obtain ⟨p0, p1, f0, f1⟩ := KM.two; have HM := Lib.hid KM; have lt := KM.lt; have HB := Lib.hid hbm))
  have HW : Hid (Below w.heap.size w (wm.alloc (.cells #[.int .i64 l, .slice (some ⟨w.heap.size + 1, 0, none⟩) s s] 24))) := Lib.hid (by have := HB.out; (repeat' (first | (with_reducible exact Below.refl _ _) | (with_reducible assumption) | (with_reducible refine below_drewN ?_ _) | (with_reducible refine below_new ?_ _) | (with_reducible refine Below.alloc ?_ ?_ _) | (with_reducible refine Below.drew ?_) | (with_reducible refine Below.setCell ?_ ?_ _) | (with_reducible apply below_at; (case k => (with_reducible assumption)); (case hB => omega)) | (with_reducible apply below_on; (with_reducible assumption)) | (go_size; done) | (with_reducible apply size_of))))
  have HT : Hid (Lies (wm.alloc (.cells #[.int .i64 l, .slice (some ⟨w.heap.size + 1, 0, none⟩) s s] 24)) wm.heap.size 24 [.int .i64 l, .slice (some ⟨w.heap.size + 1, 0, none⟩) s s]) := Lib.hid (Lies.fresh _ _ _)
  have HM2 := Lib.hid (HM.out.alloc (.cells #[.int .i64 l, .slice (some ⟨w.heap.size + 1, 0, none⟩) s s] 24))
  have HO2 : Hid (OwnI (wm.alloc (.cells #[.int .i64 l, .slice (some ⟨w.heap.size + 1, 0, none⟩) s s] 24)) (w.heap.size + 1) 3 .i64 (.slice (some ⟨w.heap.size + 1, 0, none⟩) s s) (fillM s 0)) := Lib.hid (by
    have h := own_alloc HO.out (.cells #[.int .i64 l, .slice (some ⟨w.heap.size + 1, 0, none⟩) s s] 24)
    rw [fillM_zero]
    rw [show (w.alloc (.cells #[.int .i64 0, .slice none 0 0] 24)).heap.size = w.heap.size + 1 by simp] at h
    exact h)
  have s1 := HS.out
  have s2 : (s : Int) ≤ 8192 := by omega
  have HLT : Hid (w.heap.size + 1 < wm.heap.size) := Lib.hid (by have := HO.out.base_le.2; simp at this; omega)
  clear p0 p1 f0 f1 lt HB HM HO own hbm KM s1
  generalize hwx : wm.alloc (.cells #[.int .i64 l, .slice (some ⟨w.heap.size + 1, 0, none⟩) s s] 24) = wx at *
  generalize wm.heap.size = G at *
  clear hwx
  go_loopw [18] (fun i wr => ∃ q : Nat, q ≤ s ∧ i = .int .i64 (q : Int) ∧ Lies wr G 24 [.int .i64 l, .slice (some ⟨w.heap.size + 1, 0, none⟩) s s] ∧ OwnI wr (w.heap.size + 1) 3 .i64 (.slice (some ⟨w.heap.size + 1, 0, none⟩) s s) (fillM s q) ∧ (Lies (wr) (w.heap.size) 24 [.int .i64 0, .slice none 0 0]) ∧ Below w.heap.size w wr) (fun i _ => s - (intOf i).toNat)
  case atStart => exact ⟨0, Nat.zero_le _, rfl, HT.out, HO2.out, HM2.out, HW.out⟩
  case round =>
    obtain ⟨q, hq, rfl, T, O, Z, acc⟩ := hrel
    have HT1 := Lib.hid T
    have HO1 := Lib.hid O
    have HZ1 := Lib.hid Z
    have HA1 := Lib.hid acc
    obtain ⟨p0, p1, -, -⟩ := T.two
    by_cases hlt : q < s
    · have hc := O.cell q (by rw [fillM_len hq]; exact hlt)
      have hf := O.frozen q
      generalize (fillM s q).getD q 0 = y at hc
      have q1 : (q : Int) < s := by omega
      have q0 : (0 : Int) ≤ q := by omega
      have HQ := Lib.hid hlt
      clear T O Z acc hlt hq HT HO2 HM2 HW
      go_wp2_with fail
      go_roundw
      case rel =>
        refine ⟨q + 1, HQ.out, by go_num, HT1.out.other (by have := HLT.out; show w.heap.size + 1 ≠ G; omega) _, ?_, HZ1.out.other (by show w.heap.size + 1 ≠ w.heap.size; omega) _, Below.setCell HA1.out (by show w.heap.size ≤ w.heap.size + 1; omega) _⟩
        have h := HO1.out.store q (-1)
        rw [fillM_set HQ.out] at h
        exact h
      case measure => simp [intOf]; have := HQ.out; omega
    · have he : q = s := by omega
      subst he
      obtain ⟨r0, r1, r2, r3⟩ := Z.two
      clear T O Z acc hlt hq HT HO2 HM2 HW
      go_wp2_with fail
      obtain ⟨t0, t1, -, -⟩ := (lies_store2 HZ1.out (a := .int .i64 l) (b := .slice (some ⟨w.heap.size + 1, 0, none⟩) q q)).two
      have HE : Hid (w.heap.size ≤ w.heap.size) := Lib.hid (Nat.le_refl _)
      refine bodyPost_ret (by simp [results, Try.results9, go_sem, t0, t1]; try rfl) rfl ?_
      refine ⟨w.heap.size + 1, rfl, ?_, below_store2 HA1.out (Nat.le_refl _)⟩
      have h := HO1.out
      rw [fillM_all] at h
      exact (own_store2 h HZ1.out (by decide)).mono (Nat.le_succ _)
end Go.Proofs.Ytbdipdnnjbpibaa.fdW
