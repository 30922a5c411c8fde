/- Putting into finders, by walks. -/
import Derived.Test.YtbdipdnnjbpibaaFdW5
namespace Go.Proofs.Ytbdipdnnjbpibaa.fdW
open Go.RowKit Go.Proofs.Ytbdipdnnjbpibaa.base Go.Proofs.Ytbdipdnnjbpibaa.rgP Go.Proofs.Ytbdipdnnjbpibaa.rgW Go.Proofs.Ytbdipdnnjbpibaa.fdP Go.Proofs.Ytbdipdnnjbpibaa.hashW
set_option linter.unusedVariables false
set_option linter.unusedSimpArgs false

theorem fput_parts {f : Fnd} {k : Int} (h : fputE f k = 0) : fdOk f = true ∧ 0 ≤ k ∧ k ≤ 1073741824 := by
  unfold fputE at h
  cases hok : fdOk f
  · rw [hok] at h; simp at h
  · rw [hok] at h
    simp only [if_true] at h
    by_cases c1 : 0 ≤ k ∧ k ≤ 1073741824
    · exact ⟨by trivial, c1⟩
    · rw [if_neg c1] at h; simp at h
set_option maxHeartbeats 4000000 in
theorem Put_ok (f : Fnd) (A : Option Addr) (n c : Nat) (x k : Int) (w : World) (h : FdIn w A n c f) (h1 : 0 ≤ x) (h2 : x ≤ 4294967295) (hk : fputE f k = 0) :
    Calls Try.prog 12 #[.agg #[.int .i64 (f).l, .slice A n c], .int .u32 x, .int .i64 k] w fun e w' => ∃ g c', e = .returned (.tuple #[.agg #[.int .i64 f.l, .slice (some ⟨g, 0, none⟩) n c'], .int .i64 0]) ∧ OwnI w' w.heap.size 3 .i64 (.slice (some ⟨g, 0, none⟩) n c') (fput f x k).s ∧ Below w.heap.size w w' := by
  have H := Lib.hid h
  obtain ⟨a1, a2, a3⟩ := fput_parts hk
  obtain ⟨b1, b2, b3⟩ := fd_parts h a1 x
  obtain ⟨p, hp⟩ : ∃ p, plc f x = p := ⟨_, rfl⟩
  have HV : Hid (plV f x = (p : Int) ∧ fdE f = 0) := Lib.hid ⟨by rw [plV, if_pos a1, hp], fdE_yes a1⟩
  have HP := Lib.hid hp
  rw [hp] at b3
  have HBD := Lib.hid (And.intro b1 (And.intro b2 b3))
  have HNE : Hid (f.s ≠ []) := Lib.hid (fun e => by have := h.e; rw [e] at this; simp at this; omega)
  have q1 : (p : Int) < n := by omega
  have q0 : (0 : Int) ≤ p := by omega
  clear h hk a1 hp b1 b2 b3
  go_enter Try.func12, Try.ntmps12
  go_upto_region 6 with (first | (go_at_call 34; refine (placeOf_any f A n c x _ (H.out.below (by (repeat' (first | (with_reducible exact Below.refl _ _) | (with_reducible assumption) | (with_reducible refine below_drewN ?_ _) | (with_reducible refine below_new ?_ _) | (with_reducible refine Below.alloc ?_ ?_ _) | (with_reducible refine Below.drew ?_) | (with_reducible refine Below.setCell ?_ ?_ _) | (with_reducible apply below_at; (case k => (with_reducible assumption)); (case hB => omega)) | (with_reducible apply below_on; (with_reducible assumption)) | (go_size; done) | (with_reducible apply size_of))))) h1 h2).mono ?_; rintro e w1 ⟨rfl, hb1⟩; rw [HV.out.1, HV.out.2]; have K1 : Lies (w1) (w.heap.size) 24 [.int .i64 (f).l, .slice (A) (n) (c)] := (by (repeat' (first | (with_reducible assumption) | (with_reducible exact Lies.fresh _ _ _) | (with_reducible apply Lies.fresh_at; (first | (with_reducible rfl) | (simp; done))) | (with_reducible refine Lies.drew ?_) | (with_reducible refine Lies.drewN ?_ _) | (with_reducible refine Lies.alloc ?_ _) | (with_reducible apply Lies.past; case hb => (with_reducible assumption)) | (with_reducible apply Lies.keeps; (case k => (with_reducible assumption)); (case ht => decide)) | (with_reducible apply Lies.store3) | (with_reducible apply Lies.other; case hp => (first | omega | (simp; done) | (simp; omega)))))); have Z1 : Lies (w1) (w.heap.size + 1) 24 [.int .i64 0, .slice none 0 0] := (by (repeat' (first | (with_reducible assumption) | (with_reducible exact Lies.fresh _ _ _) | (with_reducible apply Lies.fresh_at; (first | (with_reducible rfl) | (simp; done))) | (with_reducible refine Lies.drew ?_) | (with_reducible refine Lies.drewN ?_ _) | (with_reducible refine Lies.alloc ?_ _) | (with_reducible apply Lies.past; case hb => (with_reducible assumption)) | (with_reducible apply Lies.keeps; (case k => (with_reducible assumption)); (case ht => decide)) | (with_reducible apply Lies.store3) | (with_reducible apply Lies.other; case hp => (first | omega | (simp; done) | (simp; omega)))))); obtain ⟨p0, p1, -, -⟩ := K1.two; obtain ⟨z0, z1, y0, y1⟩ := Z1.two; have HZ1 := Lib.hid Z1; have HK1 := Lib.hid K1; have HB1 := Lib.hid hb1; have lt1 := Z1.lt; have lt0 := K1.lt))
  go_cut [10] (fun s10 wx => ∃ g G c', s10 = .pointer (some ⟨G, 0, none⟩) ∧ (Lies (wx) (G) 24 [.int .i64 (f).l, .slice ((some ⟨g, 0, none⟩)) (n) (c')]) ∧ OwnI wx (w.heap.size + 2) 3 .i64 (.slice (some ⟨g, 0, none⟩) n c') f.s ∧ (Lies (wx) (w.heap.size + 1) 24 [.int .i64 0, .slice none 0 0]) ∧ Below w.heap.size w wx ∧ w.heap.size + 1 < G)
  case first =>
    go_region_law (first | (go_simp; go_at_call 35; refine (CloneI (A := A) (n := n) (c := c) (zs := f.s) (H.out.h.below (by have := HB1.out; (repeat' (first | (with_reducible exact Below.refl _ _) | (with_reducible assumption) | (with_reducible refine below_drewN ?_ _) | (with_reducible refine below_new ?_ _) | (with_reducible refine Below.alloc ?_ ?_ _) | (with_reducible refine Below.drew ?_) | (with_reducible refine Below.setCell ?_ ?_ _) | (with_reducible apply below_at; (case k => (with_reducible assumption)); (case hB => omega)) | (with_reducible apply below_on; (with_reducible assumption)) | (go_size; done) | (with_reducible apply size_of)))) (Nat.le_refl _)) H.out.e H.out.c1 (by have := HBD.out; omega)).mono ?_; rintro e w2 ⟨A2, c2, rfl, hh2, o2, hb2⟩; obtain ⟨g, rfl, g1, g2, O2⟩ := OwnV.head o2 HNE.out; have K2 : Lies (w2) (w.heap.size) 24 [.int .i64 (f).l, .slice (A) (n) (c)] := (by have := HK1.out; (repeat' (first | (with_reducible assumption) | (with_reducible exact Lies.fresh _ _ _) | (with_reducible apply Lies.fresh_at; (first | (with_reducible rfl) | (simp; done))) | (with_reducible refine Lies.drew ?_) | (with_reducible refine Lies.drewN ?_ _) | (with_reducible refine Lies.alloc ?_ _) | (with_reducible apply Lies.past; case hb => (with_reducible assumption)) | (with_reducible apply Lies.keeps; (case k => (with_reducible assumption)); (case ht => decide)) | (with_reducible apply Lies.store3) | (with_reducible apply Lies.other; case hp => (first | omega | (simp; done) | (simp; omega)))))); obtain ⟨m0, m1, -, -⟩ := K2.two; have lt2 := K2.lt; (first | (refine lay (P := Lies (w2) (w1.heap.size) 24 [.int .i64 0, .slice none 0 0]) ?_ ?_; (focus ((repeat' (first | (with_reducible assumption) | (with_reducible exact Lies.fresh _ _ _) | (with_reducible apply Lies.fresh_at; (first | (with_reducible rfl) | (simp; done))) | (with_reducible refine Lies.drew ?_) | (with_reducible refine Lies.drewN ?_ _) | (with_reducible refine Lies.alloc ?_ _) | (with_reducible apply Lies.past; case hb => (with_reducible assumption)) | (with_reducible apply Lies.keeps; (case k => (with_reducible assumption)); (case ht => decide)) | (with_reducible apply Lies.store3) | (with_reducible apply Lies.other; case hp => (first | omega | (simp; done) | (simp; omega))))); done)); intro L9; obtain ⟨b0, b1, k0, k1⟩ := L9.two) | skip)))
    all_goals
      go_wp2_with fail
      go_meet
      have h3 := HZ1.out
      have h4 := HK1.out
      have s2 := hb2.size
      simp at s2
      refine ⟨g, _, _, rfl, by first | exact lies_store2 (by (repeat' (first | (with_reducible assumption) | (with_reducible exact Lies.fresh _ _ _) | (with_reducible apply Lies.fresh_at; (first | (with_reducible rfl) | (simp; done))) | (with_reducible refine Lies.drew ?_) | (with_reducible refine Lies.drewN ?_ _) | (with_reducible refine Lies.alloc ?_ _) | (with_reducible apply Lies.past; case hb => (with_reducible assumption)) | (with_reducible apply Lies.keeps; (case k => (with_reducible assumption)); (case ht => decide)) | (with_reducible apply Lies.store3) | (with_reducible apply Lies.other; case hp => (first | omega | (simp; done) | (simp; omega)))))) | (repeat' (first | (with_reducible assumption) | (with_reducible exact Lies.fresh _ _ _) | (with_reducible apply Lies.fresh_at; (first | (with_reducible rfl) | (simp; done))) | (with_reducible refine Lies.drew ?_) | (with_reducible refine Lies.drewN ?_ _) | (with_reducible refine Lies.alloc ?_ _) | (with_reducible apply Lies.past; case hb => (with_reducible assumption)) | (with_reducible apply Lies.keeps; (case k => (with_reducible assumption)); (case ht => decide)) | (with_reducible apply Lies.store3) | (with_reducible apply Lies.other; case hp => (first | omega | (simp; done) | (simp; omega))))), ?_, by first | ((repeat' (first | (with_reducible assumption) | (with_reducible exact Lies.fresh _ _ _) | (with_reducible apply Lies.fresh_at; (first | (with_reducible rfl) | (simp; done))) | (with_reducible refine Lies.drew ?_) | (with_reducible refine Lies.drewN ?_ _) | (with_reducible refine Lies.alloc ?_ _) | (with_reducible apply Lies.past; case hb => (with_reducible assumption)) | (with_reducible apply Lies.keeps; (case k => (with_reducible assumption)); (case ht => decide)) | (with_reducible apply Lies.store3) | (with_reducible apply Lies.other; case hp => (first | omega | (simp; done) | (simp; omega))))); done) | exact (Lies.other (Lies.other (by (repeat' (first | (with_reducible assumption) | (with_reducible exact Lies.fresh _ _ _) | (with_reducible apply Lies.fresh_at; (first | (with_reducible rfl) | (simp; done))) | (with_reducible refine Lies.drew ?_) | (with_reducible refine Lies.drewN ?_ _) | (with_reducible refine Lies.alloc ?_ _) | (with_reducible apply Lies.past; case hb => (with_reducible assumption)) | (with_reducible apply Lies.keeps; (case k => (with_reducible assumption)); (case ht => decide)) | (with_reducible apply Lies.store3) | (with_reducible apply Lies.other; case hp => (first | omega | (simp; done) | (simp; omega)))))) (by simp; omega) _) (by simp; omega) _), by have := HB1.out; (repeat' (first | (with_reducible exact Below.refl _ _) | (with_reducible assumption) | (with_reducible refine below_drewN ?_ _) | (with_reducible refine below_new ?_ _) | (with_reducible refine Below.alloc ?_ ?_ _) | (with_reducible refine Below.drew ?_) | (with_reducible refine Below.setCell ?_ ?_ _) | (with_reducible apply below_at; (case k => (with_reducible assumption)); (case hB => omega)) | (with_reducible apply below_on; (with_reducible assumption)) | (go_size; done) | (with_reducible apply size_of))), by first | omega | (simp; omega)⟩
      first
        | exact own_alloc (O2.mono (by first | omega | (simp; omega))) _
        | exact own_store2 (O2.mono (by first | omega | (simp; omega))) L9 (by decide)
        | exact (O2.mono (by first | omega | (simp; omega)))
  case rest =>
    obtain ⟨g, G, c2, rfl, KG, O, Z2, W2, ltG⟩ := hcut
    have HKG := Lib.hid KG
    have HO := Lib.hid O
    have HZ2 := Lib.hid Z2
    have HW2 := Lib.hid W2
    have HNG : Hid (g ≠ G ∧ g ≠ w.heap.size + 1) := Lib.hid ⟨fun e => own_ne O KG (by decide) (by rw [e]; rfl), by have := O.base_le; omega⟩
    have hc := O.cell p (by rw [H.out.e]; exact HBD.out.2.2)
    have hf := O.frozen p
    generalize f.s.getD p 0 = y at hc
    obtain ⟨q0', q1', -, -⟩ := KG.two
    have K3 := KG.other (p := ⟨g, p, none⟩) HNG.out.1 (.int .i64 k)
    have HK3 := Lib.hid K3
    obtain ⟨r0, r1, -, -⟩ := K3.two
    have Z3 := Z2.other (p := ⟨g, p, none⟩) HNG.out.2 (.int .i64 k)
    obtain ⟨z0', z1', v0, v1⟩ := Z3.two
    have HZ3 := Lib.hid Z3
    have HLG := Lib.hid ltG
    clear p0 p1 z0 z1 y0 y1 K1 Z1 hb1 lt1 lt0 KG O Z2 W2 ltG K3 Z3
    go_wp2_with fail
    obtain ⟨t0, t1, -, -⟩ := (lies_store2 HZ3.out (a := .int .i64 f.l) (b := .slice (some ⟨g, 0, none⟩) n c2)).two
    refine bodyPost_ret (by simp [results, Try.results12, go_sem, t0, t1]; try rfl) rfl ?_
    refine ⟨g, c2, rfl, ?_, below_store2 (Below.setCell HW2.out (by have := HO.out.base_le; show w.heap.size ≤ g; omega) _) (Nat.le_succ _)⟩
    have h3 := own_store2 (a := .int .i64 f.l) (b := .slice (some ⟨g, 0, none⟩) n c2) (HO.out.store p k) HZ3.out (by decide)
    rw [show (fput f x k).s = f.s.set p k by unfold fput; rw [HP.out]]
    exact h3.mono (by omega)
end Go.Proofs.Ytbdipdnnjbpibaa.fdW
