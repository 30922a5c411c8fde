/- The reference's putting; new finders, by walks. -/
import Derived.Test.YtbdipdnnjbpibaaFdW6
namespace Go.Proofs.Ytbdipdnnjbpibaa.fdW
open Go.RowKit Go.Proofs.Ytbdipdnnjbpibaa.base Go.Proofs.Ytbdipdnnjbpibaa.rgP Go.Proofs.Ytbdipdnnjbpibaa.rgW Go.Proofs.Ytbdipdnnjbpibaa.fdP Go.Proofs.Ytbdipdnnjbpibaa.hashW
set_option linter.unusedVariables false
set_option linter.unusedSimpArgs false

theorem wcells {w : World} {G G2 g j : Nat} {a0 a1 b0 b1 v : Value} {t : TypeId} (h : Lies w G t [a0, a1]) (k : Lies w G2 t [b0, b1]) (hc : w.cell? ⟨g, j, none⟩ = some v) (hf : w.frozen? ⟨g, j, none⟩ = false) : w.cell? ⟨G, 1, none⟩ = some a1 ∧ w.cell? ⟨G2, 0, none⟩ = some b0 ∧ w.cell? ⟨G2, 1, none⟩ = some b1 ∧ w.cell? ⟨g, j, none⟩ = some (cellOr w g j) ∧ w.frozen? ⟨g, j, none⟩ = false := ⟨h.two.2.1, k.two.1, k.two.2.1, cellOr_of hc, hf⟩
set_option maxHeartbeats 4000000 in
theorem With_ok (f : Fnd) (A : Option Addr) (n c : Nat) (x k : Int) (w : World) (h : FdIn w A n c f) (hok : fdOk f = true) (h1 : 0 ≤ x) (h2 : x ≤ 4294967295) :
    Calls Try.prog 44 #[.agg #[.int .i64 (f).l, .slice A n c], .int .u32 x, .int .i64 k] w fun e w' => ∃ g c', e = .returned (.agg #[.int .i64 f.l, .slice (some ⟨g, 0, none⟩) n c']) ∧ OwnI w' w.heap.size 3 .i64 (.slice (some ⟨g, 0, none⟩) n c') (fput f x k).s ∧ Below w.heap.size w w' := by
  have H := Lib.hid h
  obtain ⟨b1, b2, b3⟩ := fd_parts h hok x
  obtain ⟨p, hp⟩ : ∃ p, plc f x = p := ⟨_, rfl⟩
  have HP : Hid (plc f x = p ∧ (plc f x : Int) = (p : Int)) := Lib.hid ⟨hp, by rw [hp]⟩
  rw [hp] at b3
  have HBD := Lib.hid (And.intro b1 (And.intro b2 b3))
  have HNE : Hid (f.s ≠ []) := Lib.hid (fun e => by have := h.e; rw [e] at this; simp at this; omega)
  have q1 : (p : Int) < n := by omega
  have q0 : (0 : Int) ≤ p := by omega
  clear h hok hp b1 b2 b3
  go_enter Try.func44, Try.ntmps44
  go_wp2_with fail
  refine (Twin_any f A n c _ (H.out.below (by (repeat' (first | (with_reducible exact Below.refl _ _) | (with_reducible assumption) | (with_reducible refine below_drewN ?_ _) | (with_reducible refine below_new ?_ _) | (with_reducible refine Below.alloc ?_ ?_ _) | (with_reducible refine Below.drew ?_) | (with_reducible refine Below.setCell ?_ ?_ _) | (with_reducible apply below_at; (case k => (with_reducible assumption)); (case hB => omega)) | (with_reducible apply below_on; (with_reducible assumption)) | (go_size; done) | (with_reducible apply size_of))))).h H.out.e (by have := HBD.out; omega)).mono ?_
  rintro e w2 ⟨A2, c2, rfl, o2, hb2⟩
  obtain ⟨g, rfl, g1, g2, O2⟩ := OwnV.head o2 HNE.out
  have s2 := hb2.size
  simp at s2
  have K2 : Lies (w2) (w.heap.size) 24 [.int .i64 (f).l, .slice (A) (n) (c)] := by (repeat' (first | (with_reducible assumption) | (with_reducible exact Lies.fresh _ _ _) | (with_reducible apply Lies.fresh_at; (first | (with_reducible rfl) | (simp; done))) | (with_reducible refine Lies.drew ?_) | (with_reducible refine Lies.drewN ?_ _) | (with_reducible refine Lies.alloc ?_ _) | (with_reducible apply Lies.past; case hb => (with_reducible assumption)) | (with_reducible apply Lies.keeps; (case k => (with_reducible assumption)); (case ht => decide)) | (with_reducible apply Lies.store3) | (with_reducible apply Lies.other; case hp => (first | omega | (simp; done) | (simp; omega)))))
  have Z2 : Lies (w2) (w.heap.size + 1) 24 [.int .i64 0, .slice none 0 0] := by (repeat' (first | (with_reducible assumption) | (with_reducible exact Lies.fresh _ _ _) | (with_reducible apply Lies.fresh_at; (first | (with_reducible rfl) | (simp; done))) | (with_reducible refine Lies.drew ?_) | (with_reducible refine Lies.drewN ?_ _) | (with_reducible refine Lies.alloc ?_ _) | (with_reducible apply Lies.past; case hb => (with_reducible assumption)) | (with_reducible apply Lies.keeps; (case k => (with_reducible assumption)); (case ht => decide)) | (with_reducible apply Lies.store3) | (with_reducible apply Lies.other; case hp => (first | omega | (simp; done) | (simp; omega)))))
  have T7 : Lies (w2.alloc (.cells #[.int .i64 f.l, .slice (some ⟨g, 0, none⟩) n c2] 24)) (w2.heap.size) 24 [.int .i64 (f).l, .slice ((some ⟨g, 0, none⟩)) (n) (c2)] := Lies.fresh _ _ _
  have HK2 := Lib.hid (K2.alloc (.cells #[.int .i64 f.l, .slice (some ⟨g, 0, none⟩) n c2] 24))
  have HZ2 := Lib.hid (Z2.alloc (.cells #[.int .i64 f.l, .slice (some ⟨g, 0, none⟩) n c2] 24))
  have HT7 := Lib.hid T7
  have HO2 : Hid (OwnI (w2.alloc (.cells #[.int .i64 f.l, .slice (some ⟨g, 0, none⟩) n c2] 24)) (w.heap.size + 2) 3 .i64 (.slice (some ⟨g, 0, none⟩) n c2) f.s) := Lib.hid (own_alloc (O2.mono (by simp)) _)
  have HW2 : Hid (Below w.heap.size w w2) := Lib.hid (by (repeat' (first | (with_reducible exact Below.refl _ _) | (with_reducible assumption) | (with_reducible refine below_drewN ?_ _) | (with_reducible refine below_new ?_ _) | (with_reducible refine Below.alloc ?_ ?_ _) | (with_reducible refine Below.drew ?_) | (with_reducible refine Below.setCell ?_ ?_ _) | (with_reducible apply below_at; (case k => (with_reducible assumption)); (case hB => omega)) | (with_reducible apply below_on; (with_reducible assumption)) | (go_size; done) | (with_reducible apply size_of))))
  have HGG : Hid (g < w2.heap.size ∧ w.heap.size + 2 ≤ g ∧ w.heap.size < w2.heap.size) := Lib.hid ⟨g2, by simp at g1; omega, by omega⟩
  have lt2 := K2.lt
  have hcp := HO2.out.cell p (by rw [H.out.e]; exact HBD.out.2.2)
  have hfp := HO2.out.frozen p
  generalize f.s.getD p 0 = y at hcp
  have HCP := Lib.hid (And.intro hcp hfp)
  have HJL : Hid (p < (f.s.set p k).length) := Lib.hid (by rw [List.length_set, H.out.e]; exact HBD.out.2.2)
  clear o2 hb2 O2 K2 Z2 T7 g1 g2 s2 hcp hfp
  go_upto_region 2 with fail
  generalize hwm : w2.alloc (.cells #[.int .i64 f.l, .slice (some ⟨g, 0, none⟩) n c2] 24) = wm at *
  generalize hG : w2.heap.size = G at *
  have HWM : Hid (Below w.heap.size w wm) := Lib.hid (by rw [← hwm]; exact HW2.out.alloc HW2.out.size _)
  clear hwm HW2
  go_region_held3 (fun x' => x'.cell? ⟨G, 1, none⟩ = some (.slice (some ⟨g, 0, none⟩) n c2) ∧ x'.cell? ⟨w.heap.size, 0, none⟩ = some (.int .i64 f.l) ∧ x'.cell? ⟨w.heap.size, 1, none⟩ = some (.slice A n c) ∧ x'.cell? ⟨g, p, none⟩ = some (cellOr x' g p) ∧ x'.frozen? ⟨g, p, none⟩ = false)
    (first
      | exact wcells HT7.out.drew HK2.out.drew HCP.out.1 HCP.out.2
      | exact wcells (HT7.out.drew.past hb3) (HK2.out.drew.past hb3) (((own_drew HO2.out).below hb3 (Nat.le_refl _)).cell p (by rw [H.out.e]; exact HBD.out.2.2)) (((own_drew HO2.out).below hb3 (Nat.le_refl _)).frozen p)
      | exact wcells ((HT7.out.drew.past hb3).other (by have := HGG.out; show g ≠ G; omega) _) ((HK2.out.drew.past hb3).other (by have := HGG.out; show g ≠ w.heap.size; omega) _) ((((own_drew HO2.out).below hb3 (Nat.le_refl _)).store p k).cell p HJL.out) ((((own_drew HO2.out).below hb3 (Nat.le_refl _)).store p k).frozen p))
    (first | (go_at_call 43; refine (rPlace_ok f _ n c x _ H.out.e HBD.out.1 HBD.out.2.1 h1 h2).mono ?_; rintro e w3 ⟨rfl, hb3⟩; rw [HP.out.2]))
  all_goals
    have HK3 := Lib.hid (((HT7.out.drew.past hb3)).other (p := ⟨g, p, none⟩) (by have := HGG.out; show g ≠ G; omega) (.int .i64 k))
    have HZ3 := Lib.hid (((HZ2.out.drew.past hb3)).other (p := ⟨g, p, none⟩) (by have := HGG.out; show g ≠ w.heap.size + 1; omega) (.int .i64 k))
    have HO3 := Lib.hid (((own_drew HO2.out).below hb3 (Nat.le_refl _)).store p k)
    have HB3 : Hid (Below w.heap.size w w3) := Lib.hid (HWM.out.drew.trans (hb3.mono HWM.out.size))
    obtain ⟨s0, s1, -, -⟩ := HK3.out.two
    obtain ⟨r0, r1, r2, r3⟩ := HZ3.out.two
    clear hb3
    go_wp2_with fail
    obtain ⟨t0, t1, -, -⟩ := (lies_store2 HZ3.out (a := .int .i64 f.l) (b := .slice (some ⟨g, 0, none⟩) n c2)).two
    refine bodyPost_ret (by simp [results, Try.results44, go_sem, t0, t1]; try rfl) rfl ?_
    refine ⟨g, c2, rfl, ?_, below_store2 (Below.setCell HB3.out (by have := HGG.out; show w.heap.size ≤ g; omega) _) (Nat.le_succ _)⟩
    have h3 := own_store2 (a := .int .i64 f.l) (b := .slice (some ⟨g, 0, none⟩) n c2) HO3.out HZ3.out (by decide)
    rw [show (fput f x k).s = f.s.set p k by unfold fput; rw [HP.out.1]]
    exact h3.mono (by omega)
end Go.Proofs.Ytbdipdnnjbpibaa.fdW
