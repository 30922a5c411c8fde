/- Several texts as one: FdW7, FdW8, FdW9, FdL. -/
import Derived.Test.YtemiecghdmagnaaGM
namespace Go.Proofs.Ytemiecghdmagnaa.fdW
set_option maxRecDepth 100000
open Go.RowKit Go.Proofs.Ytemiecghdmagnaa.base Go.Proofs.Ytemiecghdmagnaa.rgP Go.Proofs.Ytemiecghdmagnaa.rgW Go.Proofs.Ytemiecghdmagnaa.fdP Go.Proofs.Ytemiecghdmagnaa.hashW
set_option linter.unusedVariables false
set_option linter.unusedSimpArgs false

theorem wcells {w : World} {G G2 g j : Nat} {a0 a1 b0 b1 v : Value} {t : TypeId} (h : Lies w G t [a0, a1]) (k : Lies w G2 t [b0, b1]) (hc : w.cell? ⟨g, j, none⟩ = some v) (hf : w.frozen? ⟨g, j, none⟩ = false) : w.cell? ⟨G, 1, none⟩ = some a1 ∧ w.cell? ⟨G2, 0, none⟩ = some b0 ∧ w.cell? ⟨G2, 1, none⟩ = some b1 ∧ w.cell? ⟨g, j, none⟩ = some (cellOr w g j) ∧ w.frozen? ⟨g, j, none⟩ = false := ⟨h.two.2.1, k.two.1, k.two.2.1, cellOr_of hc, hf⟩
set_option maxHeartbeats 4000000 in
theorem With_ok (f : Fnd) (A : Option Addr) (n c : Nat) (x k : Int) (w : World) (h : FdIn w A n c f) (hok : fdOk f = true) (h1 : 0 ≤ x) (h2 : x ≤ 4294967295) :
    Calls Try.prog 74 #[.agg #[.int .i64 (f).l, .slice A n c], .int .u32 x, .int .i64 k] w fun e w' => ∃ g c', e = .returned (.agg #[.int .i64 f.l, .slice (some ⟨g, 0, none⟩) n c']) ∧ OwnI w' w.heap.size 3 .i64 (.slice (some ⟨g, 0, none⟩) n c') (fput f x k).s ∧ Below w.heap.size w w' := by
  have H := Lib.hid h
  obtain ⟨b1, b2, b3⟩ := fd_parts h hok x
  obtain ⟨p, hp⟩ : ∃ p, plc f x = p := ⟨_, rfl⟩
  have HP : Hid (plc f x = p ∧ (plc f x : Int) = (p : Int)) := Lib.hid ⟨hp, by rw [hp]⟩
  rw [hp] at b3
  have HBD := Lib.hid (And.intro b1 (And.intro b2 b3))
  have HNE : Hid (f.s ≠ []) := Lib.hid (fun e => by have := h.e; rw [e] at this; simp at this; omega)
  have q1 : (p : Int) < n := by omega
  have q0 : (0 : Int) ≤ p := by omega
  clear h hok hp b1 b2 b3
  go_enter Try.func74, Try.ntmps74
  go_wp2_with fail
  refine (Twin_any f A n c _ (H.out.below (by (repeat' (first | (with_reducible exact Below.refl _ _) | (with_reducible assumption) | (with_reducible refine below_drewN ?_ _) | (with_reducible refine below_new ?_ _) | (with_reducible refine Below.alloc ?_ ?_ _) | (with_reducible refine Below.drew ?_) | (with_reducible refine Below.setCell ?_ ?_ _) | (with_reducible apply below_at; (case k => (with_reducible assumption)); (case hB => omega)) | (with_reducible apply below_on; (with_reducible assumption)) | (go_size; done) | (with_reducible apply size_of))))).h H.out.e (by have := HBD.out; omega)).mono ?_
  rintro e w2 ⟨A2, c2, rfl, o2, hb2⟩
  obtain ⟨g, rfl, g1, g2, O2⟩ := OwnV.head o2 HNE.out
  have s2 := hb2.size
  simp at s2
  have K2 : Lies (w2) (w.heap.size) 29 [.int .i64 (f).l, .slice (A) (n) (c)] := by (repeat' (first | (with_reducible assumption) | (with_reducible exact Lies.fresh _ _ _) | (with_reducible apply Lies.fresh_at; (first | (with_reducible rfl) | (simp; done))) | (with_reducible refine Lies.drew ?_) | (with_reducible refine Lies.drewN ?_ _) | (with_reducible refine Lies.alloc ?_ _) | (with_reducible apply Lies.past; case hb => (with_reducible assumption)) | (with_reducible apply Lies.keeps; (case k => (with_reducible assumption)); (case ht => decide)) | (with_reducible apply Lies.store3) | (with_reducible apply Lies.other; case hp => (first | omega | (simp; done) | (simp; omega)))))
  have Z2 : Lies (w2) (w.heap.size + 1) 29 [.int .i64 0, .slice none 0 0] := by (repeat' (first | (with_reducible assumption) | (with_reducible exact Lies.fresh _ _ _) | (with_reducible apply Lies.fresh_at; (first | (with_reducible rfl) | (simp; done))) | (with_reducible refine Lies.drew ?_) | (with_reducible refine Lies.drewN ?_ _) | (with_reducible refine Lies.alloc ?_ _) | (with_reducible apply Lies.past; case hb => (with_reducible assumption)) | (with_reducible apply Lies.keeps; (case k => (with_reducible assumption)); (case ht => decide)) | (with_reducible apply Lies.store3) | (with_reducible apply Lies.other; case hp => (first | omega | (simp; done) | (simp; omega)))))
  have T7 : Lies (w2.alloc (.cells #[.int .i64 f.l, .slice (some ⟨g, 0, none⟩) n c2] 29)) (w2.heap.size) 29 [.int .i64 (f).l, .slice ((some ⟨g, 0, none⟩)) (n) (c2)] := Lies.fresh _ _ _
  have HK2 := Lib.hid (K2.alloc (.cells #[.int .i64 f.l, .slice (some ⟨g, 0, none⟩) n c2] 29))
  have HZ2 := Lib.hid (Z2.alloc (.cells #[.int .i64 f.l, .slice (some ⟨g, 0, none⟩) n c2] 29))
  have HT7 := Lib.hid T7
  have HO2 : Hid (OwnI (w2.alloc (.cells #[.int .i64 f.l, .slice (some ⟨g, 0, none⟩) n c2] 29)) (w.heap.size + 2) 3 .i64 (.slice (some ⟨g, 0, none⟩) n c2) f.s) := Lib.hid (own_alloc (O2.mono (by simp)) _)
  have HW2 : Hid (Below w.heap.size w w2) := Lib.hid (by (repeat' (first | (with_reducible exact Below.refl _ _) | (with_reducible assumption) | (with_reducible refine below_drewN ?_ _) | (with_reducible refine below_new ?_ _) | (with_reducible refine Below.alloc ?_ ?_ _) | (with_reducible refine Below.drew ?_) | (with_reducible refine Below.setCell ?_ ?_ _) | (with_reducible apply below_at; (case k => (with_reducible assumption)); (case hB => omega)) | (with_reducible apply below_on; (with_reducible assumption)) | (go_size; done) | (with_reducible apply size_of))))
  have HGG : Hid (g < w2.heap.size ∧ w.heap.size + 2 ≤ g ∧ w.heap.size < w2.heap.size) := Lib.hid ⟨g2, by simp at g1; omega, by omega⟩
  have lt2 := K2.lt
  have hcp := HO2.out.cell p (by rw [H.out.e]; exact HBD.out.2.2)
  have hfp := HO2.out.frozen p
  generalize f.s.getD p 0 = y at hcp
  have HCP := Lib.hid (And.intro hcp hfp)
  have HJL : Hid (p < (f.s.set p k).length) := Lib.hid (by rw [List.length_set, H.out.e]; exact HBD.out.2.2)
  clear o2 hb2 O2 K2 Z2 T7 g1 g2 s2 hcp hfp
  go_upto_region 2 with fail
  generalize hwm : w2.alloc (.cells #[.int .i64 f.l, .slice (some ⟨g, 0, none⟩) n c2] 29) = wm at *
  generalize hG : w2.heap.size = G at *
  have HWM : Hid (Below w.heap.size w wm) := Lib.hid (by rw [← hwm]; exact HW2.out.alloc HW2.out.size _)
  clear hwm HW2
  go_region_held3 (fun x' => x'.cell? ⟨G, 1, none⟩ = some (.slice (some ⟨g, 0, none⟩) n c2) ∧ x'.cell? ⟨w.heap.size, 0, none⟩ = some (.int .i64 f.l) ∧ x'.cell? ⟨w.heap.size, 1, none⟩ = some (.slice A n c) ∧ x'.cell? ⟨g, p, none⟩ = some (cellOr x' g p) ∧ x'.frozen? ⟨g, p, none⟩ = false)
    (first
      | exact wcells HT7.out.drew HK2.out.drew HCP.out.1 HCP.out.2
      | exact wcells (HT7.out.drew.past hb3) (HK2.out.drew.past hb3) (((own_drew HO2.out).below hb3 (Nat.le_refl _)).cell p (by rw [H.out.e]; exact HBD.out.2.2)) (((own_drew HO2.out).below hb3 (Nat.le_refl _)).frozen p)
      | exact wcells ((HT7.out.drew.past hb3).other (by have := HGG.out; show g ≠ G; omega) _) ((HK2.out.drew.past hb3).other (by have := HGG.out; show g ≠ w.heap.size; omega) _) ((((own_drew HO2.out).below hb3 (Nat.le_refl _)).store p k).cell p HJL.out) ((((own_drew HO2.out).below hb3 (Nat.le_refl _)).store p k).frozen p))
    (first | (go_at_call 72; refine (rPlace_ok f _ n c x _ H.out.e HBD.out.1 HBD.out.2.1 h1 h2).mono ?_; rintro e w3 ⟨rfl, hb3⟩; rw [HP.out.2]))
  all_goals
    have HK3 := Lib.hid (((HT7.out.drew.past hb3)).other (p := ⟨g, p, none⟩) (by have := HGG.out; show g ≠ G; omega) (.int .i64 k))
    have HZ3 := Lib.hid (((HZ2.out.drew.past hb3)).other (p := ⟨g, p, none⟩) (by have := HGG.out; show g ≠ w.heap.size + 1; omega) (.int .i64 k))
    have HO3 := Lib.hid (((own_drew HO2.out).below hb3 (Nat.le_refl _)).store p k)
    have HB3 : Hid (Below w.heap.size w w3) := Lib.hid (HWM.out.drew.trans (hb3.mono HWM.out.size))
    obtain ⟨s0, s1, -, -⟩ := HK3.out.two
    obtain ⟨r0, r1, r2, r3⟩ := HZ3.out.two
    clear hb3
    go_wp2_with fail
    obtain ⟨t0, t1, -, -⟩ := (lies_store2 HZ3.out (a := .int .i64 f.l) (b := .slice (some ⟨g, 0, none⟩) n c2)).two
    refine bodyPost_ret (by simp [results, Try.results74, go_sem, t0, t1]; try rfl) rfl ?_
    refine ⟨g, c2, rfl, ?_, below_store2 (Below.setCell HB3.out (by have := HGG.out; show w.heap.size ≤ g; omega) _) (Nat.le_succ _)⟩
    have h3 := own_store2 (a := .int .i64 f.l) (b := .slice (some ⟨g, 0, none⟩) n c2) HO3.out HZ3.out (by decide)
    rw [show (fput f x k).s = f.s.set p k by unfold fput; rw [HP.out.1]]
    exact h3.mono (by omega)
end Go.Proofs.Ytemiecghdmagnaa.fdW

namespace Go.Proofs.Ytemiecghdmagnaa.fdW
set_option maxRecDepth 100000
open Go.RowKit Go.Proofs.Ytemiecghdmagnaa.base Go.Proofs.Ytemiecghdmagnaa.rgP Go.Proofs.Ytemiecghdmagnaa.rgW Go.Proofs.Ytemiecghdmagnaa.fdP Go.Proofs.Ytemiecghdmagnaa.hashW
set_option linter.unusedVariables false
set_option linter.unusedSimpArgs false

/-- Ones less than nothing, then zeros. -/
def fillM (n q : Nat) : List Int := List.replicate q (-1) ++ List.replicate (n - q) 0
theorem fillM_zero (n : Nat) : fillM n 0 = List.replicate n 0 := by simp [fillM]
theorem fillM_all (n : Nat) : fillM n n = List.replicate n (-1) := by simp [fillM]
theorem fillM_len {n q : Nat} (h : q ≤ n) : (fillM n q).length = n := by simp [fillM]; omega
theorem fillM_set {n q : Nat} (h : q < n) : (fillM n q).set q (-1) = fillM n (q + 1) := by
  unfold fillM
  rw [show n - q = (n - (q + 1)) + 1 by omega, List.replicate_succ, List.set_append_right _ _ (by simp), List.length_replicate, Nat.sub_self, List.set_cons_zero, List.replicate_succ']
  simp
attribute [irreducible] fillM
set_option maxHeartbeats 1000000 in
theorem New_bad (l : Int) (w : World) (h : lvB l = false) :
    Calls Try.prog 24 #[.int .i64 l] w fun e w' => e = .returned (.tuple #[.agg #[.int .i64 0, .slice none 0 0], .int .i64 2]) ∧ Below w.heap.size w w' := by
  have H := Lib.hid h
  clear h
  go_enter Try.func24, Try.ntmps24
  go_wp2_with (refine (isLevel_any l _).mono ?_; rintro e w1 ⟨rfl, rfl⟩; rw [H.out])
  refine bodyPost_ret (by simp [results, Try.results24, go_sem, ]; try rfl) rfl ?_
  exact ⟨rfl, by (repeat' (first | (with_reducible exact Below.refl _ _) | (with_reducible assumption) | (with_reducible refine below_drewN ?_ _) | (with_reducible refine below_new ?_ _) | (with_reducible refine Below.alloc ?_ ?_ _) | (with_reducible refine Below.drew ?_) | (with_reducible refine Below.setCell ?_ ?_ _) | (with_reducible apply below_at; (case k => (with_reducible assumption)); (case hB => omega)) | (with_reducible apply below_on; (with_reducible assumption)) | (go_size; done) | (with_reducible apply size_of)))⟩
set_option maxHeartbeats 4000000 in
theorem New_ok (l : Int) (w : World) (h : lvB l = true) :
    Calls Try.prog 24 #[.int .i64 l] w fun e w' => ∃ g, e = .returned (.tuple #[.agg #[.int .i64 l, .slice (some ⟨g, 0, none⟩) (szOf l) (szOf l)], .int .i64 0]) ∧ OwnI w' w.heap.size 3 .i64 (.slice (some ⟨g, 0, none⟩) (szOf l) (szOf l)) (List.replicate (szOf l) (-1)) ∧ Below w.heap.size w w' := by
  have H := Lib.hid h
  have HS := Lib.hid (sz_bd h)
  clear h
  generalize hs : szOf l = s at *
  have HSZ := Lib.hid hs
  clear hs
  go_enter Try.func24, Try.ntmps24
  go_wp2_with (first | (go_at_call 50; refine (isLevel_any l _).mono ?_; rintro e w1 ⟨rfl, rfl⟩; rw [H.out]) | (go_at_call 51; refine (places_ok l _ H.out).mono ?_; rintro e w2 ⟨rfl, rfl⟩; rw [HSZ.out]) | (at_make; refine makeI rfl _ _ rfl _ _ s rfl rfl (by have := HS.out; omega) (w.heap.size + 1) (by simp) ?_; intro wm own hbm; have HO := Lib.hid own; have KM : Lies (wm) (w.heap.size) 29 [.int .i64 0, .slice none 0 0] := (by (repeat' (first | (with_reducible assumption) | (with_reducible exact Lies.fresh _ _ _) | (with_reducible apply Lies.fresh_at; (first | (with_reducible rfl) | (simp; done))) | (with_reducible refine Lies.drew ?_) | (with_reducible refine Lies.drewN ?_ _) | (with_reducible refine Lies.alloc ?_ _) | (with_reducible apply Lies.past; case hb => (with_reducible assumption)) | (with_reducible apply Lies.keeps; (case k => (with_reducible assumption)); (case ht => decide)) | (with_reducible apply Lies.store3) | (with_reducible apply Lies.other; case hp => (first | omega | (simp; done) | (simp; omega)))))); obtain ⟨p0, p1, f0, f1⟩ := KM.two; have HM := Lib.hid KM; have lt := KM.lt; have HB := Lib.hid hbm))
  have HW : Hid (Below w.heap.size w (wm.alloc (.cells #[.int .i64 l, .slice (some ⟨w.heap.size + 1, 0, none⟩) s s] 29))) := Lib.hid (by have := HB.out; (repeat' (first | (with_reducible exact Below.refl _ _) | (with_reducible assumption) | (with_reducible refine below_drewN ?_ _) | (with_reducible refine below_new ?_ _) | (with_reducible refine Below.alloc ?_ ?_ _) | (with_reducible refine Below.drew ?_) | (with_reducible refine Below.setCell ?_ ?_ _) | (with_reducible apply below_at; (case k => (with_reducible assumption)); (case hB => omega)) | (with_reducible apply below_on; (with_reducible assumption)) | (go_size; done) | (with_reducible apply size_of))))
  have HT : Hid (Lies (wm.alloc (.cells #[.int .i64 l, .slice (some ⟨w.heap.size + 1, 0, none⟩) s s] 29)) wm.heap.size 29 [.int .i64 l, .slice (some ⟨w.heap.size + 1, 0, none⟩) s s]) := Lib.hid (Lies.fresh _ _ _)
  have HM2 := Lib.hid (HM.out.alloc (.cells #[.int .i64 l, .slice (some ⟨w.heap.size + 1, 0, none⟩) s s] 29))
  have HO2 : Hid (OwnI (wm.alloc (.cells #[.int .i64 l, .slice (some ⟨w.heap.size + 1, 0, none⟩) s s] 29)) (w.heap.size + 1) 3 .i64 (.slice (some ⟨w.heap.size + 1, 0, none⟩) s s) (fillM s 0)) := Lib.hid (by
    have h := own_alloc HO.out (.cells #[.int .i64 l, .slice (some ⟨w.heap.size + 1, 0, none⟩) s s] 29)
    rw [fillM_zero]
    rw [show (w.alloc (.cells #[.int .i64 0, .slice none 0 0] 29)).heap.size = w.heap.size + 1 by simp] at h
    exact h)
  have s1 := HS.out
  have s2 : (s : Int) ≤ 8192 := by omega
  have HLT : Hid (w.heap.size + 1 < wm.heap.size) := Lib.hid (by have := HO.out.base_le.2; simp at this; omega)
  clear p0 p1 f0 f1 lt HB HM HO own hbm KM s1
  generalize hwx : wm.alloc (.cells #[.int .i64 l, .slice (some ⟨w.heap.size + 1, 0, none⟩) s s] 29) = wx at *
  generalize wm.heap.size = G at *
  clear hwx
  go_loopw [18] (fun i wr => ∃ q : Nat, q ≤ s ∧ i = .int .i64 (q : Int) ∧ Lies wr G 29 [.int .i64 l, .slice (some ⟨w.heap.size + 1, 0, none⟩) s s] ∧ OwnI wr (w.heap.size + 1) 3 .i64 (.slice (some ⟨w.heap.size + 1, 0, none⟩) s s) (fillM s q) ∧ (Lies (wr) (w.heap.size) 29 [.int .i64 0, .slice none 0 0]) ∧ Below w.heap.size w wr) (fun i _ => s - (intOf i).toNat)
  case atStart => exact ⟨0, Nat.zero_le _, rfl, HT.out, HO2.out, HM2.out, HW.out⟩
  case round =>
    obtain ⟨q, hq, rfl, T, O, Z, acc⟩ := hrel
    have HT1 := Lib.hid T
    have HO1 := Lib.hid O
    have HZ1 := Lib.hid Z
    have HA1 := Lib.hid acc
    obtain ⟨p0, p1, -, -⟩ := T.two
    by_cases hlt : q < s
    · have hc := O.cell q (by rw [fillM_len hq]; exact hlt)
      have hf := O.frozen q
      generalize (fillM s q).getD q 0 = y at hc
      have q1 : (q : Int) < s := by omega
      have q0 : (0 : Int) ≤ q := by omega
      have HQ := Lib.hid hlt
      clear T O Z acc hlt hq HT HO2 HM2 HW
      go_wp2_with fail
      go_roundw
      case rel =>
        refine ⟨q + 1, HQ.out, by go_num, HT1.out.other (by have := HLT.out; show w.heap.size + 1 ≠ G; omega) _, ?_, HZ1.out.other (by show w.heap.size + 1 ≠ w.heap.size; omega) _, Below.setCell HA1.out (by show w.heap.size ≤ w.heap.size + 1; omega) _⟩
        have h := HO1.out.store q (-1)
        rw [fillM_set HQ.out] at h
        exact h
      case measure => simp [intOf]; have := HQ.out; omega
    · have he : q = s := by omega
      subst he
      obtain ⟨r0, r1, r2, r3⟩ := Z.two
      clear T O Z acc hlt hq HT HO2 HM2 HW
      go_wp2_with fail
      obtain ⟨t0, t1, -, -⟩ := (lies_store2 HZ1.out (a := .int .i64 l) (b := .slice (some ⟨w.heap.size + 1, 0, none⟩) q q)).two
      have HE : Hid (w.heap.size ≤ w.heap.size) := Lib.hid (Nat.le_refl _)
      refine bodyPost_ret (by simp [results, Try.results24, go_sem, t0, t1]; try rfl) rfl ?_
      refine ⟨w.heap.size + 1, rfl, ?_, below_store2 HA1.out (Nat.le_refl _)⟩
      have h := HO1.out
      rw [fillM_all] at h
      exact (own_store2 h HZ1.out (by decide)).mono (Nat.le_succ _)
end Go.Proofs.Ytemiecghdmagnaa.fdW

namespace Go.Proofs.Ytemiecghdmagnaa.fdW
set_option maxRecDepth 100000
open Go.RowKit Go.Proofs.Ytemiecghdmagnaa.base Go.Proofs.Ytemiecghdmagnaa.rgP Go.Proofs.Ytemiecghdmagnaa.rgW Go.Proofs.Ytemiecghdmagnaa.fdP Go.Proofs.Ytemiecghdmagnaa.hashW
set_option linter.unusedVariables false
set_option linter.unusedSimpArgs false

def negs (q : Nat) : List Int := List.replicate q (-1)
theorem negs_len (q : Nat) : (negs q).length = q := by simp [negs]
theorem negs_succ (q : Nat) : negs q ++ [-1] = negs (q + 1) := by simp [negs, List.replicate_succ']
theorem negs_eq (q : Nat) : negs q = List.replicate q (-1) := rfl
attribute [irreducible] negs
end Go.Proofs.Ytemiecghdmagnaa.fdW

namespace Go.Proofs.Ytemiecghdmagnaa.fdL
set_option maxRecDepth 100000
open Go.RowKit Go.Proofs.Ytemiecghdmagnaa.base Go.Proofs.Ytemiecghdmagnaa.rgP Go.Proofs.Ytemiecghdmagnaa.fdP Go.Proofs.Ytemiecghdmagnaa.fdW Go.Proofs.Ytemiecghdmagnaa.hashW
set_option linter.unusedVariables false
set_option linter.unusedSimpArgs false

theorem own_capI {w : World} {B : Nat} {e : TypeId} {k : IntKind} {A : Option Addr} {n c : Nat} {zs : List Int} (h : OwnI w B e k (.slice A n c) zs) : n = zs.length ∧ n ≤ c ∧ c ≤ 9223372036854775807 := by
  obtain ⟨hl, h2⟩ := h
  rcases h2 with ⟨h', h0⟩ | ⟨g', cap, cur, hv, hB, hg, hnc, hcm, hcs, ht⟩
  · injection h' with _ v2 v3
    subst v2 v3
    exact ⟨h0.symm, Nat.le_refl _, by omega⟩
  · injection hv with v1 v2 v3
    subst v2 v3
    exact ⟨rfl, hnc, by simpa [maxLen] using hcm⟩
theorem own_in {w : World} {B : Nat} {A : Option Addr} {n c : Nat} {f : Fnd} (l1 : -9223372036854775808 ≤ f.l) (l2 : f.l ≤ 9223372036854775807) (hb : ∀ z ∈ f.s, -9223372036854775808 ≤ z ∧ z ≤ 9223372036854775807) (o : OwnI w B 3 .i64 (.slice A n c) f.s) : FdIn w A n c f := by
  obtain ⟨c1, c2, c3⟩ := own_capI o
  exact ⟨l1, l2, o.has, c1.symm, c2, c3, hb⟩
theorem zero_in (w : World) : FdIn w none 0 0 zeroF := ⟨by decide, by decide, .inl rfl, rfl, Nat.le_refl _, by decide, by intro z h; cases h⟩
theorem new_in {l : Int} (h : lvB l = true) {w : World} {B c : Nat} {A : Option Addr} (o : OwnI w B 3 .i64 (.slice A (szOf l) c) (List.replicate (szOf l) (-1))) : FdIn w A (szOf l) c (newF l) := by
  have hl := (lvB_iff l).1 h
  have e : newF l = ⟨l, List.replicate (szOf l) (-1)⟩ := by unfold newF; rw [if_pos h]
  rw [e]
  exact own_in (by show -9223372036854775808 ≤ l; omega) (by show l ≤ 9223372036854775807; omega) (by intro z hz; have := List.eq_of_mem_replicate hz; omega) o
theorem New_any (l : Int) (w : World) :
    Calls Try.prog 24 #[.int .i64 l] w fun e w' => ∃ A n c, e = .returned (.tuple #[.agg #[.int .i64 (newF l).l, .slice A n c], .int .i64 (newE l)]) ∧ FdIn w' A n c (newF l) ∧ Below w.heap.size w w' := by
  cases h : lvB l
  · refine (New_bad l w h).mono ?_
    rintro e w1 ⟨rfl, hb⟩
    have e1 : newF l = zeroF := by unfold newF; rw [h]; rfl
    have e2 : newE l = 2 := by unfold newE; rw [h]; rfl
    rw [e1, e2]
    exact ⟨none, 0, 0, rfl, zero_in _, hb⟩
  · refine (New_ok l w h).mono ?_
    rintro e w1 ⟨g, rfl, ho, hb⟩
    have hi := new_in h ho
    have e1 : newF l = ⟨l, List.replicate (szOf l) (-1)⟩ := by unfold newF; rw [if_pos h]
    have e2 : newE l = 0 := by unfold newE; rw [h]; rfl
    refine ⟨_, _, _, ?_, hi, hb⟩
    rw [e1, e2]
theorem fput_in {f : Fnd} {A A' : Option Addr} {n c c' B : Nat} {x k : Int} {w w1 : World} (h : FdIn w A n c f) (hk : fputE f k = 0) (o : OwnI w1 B 3 .i64 (.slice A' n c') (fput f x k).s) : FdIn w1 A' n c' (fput f x k) := by
  obtain ⟨a1, a2, a3⟩ := fput_parts hk
  refine own_in h.l1 h.l2 ?_ o
  intro z hz
  rcases List.mem_or_eq_of_mem_set hz with h3 | h3
  · exact h.b z h3
  · rw [h3]; omega
theorem Put_any (f : Fnd) (A : Option Addr) (n c : Nat) (x k : Int) (w : World) (h : FdIn w A n c f) (h1 : 0 ≤ x) (h2 : x ≤ 4294967295) :
    Calls Try.prog 44 #[.agg #[.int .i64 (f).l, .slice A n c], .int .u32 x, .int .i64 k] w fun e w' => ∃ A' n' c', e = .returned (.tuple #[.agg #[.int .i64 (fputV f x k).l, .slice A' n' c'], .int .i64 (fputE f k)]) ∧ FdIn w' A' n' c' (fputV f x k) ∧ Below w.heap.size w w' := by
  by_cases hk : fputE f k = 0
  · refine (Put_ok f A n c x k w h h1 h2 hk).mono ?_
    rintro e w1 ⟨g, d, rfl, ho, hb1⟩
    have e1 : fputV f x k = fput f x k := by unfold fputV; rw [if_pos hk]
    rw [e1, hk]
    exact ⟨_, _, _, rfl, fput_in h hk ho, hb1⟩
  · refine (Put_bad f A n c x k w h h1 h2 hk).mono ?_
    rintro e w1 ⟨rfl, hb1⟩
    have e1 : fputV f x k = zeroF := by unfold fputV; rw [if_neg hk]
    rw [e1]
    exact ⟨none, 0, 0, rfl, zero_in _, hb1⟩
theorem OwnV.caps {w : World} {B : Nat} {A : Option Addr} {n c : Nat} {zs : List Int} (h : OwnV w B (.slice A n c) zs) : n = zs.length ∧ n ≤ c ∧ c ≤ 9223372036854775807 := by
  rcases h with h | ⟨h0, D, e⟩
  · exact own_capI h
  · injection e with _ v2 v3
    subst v2 v3 h0
    exact ⟨rfl, Nat.le_refl _, by omega⟩
theorem twin_in {w w' : World} {A A' : Option Addr} {n c c' B : Nat} {f : Fnd} (h : FdIn w A n c f) (o : OwnV w' B (.slice A' n c') f.s) : FdIn w' A' n c' f := by
  obtain ⟨c1, c2, c3⟩ := OwnV.caps o
  exact ⟨h.l1, h.l2, o.has, h.e, c2, c3, h.b⟩
theorem lies_step {w w' : World} {o : Obj} {g : Nat} {t : TypeId} {cs : List Value} (h : Lies w g t cs) (hb : Below (w.alloc o).heap.size (w.alloc o) w') : Lies w' g t cs := (h.alloc _).past hb
theorem fin_step {w w' : World} {o : Obj} {A : Option Addr} {n c : Nat} {f : Fnd} (h : FdIn w A n c f) (hb : Below (w.alloc o).heap.size (w.alloc o) w') : FdIn w' A n c f := (h.below ((Below.refl _ _).alloc (Nat.le_refl _) _)).below hb
theorem acc_step {a w w' : World} {o : Obj} (h : Below a.heap.size a w) (hb : Below (w.alloc o).heap.size (w.alloc o) w') : Below a.heap.size a w' := (h.alloc h.size _).trans (hb.mono (by have := h.size; simp; omega))
theorem size_step {w w' : World} {o : Obj} (hb : Below (w.alloc o).heap.size (w.alloc o) w') : w.heap.size < w'.heap.size := by have := hb.size; simp at this; omega
theorem f2 {w : World} {g : Nat} {t : TypeId} {a b : Value} (h : Lies w g t [a, b]) : w.cell? ⟨g, 0, none⟩ = some a ∧ w.cell? ⟨g, 1, none⟩ = some b := ⟨h.two.1, h.two.2.1⟩
theorem fin_cap {w : World} {A : Option Addr} {n c : Nat} {f : Fnd} (h : FdIn w A n c f) : n ≤ 9223372036854775807 := by have := h.c1; have := h.c2; omega
end Go.Proofs.Ytemiecghdmagnaa.fdL
