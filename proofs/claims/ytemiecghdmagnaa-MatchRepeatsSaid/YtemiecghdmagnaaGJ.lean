/- Several texts as one: RgW12, RgW13. -/
import Derived.Test.YtemiecghdmagnaaGI
import Derived.Test.YtemiecghdmagnaaGG
namespace Go.Proofs.Ytemiecghdmagnaa.rgW
set_option maxRecDepth 100000
open Go.RowKit Go.Proofs.Ytemiecghdmagnaa.base Go.Proofs.Ytemiecghdmagnaa.rgP
set_option linter.unusedVariables false
set_option linter.unusedSimpArgs false

/-- A row of the call's own stays when a struct is stored whole. -/
theorem own_store3 {w : World} {B g : Nat} {v : Value} {zs : List Int} {x y z a b c : Value} {t : TypeId} (h : OwnI w B 5 .u8 v zs) (K : Lies w g t [x, y, z]) (ht : t ≠ 5) :
    OwnI (((w.setCell ⟨g, 0, none⟩ a).setCell ⟨g, 1, none⟩ b).setCell ⟨g, 2, none⟩ c) B 5 .u8 v zs :=
  own_set (own_set (own_set h (own_ne h K ht) a) (own_ne h K ht) b) (own_ne h K ht) c
theorem below_store3 {w w' : World} {g : Nat} {a b c : Value} (h : Below w.heap.size w w') (hg : w.heap.size ≤ g) : Below w.heap.size w (((w'.setCell ⟨g, 0, none⟩ a).setCell ⟨g, 1, none⟩ b).setCell ⟨g, 2, none⟩ c) :=
  Below.setCell (Below.setCell (Below.setCell h hg _) hg _) hg _
set_option maxHeartbeats 1000000 in
theorem New_bad (l : Int) (w : World) (h : lvB l = false) :
    Calls Try.prog 23 #[.int .i64 l] w fun e w' => e = .returned (.tuple #[.agg #[.int .i64 0, .slice none 0 0, .int .i64 0], .int .i64 2]) ∧ Below w.heap.size w w' := by
  have H := Lib.hid h
  clear h
  go_enter Try.func23, Try.ntmps23
  go_wp2_with (refine (isLevel_any l _).mono ?_; rintro e w1 ⟨rfl, rfl⟩; rw [H.out])
  refine bodyPost_ret (by simp [results, Try.results23, go_sem, ]; try rfl) rfl ?_
  exact ⟨rfl, by (repeat' (first | (with_reducible exact Below.refl _ _) | (with_reducible assumption) | (with_reducible refine below_drewN ?_ _) | (with_reducible refine below_new ?_ _) | (with_reducible refine Below.alloc ?_ ?_ _) | (with_reducible refine Below.drew ?_) | (with_reducible refine Below.setCell ?_ ?_ _) | (with_reducible apply below_at; (case k => (with_reducible assumption)); (case hB => omega)) | (with_reducible apply below_on; (with_reducible assumption)) | (go_size; done) | (with_reducible apply size_of)))⟩
set_option maxHeartbeats 1000000 in
theorem New_ok (l : Int) (w : World) (h : lvB l = true) :
    Calls Try.prog 23 #[.int .i64 l] w fun e w' => ∃ g, e = .returned (.tuple #[.agg #[.int .i64 l, .slice (some ⟨g, 0, none⟩) (szOf l) (szOf l), .int .i64 0], .int .i64 0]) ∧ OwnI w' w.heap.size 5 .u8 (.slice (some ⟨g, 0, none⟩) (szOf l) (szOf l)) (List.replicate (szOf l) 0) ∧ Below w.heap.size w w' := by
  have H := Lib.hid h
  have HS := Lib.hid (sz_bd h)
  clear h
  generalize hs : szOf l = s at *
  have HSZ := Lib.hid hs
  clear hs
  go_enter Try.func23, Try.ntmps23
  go_wp2_with (first | (go_at_call 48; refine (isLevel_any l _).mono ?_; rintro e w1 ⟨rfl, rfl⟩; rw [H.out]) | (go_at_call 49; refine (places_ok l _ H.out).mono ?_; rintro e w2 ⟨rfl, rfl⟩; rw [HSZ.out]) | (at_make; refine make8 rfl _ _ rfl _ _ s rfl rfl (by have := HS.out; omega) (w.heap.size + 1) (by simp) ?_; intro wm own hbm; have HO := Lib.hid own; have KM : Lies wm w.heap.size 26 [.int .i64 0, .slice none 0 0, .int .i64 0] := (by (repeat' (first | (with_reducible assumption) | (with_reducible exact Lies.fresh _ _ _) | (with_reducible apply Lies.fresh_at; (first | (with_reducible rfl) | (simp; done))) | (with_reducible refine Lies.drew ?_) | (with_reducible refine Lies.drewN ?_ _) | (with_reducible refine Lies.alloc ?_ _) | (with_reducible apply Lies.past; case hb => (with_reducible assumption)) | (with_reducible apply Lies.keeps; (case k => (with_reducible assumption)); (case ht => decide)) | (with_reducible apply Lies.store3) | (with_reducible apply Lies.other; case hp => (first | omega | (simp; done) | (simp; omega)))))); obtain ⟨p0, p1, p2, f0, f1, f2⟩ := KM.three; have HM := Lib.hid KM; have lt := KM.lt; have HB := Lib.hid hbm))
  obtain ⟨t0, t1, t2, -, -, -⟩ := (HM.out.store3 (a := .int .i64 l) (b := .slice (some ⟨w.heap.size + 1, 0, none⟩) s s) (c := .int .i64 0)).three
  have HE : Hid (w.heap.size ≤ w.heap.size) := Lib.hid (Nat.le_refl _)
  clear p0 p1 p2 f0 f1 f2 lt
  refine bodyPost_ret (by simp [results, Try.results23, go_sem, t0, t1, t2]; try rfl) rfl ?_
  refine ⟨w.heap.size + 1, rfl, ?_, below_store3 (by have := HB.out; (repeat' (first | (with_reducible exact Below.refl _ _) | (with_reducible assumption) | (with_reducible refine below_drewN ?_ _) | (with_reducible refine below_new ?_ _) | (with_reducible refine Below.alloc ?_ ?_ _) | (with_reducible refine Below.drew ?_) | (with_reducible refine Below.setCell ?_ ?_ _) | (with_reducible apply below_at; (case k => (with_reducible assumption)); (case hB => omega)) | (with_reducible apply below_on; (with_reducible assumption)) | (go_size; done) | (with_reducible apply size_of)))) (Nat.le_refl _)⟩
  have h := HO.out
  rw [show (w.alloc (.cells #[.int .i64 0, .slice none 0 0, .int .i64 0] 26)).heap.size = w.heap.size + 1 by simp] at h
  exact (own_store3 h HM.out (by decide)).mono (Nat.le_succ _)
end Go.Proofs.Ytemiecghdmagnaa.rgW

namespace Go.Proofs.Ytemiecghdmagnaa.rgW
set_option maxRecDepth 100000
open Go.RowKit Go.Proofs.Ytemiecghdmagnaa.base Go.Proofs.Ytemiecghdmagnaa.rgP
set_option linter.unusedVariables false
set_option linter.unusedSimpArgs false

def sameB (a b : Rg) : Bool := decide (a.l = b.l) && (decide (a.n = b.n) && decide (a.b = b.b))
set_option maxHeartbeats 2000000 in
theorem rSame_any (a b : Rg) (A B : Option Addr) (n m c d : Nat) (w : World) (hA : Has .u8 w A a.b) (eA : a.b.length = n) (hB : Has .u8 w B b.b) (eB : b.b.length = m) (m1 : n ≤ 9223372036854775807) (m2 : m ≤ 9223372036854775807) :
    Calls Try.prog 21 #[.agg #[.int .i64 (a).l, .slice A n c, .int .i64 (a).n], .agg #[.int .i64 (b).l, .slice B m d, .int .i64 (b).n]] w fun e w' => e = .returned (.bool (sameB a b)) ∧ Below w.heap.size w w' := by
  have HA := Lib.hid hA
  have HB := Lib.hid hB
  have HE := Lib.hid (And.intro eA eB)
  have HM := Lib.hid (And.intro m1 m2)
  clear hA hB eA eB m1 m2
  by_cases h1 : a.l = b.l
  · by_cases h2 : a.n = b.n
    · have HV : Hid (sameB a b = decide (a.b = b.b)) := Lib.hid (by unfold sameB; rw [decide_eq_true h1, decide_eq_true h2]; simp)
      go_enter Try.func21, Try.ntmps21
      go_wp2_with (refine (same8_any A B n m c d a.b b.b _ (HA.out.below (by (repeat' (first | (with_reducible exact Below.refl _ _) | (with_reducible assumption) | (with_reducible refine below_drewN ?_ _) | (with_reducible refine below_new ?_ _) | (with_reducible refine Below.alloc ?_ ?_ _) | (with_reducible refine Below.drew ?_) | (with_reducible refine Below.setCell ?_ ?_ _) | (with_reducible apply below_at; (case k => (with_reducible assumption)); (case hB => omega)) | (with_reducible apply below_on; (with_reducible assumption)) | (go_size; done) | (with_reducible apply size_of)))) (Nat.le_refl _)) HE.out.1 (HB.out.below (by (repeat' (first | (with_reducible exact Below.refl _ _) | (with_reducible assumption) | (with_reducible refine below_drewN ?_ _) | (with_reducible refine below_new ?_ _) | (with_reducible refine Below.alloc ?_ ?_ _) | (with_reducible refine Below.drew ?_) | (with_reducible refine Below.setCell ?_ ?_ _) | (with_reducible apply below_at; (case k => (with_reducible assumption)); (case hB => omega)) | (with_reducible apply below_on; (with_reducible assumption)) | (go_size; done) | (with_reducible apply size_of)))) (Nat.le_refl _)) HE.out.2 HM.out.1 HM.out.2).mono ?_; rintro e w1 ⟨rfl, hb1⟩)
      go_ret
      exact ⟨retb HV.out.symm, by (repeat' (first | (with_reducible exact Below.refl _ _) | (with_reducible assumption) | (with_reducible refine below_drewN ?_ _) | (with_reducible refine below_new ?_ _) | (with_reducible refine Below.alloc ?_ ?_ _) | (with_reducible refine Below.drew ?_) | (with_reducible refine Below.setCell ?_ ?_ _) | (with_reducible apply below_at; (case k => (with_reducible assumption)); (case hB => omega)) | (with_reducible apply below_on; (with_reducible assumption)) | (go_size; done) | (with_reducible apply size_of)))⟩
    · have HV : Hid (sameB a b = false) := Lib.hid (by unfold sameB; rw [decide_eq_false h2]; simp)
      have h3 : (a.n == b.n) = false := by simpa using h2
      go_enter Try.func21, Try.ntmps21
      go_wp2
      go_ret
      exact ⟨retb HV.out.symm, by (repeat' (first | (with_reducible exact Below.refl _ _) | (with_reducible assumption) | (with_reducible refine below_drewN ?_ _) | (with_reducible refine below_new ?_ _) | (with_reducible refine Below.alloc ?_ ?_ _) | (with_reducible refine Below.drew ?_) | (with_reducible refine Below.setCell ?_ ?_ _) | (with_reducible apply below_at; (case k => (with_reducible assumption)); (case hB => omega)) | (with_reducible apply below_on; (with_reducible assumption)) | (go_size; done) | (with_reducible apply size_of)))⟩
  · have HV : Hid (sameB a b = false) := Lib.hid (by unfold sameB; rw [decide_eq_false h1]; simp)
    have h3 : (a.l == b.l) = false := by simpa using h1
    go_enter Try.func21, Try.ntmps21
    go_wp2
    go_ret
    exact ⟨retb HV.out.symm, by (repeat' (first | (with_reducible exact Below.refl _ _) | (with_reducible assumption) | (with_reducible refine below_drewN ?_ _) | (with_reducible refine below_new ?_ _) | (with_reducible refine Below.alloc ?_ ?_ _) | (with_reducible refine Below.drew ?_) | (with_reducible refine Below.setCell ?_ ?_ _) | (with_reducible apply below_at; (case k => (with_reducible assumption)); (case hB => omega)) | (with_reducible apply below_on; (with_reducible assumption)) | (go_size; done) | (with_reducible apply size_of)))⟩
end Go.Proofs.Ytemiecghdmagnaa.rgW
