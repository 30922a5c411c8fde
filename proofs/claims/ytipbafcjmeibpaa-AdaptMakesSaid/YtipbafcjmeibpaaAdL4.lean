/- AdaptParts: runs in parts, by walks. -/
import Derived.Test.YtipbafcjmeibpaaAdL3
import Derived.Test.YtipbafcjmeibpaaStW4
import Derived.Deep.RegionLaw
import Derived.Deep.RegionHeld3
import Derived.Deep.DeepCutAuto
import Derived.WalkMore
namespace Go.Proofs.Ytipbafcjmeibpaa.adL
open Go.RowKit Go.Proofs.Ytipbafcjmeibpaa.base Go.Proofs.Ytipbafcjmeibpaa.adP Go.Proofs.Ytipbafcjmeibpaa.adW Go.Proofs.Ytipbafcjmeibpaa.cntP Go.Proofs.Ytipbafcjmeibpaa.stP
open Go.Proofs.Ytipbafcjmeibpaa.cntW (bits_any)
open Go.Proofs.Ytipbafcjmeibpaa.stW (NextS_any RunS_any)
set_option linter.unusedVariables false
set_option linter.unusedSimpArgs false

theorem Run_fine (m : Ad) (l : Int) (hl : m.l = l) (A B : Option Addr) (cp cn : Nat) (s : Int) (C : Option Addr) (n cc : Nat) (zs : List Int) (w : World) (h : AdIn w A B 193 193 m) (hcp : 193 ≤ cp) (hcn : 193 ≤ cn) (s0 : 0 ≤ s) (s1 : s < 193) (ha : adOk m = true) (hC : Has .u8 w C zs) (hn : zs.length = n) (hn2 : n ≤ 20000) (hz : ∀ z ∈ zs, 0 ≤ z ∧ z ≤ 255) (hb : bitsB zs = true) (r : Ad) (t : Int) (hr : ruM m s zs = r) (ht : sRun s zs = t) :
    Calls Try.prog 13 #[.agg #[.int .i32 l, .slice A 193 cp, .slice B 193 cn], .int .u8 s, .slice C n cc] w fun e w' => ∃ gp gn c d, e = .returned (.tuple #[.agg #[.int .i32 l, .slice (some ⟨gp, 0, none⟩) 193 c, .slice (some ⟨gn, 0, none⟩) 193 d], .int .u8 t, .int .i64 0]) ∧ AdOwn w' w.heap.size gp gn c d r ∧ Below w.heap.size w w' := by
  subst hl hr ht
  refine (Run_ok m A B cp cn s C n cc zs w h hcp hcn s0 s1 ha hC hn hn2 hz).mono ?_
  rintro e w' (⟨_, gp, gn, c, d, rfl, O, hb'⟩ | ⟨h2, _, _⟩)
  · exact ⟨gp, gn, c, d, rfl, O, hb'⟩
  · rw [hb] at h2; cases h2
theorem Update_fine (m : Ad) (l : Int) (hl : m.l = l) (A B : Option Addr) (cp cn : Nat) (s b : Int) (w : World) (h : AdIn w A B 193 193 m) (hcp : 193 ≤ cp) (hcn : 193 ≤ cn) (F : Fits m s b) (r : Ad) (hr : mv m s b = r) :
    Calls Try.prog 12 #[.agg #[.int .i32 l, .slice A 193 cp, .slice B 193 cn], .int .u8 s, .int .u8 b] w fun e w' => ∃ gp gn c d, e = .returned (.tuple #[.agg #[.int .i32 l, .slice (some ⟨gp, 0, none⟩) 193 c, .slice (some ⟨gn, 0, none⟩) 193 d], .int .i64 0]) ∧ AdOwn w' w.heap.size gp gn c d r ∧ Below w.heap.size w w' := by
  subst hl hr
  have b0 := F.bit
  exact Update_ok m A B cp cn s b w h hcp hcn F.s0 (by have := F.s1; omega) ((atE_zero _ _).2 ⟨F.ok, F.s1⟩) F (by omega) (by omega)
theorem Same_at (a : Ad) (l : Int) (hl : a.l = l) (b : Ad) (l2 : Int) (hl2 : b.l = l2) (A B C D : Option Addr) (lp ln mp mn c1 c2 c3 c4 : Nat) (w : World) (ha : AdIn w A B lp ln a) (hb : AdIn w C D mp mn b) :
    Calls Try.prog 15 #[.agg #[.int .i32 l, .slice A lp c1, .slice B ln c2], .agg #[.int .i32 l2, .slice C mp c3, .slice D mn c4]] w fun e w' => e = .returned (.bool (adEq a b)) ∧ Below w.heap.size w w' := by
  subst hl hl2
  exact Same_any a b A B C D lp ln mp mn c1 c2 c3 c4 w ha hb
/-- Block g holds a map r whose rows are a call's own. -/
def Made (wx : World) (g : Nat) (l : Int) (r : Ad) : Prop := ∃ B gp gn c d, (Lies (wx) (g) 24 [.int .i32 (l), .slice (some ⟨gp, 0, none⟩) 193 (c), .slice (some ⟨gn, 0, none⟩) 193 (d)]) ∧ AdOwn wx B gp gn c d r
theorem made_new {w : World} {B gp gn c d : Nat} {l : Int} {r : Ad} (h : AdOwn w B gp gn c d r) : Made (w.alloc (.cells #[.int .i32 l, .slice (some ⟨gp, 0, none⟩) 193 c, .slice (some ⟨gn, 0, none⟩) 193 d] 24)) w.heap.size l r :=
  ⟨B, gp, gn, c, d, Lies.fresh w _ _, h.alloc _⟩
theorem made_old {w : World} {B gp gn c d g : Nat} {l : Int} {r : Ad} {x y z : Value} (h : AdOwn w B gp gn c d r) (K : Lies w g 24 [x, y, z]) : Made (((w.setCell ⟨g, 0, none⟩ (.int .i32 l)).setCell ⟨g, 1, none⟩ (.slice (some ⟨gp, 0, none⟩) 193 c)).setCell ⟨g, 2, none⟩ (.slice (some ⟨gn, 0, none⟩) 193 d)) g l r :=
  ⟨B, gp, gn, c, d, K.store3, h.store3 K (by decide)⟩
theorem Made.past {w w' : World} {g : Nat} {l : Int} {r : Ad} (h : Made w g l r) (hb : Below w.heap.size w w') : Made w' g l r := by
  obtain ⟨B, gp, gn, c, d, h1, h2⟩ := h
  exact ⟨B, gp, gn, c, d, h1.past hb, h2.past hb⟩
def partB (m : Ad) (lp ln : Nat) (s : Int) (zs : List Int) (at_ : Int) : Bool := fitB m lp ln s 0 && (!decide (100 < zs.length) && (bitsB zs && (decide (0 ≤ at_) && decide (at_ ≤ zs.length))))
set_option maxRecDepth 100000 in
set_option maxHeartbeats 2000000 in
theorem parts_bad (m : Ad) (A B : Option Addr) (lp ln cp cn : Nat) (s : Int) (C : Option Addr) (cap : Nat) (zs : List Int) (at_ : Int) (w : World) (h : AdIn w A B lp ln m) (s0 : 0 ≤ s) (s1 : s ≤ 255) (hC : Has .u8 w C zs) (hz : ∀ z ∈ zs, 0 ≤ z ∧ z ≤ 255) (hl : zs.length ≤ 9223372036854775807)
    (hor : fitB m lp ln s 0 = false ∨ (fitB m lp ln s 0 = true ∧ (100 : Int) < zs.length) ∨ (fitB m lp ln s 0 = true ∧ ¬ (100 : Int) < zs.length ∧ bitsB zs = false) ∨ (fitB m lp ln s 0 = true ∧ ¬ (100 : Int) < zs.length ∧ bitsB zs = true ∧ at_ < 0) ∨ (fitB m lp ln s 0 = true ∧ ¬ (100 : Int) < zs.length ∧ bitsB zs = true ∧ ¬ at_ < 0 ∧ (zs.length : Int) < at_)) :
    Calls Try.prog 7 #[.agg #[.int .i32 (m).l, .slice A lp cp, .slice B ln cn], .int .u8 s, .slice C zs.length cap, .int .i64 at_] w fun e w' => e = .returned (.bool true) ∧ Below w.heap.size w w' := by
  have H := Lib.hid h
  have HC := Lib.hid hC
  have HZ := Lib.hid hz
  clear h hC hz
  rcases hor with h1 | ⟨h1, h2⟩ | ⟨h1, h2, h3⟩ | ⟨h1, h2, h3, h4⟩ | ⟨h1, h2, h3, h4, h5⟩
  all_goals
    have HF := Lib.hid h1
    try have HB := Lib.hid h3
    clear h1
    try clear h3
    go_enter Try.func7, Try.ntmps7
    go_wp2_with (first | (go_at_call 23; refine (fit_any m A B lp ln cp cn s 0 _ (H.out.below (by (repeat' (first | (with_reducible exact Below.refl _ _) | (with_reducible assumption) | (with_reducible refine below_drewN ?_ _) | (with_reducible refine below_new ?_ _) | (with_reducible refine Below.alloc ?_ ?_ _) | (with_reducible refine Below.drew ?_) | (with_reducible refine Below.setCell ?_ ?_ _) | (with_reducible apply below_at; (case k => (with_reducible assumption)); (case hB => omega)) | (with_reducible apply below_on; (with_reducible assumption)) | (go_size; done) | (with_reducible apply size_of))))) s0 s1 (by omega)).mono ?_; rintro e w1 ⟨rfl, hb1⟩; rw [HF.out]) | (go_at_call 24; refine (bits_any C _ cap zs _ HZ.out (HC.out.below (by (repeat' (first | (with_reducible exact Below.refl _ _) | (with_reducible assumption) | (with_reducible refine below_drewN ?_ _) | (with_reducible refine below_new ?_ _) | (with_reducible refine Below.alloc ?_ ?_ _) | (with_reducible refine Below.drew ?_) | (with_reducible refine Below.setCell ?_ ?_ _) | (with_reducible apply below_at; (case k => (with_reducible assumption)); (case hB => omega)) | (with_reducible apply below_on; (with_reducible assumption)) | (go_size; done) | (with_reducible apply size_of)))) (Nat.le_refl _)) rfl hl).mono ?_; rintro e w2 ⟨rfl, rfl⟩; rw [HB.out]) | (go_at_call 16; refine (alive _).mono ?_; rintro e w3 ⟨rfl, hb3⟩))
    go_ret
    exact ⟨rfl, by (repeat' (first | (with_reducible exact Below.refl _ _) | (with_reducible assumption) | (with_reducible refine below_drewN ?_ _) | (with_reducible refine below_new ?_ _) | (with_reducible refine Below.alloc ?_ ?_ _) | (with_reducible refine Below.drew ?_) | (with_reducible refine Below.setCell ?_ ?_ _) | (with_reducible apply below_at; (case k => (with_reducible assumption)); (case hB => omega)) | (with_reducible apply below_on; (with_reducible assumption)) | (go_size; done) | (with_reducible apply size_of)))⟩
end Go.Proofs.Ytipbafcjmeibpaa.adL
