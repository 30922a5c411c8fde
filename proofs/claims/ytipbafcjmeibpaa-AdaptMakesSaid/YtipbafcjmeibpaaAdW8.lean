/- The reference's copy of an adaptive map, by a walk. -/
import Derived.Test.YtipbafcjmeibpaaAdW4
import Derived.Deep.RegionLaw
import Derived.Deep.RegionHeld3
namespace Go.Proofs.Ytipbafcjmeibpaa.adW
open Go.RowKit Go.Proofs.Ytipbafcjmeibpaa.base Go.Proofs.Ytipbafcjmeibpaa.adP
set_option linter.unusedVariables false
set_option linter.unusedSimpArgs false

theorem OwnY.store3 {w : World} {B g : Nat} {v : Value} {zs : List Int} {t : TypeId} {x y z a b c : Value} (h : OwnY w B v zs) (K : Lies w g t [x, y, z]) (ht : t ≠ 21) : OwnY (((w.setCell ⟨g, 0, none⟩ a).setCell ⟨g, 1, none⟩ b).setCell ⟨g, 2, none⟩ c) B v zs := by
  rcases h with h | h
  · exact .inl (own_set (own_set (own_set h (own_ne h K ht) a) (own_ne h K ht) b) (own_ne h K ht) c)
  · exact .inr h
theorem OwnY.mono' {w : World} {B C : Nat} {v : Value} {zs : List Int} (h : OwnY w B v zs) (hC : C ≤ B) : OwnY w C v zs := by
  rcases h with h | h
  · exact .inl (OwnI.mono h hC)
  · exact .inr h
theorem OwnY.head {w : World} {B : Nat} {A : Option Addr} {n c : Nat} {zs : List Int} (h : OwnY w B (.slice A n c) zs) (hp : zs ≠ []) : ∃ g, A = some ⟨g, 0, none⟩ ∧ B ≤ g ∧ g < w.heap.size ∧ OwnI w B 21 .i32 (.slice (some ⟨g, 0, none⟩) n c) zs := by
  rcases h with h | ⟨h, _⟩
  · obtain ⟨g, rfl, h1, h2, _⟩ := h.form hp
    exact ⟨g, rfl, h1, h2, h⟩
  · exact absurd h hp
theorem ownY_cap {w : World} {B : Nat} {A : Option Addr} {n c : Nat} {zs : List Int} (h : OwnY w B (.slice A n c) zs) : n ≤ c := by
  rcases h with h | ⟨_, D, h⟩
  · exact h.capLe.1
  · injection h with _ h2 h3; omega
/-- Two rows that were made one behind the other. -/
def Apart (A B : Option Addr) (ys zs : List Int) : Prop := ys ≠ [] → zs ≠ [] → ∀ g g', A = some ⟨g, 0, none⟩ → B = some ⟨g', 0, none⟩ → g ≠ g'
theorem apart_of {w w' : World} {C : Nat} {A B : Option Addr} {n c n' c' : Nat} {ys zs : List Int} (h : OwnY w C (.slice A n c) ys) (k : OwnY w' w.heap.size (.slice B n' c') zs) : Apart A B ys zs := by
  intro h1 h2 g g' e1 e2
  obtain ⟨g1, f1, _, l1, _⟩ := OwnY.head h h1
  obtain ⟨g2, f2, l2, _, _⟩ := OwnY.head k h2
  rw [e1] at f1; rw [e2] at f2
  injection f1 with f1; injection f1 with f1
  injection f2 with f2; injection f2 with f2
  omega
def cellOr (w : World) (g i : Nat) : Value := (w.cell? ⟨g, i, none⟩).getD undef
theorem cellOr_of {w : World} {g i : Nat} {v : Value} (h : w.cell? ⟨g, i, none⟩ = some v) : w.cell? ⟨g, i, none⟩ = some (cellOr w g i) := by unfold cellOr; rw [h]; rfl
attribute [irreducible] cellOr
theorem three_of {w : World} {g g' : Nat} {t : TypeId} {a b c a' b' c' : Value} (h : Lies w g t [a, b, c]) (k : Lies w g' t [a', b', c']) : w.cell? ⟨g, 0, none⟩ = some a ∧ w.cell? ⟨g, 1, none⟩ = some b ∧ w.cell? ⟨g, 2, none⟩ = some c ∧ w.cell? ⟨g', 0, none⟩ = some (cellOr w g' 0) ∧ w.cell? ⟨g', 1, none⟩ = some (cellOr w g' 1) ∧ w.cell? ⟨g', 2, none⟩ = some (cellOr w g' 2) ∧ w.frozen? ⟨g', 0, none⟩ = false ∧ w.frozen? ⟨g', 1, none⟩ = false ∧ w.frozen? ⟨g', 2, none⟩ = false := ⟨h.three.1, h.three.2.1, h.three.2.2.1, cellOr_of k.three.1, cellOr_of k.three.2.1, cellOr_of k.three.2.2.1, k.three.2.2.2⟩
set_option maxHeartbeats 4000000 in
theorem Twin_any (m : Ad) (A B : Option Addr) (lp ln cp cn : Nat) (w : World) (h : AdIn w A B lp ln m) (h1 : lp ≤ 300) (h2 : ln ≤ 300) :
    Calls Try.prog 10 #[.agg #[.int .i32 (m).l, .slice A lp cp, .slice B ln cn]] w fun e w' => ∃ A' c B' d, e = .returned (.agg #[.int .i32 (m).l, .slice A' lp c, .slice B' ln d]) ∧ OwnY w' w.heap.size (.slice A' lp c) m.p ∧ OwnY w' w.heap.size (.slice B' ln d) m.n ∧ Apart A' B' m.p m.n ∧ Below w.heap.size w w' := by
  obtain ⟨l1, l2, hp, ep, hn, en, mp, mn, bp, bn⟩ := h
  have HP := Lib.hid hp
  have HN := Lib.hid hn
  have EP := Lib.hid ep
  have EN := Lib.hid en
  clear hp hn ep en bp bn
  generalize m.l = l at *
  go_enter Try.func10, Try.ntmps10
  go_wp2_with fail
  have HZ0 : Hid (Lies ((w.alloc (.cells #[.int .i32 l, .slice A lp cp, .slice B ln cn] 24)).alloc (.cells #[.int .i32 0, .slice none 0 0, .slice none 0 0] 24)) (w.heap.size) 24 [.int .i32 l, .slice A lp cp, .slice B ln cn] ∧ Lies ((w.alloc (.cells #[.int .i32 l, .slice A lp cp, .slice B ln cn] 24)).alloc (.cells #[.int .i32 0, .slice none 0 0, .slice none 0 0] 24)) (w.heap.size + 1) 24 [.int .i32 0, .slice none 0 0, .slice none 0 0]) := Lib.hid ⟨by (repeat' (first | (with_reducible assumption) | (with_reducible exact Lies.fresh _ _ _) | (with_reducible apply Lies.fresh_at; (first | (with_reducible rfl) | (simp; done))) | (with_reducible refine Lies.drew ?_) | (with_reducible refine Lies.drewN ?_ _) | (with_reducible refine Lies.alloc ?_ _) | (with_reducible apply Lies.past; case hb => (with_reducible assumption)) | (with_reducible apply Lies.keeps; (case k => (with_reducible assumption)); (case ht => decide)) | (with_reducible apply Lies.store3) | (with_reducible apply Lies.other; case hp => (first | omega | (simp; done) | (simp; omega))))), by (repeat' (first | (with_reducible assumption) | (with_reducible exact Lies.fresh _ _ _) | (with_reducible apply Lies.fresh_at; (first | (with_reducible rfl) | (simp; done))) | (with_reducible refine Lies.drew ?_) | (with_reducible refine Lies.drewN ?_ _) | (with_reducible refine Lies.alloc ?_ _) | (with_reducible apply Lies.past; case hb => (with_reducible assumption)) | (with_reducible apply Lies.keeps; (case k => (with_reducible assumption)); (case ht => decide)) | (with_reducible apply Lies.store3) | (with_reducible apply Lies.other; case hp => (first | omega | (simp; done) | (simp; omega)))))⟩
  go_region_held3 (fun x' => x'.cell? ⟨w.heap.size, 0, none⟩ = some (.int .i32 l) ∧ x'.cell? ⟨w.heap.size, 1, none⟩ = some (.slice A lp cp) ∧ x'.cell? ⟨w.heap.size, 2, none⟩ = some (.slice B ln cn) ∧ x'.cell? ⟨w.heap.size + 1, 0, none⟩ = some (cellOr x' (w.heap.size + 1) 0) ∧ x'.cell? ⟨w.heap.size + 1, 1, none⟩ = some (cellOr x' (w.heap.size + 1) 1) ∧ x'.cell? ⟨w.heap.size + 1, 2, none⟩ = some (cellOr x' (w.heap.size + 1) 2) ∧ x'.frozen? ⟨w.heap.size + 1, 0, none⟩ = false ∧ x'.frozen? ⟨w.heap.size + 1, 1, none⟩ = false ∧ x'.frozen? ⟨w.heap.size + 1, 2, none⟩ = false)
    ((apply three_of (t := 24); (focus (have KZ := HZ0.out.1; (repeat' (first | (with_reducible assumption) | (with_reducible refine Lies.drew ?_) | (with_reducible refine Lies.drewN ?_ _) | (with_reducible refine Lies.alloc ?_ _) | (with_reducible apply Lies.store3) | (with_reducible refine Lies.other ?_ (by simp) _) | (with_reducible apply Lies.past; case hb => (with_reducible assumption)))))); (focus (have KZ := HZ0.out.2; (repeat' (first | (with_reducible assumption) | (with_reducible refine Lies.drew ?_) | (with_reducible refine Lies.drewN ?_ _) | (with_reducible refine Lies.alloc ?_ _) | (with_reducible apply Lies.store3) | (with_reducible refine Lies.other ?_ (by simp) _) | (with_reducible apply Lies.past; case hb => (with_reducible assumption))))))))
    (first
      | (refine step_app32y (by rfl) _ _ (by rfl) _ _ [] (by rfl) (.inr ⟨rfl, _, rfl⟩) A lp cp m.p (by rfl) EP.out (HP.out.below (by (repeat' (first | (with_reducible exact Below.refl _ _) | (with_reducible assumption) | (with_reducible refine below_drewN ?_ _) | (with_reducible refine below_new ?_ _) | (with_reducible refine Below.alloc ?_ ?_ _) | (with_reducible refine Below.drew ?_) | (with_reducible refine Below.setCell ?_ ?_ _) | (with_reducible apply below_at; (case k => (with_reducible assumption)); (case hB => omega)) | (with_reducible apply below_on; (with_reducible assumption)) | (go_size; done) | (with_reducible apply size_of)))) (Nat.le_refl _)) lp (by simp) (by omega) (Nat.le_refl _) ?_; intro A3 c3 w3 ho3 hb3; rw [List.nil_append] at ho3)
      | (refine step_app32y (by rfl) _ _ (by rfl) _ _ [] (by rfl) (.inr ⟨rfl, _, rfl⟩) B ln cn m.n (by rfl) EN.out (HN.out.below (by (repeat' (first | (with_reducible exact Below.refl _ _) | (with_reducible assumption) | (with_reducible refine below_drewN ?_ _) | (with_reducible refine below_new ?_ _) | (with_reducible refine Below.alloc ?_ ?_ _) | (with_reducible refine Below.drew ?_) | (with_reducible refine Below.setCell ?_ ?_ _) | (with_reducible apply below_at; (case k => (with_reducible assumption)); (case hB => omega)) | (with_reducible apply below_on; (with_reducible assumption)) | (go_size; done) | (with_reducible apply size_of)))) (Nat.le_refl _)) ln (by simp) (by omega) (Nat.le_refl _) ?_; intro A4 c4 w4 ho4 hb4; rw [List.nil_append] at ho4))
  all_goals
    go_wp2_with fail
    have z : Below w3.heap.size w3 w4 := by first | exact hb4 | exact (Below.alloc (Below.refl _ _) (Nat.le_refl _) _).trans (hb4.mono (by simp))
    have z3 := hb3.size
    have z4 := z.size
    simp at z3
    have hr3 : Lies (w3) (w.heap.size + 1) 24 [.int .i32 0, .slice none 0 0, .slice none 0 0] := (by have KZ := HZ0.out.2; (repeat' (first | (with_reducible assumption) | (with_reducible refine Lies.drew ?_) | (with_reducible refine Lies.drewN ?_ _) | (with_reducible refine Lies.alloc ?_ _) | (with_reducible apply Lies.store3) | (with_reducible refine Lies.other ?_ (by simp) _) | (with_reducible apply Lies.past; case hb => (with_reducible assumption)))))
    have hr4 : Lies (w4) (w.heap.size + 1) 24 [.int .i32 0, .slice none 0 0, .slice none 0 0] := hr3.past z
    obtain ⟨t0, t1, t2, -, -, -⟩ := (hr4.store3 (a := .int .i32 l) (b := .slice A3 lp c3) (c := .slice A4 ln c4)).three
    refine bodyPost_ret (by simp [results, Try.results10, go_sem, t0, t1, t2]; try rfl) rfl ?_
    have ho4' : OwnY w4 w3.heap.size (.slice A4 ln c4) m.n := OwnY.mono' ho4 (by first | exact Nat.le_refl _ | simp)
    exact ⟨A3, c3, A4, c4, rfl, OwnY.store3 (OwnY.mono' (OwnY.below ho3 z (Nat.le_refl _)) (by simp; try omega)) hr4 (by decide), OwnY.store3 (OwnY.mono' ho4' (by omega)) hr4 (by decide), apart_of ho3 ho4', by (repeat' (first | (with_reducible exact Below.refl _ _) | (with_reducible assumption) | (with_reducible refine below_drewN ?_ _) | (with_reducible refine below_new ?_ _) | (with_reducible refine Below.alloc ?_ ?_ _) | (with_reducible refine Below.drew ?_) | (with_reducible refine Below.setCell ?_ ?_ _) | (with_reducible apply below_at; (case k => (with_reducible assumption)); (case hB => omega)) | (with_reducible apply below_on; (with_reducible assumption)) | (go_size; done) | (with_reducible apply size_of)))⟩
theorem Twin_own (m : Ad) (A B : Option Addr) (cp cn : Nat) (w : World) (h : AdIn w A B 193 193 m) :
    Calls Try.prog 10 #[.agg #[.int .i32 (m).l, .slice A 193 cp, .slice B 193 cn]] w fun e w' => ∃ gp gn c d, e = .returned (.agg #[.int .i32 (m).l, .slice (some ⟨gp, 0, none⟩) 193 c, .slice (some ⟨gn, 0, none⟩) 193 d]) ∧ AdOwn w' w.heap.size gp gn c d m ∧ Below w.heap.size w w' := by
  have hp : m.p ≠ [] := fun e => by have := h.ep; rw [e] at this; simp at this
  have hn : m.n ≠ [] := fun e => by have := h.en; rw [e] at this; simp at this
  refine (Twin_any m A B 193 193 cp cn w h (by omega) (by omega)).mono ?_
  rintro e w' ⟨A', c, B', d, rfl, o1, o2, ap, hb⟩
  obtain ⟨gp, rfl, _, _, k1⟩ := OwnY.head o1 hp
  obtain ⟨gn, rfl, _, _, k2⟩ := OwnY.head o2 hn
  exact ⟨gp, gn, c, d, rfl, ⟨k1, k2, ap hp hn gp gn rfl rfl, h.ep, h.en⟩, hb⟩
theorem Twin_in (m : Ad) (A B : Option Addr) (lp ln cp cn : Nat) (w : World) (h : AdIn w A B lp ln m) (h1 : lp ≤ 300) (h2 : ln ≤ 300) :
    Calls Try.prog 10 #[.agg #[.int .i32 (m).l, .slice A lp cp, .slice B ln cn]] w fun e w' => ∃ A' c B' d, e = .returned (.agg #[.int .i32 (m).l, .slice A' lp c, .slice B' ln d]) ∧ AdIn w' A' B' lp ln m ∧ lp ≤ c ∧ ln ≤ d ∧ Below w.heap.size w w' := by
  refine (Twin_any m A B lp ln cp cn w h h1 h2).mono ?_
  rintro e w' ⟨A', c, B', d, rfl, o1, o2, ap, hb⟩
  exact ⟨A', c, B', d, rfl, ⟨h.l1, h.l2, o1.has, h.ep, o2.has, h.en, h.mp, h.mn, h.bp, h.bn⟩, ownY_cap o1, ownY_cap o2, hb⟩
end Go.Proofs.Ytipbafcjmeibpaa.adW
