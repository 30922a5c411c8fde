/- The reference's copy of a ring, by a walk. -/
import Derived.Test.YtpggdijhfdddpaaDoorRgW13
import Derived.Deep.RegionLaw
import Derived.Deep.RegionHeld3
namespace Go.Proofs.YtpggdijhfdddpaaDoor.rgW
open Go.RowKit Go.Proofs.YtpggdijhfdddpaaDoor.base Go.Proofs.YtpggdijhfdddpaaDoor.rgP
set_option linter.unusedVariables false
set_option linter.unusedSimpArgs false

theorem OwnZ.head {w : World} {B : Nat} {A : Option Addr} {n c : Nat} {zs : List Int} (h : OwnZ w B (.slice A n c) zs) (hp : zs ≠ []) : ∃ g, A = some ⟨g, 0, none⟩ ∧ B ≤ g ∧ g < w.heap.size ∧ OwnI w B 5 .u8 (.slice (some ⟨g, 0, none⟩) n c) zs := by
  rcases h with h | ⟨h, _⟩
  · obtain ⟨g, rfl, h1, h2, _⟩ := h.form hp
    exact ⟨g, rfl, h1, h2, h⟩
  · exact absurd h hp
def cellOr (w : World) (g i : Nat) : Value := (w.cell? ⟨g, i, none⟩).getD undef
theorem cellOr_of {w : World} {g i : Nat} {v : Value} (h : w.cell? ⟨g, i, none⟩ = some v) : w.cell? ⟨g, i, none⟩ = some (cellOr w g i) := by unfold cellOr; rw [h]; rfl
attribute [irreducible] cellOr
theorem three_of {w : World} {g g' : Nat} {t : TypeId} {a b c a' b' c' : Value} (h : Lies w g t [a, b, c]) (k : Lies w g' t [a', b', c']) : w.cell? ⟨g, 0, none⟩ = some a ∧ w.cell? ⟨g, 1, none⟩ = some b ∧ w.cell? ⟨g, 2, none⟩ = some c ∧ w.cell? ⟨g', 0, none⟩ = some (cellOr w g' 0) ∧ w.cell? ⟨g', 1, none⟩ = some (cellOr w g' 1) ∧ w.cell? ⟨g', 2, none⟩ = some (cellOr w g' 2) ∧ w.frozen? ⟨g', 0, none⟩ = false ∧ w.frozen? ⟨g', 1, none⟩ = false ∧ w.frozen? ⟨g', 2, none⟩ = false := ⟨h.three.1, h.three.2.1, h.three.2.2.1, cellOr_of k.three.1, cellOr_of k.three.2.1, cellOr_of k.three.2.2.1, k.three.2.2.2⟩
set_option maxHeartbeats 4000000 in
theorem Twin_any (r : Rg) (A : Option Addr) (n c : Nat) (w : World) (hA : Has .u8 w A r.b) (eA : r.b.length = n) (h1 : n ≤ 8300) :
    Calls Tryd.prog 9 #[.agg #[.int .i64 (r).l, .slice A n c, .int .i64 (r).n]] w fun e w' => ∃ A' c', e = .returned (.agg #[.int .i64 (r).l, .slice A' n c', .int .i64 (r).n]) ∧ OwnZ w' w.heap.size (.slice A' n c') r.b ∧ Below w.heap.size w w' := by
  have HP := Lib.hid hA
  have EP := Lib.hid eA
  clear hA eA
  generalize r.l = l at *
  generalize r.n = m at *
  go_enter Tryd.func9, Tryd.ntmps9
  go_wp2_with fail
  have HZ0 : Hid (Lies ((w.alloc (.cells #[.int .i64 l, .slice A n c, .int .i64 m] 24)).alloc (.cells #[.int .i64 0, .slice none 0 0, .int .i64 0] 24)) (w.heap.size) 24 [.int .i64 l, .slice A n c, .int .i64 m] ∧ Lies ((w.alloc (.cells #[.int .i64 l, .slice A n c, .int .i64 m] 24)).alloc (.cells #[.int .i64 0, .slice none 0 0, .int .i64 0] 24)) (w.heap.size + 1) 24 [.int .i64 0, .slice none 0 0, .int .i64 0]) := Lib.hid ⟨by (repeat' (first | (with_reducible assumption) | (with_reducible exact Lies.fresh _ _ _) | (with_reducible apply Lies.fresh_at; (first | (with_reducible rfl) | (simp; done))) | (with_reducible refine Lies.drew ?_) | (with_reducible refine Lies.drewN ?_ _) | (with_reducible refine Lies.alloc ?_ _) | (with_reducible apply Lies.past; case hb => (with_reducible assumption)) | (with_reducible apply Lies.keeps; (case k => (with_reducible assumption)); (case ht => decide)) | (with_reducible apply Lies.store3) | (with_reducible apply Lies.other; case hp => (first | omega | (simp; done) | (simp; omega))))), by (repeat' (first | (with_reducible assumption) | (with_reducible exact Lies.fresh _ _ _) | (with_reducible apply Lies.fresh_at; (first | (with_reducible rfl) | (simp; done))) | (with_reducible refine Lies.drew ?_) | (with_reducible refine Lies.drewN ?_ _) | (with_reducible refine Lies.alloc ?_ _) | (with_reducible apply Lies.past; case hb => (with_reducible assumption)) | (with_reducible apply Lies.keeps; (case k => (with_reducible assumption)); (case ht => decide)) | (with_reducible apply Lies.store3) | (with_reducible apply Lies.other; case hp => (first | omega | (simp; done) | (simp; omega)))))⟩
  go_region_held3 (fun x' => x'.cell? ⟨w.heap.size, 0, none⟩ = some (.int .i64 l) ∧ x'.cell? ⟨w.heap.size, 1, none⟩ = some (.slice A n c) ∧ x'.cell? ⟨w.heap.size, 2, none⟩ = some (.int .i64 m) ∧ x'.cell? ⟨w.heap.size + 1, 0, none⟩ = some (cellOr x' (w.heap.size + 1) 0) ∧ x'.cell? ⟨w.heap.size + 1, 1, none⟩ = some (cellOr x' (w.heap.size + 1) 1) ∧ x'.cell? ⟨w.heap.size + 1, 2, none⟩ = some (cellOr x' (w.heap.size + 1) 2) ∧ x'.frozen? ⟨w.heap.size + 1, 0, none⟩ = false ∧ x'.frozen? ⟨w.heap.size + 1, 1, none⟩ = false ∧ x'.frozen? ⟨w.heap.size + 1, 2, none⟩ = false)
    ((apply three_of (t := 24); (focus (have KZ := HZ0.out.1; (repeat' (first | (with_reducible assumption) | (with_reducible refine Lies.drew ?_) | (with_reducible refine Lies.drewN ?_ _) | (with_reducible refine Lies.alloc ?_ _) | (with_reducible apply Lies.store3) | (with_reducible refine Lies.other ?_ (by simp) _) | (with_reducible apply Lies.past; case hb => (with_reducible assumption)))))); (focus (have KZ := HZ0.out.2; (repeat' (first | (with_reducible assumption) | (with_reducible refine Lies.drew ?_) | (with_reducible refine Lies.drewN ?_ _) | (with_reducible refine Lies.alloc ?_ _) | (with_reducible apply Lies.store3) | (with_reducible refine Lies.other ?_ (by simp) _) | (with_reducible apply Lies.past; case hb => (with_reducible assumption))))))))
    (first | (refine step_app8g (by rfl) _ _ (by rfl) _ _ [] (by rfl) (.inr ⟨rfl, _, rfl⟩) A n c r.b (by rfl) EP.out (HP.out.below (by (repeat' (first | (with_reducible exact Below.refl _ _) | (with_reducible assumption) | (with_reducible refine below_drewN ?_ _) | (with_reducible refine below_new ?_ _) | (with_reducible refine Below.alloc ?_ ?_ _) | (with_reducible refine Below.drew ?_) | (with_reducible refine Below.setCell ?_ ?_ _) | (with_reducible apply below_at; (case k => (with_reducible assumption)); (case hB => omega)) | (with_reducible apply below_on; (with_reducible assumption)) | (go_size; done) | (with_reducible apply size_of)))) (Nat.le_refl _)) n (by simp) (by omega) (Nat.le_refl _) ?_; intro A3 c3 w3 ho3 hk3 hb3; rw [List.nil_append] at ho3))
  all_goals
    go_wp2_with fail
    have z3 := hb3.size
    simp at z3
    have hr3 : Lies (w3) (w.heap.size + 1) 24 [.int .i64 0, .slice none 0 0, .int .i64 0] := (by have KZ := HZ0.out.2; (repeat' (first | (with_reducible assumption) | (with_reducible refine Lies.drew ?_) | (with_reducible refine Lies.drewN ?_ _) | (with_reducible refine Lies.alloc ?_ _) | (with_reducible apply Lies.store3) | (with_reducible refine Lies.other ?_ (by simp) _) | (with_reducible apply Lies.past; case hb => (with_reducible assumption)))))
    obtain ⟨t0, t1, t2, -, -, -⟩ := (hr3.store3 (a := .int .i64 l) (b := .slice A3 n c3) (c := .int .i64 m)).three
    refine bodyPost_ret (by simp [results, Tryd.results9, go_sem, t0, t1, t2]; try rfl) rfl ?_
    exact ⟨A3, c3, rfl, OwnZ.store3 (OwnZ.mono ho3 (by simp; try omega)) hr3 (by decide), by (repeat' (first | (with_reducible exact Below.refl _ _) | (with_reducible assumption) | (with_reducible refine below_drewN ?_ _) | (with_reducible refine below_new ?_ _) | (with_reducible refine Below.alloc ?_ ?_ _) | (with_reducible refine Below.drew ?_) | (with_reducible refine Below.setCell ?_ ?_ _) | (with_reducible apply below_at; (case k => (with_reducible assumption)); (case hB => omega)) | (with_reducible apply below_on; (with_reducible assumption)) | (go_size; done) | (with_reducible apply size_of)))⟩
end Go.Proofs.YtpggdijhfdddpaaDoor.rgW
