/- Several texts as one: RgW14, RgW15, RgW16, RgL1, RgW17. -/
import Derived.Test.YtemiecghdmagnaaGJ
import Derived.Deep.RegionLaw
import Derived.Deep.RegionHeld3
namespace Go.Proofs.Ytemiecghdmagnaa.rgW
set_option maxRecDepth 100000
open Go.RowKit Go.Proofs.Ytemiecghdmagnaa.base Go.Proofs.Ytemiecghdmagnaa.rgP
set_option linter.unusedVariables false
set_option linter.unusedSimpArgs false

theorem OwnZ.head {w : World} {B : Nat} {A : Option Addr} {n c : Nat} {zs : List Int} (h : OwnZ w B (.slice A n c) zs) (hp : zs ≠ []) : ∃ g, A = some ⟨g, 0, none⟩ ∧ B ≤ g ∧ g < w.heap.size ∧ OwnI w B 5 .u8 (.slice (some ⟨g, 0, none⟩) n c) zs := by
  rcases h with h | ⟨h, _⟩
  · obtain ⟨g, rfl, h1, h2, _⟩ := h.form hp
    exact ⟨g, rfl, h1, h2, h⟩
  · exact absurd h hp
def cellOr (w : World) (g i : Nat) : Value := (w.cell? ⟨g, i, none⟩).getD undef
theorem cellOr_of {w : World} {g i : Nat} {v : Value} (h : w.cell? ⟨g, i, none⟩ = some v) : w.cell? ⟨g, i, none⟩ = some (cellOr w g i) := by unfold cellOr; rw [h]; rfl
attribute [irreducible] cellOr
theorem three_of {w : World} {g g' : Nat} {t : TypeId} {a b c a' b' c' : Value} (h : Lies w g t [a, b, c]) (k : Lies w g' t [a', b', c']) : w.cell? ⟨g, 0, none⟩ = some a ∧ w.cell? ⟨g, 1, none⟩ = some b ∧ w.cell? ⟨g, 2, none⟩ = some c ∧ w.cell? ⟨g', 0, none⟩ = some (cellOr w g' 0) ∧ w.cell? ⟨g', 1, none⟩ = some (cellOr w g' 1) ∧ w.cell? ⟨g', 2, none⟩ = some (cellOr w g' 2) ∧ w.frozen? ⟨g', 0, none⟩ = false ∧ w.frozen? ⟨g', 1, none⟩ = false ∧ w.frozen? ⟨g', 2, none⟩ = false := ⟨h.three.1, h.three.2.1, h.three.2.2.1, cellOr_of k.three.1, cellOr_of k.three.2.1, cellOr_of k.three.2.2.1, k.three.2.2.2⟩
set_option maxHeartbeats 4000000 in
theorem Twin_any (r : Rg) (A : Option Addr) (n c : Nat) (w : World) (hA : Has .u8 w A r.b) (eA : r.b.length = n) (h1 : n ≤ 8300) :
    Calls Try.prog 10 #[.agg #[.int .i64 (r).l, .slice A n c, .int .i64 (r).n]] w fun e w' => ∃ A' c', e = .returned (.agg #[.int .i64 (r).l, .slice A' n c', .int .i64 (r).n]) ∧ OwnZ w' w.heap.size (.slice A' n c') r.b ∧ Below w.heap.size w w' := by
  have HP := Lib.hid hA
  have EP := Lib.hid eA
  clear hA eA
  generalize r.l = l at *
  generalize r.n = m at *
  go_enter Try.func10, Try.ntmps10
  go_wp2_with fail
  have HZ0 : Hid (Lies ((w.alloc (.cells #[.int .i64 l, .slice A n c, .int .i64 m] 26)).alloc (.cells #[.int .i64 0, .slice none 0 0, .int .i64 0] 26)) (w.heap.size) 26 [.int .i64 l, .slice A n c, .int .i64 m] ∧ Lies ((w.alloc (.cells #[.int .i64 l, .slice A n c, .int .i64 m] 26)).alloc (.cells #[.int .i64 0, .slice none 0 0, .int .i64 0] 26)) (w.heap.size + 1) 26 [.int .i64 0, .slice none 0 0, .int .i64 0]) := Lib.hid ⟨by (repeat' (first | (with_reducible assumption) | (with_reducible exact Lies.fresh _ _ _) | (with_reducible apply Lies.fresh_at; (first | (with_reducible rfl) | (simp; done))) | (with_reducible refine Lies.drew ?_) | (with_reducible refine Lies.drewN ?_ _) | (with_reducible refine Lies.alloc ?_ _) | (with_reducible apply Lies.past; case hb => (with_reducible assumption)) | (with_reducible apply Lies.keeps; (case k => (with_reducible assumption)); (case ht => decide)) | (with_reducible apply Lies.store3) | (with_reducible apply Lies.other; case hp => (first | omega | (simp; done) | (simp; omega))))), by (repeat' (first | (with_reducible assumption) | (with_reducible exact Lies.fresh _ _ _) | (with_reducible apply Lies.fresh_at; (first | (with_reducible rfl) | (simp; done))) | (with_reducible refine Lies.drew ?_) | (with_reducible refine Lies.drewN ?_ _) | (with_reducible refine Lies.alloc ?_ _) | (with_reducible apply Lies.past; case hb => (with_reducible assumption)) | (with_reducible apply Lies.keeps; (case k => (with_reducible assumption)); (case ht => decide)) | (with_reducible apply Lies.store3) | (with_reducible apply Lies.other; case hp => (first | omega | (simp; done) | (simp; omega)))))⟩
  go_region_held3 (fun x' => x'.cell? ⟨w.heap.size, 0, none⟩ = some (.int .i64 l) ∧ x'.cell? ⟨w.heap.size, 1, none⟩ = some (.slice A n c) ∧ x'.cell? ⟨w.heap.size, 2, none⟩ = some (.int .i64 m) ∧ x'.cell? ⟨w.heap.size + 1, 0, none⟩ = some (cellOr x' (w.heap.size + 1) 0) ∧ x'.cell? ⟨w.heap.size + 1, 1, none⟩ = some (cellOr x' (w.heap.size + 1) 1) ∧ x'.cell? ⟨w.heap.size + 1, 2, none⟩ = some (cellOr x' (w.heap.size + 1) 2) ∧ x'.frozen? ⟨w.heap.size + 1, 0, none⟩ = false ∧ x'.frozen? ⟨w.heap.size + 1, 1, none⟩ = false ∧ x'.frozen? ⟨w.heap.size + 1, 2, none⟩ = false)
    ((apply three_of (t := 26); (focus (have KZ := HZ0.out.1; (repeat' (first | (with_reducible assumption) | (with_reducible refine Lies.drew ?_) | (with_reducible refine Lies.drewN ?_ _) | (with_reducible refine Lies.alloc ?_ _) | (with_reducible apply Lies.store3) | (with_reducible refine Lies.other ?_ (by simp) _) | (with_reducible apply Lies.past; case hb => (with_reducible assumption)))))); (focus (have KZ := HZ0.out.2; (repeat' (first | (with_reducible assumption) | (with_reducible refine Lies.drew ?_) | (with_reducible refine Lies.drewN ?_ _) | (with_reducible refine Lies.alloc ?_ _) | (with_reducible apply Lies.store3) | (with_reducible refine Lies.other ?_ (by simp) _) | (with_reducible apply Lies.past; case hb => (with_reducible assumption))))))))
    (first | (refine step_app8g (by rfl) _ _ (by rfl) _ _ [] (by rfl) (.inr ⟨rfl, _, rfl⟩) A n c r.b (by rfl) EP.out (HP.out.below (by (repeat' (first | (with_reducible exact Below.refl _ _) | (with_reducible assumption) | (with_reducible refine below_drewN ?_ _) | (with_reducible refine below_new ?_ _) | (with_reducible refine Below.alloc ?_ ?_ _) | (with_reducible refine Below.drew ?_) | (with_reducible refine Below.setCell ?_ ?_ _) | (with_reducible apply below_at; (case k => (with_reducible assumption)); (case hB => omega)) | (with_reducible apply below_on; (with_reducible assumption)) | (go_size; done) | (with_reducible apply size_of)))) (Nat.le_refl _)) n (by simp) (by omega) (Nat.le_refl _) ?_; intro A3 c3 w3 ho3 hk3 hb3; rw [List.nil_append] at ho3))
  all_goals
    go_wp2_with fail
    have z3 := hb3.size
    simp at z3
    have hr3 : Lies (w3) (w.heap.size + 1) 26 [.int .i64 0, .slice none 0 0, .int .i64 0] := (by have KZ := HZ0.out.2; (repeat' (first | (with_reducible assumption) | (with_reducible refine Lies.drew ?_) | (with_reducible refine Lies.drewN ?_ _) | (with_reducible refine Lies.alloc ?_ _) | (with_reducible apply Lies.store3) | (with_reducible refine Lies.other ?_ (by simp) _) | (with_reducible apply Lies.past; case hb => (with_reducible assumption)))))
    obtain ⟨t0, t1, t2, -, -, -⟩ := (hr3.store3 (a := .int .i64 l) (b := .slice A3 n c3) (c := .int .i64 m)).three
    refine bodyPost_ret (by simp [results, Try.results10, go_sem, t0, t1, t2]; try rfl) rfl ?_
    exact ⟨A3, c3, rfl, OwnZ.store3 (OwnZ.mono ho3 (by simp; try omega)) hr3 (by decide), by (repeat' (first | (with_reducible exact Below.refl _ _) | (with_reducible assumption) | (with_reducible refine below_drewN ?_ _) | (with_reducible refine below_new ?_ _) | (with_reducible refine Below.alloc ?_ ?_ _) | (with_reducible refine Below.drew ?_) | (with_reducible refine Below.setCell ?_ ?_ _) | (with_reducible apply below_at; (case k => (with_reducible assumption)); (case hB => omega)) | (with_reducible apply below_on; (with_reducible assumption)) | (go_size; done) | (with_reducible apply size_of)))⟩
end Go.Proofs.Ytemiecghdmagnaa.rgW

namespace Go.Proofs.Ytemiecghdmagnaa.rgW
set_option maxRecDepth 100000
open Go.RowKit Go.Proofs.Ytemiecghdmagnaa.base Go.Proofs.Ytemiecghdmagnaa.rgP
set_option linter.unusedVariables false
set_option linter.unusedSimpArgs false

theorem put_kinds {r : Rg} (l : List Int) (m : Nat) (hm : l.length = m) (h : putE r l ≠ 0) : rgOk r = false ∧ putE r l = 8 ∨ rgOk r = true ∧ putE r l = 4 ∧ (20000 : Int) < m ∨ rgOk r = true ∧ putE r l = 16 ∧ ¬ (20000 : Int) < m ∧ 1073741824 - r.n < (m : Int) := by
  unfold putE at *
  rw [hm] at *
  cases hok : rgOk r
  · left; simp
  · right
    rw [hok] at h
    simp only [if_true] at h ⊢
    by_cases c1 : 20000 < m
    · rw [if_pos c1]
      exact .inl ⟨by trivial, by trivial, by omega⟩
    · rw [if_neg c1] at h ⊢
      by_cases c2 : 1073741824 - r.n < (m : Int)
      · rw [if_pos c2]
        exact .inr ⟨by trivial, by trivial, by omega, c2⟩
      · rw [if_neg c2] at h; exact absurd rfl h
set_option maxHeartbeats 2000000 in
theorem Put_bad (r : Rg) (A B : Option Addr) (n c m d : Nat) (l : List Int) (w : World) (h : RgIn w A n c r) (hm : l.length = m) (m2 : m ≤ 9223372036854775807) (hk : putE r l ≠ 0) :
    Calls Try.prog 41 #[.agg #[.int .i64 (r).l, .slice A n c, .int .i64 (r).n], .slice B m d] w fun e w' => e = .returned (.tuple #[.agg #[.int .i64 0, .slice none 0 0, .int .i64 0], .int .i64 (putE r l)]) ∧ Below w.heap.size w w' := by
  have H := Lib.hid h
  rcases put_kinds l m hm hk with ⟨h1, h2⟩ | ⟨h1, h2, h3⟩ | ⟨h1, h2, h3, h4⟩
  · have e1 : rgE r = 8 := rgE_no h1
    rw [h2]; clear h hk h2 h1 hm
    go_enter Try.func41, Try.ntmps41
    go_wp2_with (first | (go_at_call 33; refine (Check_any r A n c _ (H.out.below (by (repeat' (first | (with_reducible exact Below.refl _ _) | (with_reducible assumption) | (with_reducible refine below_drewN ?_ _) | (with_reducible refine below_new ?_ _) | (with_reducible refine Below.alloc ?_ ?_ _) | (with_reducible refine Below.drew ?_) | (with_reducible refine Below.setCell ?_ ?_ _) | (with_reducible apply below_at; (case k => (with_reducible assumption)); (case hB => omega)) | (with_reducible apply below_on; (with_reducible assumption)) | (go_size; done) | (with_reducible apply size_of)))))).mono ?_; rintro e w1 ⟨rfl, hb1⟩; rw [e1]; have K1 : Lies (w1) (w.heap.size) 26 [.int .i64 (r).l, .slice (A) (n) (c), .int .i64 (r).n] := (by (repeat' (first | (with_reducible assumption) | (with_reducible exact Lies.fresh _ _ _) | (with_reducible apply Lies.fresh_at; (first | (with_reducible rfl) | (simp; done))) | (with_reducible refine Lies.drew ?_) | (with_reducible refine Lies.drewN ?_ _) | (with_reducible refine Lies.alloc ?_ _) | (with_reducible apply Lies.past; case hb => (with_reducible assumption)) | (with_reducible apply Lies.keeps; (case k => (with_reducible assumption)); (case ht => decide)) | (with_reducible apply Lies.store3) | (with_reducible apply Lies.other; case hp => (first | omega | (simp; done) | (simp; omega)))))); have Z1 : Lies (w1) (w.heap.size + 1) 26 [.int .i64 0, .slice none 0 0, .int .i64 0] := (by (repeat' (first | (with_reducible assumption) | (with_reducible exact Lies.fresh _ _ _) | (with_reducible apply Lies.fresh_at; (first | (with_reducible rfl) | (simp; done))) | (with_reducible refine Lies.drew ?_) | (with_reducible refine Lies.drewN ?_ _) | (with_reducible refine Lies.alloc ?_ _) | (with_reducible apply Lies.past; case hb => (with_reducible assumption)) | (with_reducible apply Lies.keeps; (case k => (with_reducible assumption)); (case ht => decide)) | (with_reducible apply Lies.store3) | (with_reducible apply Lies.other; case hp => (first | omega | (simp; done) | (simp; omega)))))); obtain ⟨p0, p1, p2, -, -, -⟩ := K1.three; obtain ⟨z0, z1, z2, y0, y1, y2⟩ := Z1.three; have HZ1 := Lib.hid Z1; have HB1 := Lib.hid hb1; have lt1 := Z1.lt))
    obtain ⟨t0, t1, t2, -, -, -⟩ := (HZ1.out.store3 (a := .int .i64 0) (b := .slice none 0 0) (c := .int .i64 0)).three
    refine bodyPost_ret (by simp [results, Try.results41, go_sem, t0, t1, t2]; try rfl) rfl ?_
    exact ⟨rfl, below_store3 (by have := HB1.out; (repeat' (first | (with_reducible exact Below.refl _ _) | (with_reducible assumption) | (with_reducible refine below_drewN ?_ _) | (with_reducible refine below_new ?_ _) | (with_reducible refine Below.alloc ?_ ?_ _) | (with_reducible refine Below.drew ?_) | (with_reducible refine Below.setCell ?_ ?_ _) | (with_reducible apply below_at; (case k => (with_reducible assumption)); (case hB => omega)) | (with_reducible apply below_on; (with_reducible assumption)) | (go_size; done) | (with_reducible apply size_of)))) (Nat.le_succ _)⟩
  all_goals
    have e1 : rgE r = 0 := rgE_yes h1
    obtain ⟨a1, a2, a3, a4⟩ := ok_parts h h1
    rw [h2]; clear h hk h2 h1 hm a1 a2
    go_enter Try.func41, Try.ntmps41
    go_wp2_with (first | (go_at_call 33; refine (Check_any r A n c _ (H.out.below (by (repeat' (first | (with_reducible exact Below.refl _ _) | (with_reducible assumption) | (with_reducible refine below_drewN ?_ _) | (with_reducible refine below_new ?_ _) | (with_reducible refine Below.alloc ?_ ?_ _) | (with_reducible refine Below.drew ?_) | (with_reducible refine Below.setCell ?_ ?_ _) | (with_reducible apply below_at; (case k => (with_reducible assumption)); (case hB => omega)) | (with_reducible apply below_on; (with_reducible assumption)) | (go_size; done) | (with_reducible apply size_of)))))).mono ?_; rintro e w1 ⟨rfl, hb1⟩; rw [e1]; have K1 : Lies (w1) (w.heap.size) 26 [.int .i64 (r).l, .slice (A) (n) (c), .int .i64 (r).n] := (by (repeat' (first | (with_reducible assumption) | (with_reducible exact Lies.fresh _ _ _) | (with_reducible apply Lies.fresh_at; (first | (with_reducible rfl) | (simp; done))) | (with_reducible refine Lies.drew ?_) | (with_reducible refine Lies.drewN ?_ _) | (with_reducible refine Lies.alloc ?_ _) | (with_reducible apply Lies.past; case hb => (with_reducible assumption)) | (with_reducible apply Lies.keeps; (case k => (with_reducible assumption)); (case ht => decide)) | (with_reducible apply Lies.store3) | (with_reducible apply Lies.other; case hp => (first | omega | (simp; done) | (simp; omega)))))); have Z1 : Lies (w1) (w.heap.size + 1) 26 [.int .i64 0, .slice none 0 0, .int .i64 0] := (by (repeat' (first | (with_reducible assumption) | (with_reducible exact Lies.fresh _ _ _) | (with_reducible apply Lies.fresh_at; (first | (with_reducible rfl) | (simp; done))) | (with_reducible refine Lies.drew ?_) | (with_reducible refine Lies.drewN ?_ _) | (with_reducible refine Lies.alloc ?_ _) | (with_reducible apply Lies.past; case hb => (with_reducible assumption)) | (with_reducible apply Lies.keeps; (case k => (with_reducible assumption)); (case ht => decide)) | (with_reducible apply Lies.store3) | (with_reducible apply Lies.other; case hp => (first | omega | (simp; done) | (simp; omega)))))); obtain ⟨p0, p1, p2, -, -, -⟩ := K1.three; obtain ⟨z0, z1, z2, y0, y1, y2⟩ := Z1.three; have HZ1 := Lib.hid Z1; have HB1 := Lib.hid hb1; have lt1 := Z1.lt))
    obtain ⟨t0, t1, t2, -, -, -⟩ := (HZ1.out.store3 (a := .int .i64 0) (b := .slice none 0 0) (c := .int .i64 0)).three
    refine bodyPost_ret (by simp [results, Try.results41, go_sem, t0, t1, t2]; try rfl) rfl ?_
    exact ⟨rfl, below_store3 (by have := HB1.out; (repeat' (first | (with_reducible exact Below.refl _ _) | (with_reducible assumption) | (with_reducible refine below_drewN ?_ _) | (with_reducible refine below_new ?_ _) | (with_reducible refine Below.alloc ?_ ?_ _) | (with_reducible refine Below.drew ?_) | (with_reducible refine Below.setCell ?_ ?_ _) | (with_reducible apply below_at; (case k => (with_reducible assumption)); (case hB => omega)) | (with_reducible apply below_on; (with_reducible assumption)) | (go_size; done) | (with_reducible apply size_of)))) (Nat.le_succ _)⟩
end Go.Proofs.Ytemiecghdmagnaa.rgW

namespace Go.Proofs.Ytemiecghdmagnaa.rgW
set_option maxRecDepth 100000
open Go.RowKit Go.Proofs.Ytemiecghdmagnaa.base Go.Proofs.Ytemiecghdmagnaa.rgP
set_option linter.unusedVariables false
set_option linter.unusedSimpArgs false

theorem put_parts {r : Rg} {l : List Int} {m : Nat} (hm : l.length = m) (h : putE r l = 0) : rgOk r = true ∧ ¬ (20000 : Int) < m ∧ ¬ 1073741824 - r.n < (m : Int) := by
  unfold putE at h
  rw [hm] at h
  cases hok : rgOk r
  · rw [hok] at h; simp at h
  · rw [hok] at h
    simp only [if_true] at h
    by_cases c1 : 20000 < m
    · rw [if_pos c1] at h; simp at h
    · rw [if_neg c1] at h
      by_cases c2 : 1073741824 - r.n < (m : Int)
      · rw [if_pos c2] at h; simp at h
      · exact ⟨by trivial, by omega, c2⟩
theorem put_step (r : Rg) (l : List Int) (q : Nat) (hq : q < l.length) : putR r (l.take (q + 1)) = put1 (putR r (l.take q)) (l.getD q 0) := by
  rw [take_snoc 0 l q hq, putR_snoc]
theorem five_cells {w : World} {G g j b o : Nat} {a0 a1 a2 v x : Value} {t : TypeId} (h : Lies w G t [a0, a1, a2]) (hx : w.cell? ⟨b, o, none⟩ = some x) (hc : w.cell? ⟨g, j, none⟩ = some v) (hf : w.frozen? ⟨g, j, none⟩ = false) : w.cell? ⟨G, 1, none⟩ = some a1 ∧ w.cell? ⟨G, 2, none⟩ = some a2 ∧ w.cell? ⟨b, o, none⟩ = some x ∧ w.cell? ⟨g, j, none⟩ = some (cellOr w g j) ∧ w.frozen? ⟨g, j, none⟩ = false := ⟨h.three.2.1, h.three.2.2.1, hx, cellOr_of hc, hf⟩
end Go.Proofs.Ytemiecghdmagnaa.rgW

namespace Go.Proofs.Ytemiecghdmagnaa.rgL
set_option maxRecDepth 100000
open Go.RowKit Go.Proofs.Ytemiecghdmagnaa.base Go.Proofs.Ytemiecghdmagnaa.rgP Go.Proofs.Ytemiecghdmagnaa.rgW
set_option linter.unusedVariables false
set_option linter.unusedSimpArgs false

end Go.Proofs.Ytemiecghdmagnaa.rgL

namespace Go.Proofs.Ytemiecghdmagnaa.rgW
set_option maxRecDepth 100000
open Go.RowKit Go.Proofs.Ytemiecghdmagnaa.base Go.Proofs.Ytemiecghdmagnaa.rgP
set_option linter.unusedVariables false
set_option linter.unusedSimpArgs false

theorem four_cells {w : World} {G g j : Nat} {a0 a1 a2 v : Value} {t : TypeId} (h : Lies w G t [a0, a1, a2]) (hc : w.cell? ⟨g, j, none⟩ = some v) (hf : w.frozen? ⟨g, j, none⟩ = false) : w.cell? ⟨G, 1, none⟩ = some a1 ∧ w.cell? ⟨G, 2, none⟩ = some a2 ∧ w.cell? ⟨g, j, none⟩ = some (cellOr w g j) ∧ w.frozen? ⟨g, j, none⟩ = false := ⟨h.three.2.1, h.three.2.2.1, cellOr_of hc, hf⟩
set_option maxHeartbeats 4000000 in
theorem put_one (l x : Int) (bs : List Int) (B G g n c t : Nat) (w : World) (K : Lies w G 26 [.int .i64 l, .slice (some ⟨g, 0, none⟩) n c, .int .i64 (t : Int)]) (O : OwnI w B 5 .u8 (.slice (some ⟨g, 0, none⟩) n c) bs) (hB : B ≤ G) (hn : bs.length = n) (n0 : 0 < n) (n1 : n ≤ 8192) (t1 : t < 1073741824) (hne : g ≠ G) :
    Calls Try.prog 63 #[.int .u8 x, .pointer (some ⟨G, 0, none⟩)] w fun e w' => e = .returned (.tuple #[]) ∧ ∃ d, w' = ((w.setCell ⟨g, t % n, none⟩ (.int .u8 x)).setCell ⟨G, 2, none⟩ (.int .i64 ((t : Int) + 1))).drewN d := by
  obtain ⟨j, hj⟩ : ∃ j, t % n = j := ⟨_, rfl⟩
  have hjn : j < n := by rw [← hj]; exact Nat.mod_lt _ n0
  have htm : Int.tmod (t : Int) (n : Int) = (j : Int) := by rw [← hj]; exact (Int.ofNat_tmod t n).symm
  have hcj := O.cell j (by rw [hn]; exact hjn)
  have hfj := O.frozen j
  have HX5 := Lib.hid (And.intro hcj hfj)
  have HK3 := Lib.hid K
  have HO3 := Lib.hid O
  rw [hj]
  have n2 : (n : Int) ≤ 8192 := by omega
  have n3 : ¬ ((n : Int) = 0) := by omega
  have n4 : ((n : Int) == 0) = false := by simpa using n3
  have j1 : (j : Int) < n := by omega
  have n5 : ¬ n = 0 := by omega
  have n6 : (n == 0) = false := by simpa using n5
  have j2 : 0 ≤ (j : Int) := by omega
  have t0 : 0 ≤ (t : Int) := by omega
  have t2 : (t : Int) ≤ 1073741823 := by omega
  have hw : IntKind.i64.wrap (Int.tmod (t : Int) (n : Int)) = (j : Int) := by rw [htm, IntKind.wrap_i64]; omega
  have HNE := Lib.hid hne
  have HJL : Hid (j < (bs.set j x).length) := Lib.hid (by rw [List.length_set, hn]; exact hjn)
  generalize bs.getD j 0 = y at *
  clear K O hcj hfj hn hjn hj n0 n1 t1 hne hB
  go_enter Try.func63, Try.ntmps63
  go_wp2_with fail
  go_region_held3 (fun x' => x'.cell? ⟨G, 1, none⟩ = some (.slice (some ⟨g, 0, none⟩) n c) ∧ x'.cell? ⟨G, 2, none⟩ = some (.int .i64 (t : Int)) ∧ x'.cell? ⟨g, j, none⟩ = some (cellOr x' g j) ∧ x'.frozen? ⟨g, j, none⟩ = false) (first | exact four_cells HK3.out.drew HX5.out.1 HX5.out.2 | exact four_cells (HK3.out.drew.other HNE.out _) ((HO3.out.store j x).cell j HJL.out) ((HO3.out.store j x).frozen j)) (fail)
  all_goals
    have K5 := HK3.out.drew.other (p := ⟨g, j, none⟩) HNE.out (.int .u8 x)
    have HK5 := Lib.hid (HK3.out.other (p := ⟨g, j, none⟩) HNE.out (.int .u8 x))
    obtain ⟨s0, s1, s2, v0, v1, v2⟩ := K5.three
    obtain ⟨s3, s4, s5, v3, v4, v5⟩ := HK5.out.three
    have v6 := HK3.out.free 2
    have v7 := HK3.out.drew.free 2
    clear K5
    go_wp2_with fail
    go_end0
    exact ⟨rfl, _, rfl⟩
end Go.Proofs.Ytemiecghdmagnaa.rgW
