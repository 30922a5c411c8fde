/- New cursors, cursors moved, by walks. -/
import Derived.Test.YtphakelncjogpaaDoorOcW
import Derived.BigRegion
import Derived.Deep.DeepCutAuto
import Derived.WalkMore
import Derived.Laws.MakeOwn
namespace Go.Proofs.YtphakelncjogpaaDoor.ocW
set_option maxRecDepth 100000
open Go.RowKit Go.Proofs.YtphakelncjogpaaDoor.base Go.Proofs.YtphakelncjogpaaDoor.ocP
set_option linter.unusedVariables false
set_option linter.unusedSimpArgs false

theorem own_store2 {w : World} {B g : Nat} {v : Value} {zs : List Int} {x y a b : Value} {t : TypeId} (h : OwnI w B 5 .u8 v zs) (K : Lies w g t [x, y]) (ht : t ≠ 5) : OwnI ((w.setCell ⟨g, 0, none⟩ a).setCell ⟨g, 1, none⟩ b) B 5 .u8 v zs :=
  own_set (own_set h (own_ne h K ht) a) (own_ne h K ht) b
theorem lies_store2 {w : World} {g : Nat} {t : TypeId} {x y a b : Value} (h : Lies w g t [x, y]) : Lies ((w.setCell ⟨g, 0, none⟩ a).setCell ⟨g, 1, none⟩ b) g t [a, b] := (h.set 0 a).set 1 b
theorem OwnZ.store2 {w : World} {B g : Nat} {v : Value} {zs : List Int} {t : TypeId} {x y a b : Value} (h : OwnZ w B v zs) (K : Lies w g t [x, y]) (ht : t ≠ 5) : OwnZ ((w.setCell ⟨g, 0, none⟩ a).setCell ⟨g, 1, none⟩ b) B v zs :=
  (h.other K ht _ _).other (K.set 0 _) ht _ _
theorem OwnZ.head {w : World} {B : Nat} {A : Option Addr} {n c : Nat} {zs : List Int} (h : OwnZ w B (.slice A n c) zs) (hp : zs ≠ []) : ∃ g, A = some ⟨g, 0, none⟩ ∧ B ≤ g ∧ g < w.heap.size ∧ OwnI w B 5 .u8 (.slice (some ⟨g, 0, none⟩) n c) zs := by
  rcases h with h | ⟨h, _⟩
  · obtain ⟨g, rfl, h1, h2, _⟩ := h.form hp
    exact ⟨g, rfl, h1, h2, h⟩
  · exact absurd h hp
def cellOr (w : World) (g i : Nat) : Value := (w.cell? ⟨g, i, none⟩).getD undef
theorem cellOr_of {w : World} {g i : Nat} {v : Value} (h : w.cell? ⟨g, i, none⟩ = some v) : w.cell? ⟨g, i, none⟩ = some (cellOr w g i) := by unfold cellOr; rw [h]; rfl
attribute [irreducible] cellOr
theorem two_of {w : World} {g g' : Nat} {t : TypeId} {a b a' b' : Value} (h : Lies w g t [a, b]) (k : Lies w g' t [a', b']) : w.cell? ⟨g, 0, none⟩ = some a ∧ w.cell? ⟨g, 1, none⟩ = some b ∧ w.cell? ⟨g', 0, none⟩ = some (cellOr w g' 0) ∧ w.cell? ⟨g', 1, none⟩ = some (cellOr w g' 1) ∧ w.frozen? ⟨g', 0, none⟩ = false ∧ w.frozen? ⟨g', 1, none⟩ = false := ⟨h.two.1, h.two.2.1, cellOr_of k.two.1, cellOr_of k.two.2.1, k.two.2.2⟩
def newB (b : List Int) : List Int := if b.length ≤ 50000 then b else []
def newE (b : List Int) : Int := if b.length ≤ 50000 then 0 else 4
set_option maxHeartbeats 1000000 in
theorem New_any (b : List Int) (A : Option Addr) (n d : Nat) (w : World) (hA : Has .u8 w A b) (eA : b.length = n) (hd : n ≤ d) (hm : d ≤ 9223372036854775807) :
    Calls Tryd.prog 39 #[.slice A n d] w fun e w' => ∃ A' n' c', e = .returned (.tuple #[.agg #[.slice A' n' c', .int .i64 0], .int .i64 (newE b)]) ∧ n' = (newB b).length ∧ OwnZ w' w.heap.size (.slice A' n' c') (newB b) ∧ Below w.heap.size w w' := by
  have n9 : (n : Int) ≤ 9223372036854775807 := by omega
  have HA := Lib.hid hA
  have HE := Lib.hid eA
  have HD := Lib.hid hd
  by_cases c1 : (n : Int) ≤ 50000
  · have HN : Hid (n ≤ 140737488355328) := Lib.hid (by omega)
    have HV : Hid (newB b = b ∧ newE b = 0) := Lib.hid ⟨by rw [newB, if_pos (by omega)], by rw [newE, if_pos (by omega)]⟩
    clear hA eA hd hm
    go_enter Tryd.func39, Tryd.ntmps39
    go_wp2_with (first | (go_at_call 44; refine (Clone8 (HA.out.below (by (repeat' (first | (with_reducible exact Below.refl _ _) | (with_reducible assumption) | (with_reducible refine below_drewN ?_ _) | (with_reducible refine below_new ?_ _) | (with_reducible refine Below.alloc ?_ ?_ _) | (with_reducible refine Below.drew ?_) | (with_reducible refine Below.setCell ?_ ?_ _) | (with_reducible apply below_at; (case k => (with_reducible assumption)); (case hB => omega)) | (with_reducible apply below_on; (with_reducible assumption)) | (go_size; done) | (with_reducible apply size_of)))) (Nat.le_refl _)) HE.out HD.out HN.out).mono ?_; rintro e w1 ⟨A1, c1', rfl, hh1, ho1, hb1⟩; have K1 : Lies (w1) (w.heap.size) 79 [.slice none 0 0, .int .i64 0] := (by (repeat' (first | (with_reducible assumption) | (with_reducible exact Lies.fresh _ _ _) | (with_reducible apply Lies.fresh_at; (first | (with_reducible rfl) | (simp; done))) | (with_reducible refine Lies.drew ?_) | (with_reducible refine Lies.drewN ?_ _) | (with_reducible refine Lies.alloc ?_ _) | (with_reducible apply Lies.past; case hb => (with_reducible assumption)) | (with_reducible apply Lies.keeps; (case k => (with_reducible assumption)); (case ht => decide)) | (with_reducible apply Lies.store3) | (with_reducible apply Lies.other; case hp => (first | omega | (simp; done) | (simp; omega)))))); obtain ⟨p0, p1, f0, f1⟩ := K1.two; have HK := Lib.hid K1; have lt := K1.lt; have HO := Lib.hid ho1; have HB := Lib.hid hb1))
    obtain ⟨t0, t1, -, -⟩ := (lies_store2 HK.out (a := .slice A1 n c1') (b := .int .i64 0)).two
    clear p0 p1 f0 f1 lt
    refine bodyPost_ret (by simp [results, Tryd.results39, go_sem, t0, t1]; try rfl) rfl ?_
    have o := OwnZ.store2 HO.out HK.out (by decide) (a := .slice A1 n c1') (b := .int .i64 0)
    refine ⟨A1, n, c1', by rw [HV.out.2], by rw [HV.out.1, HE.out], by rw [HV.out.1]; exact o.mono (by simp), ?_⟩
    have := HB.out
    (repeat' (first | (with_reducible exact Below.refl _ _) | (with_reducible assumption) | (with_reducible refine below_drewN ?_ _) | (with_reducible refine below_new ?_ _) | (with_reducible refine Below.alloc ?_ ?_ _) | (with_reducible refine Below.drew ?_) | (with_reducible refine Below.setCell ?_ ?_ _) | (with_reducible apply below_at; (case k => (with_reducible assumption)); (case hB => omega)) | (with_reducible apply below_on; (with_reducible assumption)) | (go_size; done) | (with_reducible apply size_of)))
  · have HV : Hid (newB b = [] ∧ newE b = 4) := Lib.hid ⟨by rw [newB, if_neg (by omega)], by rw [newE, if_neg (by omega)]⟩
    clear hA eA hd hm
    go_enter Tryd.func39, Tryd.ntmps39
    go_wp2_with fail
    refine bodyPost_ret (by simp [results, Tryd.results39, go_sem, ]; try rfl) rfl ?_
    exact ⟨none, 0, 0, by rw [HV.out.2], by rw [HV.out.1]; rfl, by rw [HV.out.1]; exact .inr ⟨rfl, _, rfl⟩, by (repeat' (first | (with_reducible exact Below.refl _ _) | (with_reducible assumption) | (with_reducible refine below_drewN ?_ _) | (with_reducible refine below_new ?_ _) | (with_reducible refine Below.alloc ?_ ?_ _) | (with_reducible refine Below.drew ?_) | (with_reducible refine Below.setCell ?_ ?_ _) | (with_reducible apply below_at; (case k => (with_reducible assumption)); (case hB => omega)) | (with_reducible apply below_on; (with_reducible assumption)) | (go_size; done) | (with_reducible apply size_of)))⟩
set_option maxHeartbeats 4000000 in
theorem behind_ok (c : Cu) (A : Option Addr) (n d : Nat) (x : Int) (w : World) (h : CuIn w A n d c) (h1 : 0 ≤ c.a) (h2 : 0 ≤ x) (h3 : c.a + x ≤ n) (h4 : n ≤ 50000) :
    Calls Tryd.prog 68 #[.agg #[.slice A n d, .int .i64 (c).a], .int .i64 x] w fun e w' => ∃ A' c', e = .returned (.agg #[.slice A' n c', .int .i64 (c.a + x)]) ∧ OwnZ w' w.heap.size (.slice A' n c') c.b ∧ Below w.heap.size w w' := by
  have n9 : (n : Int) ≤ 50000 := by omega
  have H := Lib.hid h
  have H4 : Hid (n ≤ 140737488355328) := Lib.hid (by omega)
  clear h h4
  generalize hca : c.a = a at *
  clear hca
  have hwr : IntKind.i64.wrap (a + x) = a + x := by rw [IntKind.wrap_i64]; omega
  have HW := Lib.hid hwr
  go_enter Tryd.func68, Tryd.ntmps68
  go_wp2_with fail
  have HZ0 : Hid (Lies ((w.alloc (.cells #[.slice A n d, .int .i64 a] 79)).alloc (.cells #[.slice none 0 0, .int .i64 0] 79)) w.heap.size 79 [.slice A n d, .int .i64 a] ∧ Lies ((w.alloc (.cells #[.slice A n d, .int .i64 a] 79)).alloc (.cells #[.slice none 0 0, .int .i64 0] 79)) (w.heap.size + 1) 79 [.slice none 0 0, .int .i64 0]) := Lib.hid ⟨by (repeat' (first | (with_reducible assumption) | (with_reducible exact Lies.fresh _ _ _) | (with_reducible apply Lies.fresh_at; (first | (with_reducible rfl) | (simp; done))) | (with_reducible refine Lies.drew ?_) | (with_reducible refine Lies.drewN ?_ _) | (with_reducible refine Lies.alloc ?_ _) | (with_reducible apply Lies.past; case hb => (with_reducible assumption)) | (with_reducible apply Lies.keeps; (case k => (with_reducible assumption)); (case ht => decide)) | (with_reducible apply Lies.store3) | (with_reducible apply Lies.other; case hp => (first | omega | (simp; done) | (simp; omega))))), by (repeat' (first | (with_reducible assumption) | (with_reducible exact Lies.fresh _ _ _) | (with_reducible apply Lies.fresh_at; (first | (with_reducible rfl) | (simp; done))) | (with_reducible refine Lies.drew ?_) | (with_reducible refine Lies.drewN ?_ _) | (with_reducible refine Lies.alloc ?_ _) | (with_reducible apply Lies.past; case hb => (with_reducible assumption)) | (with_reducible apply Lies.keeps; (case k => (with_reducible assumption)); (case ht => decide)) | (with_reducible apply Lies.store3) | (with_reducible apply Lies.other; case hp => (first | omega | (simp; done) | (simp; omega)))))⟩
  go_region_held3 (fun x' => x'.cell? ⟨w.heap.size, 0, none⟩ = some (.slice A n d) ∧ x'.cell? ⟨w.heap.size, 1, none⟩ = some (.int .i64 a) ∧ x'.cell? ⟨w.heap.size + 1, 0, none⟩ = some (cellOr x' (w.heap.size + 1) 0) ∧ x'.cell? ⟨w.heap.size + 1, 1, none⟩ = some (cellOr x' (w.heap.size + 1) 1) ∧ x'.frozen? ⟨w.heap.size + 1, 0, none⟩ = false ∧ x'.frozen? ⟨w.heap.size + 1, 1, none⟩ = false)
    ((apply two_of (t := 79); (focus (have KZ := HZ0.out.1; (repeat' (first | (with_reducible assumption) | (with_reducible refine Lies.drew ?_) | (with_reducible refine Lies.drewN ?_ _) | (with_reducible refine Lies.alloc ?_ _) | (with_reducible apply lies_store2) | (with_reducible refine Lies.other ?_ (by simp) _) | (with_reducible apply Lies.past; case hb => (with_reducible assumption)))))); (focus (have KZ := HZ0.out.2; (repeat' (first | (with_reducible assumption) | (with_reducible refine Lies.drew ?_) | (with_reducible refine Lies.drewN ?_ _) | (with_reducible refine Lies.alloc ?_ _) | (with_reducible apply lies_store2) | (with_reducible refine Lies.other ?_ (by simp) _) | (with_reducible apply Lies.past; case hb => (with_reducible assumption))))))))
    (first | (go_at_call 44; refine (Clone8 (H.out.h.below (by (repeat' (first | (with_reducible exact Below.refl _ _) | (with_reducible assumption) | (with_reducible refine below_drewN ?_ _) | (with_reducible refine below_new ?_ _) | (with_reducible refine Below.alloc ?_ ?_ _) | (with_reducible refine Below.drew ?_) | (with_reducible refine Below.setCell ?_ ?_ _) | (with_reducible apply below_at; (case k => (with_reducible assumption)); (case hB => omega)) | (with_reducible apply below_on; (with_reducible assumption)) | (go_size; done) | (with_reducible apply size_of)))) (Nat.le_refl _)) H.out.e H.out.c1 H4.out).mono ?_; rintro e w3 ⟨A3, c3, rfl, hh3, ho3, hb3⟩))
  all_goals
    go_wp2_with fail
    have z3 := hb3.size
    simp at z3
    have hr3 : Lies (w3) (w.heap.size + 1) 79 [.slice none 0 0, .int .i64 0] := (by have KZ := HZ0.out.2; (repeat' (first | (with_reducible assumption) | (with_reducible refine Lies.drew ?_) | (with_reducible refine Lies.drewN ?_ _) | (with_reducible refine Lies.alloc ?_ _) | (with_reducible apply lies_store2) | (with_reducible refine Lies.other ?_ (by simp) _) | (with_reducible apply Lies.past; case hb => (with_reducible assumption)))))
    obtain ⟨t0, t1, -, -⟩ := (lies_store2 hr3 (a := .slice A3 n c3) (b := .int .i64 (a + x))).two
    refine bodyPost_ret (by simp [results, Tryd.results68, go_sem, t0, t1]; try rfl) rfl ?_
    exact ⟨A3, c3, rfl, OwnZ.store2 (OwnZ.mono ho3 (by simp; try omega)) hr3 (by decide), by (repeat' (first | (with_reducible exact Below.refl _ _) | (with_reducible assumption) | (with_reducible refine below_drewN ?_ _) | (with_reducible refine below_new ?_ _) | (with_reducible refine Below.alloc ?_ ?_ _) | (with_reducible refine Below.drew ?_) | (with_reducible refine Below.setCell ?_ ?_ _) | (with_reducible apply below_at; (case k => (with_reducible assumption)); (case hB => omega)) | (with_reducible apply below_on; (with_reducible assumption)) | (go_size; done) | (with_reducible apply size_of)))⟩
end Go.Proofs.YtphakelncjogpaaDoor.ocW
