/- Copies of an adaptive map, by walks. -/
import Derived.Test.YtipbafcjmeibpaaAdW4
import Derived.Deep.RegionLaw
import Derived.Deep.RegionHeld3
namespace Go.Proofs.Ytipbafcjmeibpaa.adW
open Go.RowKit Go.Proofs.Ytipbafcjmeibpaa.base Go.Proofs.Ytipbafcjmeibpaa.adP
set_option linter.unusedVariables false
set_option linter.unusedSimpArgs false

theorem own_blocks_ne {w w1 : World} {B : Nat} {g g1 n c n1 c1 : Nat} {e : TypeId} {k : IntKind} {zs ys : List Int} (h : OwnI w B e k (.slice (some ⟨g, 0, none⟩) n c) zs) (h1 : OwnI w1 w.heap.size e k (.slice (some ⟨g1, 0, none⟩) n1 c1) ys) : g ≠ g1 := by
  have a := h.base_le
  have b := h1.base_le
  omega
set_option maxHeartbeats 1000000 in
theorem clone_ok (m : Ad) (A B : Option Addr) (cp cn : Nat) (w : World) (h : AdIn w A B 193 193 m) (hcp : 193 ≤ cp) (hcn : 193 ≤ cn) :
    Calls Try.prog 29 #[.agg #[.int .i32 (m).l, .slice A 193 cp, .slice B 193 cn]] w fun e w' => ∃ gp gn c d, e = .returned (.agg #[.int .i32 (m).l, .slice (some ⟨gp, 0, none⟩) 193 c, .slice (some ⟨gn, 0, none⟩) 193 d]) ∧ AdOwn w' w.heap.size gp gn c d m ∧ Below w.heap.size w w' := by
  obtain ⟨l1, l2, hp, ep, hn, en, mp, mn, bp, bn⟩ := h
  obtain ⟨b, off, rfl, _, _⟩ := has_some hp (by omega)
  obtain ⟨d, off2, rfl, _, _⟩ := has_some hn (by omega)
  have HP := Lib.hid hp
  have HN := Lib.hid hn
  have EP := Lib.hid ep
  have EN := Lib.hid en
  clear hp hn ep en bp bn
  generalize m.l = l at *
  go_enter Try.func29, Try.ntmps29
  go_wp2_with fail
  go_region_law (first
    | (go_simp; go_at_call 44; with_reducible refine (Clone32 (A := some ⟨b, off, none⟩) (n := 193) (c := cp) (zs := m.p) (HP.out.below (by (repeat' (first | (with_reducible exact Below.refl _ _) | (with_reducible assumption) | (with_reducible refine below_drewN ?_ _) | (with_reducible refine below_new ?_ _) | (with_reducible refine Below.alloc ?_ ?_ _) | (with_reducible refine Below.drew ?_) | (with_reducible refine Below.setCell ?_ ?_ _) | (with_reducible apply below_at; (case k => (with_reducible assumption)); (case hB => omega)) | (with_reducible apply below_on; (with_reducible assumption)) | (go_size; done) | (with_reducible apply size_of)))) (Nat.le_refl _)) EP.out hcp (by omega) (by omega)).mono ?_; rintro e w3 ⟨g3, c3, rfl, ho3, hb3⟩; have hk3 : Lies w3 w.heap.size 24 [.int .i32 l, .slice (some ⟨b, off, none⟩) 193 cp, .slice (some ⟨d, off2, none⟩) 193 cn] := (by (repeat' (first | (with_reducible assumption) | (with_reducible exact Lies.fresh _ _ _) | (with_reducible apply Lies.fresh_at; (first | (with_reducible rfl) | (simp; done))) | (with_reducible refine Lies.drew ?_) | (with_reducible refine Lies.drewN ?_ _) | (with_reducible refine Lies.alloc ?_ _) | (with_reducible apply Lies.past; case hb => (with_reducible assumption)) | (with_reducible apply Lies.keeps; (case k => (with_reducible assumption)); (case ht => decide)) | (with_reducible apply Lies.store3) | (with_reducible apply Lies.other; case hp => (first | omega | (simp; done) | (simp; omega)))))); have hr3 : Lies w3 (w.heap.size + 1) 24 [.int .i32 0, .slice none 0 0, .slice none 0 0] := (by (repeat' (first | (with_reducible assumption) | (with_reducible exact Lies.fresh _ _ _) | (with_reducible apply Lies.fresh_at; (first | (with_reducible rfl) | (simp; done))) | (with_reducible refine Lies.drew ?_) | (with_reducible refine Lies.drewN ?_ _) | (with_reducible refine Lies.alloc ?_ _) | (with_reducible apply Lies.past; case hb => (with_reducible assumption)) | (with_reducible apply Lies.keeps; (case k => (with_reducible assumption)); (case ht => decide)) | (with_reducible apply Lies.store3) | (with_reducible apply Lies.other; case hp => (first | omega | (simp; done) | (simp; omega)))))); obtain ⟨p0, p1, p2, -, -, -⟩ := hk3.three; obtain ⟨r0, r1, r2, f0, f1, f2⟩ := hr3.three)
    | (go_simp; go_at_call 44; with_reducible refine (Clone32 (A := some ⟨d, off2, none⟩) (n := 193) (c := cn) (zs := m.n) (HN.out.below (by (repeat' (first | (with_reducible exact Below.refl _ _) | (with_reducible assumption) | (with_reducible refine below_drewN ?_ _) | (with_reducible refine below_new ?_ _) | (with_reducible refine Below.alloc ?_ ?_ _) | (with_reducible refine Below.drew ?_) | (with_reducible refine Below.setCell ?_ ?_ _) | (with_reducible apply below_at; (case k => (with_reducible assumption)); (case hB => omega)) | (with_reducible apply below_on; (with_reducible assumption)) | (go_size; done) | (with_reducible apply size_of)))) (Nat.le_refl _)) EN.out hcn (by omega) (by omega)).mono ?_; rintro e w4 ⟨g4, c4, rfl, ho4, hb4⟩; have hk4 : Lies w4 w.heap.size 24 [.int .i32 l, .slice (some ⟨b, off, none⟩) 193 cp, .slice (some ⟨d, off2, none⟩) 193 cn] := (by (repeat' (first | (with_reducible assumption) | (with_reducible exact Lies.fresh _ _ _) | (with_reducible apply Lies.fresh_at; (first | (with_reducible rfl) | (simp; done))) | (with_reducible refine Lies.drew ?_) | (with_reducible refine Lies.drewN ?_ _) | (with_reducible refine Lies.alloc ?_ _) | (with_reducible apply Lies.past; case hb => (with_reducible assumption)) | (with_reducible apply Lies.keeps; (case k => (with_reducible assumption)); (case ht => decide)) | (with_reducible apply Lies.store3) | (with_reducible apply Lies.other; case hp => (first | omega | (simp; done) | (simp; omega)))))); have hr4 : Lies w4 (w.heap.size + 1) 24 [.int .i32 0, .slice none 0 0, .slice none 0 0] := (by (repeat' (first | (with_reducible assumption) | (with_reducible exact Lies.fresh _ _ _) | (with_reducible apply Lies.fresh_at; (first | (with_reducible rfl) | (simp; done))) | (with_reducible refine Lies.drew ?_) | (with_reducible refine Lies.drewN ?_ _) | (with_reducible refine Lies.alloc ?_ _) | (with_reducible apply Lies.past; case hb => (with_reducible assumption)) | (with_reducible apply Lies.keeps; (case k => (with_reducible assumption)); (case ht => decide)) | (with_reducible apply Lies.store3) | (with_reducible apply Lies.other; case hp => (first | omega | (simp; done) | (simp; omega)))))); obtain ⟨p0, p1, p2, -, -, -⟩ := hk4.three; obtain ⟨r0, r1, r2, f0, f1, f2⟩ := hr4.three))
  all_goals
    go_wp2_with fail
    obtain ⟨t0, t1, t2, -, -, -⟩ := (hr4.store3 (a := .int .i32 l) (b := .slice (some ⟨g3, 0, none⟩) 193 c3) (c := .slice (some ⟨g4, 0, none⟩) 193 c4)).three
    refine bodyPost_ret (by simp [results, Try.results29, go_sem, t0, t1, t2]; try rfl) rfl ?_
    have sz : w.heap.size + 2 ≤ w3.heap.size := by have := hb3.size; simpa using this
    have HO : AdOwn w4 w.heap.size g3 g4 c3 c4 m := ⟨(ho3.below hb4 (Nat.le_refl _)).mono (by simp; omega), ho4.mono (by omega), own_blocks_ne ho3 ho4, EP.out, EN.out⟩
    exact ⟨g3, g4, c3, c4, rfl, HO.store3 hr4 (by decide), by (repeat' (first | (with_reducible exact Below.refl _ _) | (with_reducible assumption) | (with_reducible refine below_drewN ?_ _) | (with_reducible refine below_new ?_ _) | (with_reducible refine Below.alloc ?_ ?_ _) | (with_reducible refine Below.drew ?_) | (with_reducible refine Below.setCell ?_ ?_ _) | (with_reducible apply below_at; (case k => (with_reducible assumption)); (case hB => omega)) | (with_reducible apply below_on; (with_reducible assumption)) | (go_size; done) | (with_reducible apply size_of)))⟩
end Go.Proofs.Ytipbafcjmeibpaa.adW
