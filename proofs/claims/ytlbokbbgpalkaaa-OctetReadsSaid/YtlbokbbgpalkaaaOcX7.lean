/- OctetReads, by a walk. -/
import Derived.Test.YtlbokbbgpalkaaaOcX6
import Derived.Deep.RegionLaw
namespace Go.Proofs.Ytlbokbbgpalkaaa.ocL
open Go.RowKit Go.Proofs.Ytlbokbbgpalkaaa.base Go.Proofs.Ytlbokbbgpalkaaa.ocP Go.Proofs.Ytlbokbbgpalkaaa.ocW
set_option linter.unusedVariables false
set_option linter.unusedSimpArgs false

theorem own_in {w w' : World} {A A' : Option Addr} {n d d' B : Nat} {c : Cu} (h : CuIn w A n d c) (o : OwnZ w' B (.slice A' n d') c.b) : CuIn w' A' n d' c := by
  have q := o.bounds
  exact ⟨h.a1, h.a2, o.has, h.e, q.2.1, by omega, h.b⟩
theorem cells2 {w : World} {g : Nat} {t : TypeId} {a b : Value} (h : Lies w g t [a, b]) : w.cell? ⟨g, 0, none⟩ = some a ∧ w.cell? ⟨g, 1, none⟩ = some b := ⟨h.two.1, h.two.2.1⟩
theorem cu_same (a : Int) (zs : List Int) : (decide (a = a) && decide (zs = zs)) = true := by rw [decide_eq_true (rfl : a = a), decide_eq_true (rfl : zs = zs)]; rfl
theorem z_same (zs : List Int) : decide (zs = zs) = true := decide_eq_true rfl
set_option maxRecDepth 100000 in
set_option maxHeartbeats 8000000 in
theorem reads (A : Option Addr) (n d : Nat) (c : Cu) (l q m : Int) (w : World) (h : CuIn w A n d c) (l1 : -9223372036854775808 ≤ l) (l2 : l ≤ 9223372036854775807) (q1 : -9223372036854775808 ≤ q) (q2 : q ≤ 9223372036854775807) (m1 : 0 ≤ m) (m2 : m ≤ 18446744073709551615) :
    Calls Try.prog 5 #[.agg #[.slice A n d, .int .i64 (c).a], .int .i64 l, .int .i64 q, .int .u64 m] w fun e w' => e = .returned (.bool true) ∧ Below w.heap.size w w' := by
  have H := Lib.hid h
  have nq9 : (n : Int) ≤ 9223372036854775807 := by have := h.c2; omega
  have HNQ : Hid (n ≤ 9223372036854775807) := Lib.hid h.c2
  clear h
  cases hg : grB n
  · have hn := grB_no hg
    have HG := Lib.hid hg
    have HN : Hid (n ≤ 50100) := Lib.hid (by omega)
    have hnn : (n : Int) ≤ 50100 := by omega
    clear hg hn
    go_enter Try.func5, Try.ntmps5
    go_wp2_with fail
    refine (rGreat_any A n d _ HNQ.out).mono ?_
    rintro e w' ⟨rfl, rfl⟩
    rw [HG.out]
    go_upto_region 3 with fail
    go_cut [9] (fun s wx => ∃ g A1 c1, s = .pointer (some ⟨g, 0, none⟩) ∧ w.heap.size < g ∧ g < wx.heap.size ∧ (Lies (wx) (g) 29 [.slice (A1) (n) (c1), .int .i64 (c).a]) ∧ (Lies (wx) (w.heap.size) 29 [.slice (A) (n) (d), .int .i64 (c).a]) ∧ OwnZ wx (w.heap.size + 1) (.slice A1 n c1) c.b ∧ Below w.heap.size w wx)
    case first =>
      have HK0 : Hid (Lies (w.alloc (.cells #[.slice A n d, .int .i64 c.a] 29)) (w.heap.size) 29 [.slice (A) (n) (d), .int .i64 (c).a]) := Lib.hid (Lies.fresh _ _ _)
      go_region_held3 (fun x' => x'.cell? ⟨w.heap.size, 0, none⟩ = some (.slice A n d) ∧ x'.cell? ⟨w.heap.size, 1, none⟩ = some (.int .i64 c.a))
        ((exact ⟨(show Lies (_) (w.heap.size) 29 [.slice (A) (n) (d), .int .i64 (c).a] from (by have := HK0.out; (repeat' (first | (with_reducible assumption) | (with_reducible exact Lies.fresh _ _ _) | (with_reducible apply Lies.fresh_at; (first | (with_reducible rfl) | (simp; done))) | (with_reducible refine Lies.drew ?_) | (with_reducible refine Lies.drewN ?_ _) | (with_reducible refine Lies.alloc ?_ _) | (with_reducible apply Lies.past; case hb => (with_reducible assumption)) | (with_reducible apply Lies.keeps; (case k => (with_reducible assumption)); (case ht => decide)) | (with_reducible apply Lies.store3) | (with_reducible apply Lies.other; case hp => (first | omega | (simp; done) | (simp; omega))))))).two.1, (show Lies (_) (w.heap.size) 29 [.slice (A) (n) (d), .int .i64 (c).a] from (by have := HK0.out; (repeat' (first | (with_reducible assumption) | (with_reducible exact Lies.fresh _ _ _) | (with_reducible apply Lies.fresh_at; (first | (with_reducible rfl) | (simp; done))) | (with_reducible refine Lies.drew ?_) | (with_reducible refine Lies.drewN ?_ _) | (with_reducible refine Lies.alloc ?_ _) | (with_reducible apply Lies.past; case hb => (with_reducible assumption)) | (with_reducible apply Lies.keeps; (case k => (with_reducible assumption)); (case ht => decide)) | (with_reducible apply Lies.store3) | (with_reducible apply Lies.other; case hp => (first | omega | (simp; done) | (simp; omega))))))).two.2.1⟩))
        ((refine step_app8g (by rfl) _ _ (by rfl) (w.heap.size + 1) _ [] (by rfl) (.inr ⟨rfl, _, rfl⟩) A n d c.b (by rfl) H.out.e (H.out.h.below (by (repeat' (first | (with_reducible exact Below.refl _ _) | (with_reducible assumption) | (with_reducible refine below_drewN ?_ _) | (with_reducible refine below_new ?_ _) | (with_reducible refine Below.alloc ?_ ?_ _) | (with_reducible refine Below.drew ?_) | (with_reducible refine Below.setCell ?_ ?_ _) | (with_reducible apply below_at; (case k => (with_reducible assumption)); (case hB => omega)) | (with_reducible apply below_on; (with_reducible assumption)) | (go_size; done) | (with_reducible apply size_of)))) (Nat.le_refl _)) n (by simp) (by have := HN.out; omega) (by simp; try omega) ?_; intro A3 c3 w3 ho3 hk3 hb3; rw [List.nil_append] at ho3; first | (refine lay (P := Lies (w3) (w.heap.size + 1) 29 [.slice none 0 0, .int .i64 0]) ?_ ?_; (focus ((repeat' (first | (with_reducible assumption) | (with_reducible exact Lies.fresh _ _ _) | (with_reducible apply Lies.fresh_at; (first | (with_reducible rfl) | (simp; done))) | (with_reducible refine Lies.drew ?_) | (with_reducible refine Lies.drewN ?_ _) | (with_reducible refine Lies.alloc ?_ _) | (with_reducible apply Lies.past; case hb => (with_reducible assumption)) | (with_reducible apply Lies.keeps; (case k => (with_reducible assumption)); (case ht => decide)) | (with_reducible apply Lies.store3) | (with_reducible apply Lies.other; case hp => (first | omega | (simp; done) | (simp; omega))))); done)); intro L9; obtain ⟨b0, b1, g0, g1⟩ := L9.two; have lb := L9.lt) | (refine lay (P := Lies (w3) (w.heap.size + 2) 29 [.slice none 0 0, .int .i64 0]) ?_ ?_; (focus ((repeat' (first | (with_reducible assumption) | (with_reducible exact Lies.fresh _ _ _) | (with_reducible apply Lies.fresh_at; (first | (with_reducible rfl) | (simp; done))) | (with_reducible refine Lies.drew ?_) | (with_reducible refine Lies.drewN ?_ _) | (with_reducible refine Lies.alloc ?_ _) | (with_reducible apply Lies.past; case hb => (with_reducible assumption)) | (with_reducible apply Lies.keeps; (case k => (with_reducible assumption)); (case ht => decide)) | (with_reducible apply Lies.store3) | (with_reducible apply Lies.other; case hp => (first | omega | (simp; done) | (simp; omega))))); done)); intro L9; obtain ⟨b0, b1, g0, g1⟩ := L9.two; have lb := L9.lt) | skip))
      all_goals
        go_wp2_with fail
        go_meet
        have z3 := hb3.size
        (try simp at z3)
      · exact ⟨w3.heap.size, A3, c3, rfl, by omega, by simp, by (repeat' (first | (with_reducible assumption) | (with_reducible exact Lies.fresh _ _ _) | (with_reducible apply Lies.fresh_at; (first | (with_reducible rfl) | (simp; done))) | (with_reducible refine Lies.drew ?_) | (with_reducible refine Lies.drewN ?_ _) | (with_reducible refine Lies.alloc ?_ _) | (with_reducible apply Lies.past; case hb => (with_reducible assumption)) | (with_reducible apply Lies.keeps; (case k => (with_reducible assumption)); (case ht => decide)) | (with_reducible apply Lies.store3) | (with_reducible apply Lies.other; case hp => (first | omega | (simp; done) | (simp; omega))))), by have := HK0.out; (repeat' (first | (with_reducible assumption) | (with_reducible exact Lies.fresh _ _ _) | (with_reducible apply Lies.fresh_at; (first | (with_reducible rfl) | (simp; done))) | (with_reducible refine Lies.drew ?_) | (with_reducible refine Lies.drewN ?_ _) | (with_reducible refine Lies.alloc ?_ _) | (with_reducible apply Lies.past; case hb => (with_reducible assumption)) | (with_reducible apply Lies.keeps; (case k => (with_reducible assumption)); (case ht => decide)) | (with_reducible apply Lies.store3) | (with_reducible apply Lies.other; case hp => (first | omega | (simp; done) | (simp; omega))))), ho3.alloc _, by (repeat' (first | (with_reducible exact Below.refl _ _) | (with_reducible assumption) | (with_reducible refine below_drewN ?_ _) | (with_reducible refine below_new ?_ _) | (with_reducible refine Below.alloc ?_ ?_ _) | (with_reducible refine Below.drew ?_) | (with_reducible refine Below.setCell ?_ ?_ _) | (with_reducible apply below_at; (case k => (with_reducible assumption)); (case hB => omega)) | (with_reducible apply below_on; (with_reducible assumption)) | (go_size; done) | (with_reducible apply size_of)))⟩
      · exact ⟨w.heap.size + 2, A3, c3, rfl, by omega, by simp; omega, lies_store2 L9, by have := HK0.out; (repeat' (first | (with_reducible assumption) | (with_reducible exact Lies.fresh _ _ _) | (with_reducible apply Lies.fresh_at; (first | (with_reducible rfl) | (simp; done))) | (with_reducible refine Lies.drew ?_) | (with_reducible refine Lies.drewN ?_ _) | (with_reducible refine Lies.alloc ?_ _) | (with_reducible apply Lies.past; case hb => (with_reducible assumption)) | (with_reducible apply Lies.keeps; (case k => (with_reducible assumption)); (case ht => decide)) | (with_reducible apply Lies.store3) | (with_reducible apply Lies.other; case hp => (first | omega | (simp; done) | (simp; omega))))), OwnZ.store2 ho3 L9 (by decide), by (repeat' (first | (with_reducible exact Below.refl _ _) | (with_reducible assumption) | (with_reducible refine below_drewN ?_ _) | (with_reducible refine below_new ?_ _) | (with_reducible refine Below.alloc ?_ ?_ _) | (with_reducible refine Below.drew ?_) | (with_reducible refine Below.setCell ?_ ?_ _) | (with_reducible apply below_at; (case k => (with_reducible assumption)); (case hB => omega)) | (with_reducible apply below_on; (with_reducible assumption)) | (go_size; done) | (with_reducible apply size_of)))⟩
      · exact ⟨w.heap.size + 1, A3, c3, rfl, by omega, by simp; omega, lies_store2 L9, by have := HK0.out; (repeat' (first | (with_reducible assumption) | (with_reducible exact Lies.fresh _ _ _) | (with_reducible apply Lies.fresh_at; (first | (with_reducible rfl) | (simp; done))) | (with_reducible refine Lies.drew ?_) | (with_reducible refine Lies.drewN ?_ _) | (with_reducible refine Lies.alloc ?_ _) | (with_reducible apply Lies.past; case hb => (with_reducible assumption)) | (with_reducible apply Lies.keeps; (case k => (with_reducible assumption)); (case ht => decide)) | (with_reducible apply Lies.store3) | (with_reducible apply Lies.other; case hp => (first | omega | (simp; done) | (simp; omega))))), OwnZ.store2 ho3 L9 (by decide), by (repeat' (first | (with_reducible exact Below.refl _ _) | (with_reducible assumption) | (with_reducible refine below_drewN ?_ _) | (with_reducible refine below_new ?_ _) | (with_reducible refine Below.alloc ?_ ?_ _) | (with_reducible refine Below.drew ?_) | (with_reducible refine Below.setCell ?_ ?_ _) | (with_reducible apply below_at; (case k => (with_reducible assumption)); (case hB => omega)) | (with_reducible apply below_on; (with_reducible assumption)) | (go_size; done) | (with_reducible apply size_of)))⟩
    case rest =>
      obtain ⟨g, A1, c1, rfl, hg1, hg2, kk, kx, ho, acc⟩ := hcut
      rename World => w2
      have HK := Lib.hid kk
      have HX := Lib.hid kx
      have HO := Lib.hid ho
      have HACC := Lib.hid acc
      have HS : Hid (w2.heap.size ≤ w2.heap.size) := Lib.hid (Nat.le_refl _)
      obtain ⟨g1, hg1'⟩ : ∃ g1, w.heap.size ≤ g1 ∧ g1 < w2.heap.size ∧ g1 ≠ g ∧ (n = 0 ∨ A1 = some ⟨g1, 0, none⟩) := by
        rcases Nat.eq_zero_or_pos n with h0 | h0
        · exact ⟨w.heap.size, Nat.le_refl _, by omega, by omega, .inl h0⟩
        · obtain ⟨g', rfl, x1, x2, o⟩ := ho.at_head h0
          exact ⟨g', by omega, x2, fun e => own_ne o kk (by decide) (by rw [e]; rfl), .inr rfl⟩
      have HG1 : Hid (w.heap.size ≤ g1 ∧ g1 < w2.heap.size ∧ g1 ≠ g) := Lib.hid ⟨hg1'.1, hg1'.2.1, hg1'.2.2.1⟩
      have hro : ∀ W : World, OwnZ W (w.heap.size + 1) (.slice A1 n c1) c.b → n = 0 ∨ A1 = some ⟨g1, 0, none⟩ ∧ OwnI W (w.heap.size + 1) 5 .u8 (.slice (some ⟨g1, 0, none⟩) n c1) c.b := fun W o => by
        rcases hg1'.2.2.2 with h | h
        · exact .inl h
        · rcases Nat.eq_zero_or_pos n with h0 | h0
          · exact .inl h0
          · obtain ⟨g', e, x1, x2, o'⟩ := o.at_head h0
            rw [h] at e
            injection e with e
            injection e with e
            subst e
            exact .inr ⟨h, o'⟩
      have HRO := Lib.hid hro
      clear hro
      clear kk kx ho acc hg1 hg2 hg1'
      obtain ⟨k0, k3, -, -⟩ := HK.out.two
      obtain ⟨k1, k2, -, -⟩ := HX.out.two
      have lt0 := HK.out.lt
      have lt1 := HX.out.lt
      go_wp2_with fail
      refine (Left_any c A1 n c1  _ (own_in H.out HO.out)).mono ?_
      rintro e w4 ⟨rfl, hb4⟩
      have HK := Lib.hid ((HK.out).past hb4)
      have HX := Lib.hid ((HX.out).past hb4)
      have HO := Lib.hid ((HO.out).past hb4)
      have HACC := Lib.hid (HACC.out.trans (hb4.mono HACC.out.size))
      have HS4 : Hid (w2.heap.size ≤ w4.heap.size) := Lib.hid (by have := HS.out; have := hb4.size; (try simp at this); omega)
      clear hb4 k0 k1 k2 k3 lt0 lt1
      obtain ⟨k0, k3, -, -⟩ := HK.out.two
      obtain ⟨k1, k2, -, -⟩ := HX.out.two
      have lt0 := HK.out.lt
      have lt1 := HX.out.lt
      go_wp2_with fail
      refine (rLeft_any c A n d  _ (H.out.below HACC.out)).mono ?_
      rintro e w5 ⟨rfl, hb5⟩
      have HK := Lib.hid ((HK.out).past hb5)
      have HX := Lib.hid ((HX.out).past hb5)
      have HO := Lib.hid ((HO.out).past hb5)
      have HACC := Lib.hid (HACC.out.trans (hb5.mono HACC.out.size))
      have HS5 : Hid (w2.heap.size ≤ w5.heap.size) := Lib.hid (by have := HS4.out; have := hb5.size; (try simp at this); omega)
      clear hb5 k0 k1 k2 k3 lt0 lt1
      obtain ⟨k0, k3, -, -⟩ := HK.out.two
      obtain ⟨k1, k2, -, -⟩ := HX.out.two
      have lt0 := HK.out.lt
      have lt1 := HX.out.lt
      go_wp2_with fail
      refine (Read_any c A1 n c1 l m _ (own_in H.out HO.out) (by omega) (by omega)).mono ?_
      rintro e w6 ⟨A6, n6, c6, rfl, hn6, ho6, hb6⟩
      have HK := Lib.hid ((HK.out).past hb6)
      have HX := Lib.hid ((HX.out).past hb6)
      have HO := Lib.hid ((HO.out).past hb6)
      have HACC := Lib.hid (HACC.out.trans (hb6.mono HACC.out.size))
      have HO6 := Lib.hid ho6
      have HN6 := Lib.hid hn6
      clear ho6 hn6
      have HS6 : Hid (w2.heap.size ≤ w6.heap.size) := Lib.hid (by have := HS5.out; have := hb6.size; (try simp at this); omega)
      clear hb6 k0 k1 k2 k3 lt0 lt1
      obtain ⟨k0, k3, -, -⟩ := HK.out.two
      obtain ⟨k1, k2, -, -⟩ := HX.out.two
      have lt0 := HK.out.lt
      have lt1 := HX.out.lt
      go_wp2_with fail
      refine (rRead_any c A n d l m _ (H.out.below (HACC.out.alloc HACC.out.size _)) (by omega) (by omega)).mono ?_
      rintro e w7 ⟨A7, n7, c7, rfl, hn7, ho7, hb7⟩
      have HK := Lib.hid ((HK.out.alloc _).past hb7)
      have HX := Lib.hid ((HX.out.alloc _).past hb7)
      have HO := Lib.hid ((HO.out.alloc _).past hb7)
      have HO6 := Lib.hid ((HO6.out.alloc _).past hb7)
      have HACC := Lib.hid ((HACC.out.alloc HACC.out.size _).trans (hb7.mono (by have := HACC.out.size; simp; omega)))
      have HO7 := Lib.hid ho7
      have HN7 := Lib.hid hn7
      clear ho7 hn7
      have HS7 : Hid (w2.heap.size ≤ w7.heap.size) := Lib.hid (by have := HS6.out; have := hb7.size; (try simp at this); omega)
      have HT6 : Hid (Lies w7 w6.heap.size 29 [.slice A6 n6 c6, .int .i64 (rdC c l m).a]) := Lib.hid ((Lies.fresh _ _ _).past hb7)
      clear hb7 k0 k1 k2 k3 lt0 lt1
      obtain ⟨k0, k3, -, -⟩ := HK.out.two
      obtain ⟨k1, k2, -, -⟩ := HX.out.two
      have lt0 := HK.out.lt
      have lt1 := HX.out.lt
      go_wp2_with fail
      refine (Take_any c A1 n c1 q _ (own_in H.out (HO.out.alloc _)) (by omega) (by omega)).mono ?_
      rintro e w8 ⟨A8, n8, c8, B8, m8, d8, rfl, hn8, hm8, ho8, hp8, hb8⟩
      have HK := Lib.hid ((HK.out.alloc _).past hb8)
      have HX := Lib.hid ((HX.out.alloc _).past hb8)
      have HO := Lib.hid ((HO.out.alloc _).past hb8)
      have HO6 := Lib.hid ((HO6.out.alloc _).past hb8)
      have HO7 := Lib.hid ((HO7.out.alloc _).past hb8)
      have HT6 := Lib.hid ((HT6.out.alloc _).past hb8)
      have HACC := Lib.hid ((HACC.out.alloc HACC.out.size _).trans (hb8.mono (by have := HACC.out.size; simp; omega)))
      have HO8 := Lib.hid ho8
      have HN8 := Lib.hid hn8
      have HP8 := Lib.hid hp8
      have HM8 := Lib.hid hm8
      clear hp8 hm8
      clear ho8 hn8
      have HS8 : Hid (w2.heap.size ≤ w8.heap.size) := Lib.hid (by have := HS7.out; have := hb8.size; (try simp at this); omega)
      have HT7 : Hid (Lies w8 w7.heap.size 29 [.slice A7 n7 c7, .int .i64 (rdC c l m).a]) := Lib.hid ((Lies.fresh _ _ _).past hb8)
      clear hb8 k0 k1 k2 k3 lt0 lt1
      obtain ⟨k0, k3, -, -⟩ := HK.out.two
      obtain ⟨k1, k2, -, -⟩ := HX.out.two
      have lt0 := HK.out.lt
      have lt1 := HX.out.lt
      go_wp2_with fail
      refine (rTake_any c A n d q _ (H.out.below (HACC.out.alloc HACC.out.size _)) (by omega) (by omega)).mono ?_
      rintro e w9 ⟨A9, n9, c9, B9, m9, d9, rfl, hn9, hm9, ho9, hp9, hb9⟩
      have HK := Lib.hid ((HK.out.alloc _).past hb9)
      have HX := Lib.hid ((HX.out.alloc _).past hb9)
      have HO := Lib.hid ((HO.out.alloc _).past hb9)
      have HO6 := Lib.hid ((HO6.out.alloc _).past hb9)
      have HO7 := Lib.hid ((HO7.out.alloc _).past hb9)
      have HT6 := Lib.hid ((HT6.out.alloc _).past hb9)
      have HO8 := Lib.hid ((HO8.out.alloc _).past hb9)
      have HP8 := Lib.hid ((HP8.out.alloc _).past hb9)
      have HT7 := Lib.hid ((HT7.out.alloc _).past hb9)
      have HACC := Lib.hid ((HACC.out.alloc HACC.out.size _).trans (hb9.mono (by have := HACC.out.size; simp; omega)))
      have HO9 := Lib.hid ho9
      have HN9 := Lib.hid hn9
      have HP9 := Lib.hid hp9
      have HM9 := Lib.hid hm9
      clear hp9 hm9
      clear ho9 hn9
      have HS9 : Hid (w2.heap.size ≤ w9.heap.size) := Lib.hid (by have := HS8.out; have := hb9.size; (try simp at this); omega)
      have HT8 : Hid (Lies w9 w8.heap.size 29 [.slice A8 n8 c8, .int .i64 (tkC c q).a]) := Lib.hid ((Lies.fresh _ _ _).past hb9)
      clear hb9 k0 k1 k2 k3 lt0 lt1
      obtain ⟨k0, k3, -, -⟩ := HK.out.two
      obtain ⟨k1, k2, -, -⟩ := HX.out.two
      have lt0 := HK.out.lt
      have lt1 := HX.out.lt
      go_wp2_with fail
      refine (ReadString_any c A1 n c1 l q _ (own_in H.out (HO.out.alloc _)) (by omega) (by omega)).mono ?_
      rintro e w10 ⟨A10, n10, c10, B10, m10, d10, rfl, hn10, hm10, ho10, hp10, hb10⟩
      have HK := Lib.hid ((HK.out.alloc _).past hb10)
      have HX := Lib.hid ((HX.out.alloc _).past hb10)
      have HO := Lib.hid ((HO.out.alloc _).past hb10)
      have HO6 := Lib.hid ((HO6.out.alloc _).past hb10)
      have HO7 := Lib.hid ((HO7.out.alloc _).past hb10)
      have HT6 := Lib.hid ((HT6.out.alloc _).past hb10)
      have HO8 := Lib.hid ((HO8.out.alloc _).past hb10)
      have HP8 := Lib.hid ((HP8.out.alloc _).past hb10)
      have HT7 := Lib.hid ((HT7.out.alloc _).past hb10)
      have HO9 := Lib.hid ((HO9.out.alloc _).past hb10)
      have HP9 := Lib.hid ((HP9.out.alloc _).past hb10)
      have HT8 := Lib.hid ((HT8.out.alloc _).past hb10)
      have HACC := Lib.hid ((HACC.out.alloc HACC.out.size _).trans (hb10.mono (by have := HACC.out.size; simp; omega)))
      have HO10 := Lib.hid ho10
      have HN10 := Lib.hid hn10
      have HP10 := Lib.hid hp10
      have HM10 := Lib.hid hm10
      clear hp10 hm10
      clear ho10 hn10
      have HS10 : Hid (w2.heap.size ≤ w10.heap.size) := Lib.hid (by have := HS9.out; have := hb10.size; (try simp at this); omega)
      have HT9 : Hid (Lies w10 w9.heap.size 29 [.slice A9 n9 c9, .int .i64 (tkC c q).a]) := Lib.hid ((Lies.fresh _ _ _).past hb10)
      clear hb10 k0 k1 k2 k3 lt0 lt1
      obtain ⟨k0, k3, -, -⟩ := HK.out.two
      obtain ⟨k1, k2, -, -⟩ := HX.out.two
      have lt0 := HK.out.lt
      have lt1 := HX.out.lt
      go_wp2_with fail
      refine (rReadString_any c A n d l q _ (H.out.below (HACC.out.alloc HACC.out.size _)) (by omega) (by omega)).mono ?_
      rintro e w11 ⟨A11, n11, c11, B11, m11, d11, rfl, hn11, hm11, ho11, hp11, hb11⟩
      have HK := Lib.hid ((HK.out.alloc _).past hb11)
      have HX := Lib.hid ((HX.out.alloc _).past hb11)
      have HO := Lib.hid ((HO.out.alloc _).past hb11)
      have HO6 := Lib.hid ((HO6.out.alloc _).past hb11)
      have HO7 := Lib.hid ((HO7.out.alloc _).past hb11)
      have HT6 := Lib.hid ((HT6.out.alloc _).past hb11)
      have HO8 := Lib.hid ((HO8.out.alloc _).past hb11)
      have HP8 := Lib.hid ((HP8.out.alloc _).past hb11)
      have HT7 := Lib.hid ((HT7.out.alloc _).past hb11)
      have HO9 := Lib.hid ((HO9.out.alloc _).past hb11)
      have HP9 := Lib.hid ((HP9.out.alloc _).past hb11)
      have HT8 := Lib.hid ((HT8.out.alloc _).past hb11)
      have HO10 := Lib.hid ((HO10.out.alloc _).past hb11)
      have HP10 := Lib.hid ((HP10.out.alloc _).past hb11)
      have HT9 := Lib.hid ((HT9.out.alloc _).past hb11)
      have HACC := Lib.hid ((HACC.out.alloc HACC.out.size _).trans (hb11.mono (by have := HACC.out.size; simp; omega)))
      have HO11 := Lib.hid ho11
      have HN11 := Lib.hid hn11
      have HP11 := Lib.hid hp11
      have HM11 := Lib.hid hm11
      clear hp11 hm11
      clear ho11 hn11
      have HS11 : Hid (w2.heap.size ≤ w11.heap.size) := Lib.hid (by have := HS10.out; have := hb11.size; (try simp at this); omega)
      have HT10 : Hid (Lies w11 w10.heap.size 29 [.slice A10 n10 c10, .int .i64 (rsC c l q).a]) := Lib.hid ((Lies.fresh _ _ _).past hb11)
      clear hb11 k0 k1 k2 k3 lt0 lt1
      obtain ⟨k0, k3, -, -⟩ := HK.out.two
      obtain ⟨k1, k2, -, -⟩ := HX.out.two
      have lt0 := HK.out.lt
      have lt1 := HX.out.lt
      have HT11 : Hid (Lies (w11.alloc (.cells #[.slice A11 n11 c11, .int .i64 (rsC c l q).a] 29)) w11.heap.size 29 [.slice A11 n11 c11, .int .i64 (rsC c l q).a]) := Lib.hid (Lies.fresh _ _ _)
      generalize hE : cuE c = E
      have HCE := Lib.hid hE
      have bE : (E == E) = true := by simp
      clear hE
      have HKA := Lib.hid (HK.out.alloc (.cells #[.slice A11 n11 c11, .int .i64 (rsC c l q).a] 29))
      have HXA := Lib.hid (HX.out.alloc (.cells #[.slice A11 n11 c11, .int .i64 (rsC c l q).a] 29))
      go_upto_region 12 with fail
      go_cut [32] (fun s wx => s = .bool true ∧ Below ((w11.alloc (.cells #[.slice A11 n11 c11, .int .i64 (rsC c l q).a] 29))).heap.size (w11.alloc (.cells #[.slice A11 n11 c11, .int .i64 (rsC c l q).a] 29)) wx)
      case first =>
        go_region_held3 (fun x' => (x'.cell? ⟨w.heap.size, 0, none⟩ = some (.slice A n d) ∧ x'.cell? ⟨w.heap.size, 1, none⟩ = some (.int .i64 c.a)) ∧ x'.cell? ⟨g, 0, none⟩ = some (.slice A1 n c1) ∧ x'.cell? ⟨g, 1, none⟩ = some (.int .i64 c.a)) ((exact ⟨cells2 (show Lies (_) (w.heap.size) 29 [.slice (A) (n) (d), .int .i64 (c).a] from (by have := HXA.out; (repeat' (first | (with_reducible assumption) | (with_reducible exact Lies.fresh _ _ _) | (with_reducible apply Lies.fresh_at; (first | (with_reducible rfl) | (simp; done))) | (with_reducible refine Lies.drew ?_) | (with_reducible refine Lies.drewN ?_ _) | (with_reducible refine Lies.alloc ?_ _) | (with_reducible apply Lies.past; case hb => (with_reducible assumption)) | (with_reducible apply Lies.keeps; (case k => (with_reducible assumption)); (case ht => decide)) | (with_reducible apply Lies.store3) | (with_reducible apply Lies.other; case hp => (first | omega | (simp; done) | (simp; omega))))))), cells2 (show Lies (_) (g) 29 [.slice (A1) (n) (c1), .int .i64 (c).a] from (by have := HKA.out; (repeat' (first | (with_reducible assumption) | (with_reducible exact Lies.fresh _ _ _) | (with_reducible apply Lies.fresh_at; (first | (with_reducible rfl) | (simp; done))) | (with_reducible refine Lies.drew ?_) | (with_reducible refine Lies.drewN ?_ _) | (with_reducible refine Lies.alloc ?_ _) | (with_reducible apply Lies.past; case hb => (with_reducible assumption)) | (with_reducible apply Lies.keeps; (case k => (with_reducible assumption)); (case ht => decide)) | (with_reducible apply Lies.store3) | (with_reducible apply Lies.other; case hp => (first | omega | (simp; done) | (simp; omega)))))))⟩)) (first | (go_at_call 27; with_reducible refine (Check_any c A1 n c1 _ (own_in H.out ((HO.out.alloc (.cells #[.slice A11 n11 c11, .int .i64 (rsC c l q).a] 29)).below (by (repeat' (first | (with_reducible exact Below.refl _ _) | (with_reducible assumption) | (with_reducible refine below_drewN ?_ _) | (with_reducible refine below_new ?_ _) | (with_reducible refine Below.alloc ?_ ?_ _) | (with_reducible refine Below.drew ?_) | (with_reducible refine Below.setCell ?_ ?_ _) | (with_reducible apply below_at; (case k => (with_reducible assumption)); (case hB => omega)) | (with_reducible apply below_on; (with_reducible assumption)) | (go_size; done) | (with_reducible apply size_of)))) (Nat.le_refl _)))).mono ?_; rintro e x1 ⟨rfl, hx1⟩; rw [HCE.out]) | (go_at_call 28; with_reducible refine (rCheck_any c A n d _ (H.out.below ((HACC.out.alloc HACC.out.size (.cells #[.slice A11 n11 c11, .int .i64 (rsC c l q).a] 29)).trans (Below.mono (by (repeat' (first | (with_reducible exact Below.refl _ _) | (with_reducible assumption) | (with_reducible refine below_drewN ?_ _) | (with_reducible refine below_new ?_ _) | (with_reducible refine Below.alloc ?_ ?_ _) | (with_reducible refine Below.drew ?_) | (with_reducible refine Below.setCell ?_ ?_ _) | (with_reducible apply below_at; (case k => (with_reducible assumption)); (case hB => omega)) | (with_reducible apply below_on; (with_reducible assumption)) | (go_size; done) | (with_reducible apply size_of)))) (by have := HACC.out.size; simp; omega))))).mono ?_; rintro e x2 ⟨rfl, hx2⟩; rw [HCE.out]))
        all_goals
          go_wp2_with fail
          go_meet
          exact ⟨rfl, by (repeat' (first | (with_reducible exact Below.refl _ _) | (with_reducible assumption) | (with_reducible refine below_drewN ?_ _) | (with_reducible refine below_new ?_ _) | (with_reducible refine Below.alloc ?_ ?_ _) | (with_reducible refine Below.drew ?_) | (with_reducible refine Below.setCell ?_ ?_ _) | (with_reducible apply below_at; (case k => (with_reducible assumption)); (case hB => omega)) | (with_reducible apply below_on; (with_reducible assumption)) | (go_size; done) | (with_reducible apply size_of)))⟩
      case rest =>
        obtain ⟨rfl, b12⟩ := hcut
        rename World => w12
        have HK := Lib.hid ((HK.out.alloc _).past b12)
        have HX := Lib.hid ((HX.out.alloc _).past b12)
        have HO := Lib.hid ((HO.out.alloc _).past b12)
        have HO6 := Lib.hid ((HO6.out.alloc _).past b12)
        have HO7 := Lib.hid ((HO7.out.alloc _).past b12)
        have HT6 := Lib.hid ((HT6.out.alloc _).past b12)
        have HO8 := Lib.hid ((HO8.out.alloc _).past b12)
        have HP8 := Lib.hid ((HP8.out.alloc _).past b12)
        have HT7 := Lib.hid ((HT7.out.alloc _).past b12)
        have HO9 := Lib.hid ((HO9.out.alloc _).past b12)
        have HP9 := Lib.hid ((HP9.out.alloc _).past b12)
        have HT8 := Lib.hid ((HT8.out.alloc _).past b12)
        have HO10 := Lib.hid ((HO10.out.alloc _).past b12)
        have HP10 := Lib.hid ((HP10.out.alloc _).past b12)
        have HT9 := Lib.hid ((HT9.out.alloc _).past b12)
        have HO11 := Lib.hid ((HO11.out.alloc _).past b12)
        have HP11 := Lib.hid ((HP11.out.alloc _).past b12)
        have HT10 := Lib.hid ((HT10.out.alloc _).past b12)
        have HT11 := Lib.hid (HT11.out.past b12)
        have HACC := Lib.hid ((HACC.out.alloc HACC.out.size _).trans (b12.mono (by have := HACC.out.size; simp; omega)))
        clear b12 HKA HXA k0 k1 k2 k3 lt0 lt1
        obtain ⟨k0, k3, -, -⟩ := HK.out.two
        have lt0 := HK.out.lt
        go_wp2_with fail
        clear k0 k3 lt0
        go_loopw [33] (fun i wr => ∃ (k : Nat) (zs : List Int), k ≤ n ∧ i = .int .i64 (k : Int) ∧ zs.length = n ∧ w12.grownBy wr (some g1) ∧ (n = 0 ∨ A1 = some ⟨g1, 0, none⟩ ∧ OwnI wr (w.heap.size + 1) 5 .u8 (.slice (some ⟨g1, 0, none⟩) n c1) zs)) (fun i _ => n - (intOf i).toNat)
        case atStart => exact ⟨0, c.b, Nat.zero_le _, rfl, H.out.e, World.grownBy.refl _ _, HRO.out _ HO.out⟩
        case round =>
          obtain ⟨k, zs, hk, rfl, hz, hgr, ho⟩ := hrel
          have HGR := Lib.hid hgr
          have kk := HK.out.far hgr HG1.out.2.2.symm
          obtain ⟨k0, k3, -, -⟩ := kk.two
          have lt0 := kk.lt
          by_cases hlt : k < n
          · obtain ⟨rfl, o⟩ : A1 = some ⟨g1, 0, none⟩ ∧ OwnI wr (w.heap.size + 1) 5 .u8 (.slice (some ⟨g1, 0, none⟩) n c1) zs := by
              rcases ho with h | h
              · omega
              · exact h
            have HOI := Lib.hid o
            have hc := o.cell k (by omega)
            have hf := o.frozen k
            have lt := o.base_le.2
            obtain ⟨v, hv⟩ : ∃ v, zs.getD k 0 = v := ⟨_, rfl⟩
            rw [hv] at hc
            have k4 : (k : Int) < n := by omega
            have HLT := Lib.hid hlt
            have HZL := Lib.hid hz
            clear ho hgr o hv hlt hk hz kk
            go_wp2_with fail
            go_roundw
            case rel => exact ⟨k + 1, zs.set k _, HLT.out, by go_num, by rw [List.length_set]; exact HZL.out, far_set HGR.out _, .inr ⟨by first | trivial | rfl, HOI.out.store k _⟩⟩
            case measure => simp [intOf]; have := HLT.out; omega
          · have he : k = n := by omega
            subst he
            have HT6 := Lib.hid (HT6.out.far hgr (by have := HG1.out; have := HS6.out; omega))
            have HT7 := Lib.hid (HT7.out.far hgr (by have := HG1.out; have := HS7.out; omega))
            have HT8 := Lib.hid (HT8.out.far hgr (by have := HG1.out; have := HS8.out; omega))
            have HT9 := Lib.hid (HT9.out.far hgr (by have := HG1.out; have := HS9.out; omega))
            have HT10 := Lib.hid (HT10.out.far hgr (by have := HG1.out; have := HS10.out; omega))
            have HT11 := Lib.hid (HT11.out.far hgr (by have := HG1.out; have := HS11.out; omega))
            have HO6 := Lib.hid (HO6.out.far hgr (by have := HG1.out; have := HS5.out; (try simp); omega))
            have HO7 := Lib.hid (HO7.out.far hgr (by have := HG1.out; have := HS6.out; (try simp); omega))
            have HO8 := Lib.hid (HO8.out.far hgr (by have := HG1.out; have := HS7.out; (try simp); omega))
            have HP8 := Lib.hid (HP8.out.far hgr (by have := HG1.out; have := HS7.out; (try simp); omega))
            have HO9 := Lib.hid (HO9.out.far hgr (by have := HG1.out; have := HS8.out; (try simp); omega))
            have HP9 := Lib.hid (HP9.out.far hgr (by have := HG1.out; have := HS8.out; (try simp); omega))
            have HO10 := Lib.hid (HO10.out.far hgr (by have := HG1.out; have := HS9.out; (try simp); omega))
            have HP10 := Lib.hid (HP10.out.far hgr (by have := HG1.out; have := HS9.out; (try simp); omega))
            have HO11 := Lib.hid (HO11.out.far hgr (by have := HG1.out; have := HS10.out; (try simp); omega))
            have HP11 := Lib.hid (HP11.out.far hgr (by have := HG1.out; have := HS10.out; (try simp); omega))
            have HACC := Lib.hid (Below.far HACC.out hgr HG1.out.1)
            clear ho hgr hlt hk hz kk
            have e1 : (leftV c == leftV c) = true := by simp
            have e2 : (rdN c l m == rdN c l m) = true := by simp
            have e3 : (rdE c l m == rdE c l m) = true := by simp
            have e4 : (tkE c q == tkE c q) = true := by simp
            have e5 : (rsE c l q == rsE c l q) = true := by simp
            have e6 : (cuE c == cuE c) = true := by simp
            obtain ⟨a0, a1, -, -⟩ := HT6.out.two
            obtain ⟨a2, a3, -, -⟩ := HT7.out.two
            have lta := HT6.out.lt
            have ltb := HT7.out.lt
            go_wp2_with fail
            refine (rSame_any (rdC c l m).a (rdC c l m).a (rdC c l m).b (rdC c l m).b A6 A7 n6 n7 c6 c7 _ HO6.out.has HN6.out.symm HO7.out.has HN7.out.symm (by have := HO6.out.bounds; omega) (by have := HO7.out.bounds; omega)).mono ?_
            rintro e y1 ⟨rfl, hy1⟩
            rw [cu_same]
            have HT8 := Lib.hid (HT8.out.past hy1)
            have HT9 := Lib.hid (HT9.out.past hy1)
            have HT10 := Lib.hid (HT10.out.past hy1)
            have HT11 := Lib.hid (HT11.out.past hy1)
            have HO8 := Lib.hid (HO8.out.past hy1)
            have HO9 := Lib.hid (HO9.out.past hy1)
            have HO10 := Lib.hid (HO10.out.past hy1)
            have HO11 := Lib.hid (HO11.out.past hy1)
            have HP8 := Lib.hid (HP8.out.past hy1)
            have HP9 := Lib.hid (HP9.out.past hy1)
            have HP10 := Lib.hid (HP10.out.past hy1)
            have HP11 := Lib.hid (HP11.out.past hy1)
            have HACC := Lib.hid (HACC.out.trans (hy1.mono HACC.out.size))
            clear hy1 a0 a1 a2 a3 lta ltb
            obtain ⟨a0, a1, -, -⟩ := HT8.out.two
            obtain ⟨a2, a3, -, -⟩ := HT9.out.two
            have lta := HT8.out.lt
            have ltb := HT9.out.lt
            go_wp2_with fail
            refine (rSame_any (tkC c q).a (tkC c q).a (tkC c q).b (tkC c q).b A8 A9 n8 n9 c8 c9 _ HO8.out.has HN8.out.symm HO9.out.has HN9.out.symm (by have := HO8.out.bounds; omega) (by have := HO9.out.bounds; omega)).mono ?_
            rintro e y2 ⟨rfl, hy2⟩
            rw [cu_same]
            have HT10 := Lib.hid (HT10.out.past hy2)
            have HT11 := Lib.hid (HT11.out.past hy2)
            have HO10 := Lib.hid (HO10.out.past hy2)
            have HO11 := Lib.hid (HO11.out.past hy2)
            have HP8 := Lib.hid (HP8.out.past hy2)
            have HP9 := Lib.hid (HP9.out.past hy2)
            have HP10 := Lib.hid (HP10.out.past hy2)
            have HP11 := Lib.hid (HP11.out.past hy2)
            have HACC := Lib.hid (HACC.out.trans (hy2.mono HACC.out.size))
            clear hy2 a0 a1 a2 a3 lta ltb
            go_wp2_with fail
            refine (same8_any B8 B9 m8 m9 d8 d9 (tkV c q) (tkV c q) _ HP8.out.has HM8.out.symm HP9.out.has HM9.out.symm (by have := HP8.out.bounds; omega) (by have := HP9.out.bounds; omega)).mono ?_
            rintro e y3 ⟨rfl, hy3⟩
            rw [z_same]
            have HT10 := Lib.hid (HT10.out.past hy3)
            have HT11 := Lib.hid (HT11.out.past hy3)
            have HO10 := Lib.hid (HO10.out.past hy3)
            have HO11 := Lib.hid (HO11.out.past hy3)
            have HP10 := Lib.hid (HP10.out.past hy3)
            have HP11 := Lib.hid (HP11.out.past hy3)
            have HACC := Lib.hid (HACC.out.trans (hy3.mono HACC.out.size))
            clear hy3
            obtain ⟨a0, a1, -, -⟩ := HT10.out.two
            obtain ⟨a2, a3, -, -⟩ := HT11.out.two
            have lta := HT10.out.lt
            have ltb := HT11.out.lt
            go_wp2_with fail
            refine (rSame_any (rsC c l q).a (rsC c l q).a (rsC c l q).b (rsC c l q).b A10 A11 n10 n11 c10 c11 _ HO10.out.has HN10.out.symm HO11.out.has HN11.out.symm (by have := HO10.out.bounds; omega) (by have := HO11.out.bounds; omega)).mono ?_
            rintro e y4 ⟨rfl, hy4⟩
            rw [cu_same]
            have HP10 := Lib.hid (HP10.out.past hy4)
            have HP11 := Lib.hid (HP11.out.past hy4)
            have HACC := Lib.hid (HACC.out.trans (hy4.mono HACC.out.size))
            clear hy4 a0 a1 a2 a3 lta ltb
            go_wp2_with fail
            refine (same8_any B10 B11 m10 m11 d10 d11 (rsV c l q) (rsV c l q) _ HP10.out.has HM10.out.symm HP11.out.has HM11.out.symm (by have := HP10.out.bounds; omega) (by have := HP11.out.bounds; omega)).mono ?_
            rintro e y5 ⟨rfl, hy5⟩
            rw [z_same]
            have HACC := Lib.hid (HACC.out.trans (hy5.mono HACC.out.size))
            clear hy5
            go_wp2_with fail
            go_ret
            exact ⟨rfl, HACC.out⟩
  · have HG := Lib.hid hg
    clear hg
    go_enter Try.func5, Try.ntmps5
    go_wp2_with (first | (go_at_call 19; refine (rGreat_any A n d _ HNQ.out).mono ?_; rintro e w' ⟨rfl, rfl⟩; rw [HG.out]))
    go_ret
    exact ⟨rfl, by (repeat' (first | (with_reducible exact Below.refl _ _) | (with_reducible assumption) | (with_reducible refine below_drewN ?_ _) | (with_reducible refine below_new ?_ _) | (with_reducible refine Below.alloc ?_ ?_ _) | (with_reducible refine Below.drew ?_) | (with_reducible refine Below.setCell ?_ ?_ _) | (with_reducible apply below_at; (case k => (with_reducible assumption)); (case hB => omega)) | (with_reducible apply below_on; (with_reducible assumption)) | (go_size; done) | (with_reducible apply size_of)))⟩
end Go.Proofs.Ytlbokbbgpalkaaa.ocL
