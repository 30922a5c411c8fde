/- NibbleWalks, by a walk. -/
import Derived.Test.YtjhfamoldppclaaNibL
import Derived.DeepKeys
namespace Go.Proofs.Ytjhfamoldppclaa.nibL
open Go.RowKit Go.Proofs.Ytjhfamoldppclaa.base Go.Proofs.Ytjhfamoldppclaa.nibP Go.Proofs.Ytjhfamoldppclaa.nibW
set_option linter.unusedVariables false
set_option linter.unusedSimpArgs false

set_option maxRecDepth 100000 in
set_option maxHeartbeats 1000000 in
theorem walks_out (p : Int) (b : Bool) (c : Int) (A : Option Addr) (len cap : Nat) (w : World) (h : 100 < len) (hm : len ≤ 9223372036854775807) : Calls Try.prog 3 #[.agg #[.int .i64 (p)], .bool b, .int .u8 c, .slice A len cap] w fun e w' => e = .returned (.bool true) ∧ Below w.heap.size w w' := by
  have g : (100 : Int) < len := by omega
  go_enter Try.func3, Try.ntmps3
  go_wp2
  go_ret
  exact ⟨rfl, by (repeat' (first | (with_reducible exact Below.refl _ _) | (with_reducible assumption) | (with_reducible refine below_drewN ?_ _) | (with_reducible refine below_new ?_ _) | (with_reducible refine Below.alloc ?_ ?_ _) | (with_reducible refine Below.drew ?_) | (with_reducible refine Below.setCell ?_ ?_ _) | (with_reducible apply below_on; (with_reducible assumption)) | (go_size; done) | (with_reducible apply size_of)))⟩
theorem _root_.Go.Proofs.Ytjhfamoldppclaa.base.HasB.drew {w : World} {A : Option Addr} {zs : List Bool} (h : HasB w A zs) : HasB w.drew A zs := h
theorem _root_.Go.Proofs.Ytjhfamoldppclaa.base.HasB.drewN {w : World} {A : Option Addr} {zs : List Bool} (h : HasB w A zs) (n : Nat) : HasB (w.drewN n) A zs := h
theorem _root_.Go.Proofs.Ytjhfamoldppclaa.base.HasB.alloc {w : World} {A : Option Addr} {zs : List Bool} (h : HasB w A zs) (o : Obj) : HasB (w.alloc o) A zs := h.below ((Below.refl _ _).alloc (Nat.le_refl _) _) (Nat.le_refl _)
theorem _root_.Go.Proofs.Ytjhfamoldppclaa.base.HasB.past {w w' : World} {A : Option Addr} {zs : List Bool} (h : HasB w A zs) (hb : Below w.heap.size w w') : HasB w' A zs := h.below hb (Nat.le_refl _)
theorem pagg_lits : ∀ c, c < 256 → (Try.prog.keyLits 5 50 (pagg c).cells.toList).isSome = true := by decide +kernel
theorem pagg_same (c : Nat) (hc : c < 256) : ∀ w, (Op.equalIn 10000 50 (pagg c) (pagg c)).run Try.prog w = .ok true w := by
  intro w
  obtain ⟨la, hla⟩ := Option.isSome_iff_exists.1 (pagg_lits c hc)
  obtain ⟨r, h1, h2⟩ := run_equalIn_deep (P := Try.prog) 9998 2 50 (by kernel_rfl) w 5 5 (pagg c) (pagg c) la la (by kernel_rfl) (by kernel_rfl) hla hla
  rw [h2.2 rfl] at h1
  exact h1
set_option maxRecDepth 100000 in
set_option maxHeartbeats 8000000 in
theorem walks_in (p : Int) (b : Bool) (c : Nat) (A : Option Addr) (len cap : Nat) (l : List Bool) (w : World) (hc : c < 256) (hA : HasB w A l) (hl : l.length = len) (h : len ≤ 100) : Calls Try.prog 3 #[.agg #[.int .i64 (p)], .bool b, .int .u8 c, .slice A len cap] w fun e w' => e = .returned (.bool true) ∧ Below w.heap.size w w' := by
  have g : (len : Int) ≤ 100 := by omega
  have HA := Lib.hid hA
  have HL := Lib.hid hl
  have hbl : (bsV p).length ≤ 8 := by
    unfold bsV
    split
    · rename_i hk
      have := (wOk_iff p).1 hk
      exact (rd_len p.toNat (by omega)).1
    · simp
  have HEQ := Lib.hid (pagg_same c hc)
  clear hA hl
  go_enter Try.func3, Try.ntmps3
  have N0 : Hid (Lies (w.alloc (.cells [Value.int .i64 p].toArray 23)) w.heap.size 23 [.int .i64 p]) := Lib.hid (Lies.fresh _ _ _)
  have W0 : Hid (Below w.heap.size w (w.alloc (.cells [Value.int .i64 p].toArray 23))) := Lib.hid (by (repeat' (first | (with_reducible exact Below.refl _ _) | (with_reducible assumption) | (with_reducible refine below_drewN ?_ _) | (with_reducible refine below_new ?_ _) | (with_reducible refine Below.alloc ?_ ?_ _) | (with_reducible refine Below.drew ?_) | (with_reducible refine Below.setCell ?_ ?_ _) | (with_reducible apply below_on; (with_reducible assumption)) | (go_size; done) | (with_reducible apply size_of))))
  obtain ⟨p0, f0⟩ := N0.out.one
  have zN0 := N0.out.lt
  go_wp2_with fail
  refine (Step_any p b _).mono ?_
  rintro e w1 ⟨rfl, hb1⟩
  have N1 := Lib.hid (N0.out.past hb1)
  have W1 : Hid (Below w.heap.size w w1) := Lib.hid (by have := W0.out; (repeat' (first | (with_reducible exact Below.refl _ _) | (with_reducible assumption) | (with_reducible refine below_drewN ?_ _) | (with_reducible refine below_new ?_ _) | (with_reducible refine Below.alloc ?_ ?_ _) | (with_reducible refine Below.drew ?_) | (with_reducible refine Below.setCell ?_ ?_ _) | (with_reducible apply below_on; (with_reducible assumption)) | (go_size; done) | (with_reducible apply size_of))))
  clear p0 f0 hb1 N0 W0
  obtain ⟨p0, f0⟩ := N1.out.one
  have zN1 := N1.out.lt
  go_wp2_with fail
  refine (rStep_any p b _).mono ?_
  rintro e w2 ⟨rfl, hb2⟩
  have N2 := Lib.hid ((N1.out.alloc _).past hb2)
  have W2 : Hid (Below w.heap.size w w2) := Lib.hid (by have := W1.out; (repeat' (first | (with_reducible exact Below.refl _ _) | (with_reducible assumption) | (with_reducible refine below_drewN ?_ _) | (with_reducible refine below_new ?_ _) | (with_reducible refine Below.alloc ?_ ?_ _) | (with_reducible refine Below.drew ?_) | (with_reducible refine Below.setCell ?_ ?_ _) | (with_reducible apply below_on; (with_reducible assumption)) | (go_size; done) | (with_reducible apply size_of))))
  have D2 : Hid (Lies w2 w1.heap.size 23 [.int .i64 (stP p b)]) := Lib.hid ((Lies.fresh _ _ _).past hb2)
  clear p0 f0 hb2 N1 W1
  obtain ⟨p0, f0⟩ := N2.out.one
  have zN2 := N2.out.lt
  go_wp2_with fail
  refine (Node_any p _).mono ?_
  rintro e w3 ⟨rfl, hb3⟩
  have N3 := Lib.hid ((N2.out.alloc _).past hb3)
  have W3 : Hid (Below w.heap.size w w3) := Lib.hid (by have := W2.out; (repeat' (first | (with_reducible exact Below.refl _ _) | (with_reducible assumption) | (with_reducible refine below_drewN ?_ _) | (with_reducible refine below_new ?_ _) | (with_reducible refine Below.alloc ?_ ?_ _) | (with_reducible refine Below.drew ?_) | (with_reducible refine Below.setCell ?_ ?_ _) | (with_reducible apply below_on; (with_reducible assumption)) | (go_size; done) | (with_reducible apply size_of))))
  have D3 := Lib.hid ((D2.out.alloc _).past hb3)
  have E3 : Hid (Lies w3 w2.heap.size 23 [.int .i64 (stP p b)]) := Lib.hid ((Lies.fresh _ _ _).past hb3)
  clear p0 f0 hb3 N2 W2
  obtain ⟨p0, f0⟩ := N3.out.one
  have zN3 := N3.out.lt
  go_wp2_with fail
  refine (rNode_any p _).mono ?_
  rintro e w4 ⟨rfl, hb4⟩
  have N4 := Lib.hid (N3.out.past hb4)
  have W4 : Hid (Below w.heap.size w w4) := Lib.hid (by have := W3.out; (repeat' (first | (with_reducible exact Below.refl _ _) | (with_reducible assumption) | (with_reducible refine below_drewN ?_ _) | (with_reducible refine below_new ?_ _) | (with_reducible refine Below.alloc ?_ ?_ _) | (with_reducible refine Below.drew ?_) | (with_reducible refine Below.setCell ?_ ?_ _) | (with_reducible apply below_on; (with_reducible assumption)) | (go_size; done) | (with_reducible apply size_of))))
  have D4 := Lib.hid (D3.out.past hb4)
  have E4 := Lib.hid (E3.out.past hb4)
  obtain ⟨d0, d1⟩ := D4.out.one
  obtain ⟨e0, e1⟩ := E4.out.one
  clear p0 f0 hb4 N3 W3
  obtain ⟨p0, f0⟩ := N4.out.one
  have zN4 := N4.out.lt
  go_wp2_with fail
  refine (Second_any p _).mono ?_
  rintro e w5 ⟨rfl, hb5⟩
  have N5 := Lib.hid (N4.out.past hb5)
  have W5 : Hid (Below w.heap.size w w5) := Lib.hid (by have := W4.out; (repeat' (first | (with_reducible exact Below.refl _ _) | (with_reducible assumption) | (with_reducible refine below_drewN ?_ _) | (with_reducible refine below_new ?_ _) | (with_reducible refine Below.alloc ?_ ?_ _) | (with_reducible refine Below.drew ?_) | (with_reducible refine Below.setCell ?_ ?_ _) | (with_reducible apply below_on; (with_reducible assumption)) | (go_size; done) | (with_reducible apply size_of))))
  clear p0 f0 hb5 N4 W4 d0 d1 e0 e1 D2 D3 D4 E3 E4
  obtain ⟨p0, f0⟩ := N5.out.one
  have zN5 := N5.out.lt
  go_wp2_with fail
  refine (rSecond_any p _).mono ?_
  rintro e w6 ⟨rfl, hb6⟩
  have N6 := Lib.hid (N5.out.past hb6)
  have W6 : Hid (Below w.heap.size w w6) := Lib.hid (by have := W5.out; (repeat' (first | (with_reducible exact Below.refl _ _) | (with_reducible assumption) | (with_reducible refine below_drewN ?_ _) | (with_reducible refine below_new ?_ _) | (with_reducible refine Below.alloc ?_ ?_ _) | (with_reducible refine Below.drew ?_) | (with_reducible refine Below.setCell ?_ ?_ _) | (with_reducible apply below_on; (with_reducible assumption)) | (go_size; done) | (with_reducible apply size_of))))
  clear p0 f0 hb6 N5 W5
  obtain ⟨p0, f0⟩ := N6.out.one
  have zN6 := N6.out.lt
  go_wp2_with fail
  refine (Bits_any p _).mono ?_
  rintro e w7 ⟨B, cb, rfl, hB, lB, hb7⟩
  have N7 := Lib.hid (N6.out.past hb7)
  have W7 : Hid (Below w.heap.size w w7) := Lib.hid (by have := W6.out; (repeat' (first | (with_reducible exact Below.refl _ _) | (with_reducible assumption) | (with_reducible refine below_drewN ?_ _) | (with_reducible refine below_new ?_ _) | (with_reducible refine Below.alloc ?_ ?_ _) | (with_reducible refine Below.drew ?_) | (with_reducible refine Below.setCell ?_ ?_ _) | (with_reducible apply below_on; (with_reducible assumption)) | (go_size; done) | (with_reducible apply size_of))))
  have H7 := Lib.hid hB
  clear p0 f0 hb7 N6 W6
  obtain ⟨p0, f0⟩ := N7.out.one
  have zN7 := N7.out.lt
  go_wp2_with fail
  refine (rBits_any p _).mono ?_
  rintro e w8 ⟨D, cd, rfl, hD, lD, hb8⟩
  have N8 := Lib.hid (N7.out.past hb8)
  have W8 : Hid (Below w.heap.size w w8) := Lib.hid (by have := W7.out; (repeat' (first | (with_reducible exact Below.refl _ _) | (with_reducible assumption) | (with_reducible refine below_drewN ?_ _) | (with_reducible refine below_new ?_ _) | (with_reducible refine Below.alloc ?_ ?_ _) | (with_reducible refine Below.drew ?_) | (with_reducible refine Below.setCell ?_ ?_ _) | (with_reducible apply below_on; (with_reducible assumption)) | (go_size; done) | (with_reducible apply size_of))))
  have H8 := Lib.hid (H7.out.below hb8 (Nat.le_refl _))
  have J8 := Lib.hid hD
  clear p0 f0 hb8 N7 W7
  clear hB hD H7
  obtain ⟨p0, f0⟩ := N8.out.one
  have zN8 := N8.out.lt
  go_wp2_with fail
  refine (Of_any A len cap l _ (HA.out.below W8.out (Nat.le_refl _)) HL.out (by omega)).mono ?_
  rintro e w9 ⟨rfl, hb9⟩
  have N9 := Lib.hid (N8.out.past hb9)
  have W9 : Hid (Below w.heap.size w w9) := Lib.hid (by have := W8.out; (repeat' (first | (with_reducible exact Below.refl _ _) | (with_reducible assumption) | (with_reducible refine below_drewN ?_ _) | (with_reducible refine below_new ?_ _) | (with_reducible refine Below.alloc ?_ ?_ _) | (with_reducible refine Below.drew ?_) | (with_reducible refine Below.setCell ?_ ?_ _) | (with_reducible apply below_on; (with_reducible assumption)) | (go_size; done) | (with_reducible apply size_of))))
  have H9 := Lib.hid (H8.out.below hb9 (Nat.le_refl _))
  have J9 := Lib.hid (J8.out.below hb9 (Nat.le_refl _))
  clear p0 f0 hb9 N8 W8
  obtain ⟨p0, f0⟩ := N9.out.one
  have zN9 := N9.out.lt
  go_wp2_with fail
  refine (rOf_any A len cap l _ ((HA.out.below W9.out (Nat.le_refl _)).below ((Below.refl _ _).alloc (Nat.le_refl _) _) (Nat.le_refl _)) HL.out (by omega)).mono ?_
  rintro e w10 ⟨rfl, hb10⟩
  have N10 := Lib.hid ((N9.out.alloc _).past hb10)
  have W10 : Hid (Below w.heap.size w w10) := Lib.hid (by have := W9.out; (repeat' (first | (with_reducible exact Below.refl _ _) | (with_reducible assumption) | (with_reducible refine below_drewN ?_ _) | (with_reducible refine below_new ?_ _) | (with_reducible refine Below.alloc ?_ ?_ _) | (with_reducible refine Below.drew ?_) | (with_reducible refine Below.setCell ?_ ?_ _) | (with_reducible apply below_on; (with_reducible assumption)) | (go_size; done) | (with_reducible apply size_of))))
  have HX := Lib.hid ((H9.out.below ((Below.refl _ _).alloc (Nat.le_refl _) _) (Nat.le_refl _)).below hb10 (Nat.le_refl _))
  have JX := Lib.hid ((J9.out.below ((Below.refl _ _).alloc (Nat.le_refl _) _) (Nat.le_refl _)).below hb10 (Nat.le_refl _))
  have UX : Hid (Lies w10 w9.heap.size 23 [.int .i64 (ofV l)]) := Lib.hid ((Lies.fresh _ _ _).past hb10)
  clear p0 f0 hb10 N9 W9
  have NX := N10.out
  have hB := HX.out
  have hD := JX.out
  have hU := UX.out
  clear zN0 zN1 zN2 zN3 zN4 zN5 zN6 zN7 zN8 zN9 HX JX UX H9 J9
  obtain ⟨p0, f0⟩ := NX.one
  obtain ⟨q0, f1⟩ := hU.one
  have zN := NX.lt
  have zU := hU.lt
  have HHN := Lib.hid NX
  have HHB := Lib.hid hB
  have HHD := Lib.hid hD
  have HHU := Lib.hid hU
  have hpg : ∀ w, (Op.equalIn 10000 50 (pagg c) (pagg c)).run Try.prog w = .ok true w := HEQ.out
  unfold pagg at hpg
  clear NX hB hD hU N10
  go_wp2_with fail
  go_region_held3 (fun x' => x'.cell? ⟨w.heap.size, 0, none⟩ = some (.int .i64 p) ∧ x'.cell? ⟨w9.heap.size, 0, none⟩ = some (.int .i64 (ofV l)) ∧ x'.cell? ⟨w10.heap.size, 0, none⟩ = some (.int .i64 (ofV l)))
    ((exact ⟨(show Lies _ w.heap.size 23 [.int .i64 p] from (by have := HHN.out; (repeat' (first | (with_reducible assumption) | (with_reducible exact Lies.fresh _ _ _) | (with_reducible apply Lies.fresh_at; (first | (with_reducible rfl) | (simp; done))) | (with_reducible refine Lies.drew ?_) | (with_reducible refine Lies.drewN ?_ _) | (with_reducible refine Lies.alloc ?_ _) | (with_reducible apply Lies.past; case hb => (with_reducible assumption)) | (with_reducible apply Lies.store3) | (with_reducible apply Lies.other; case hp => (first | omega | (simp; done) | (simp; omega))))))).cell 0, (show Lies _ w9.heap.size 23 [.int .i64 (ofV l)] from (by have := HHU.out; (repeat' (first | (with_reducible assumption) | (with_reducible exact Lies.fresh _ _ _) | (with_reducible apply Lies.fresh_at; (first | (with_reducible rfl) | (simp; done))) | (with_reducible refine Lies.drew ?_) | (with_reducible refine Lies.drewN ?_ _) | (with_reducible refine Lies.alloc ?_ _) | (with_reducible apply Lies.past; case hb => (with_reducible assumption)) | (with_reducible apply Lies.store3) | (with_reducible apply Lies.other; case hp => (first | omega | (simp; done) | (simp; omega))))))).cell 0, (show Lies _ w10.heap.size 23 [.int .i64 (ofV l)] from (by (repeat' (first | (with_reducible assumption) | (with_reducible exact Lies.fresh _ _ _) | (with_reducible apply Lies.fresh_at; (first | (with_reducible rfl) | (simp; done))) | (with_reducible refine Lies.drew ?_) | (with_reducible refine Lies.drewN ?_ _) | (with_reducible refine Lies.alloc ?_ _) | (with_reducible apply Lies.past; case hb => (with_reducible assumption)) | (with_reducible apply Lies.store3) | (with_reducible apply Lies.other; case hp => (first | omega | (simp; done) | (simp; omega))))))).cell 0⟩))
    (first
      | (go_at_call 18; refine (New_any _).mono ?_; rintro e x1 ⟨rfl, hx1⟩)
      | (go_at_call 19; refine (Check_any p _).mono ?_; rintro e x2 ⟨rfl, hx2⟩)
      | (go_at_call 20; refine (rCheck_any p _).mono ?_; rintro e x3 ⟨rfl, hx3⟩)
      | (go_at_call 21; refine (rSame_any B D (bsV p).length (bsV p).length cb cd (bsV p) (bsV p) _ (by have := HHB.out; (repeat' (first | (with_reducible assumption) | (with_reducible refine HasB.drew ?_) | (with_reducible refine HasB.drewN ?_ _) | (with_reducible refine HasB.alloc ?_ _) | (with_reducible apply HasB.past; case hb => (with_reducible assumption))))) rfl (by have := HHD.out; (repeat' (first | (with_reducible assumption) | (with_reducible refine HasB.drew ?_) | (with_reducible refine HasB.drewN ?_ _) | (with_reducible refine HasB.alloc ?_ _) | (with_reducible apply HasB.past; case hb => (with_reducible assumption))))) rfl (by omega) (by omega)).mono ?_; rintro e x4 ⟨rfl, hx4⟩; rw [decide_eq_true rfl])
      | (go_at_call 22; refine (Path_any c _ hc).mono ?_; rintro e x5 ⟨rfl, hx5⟩; unfold pagg)
      | (go_at_call 23; refine (rPath_any c _ hc).mono ?_; rintro e x6 ⟨rfl, hx6⟩; unfold pagg))
  all_goals
    go_wp2
    go_ret
    exact ⟨rfl, by have := W10.out; (repeat' (first | (with_reducible exact Below.refl _ _) | (with_reducible assumption) | (with_reducible refine below_drewN ?_ _) | (with_reducible refine below_new ?_ _) | (with_reducible refine Below.alloc ?_ ?_ _) | (with_reducible refine Below.drew ?_) | (with_reducible refine Below.setCell ?_ ?_ _) | (with_reducible apply below_on; (with_reducible assumption)) | (go_size; done) | (with_reducible apply size_of)))⟩
theorem walks (p : Int) (b : Bool) (c : Int) (A : Option Addr) (len cap : Nat) (l : List Bool) (w : World) (_ : WalkIn p) (c1 : 0 ≤ c) (c2 : c ≤ 255) (hr : IsRowB w A len cap l) :
    Calls Try.prog 3 #[.agg #[.int .i64 (p)], .bool b, .int .u8 c, .slice A len cap] w fun e w' => e = .returned (.bool true) ∧ Below w.heap.size w w' := by
  obtain ⟨hA, hl, -, hm, -⟩ := hr
  obtain ⟨n, rfl⟩ : ∃ n : Nat, c = n := ⟨c.toNat, by omega⟩
  by_cases h : 100 < len
  · exact walks_out p b n A len cap w h hm
  · exact walks_in p b n A len cap l w (by omega) hA hl (by omega)
end Go.Proofs.Ytjhfamoldppclaa.nibL
