/- MixerLearns, by a walk. -/
import Derived.Test.YtjikddndlnimoaaMxT2
namespace Go.Proofs.Ytjikddndlnimoaa.mxN
set_option maxRecDepth 100000
open Go.RowKit Go.Proofs.Ytjikddndlnimoaa.base Go.Proofs.Ytjikddndlnimoaa.rfP Go.Proofs.Ytjikddndlnimoaa.mxP Go.Proofs.Ytjikddndlnimoaa.mxW Go.Proofs.Ytjikddndlnimoaa.fixP
set_option linter.unusedVariables false
set_option linter.unusedSimpArgs false
theorem clone_in8 {v w2 : World} {A D : Option Addr} {n c : Nat} {ys : List Int} (h : Has .i32 w2 A ys) (e : ys.length = n) (hor : ys = [] ∧ A = D ∧ c = 0 ∧ w2 = v ∨ OwnI w2 v.heap.size 21 .i32 (.slice A n c) ys) (b : ∀ z ∈ ys, -2147483648 ≤ z ∧ z ≤ 2147483647) : In8 w2 A n c ys := by
  rcases hor with ⟨e1, e2, e3, e4⟩ | ho
  · subst e1
    have : n = 0 := by simpa using e.symm
    exact ⟨h, e, by omega, by omega, b⟩
  · have := ownY_cap ho
    exact ⟨h, e, this.2.1, this.2.2, b⟩
set_option maxHeartbeats 1500000 in
theorem learns (P : Option Addr) (m c : Nat) (rs : List RY) (set : Int) (B : Option Addr) (n d : Nat) (ys : List Int) (p : Int) (bit : Bool) (w : World) (h : RowsY w P m c rs) (hi : In8 w B n d ys) :
    Calls Try.prog 3 #[.agg #[.slice P m c], .int .i64 set, .slice B n d, .int .i32 p, .bool bit] w fun e w' => e = .returned (.bool true) ∧ Below w.heap.size w w' := by
  have H := Lib.hid (And.intro h hi)
  have S0 : Hid (MxAt (w.alloc (.cells #[.slice P m c] 24)) w.heap.size P m c rs ∧ Below w.heap.size w (w.alloc (.cells #[.slice P m c] 24))) := Lib.hid ⟨mxAt_new h, by (repeat' (first | (with_reducible exact Below.refl _ _) | (with_reducible assumption) | (with_reducible refine below_drewN ?_ _) | (with_reducible refine below_new ?_ _) | (with_reducible refine Below.alloc ?_ ?_ _) | (with_reducible refine Below.drew ?_) | (with_reducible refine Below.setCell ?_ ?_ _) | (with_reducible apply below_at; (case k => (with_reducible assumption)); (case hB => omega)) | (with_reducible apply below_on; (with_reducible assumption)) | (go_size; done) | (with_reducible apply size_of)))⟩
  have n9 : (n : Int) ≤ 9223372036854775807 := by have := hi.c1; have := hi.c2; omega
  clear h hi
  go_enter Try.func3, Try.ntmps3
  go_wp2_with fail
  generalize hw0 : (w.alloc (.cells #[.slice P m c] 24)) = w0 at *
  clear hw0
  refine (rfW.Great_any P m c rs w0 S0.out.1.rows).mono ?_
  rintro e wx ⟨rfl, rfl⟩
  cases hg : greatB (numsY rs)
  case true =>
    go_wp2_with fail
    go_ret
    exact ⟨rfl, S0.out.2⟩
  have HG := Lib.hid hg
  clear hg
  by_cases hn : 100 < n
  · have n1 : 100 < (n : Int) := by omega
    clear hn
    go_wp2_with fail
    go_ret
    exact ⟨rfl, S0.out.2⟩
  have HN1 := Lib.hid hn
  have n1 : ¬ 100 < (n : Int) := by omega
  clear hn
  have x1 := S0.out.1.cell
  go_wp2_with fail
  clear x1
  refine (rfW.twin16_any P m c rs wx S0.out.1.rows HG.out).mono ?_
  rintro e v1 ⟨A1, d1, rs1, rfl, o1, e1, b1⟩
  have E1 := Lib.hid e1
  have S1 : Hid (MxAt v1 w.heap.size P m c rs ∧ OwnR v1 w.heap.size (.slice A1 m d1) rs1 ∧ Below w.heap.size w v1) := Lib.hid ⟨S0.out.1.past b1, o1.mono S0.out.2.size, below_bs S0.out.2 b1⟩
  clear o1 e1 b1 S0
  have HI : Hid (Has .i32 (v1.alloc (.cells #[] 21)) B ys ∧ ys.length = n ∧ n ≤ 1073741824 ∧ (∀ z ∈ ys, -2147483648 ≤ z ∧ z ≤ 2147483647)) := Lib.hid ⟨(H.out.2.past (below_al S1.out.2.2 _)).h, H.out.2.e, by have := HN1.out; omega, H.out.2.b⟩
  go_wp2_with (at_builtin; refine clone32 rfl _ _ rfl (some ⟨v1.heap.size, 0, none⟩) rfl B n d ys rfl HI.out.2.1 HI.out.1 HI.out.2.2.1 ?_; intro A2 c2 w2 hh2 hb2 hor2; have H2 : Hid (In8 w2 A2 n c2 ys ∧ MxAt w2 w.heap.size P m c rs ∧ OwnR w2 w.heap.size (.slice A1 m d1) rs1 ∧ Below w.heap.size w w2) := Lib.hid ⟨clone_in8 hh2 HI.out.2.1 hor2 HI.out.2.2.2, (S1.out.1.alloc _).past hb2, (S1.out.2.1.alloc _).past hb2, below_bs (below_al S1.out.2.2 _) hb2⟩; clear hh2 hb2 hor2)
  have S2 : Hid (MxAt (w2.alloc (.cells #[.slice A1 m d1] 24)) w.heap.size P m c rs ∧ MxAt (w2.alloc (.cells #[.slice A1 m d1] 24)) w2.heap.size A1 m d1 rs1 ∧ In8 (w2.alloc (.cells #[.slice A1 m d1] 24)) A2 n c2 ys ∧ Below w.heap.size w (w2.alloc (.cells #[.slice A1 m d1] 24))) := Lib.hid ⟨H2.out.2.1.alloc _, mxAt_new H2.out.2.2.1.rows, H2.out.1.past (Below.alloc (Below.refl _ _) (Nat.le_refl _) _), below_al H2.out.2.2.2 _⟩
  generalize hw2 : (w2.alloc (.cells #[.slice A1 m d1] 24)) = W2 at *
  generalize w2.heap.size = g2 at *
  clear hw2 H2 HI S1
  refine (Learn_any A1 m d1 rs1 set B n d ys p bit W2 S2.out.2.1.rows (H.out.2.past S2.out.2.2.2)).mono ?_
  rintro e v3 ⟨A3, n3, d3, q3, rfl, o3, e3, b3⟩
  rw [E1.out] at e3 ⊢
  have E3 := Lib.hid e3
  have S3 : Hid (MxAt (v3.alloc (.cells #[.slice A3 n3 d3] 24)) w.heap.size P m c rs ∧ MxAt (v3.alloc (.cells #[.slice A3 n3 d3] 24)) g2 A1 m d1 rs1 ∧ In8 (v3.alloc (.cells #[.slice A3 n3 d3] 24)) A2 n c2 ys ∧ MxAt (v3.alloc (.cells #[.slice A3 n3 d3] 24)) v3.heap.size A3 n3 d3 q3 ∧ Below w.heap.size w (v3.alloc (.cells #[.slice A3 n3 d3] 24))) := Lib.hid ⟨(S2.out.1.past b3).alloc _, (S2.out.2.1.past b3).alloc _, (S2.out.2.2.1.past b3).past (Below.alloc (Below.refl _ _) (Nat.le_refl _) _), mxAt_new o3.rows, below_al (below_bs S2.out.2.2.2 b3) _⟩
  clear o3 e3 b3 S2
  have x1 := S3.out.1.cell
  go_wp2_with fail
  clear x1
  generalize hw3 : (v3.alloc (.cells #[.slice A3 n3 d3] 24)) = w3 at *
  generalize v3.heap.size = g3 at *
  clear hw3
  refine (rLearn_any P m c rs set A2 n c2 ys p bit w3 S3.out.1.rows S3.out.2.2.1).mono ?_
  rintro e v4 ⟨A4, n4, d4, q4, rfl, o4, e4, b4⟩
  have E4 := Lib.hid e4
  generalize learnME (numsY rs) set ys p = le at *
  have S4 : Hid (MxAt (v4.alloc (.cells #[.slice A4 n4 d4] 24)) w.heap.size P m c rs ∧ MxAt (v4.alloc (.cells #[.slice A4 n4 d4] 24)) g2 A1 m d1 rs1 ∧ In8 (v4.alloc (.cells #[.slice A4 n4 d4] 24)) A2 n c2 ys ∧ MxAt (v4.alloc (.cells #[.slice A4 n4 d4] 24)) g3 A3 n3 d3 q3 ∧ MxAt (v4.alloc (.cells #[.slice A4 n4 d4] 24)) v4.heap.size A4 n4 d4 q4 ∧ Below w.heap.size w (v4.alloc (.cells #[.slice A4 n4 d4] 24))) := Lib.hid ⟨(S3.out.1.past b4).alloc _, (S3.out.2.1.past b4).alloc _, (S3.out.2.2.1.past b4).past (Below.alloc (Below.refl _ _) (Nat.le_refl _) _), (S3.out.2.2.2.1.past b4).alloc _, mxAt_new o4.rows, below_al (below_bs S3.out.2.2.2.2 b4) _⟩
  clear o4 e4 b4 S3
  have x1 := S4.out.2.2.2.1.cell
  have x2 := S4.out.2.2.2.2.1.cell
  go_wp2_with fail
  clear x1 x2
  generalize hw4 : (v4.alloc (.cells #[.slice A4 n4 d4] 24)) = w4 at *
  generalize v4.heap.size = g4 at *
  clear hw4
  refine (rfW.same16_any A3 A4 n3 d3 n4 d4 q3 q4 w4 S4.out.2.2.2.1.rows S4.out.2.2.2.2.1.rows).mono ?_
  rintro e w5 ⟨rfl, b5⟩
  rw [show decide (numsY q3 = numsY q4) = true from decide_eq_true (by rw [E3.out, E4.out])]
  have S5 : Hid (MxAt w5 w.heap.size P m c rs ∧ MxAt w5 g2 A1 m d1 rs1 ∧ In8 w5 A2 n c2 ys ∧ Below w.heap.size w w5) := Lib.hid ⟨S4.out.1.past b5, S4.out.2.1.past b5, S4.out.2.2.1.past b5, below_bs S4.out.2.2.2.2.2 b5⟩
  clear b5 S4
  have x1 := S5.out.1.cell
  have x2 := S5.out.2.1.cell
  go_wp2_with fail
  clear x1 x2
  refine (rfW.same16_any A1 P m d1 m c rs1 rs w5 S5.out.2.1.rows S5.out.1.rows).mono ?_
  rintro e w6 ⟨rfl, b6⟩
  rw [show decide (numsY rs1 = numsY rs) = true from decide_eq_true E1.out]
  have S6 : Hid (In8 w6 A2 n c2 ys ∧ Below w.heap.size w w6) := Lib.hid ⟨S5.out.2.2.1.past b6, below_bs S5.out.2.2.2 b6⟩
  clear b6 S5
  go_wp2_with fail
  refine (same32_any B A2 n n d c2 ys ys w6 (H.out.2.past S6.out.2).h H.out.2.e S6.out.1.h H.out.2.e (by omega) (by omega)).mono ?_
  rintro e w7 ⟨rfl, b7⟩
  rw [show decide (ys = ys) = true from decide_eq_true rfl]
  have S7 := Lib.hid (below_bs S6.out.2 b7)
  clear b7 S6
  go_wp2_with fail
  go_ret
  exact ⟨rfl, S7.out⟩
theorem learns_law (P : Option Addr) (m c : Nat) (rs : List RY) (set : Int) (B : Option Addr) (bn bc : Nat) (zs : List Int) (p : Int) (bit : Bool) (w : World) (h : RowsY w P m c rs) (_ : -9223372036854775808 ≤ set) (_ : set ≤ 9223372036854775807) (hb : IsRow .i32 w B bn bc zs) (_ : -2147483648 ≤ p) (_ : p ≤ 2147483647) :
    Calls Try.prog 3 #[.agg #[.slice P m c], .int .i64 set, .slice B bn bc, .int .i32 p, .bool bit] w fun e w' => e = .returned (.bool true) ∧ Below w.heap.size w w' :=
  learns P m c rs set B bn bc _ p bit w h (in8_of hb)
end Go.Proofs.Ytjikddndlnimoaa.mxN
