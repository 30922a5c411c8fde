/- Maps that came in; whether they are valid, by walks. -/
import Derived.Test.YtdmnaipngcldbaaDoorFnW
import Derived.Test.YtdmnaipngcldbaaDoorRfA1
import Derived.Lib.SmallJoins
namespace Go.Proofs.YtdmnaipngcldbaaDoor.base
set_option maxRecDepth 100000
open Go.ChangeShapes Go.WideShapes Go.ChangeAt Go.RowKit Go.Joins Go.Deep
set_option linter.unusedVariables false
theorem open_in1 {H : Type} {enc : TypeId × Value → H} {P : Program} {w : World} {base : Nat} {spare : Nat → Bool} {held : Bool} {t : TypeId} {f0 : Field} {fuel : Nat} {v : Value} {y : DataW H × List MemPlace} (hs : P.underlying t = some (.struct #[f0])) (hone : oneCellFields P #[f0] = true)
    (hf : DataW.trod enc P w base spare held fuel t [v] = some y) :
    ∃ (y0 : DataW H × List MemPlace) (n : Nat), DataW.trod enc P w base spare held n f0.type [v] = some y0 := by
  obtain ⟨xs, n, _, hx, _, hlen, hg⟩ := DataW.trod_struct hs hf
  obtain ⟨o0, k0⟩ := hone_of hone 0 f0 rfl
  match xs, hlen with
  | [y0], _ => exact ⟨y0, n, by simpa [Value.cells, o0, k0] using hg 0 f0 rfl⟩
theorem read_final {H : Type} {enc : TypeId × Value → H} {W : World} {bs : Nat} {v : Value} {d : DataW H} {p : List MemPlace}
    (hv : Value.okWide Tryd.prog W .any bs 26 v) (h : DataW.Trod enc Tryd.prog W 0 (fun _ => true) true 26 v d p) :
    ∃ (P : Option Addr) (m c : Nat) (rs : List RY) (Q : Option Addr) (n e : Nat) (qs : List RY), v = .agg #[.slice P m c, .slice Q n e] ∧ RowsY W P m c rs ∧ RowsY W Q n e qs := by
  obtain ⟨v0, v1, y0, y1, k, rfl, rfl, rfl, t0, t1⟩ := open_agg2 Tryd.underlying26 (by kernel_rfl) (by kernel_rfl) hv h
  obtain ⟨z0, k0, t0⟩ := open_in1 Tryd.underlying24 (by kernel_rfl) t0
  obtain ⟨z1, k1, t1⟩ := open_in1 Tryd.underlying24 (by kernel_rfl) t1
  obtain ⟨P, m, c, rs, hcs, h1, h2, h3, h4⟩ := read_rows_y t0
  obtain ⟨Q, n, e, qs, hcq, h5, h6, h7, h8⟩ := read_rows_y t1
  simp at hcs hcq
  subst hcs hcq
  exact ⟨_, _, _, rs, _, _, _, qs, rfl, ⟨h1, h2, h3, h4⟩, ⟨h5, h6, h7, h8⟩⟩
structure FnAt (w : World) (g : Nat) (A : Option Addr) (n d : Nat) (qs : List RY) (B : Option Addr) (m e : Nat) (rs : List RY) : Prop where
  lies : Lies w g 26 [.slice A n d, .slice B m e]
  r1 : RowsY w A n d qs
  r2 : RowsY w B m e rs
section
variable {w w' : World} {g : Nat} {A : Option Addr} {n d : Nat} {qs : List RY} {B : Option Addr} {m e : Nat} {rs : List RY}
theorem FnAt.past (h : FnAt w g A n d qs B m e rs) (hb : Below w.heap.size w w') : FnAt w' g A n d qs B m e rs := ⟨h.lies.past hb, h.r1.past hb, h.r2.past hb⟩
theorem FnAt.alloc (h : FnAt w g A n d qs B m e rs) (o : Obj) : FnAt (w.alloc o) g A n d qs B m e rs := h.past ((Below.refl _ _).alloc (Nat.le_refl _) _)
theorem FnAt.c0 (h : FnAt w g A n d qs B m e rs) : w.cell? ⟨g, 0, none⟩ = some (.slice A n d) := h.lies.cell 0
theorem FnAt.c1 (h : FnAt w g A n d qs B m e rs) : w.cell? ⟨g, 1, none⟩ = some (.slice B m e) := h.lies.cell 1
theorem fnAt_new (h : RowsY w A n d qs) (h' : RowsY w B m e rs) : FnAt (w.alloc (.cells #[.slice A n d, .slice B m e] 26)) w.heap.size A n d qs B m e rs := ⟨Lies.fresh _ _ _, h.past ((Below.refl _ _).alloc (Nat.le_refl _) _), h'.past ((Below.refl _ _).alloc (Nat.le_refl _) _)⟩
end
end Go.Proofs.YtdmnaipngcldbaaDoor.base
namespace Go.Proofs.YtdmnaipngcldbaaDoor.fnP
set_option maxRecDepth 100000
open Go.Proofs.YtdmnaipngcldbaaDoor.base Go.Proofs.YtdmnaipngcldbaaDoor.rfP
def goodB (x : List (List Int)) : Bool := decide (x.length = 256) && rfB x
theorem fn_a {x y : List (List Int)} (h : goodB x = false) : fnB x y = false := by
  cases hx : fnB x y
  · rfl
  · obtain ⟨h1, h2, h3, h4⟩ := (fnB_iff x y).1 hx
    simp [goodB, h1, h3] at h
theorem fn_b {x y : List (List Int)} (h : goodB y = false) : fnB x y = false := by
  cases hx : fnB x y
  · rfl
  · obtain ⟨h1, h2, h3, h4⟩ := (fnB_iff x y).1 hx
    simp [goodB, h2, h4] at h
theorem fn_both {x y : List (List Int)} (h : goodB x = true) (h' : goodB y = true) : fnB x y = true := by
  simp [goodB] at h h'
  exact (fnB_iff x y).2 ⟨h.1, h'.1, h.2, h'.2⟩
theorem good_len {x : List (List Int)} (h : x.length ≠ 256) : goodB x = false := by simp [goodB, h]
theorem good_no {x : List (List Int)} (h : rfB x = false) : goodB x = false := by simp [goodB, h]
theorem good_yes {x : List (List Int)} (h : x.length = 256) (h' : rfB x = true) : goodB x = true := by simp [goodB, h, h']
end Go.Proofs.YtdmnaipngcldbaaDoor.fnP
namespace Go.Proofs.YtdmnaipngcldbaaDoor.fnW
set_option maxRecDepth 100000
open Go.RowKit Go.Proofs.YtdmnaipngcldbaaDoor.base Go.Proofs.YtdmnaipngcldbaaDoor.rfP Go.Proofs.YtdmnaipngcldbaaDoor.rfW Go.Proofs.YtdmnaipngcldbaaDoor.fnP
set_option linter.unusedVariables false
set_option linter.unusedSimpArgs false
set_option maxHeartbeats 800000 in
theorem Check_any (P : Option Addr) (m c : Nat) (rs : List RY) (Q : Option Addr) (n d : Nat) (qs : List RY) (w : World) (h : RowsY w P m c rs) (h' : RowsY w Q n d qs) :
    Calls Tryd.prog 19 #[.agg #[.slice P m c, .slice Q n d]] w fun e w' => e = .returned (.int .i64 (fnE (numsY rs) (numsY qs))) ∧ Below w.heap.size w w' := by
  have HL : Hid ((numsY rs).length = m ∧ (numsY qs).length = n) := Lib.hid ⟨by rw [nums_len]; exact h.l, by rw [nums_len]; exact h'.l⟩
  have i0 : ∀ w : World, (Instr.index 74 (.agg #[.slice P m c, .slice Q n d]) (.int .i64 0)).run Tryd.prog w = .ok (.agg #[.slice P m c]) w := fun _ => by kernel_rfl
  have i1 : ∀ w : World, (Instr.index 74 (.agg #[.slice P m c, .slice Q n d]) (.int .i64 1)).run Tryd.prog w = .ok (.agg #[.slice Q n d]) w := fun _ => by kernel_rfl
  have m9 : (m : Int) ≤ 9223372036854775807 := by have := h.c1; have := h.c2; omega
  have n9 : (n : Int) ≤ 9223372036854775807 := by have := h'.c1; have := h'.c2; omega
  have S0 : Hid (RowsY w P m c rs ∧ RowsY w Q n d qs ∧ Below w.heap.size w (w.alloc (.cells #[.slice P m c, .slice Q n d] 26))) := Lib.hid ⟨h, h', by (repeat' (first | (with_reducible exact Below.refl _ _) | (with_reducible assumption) | (with_reducible refine below_drewN ?_ _) | (with_reducible refine below_new ?_ _) | (with_reducible refine Below.alloc ?_ ?_ _) | (with_reducible refine Below.drew ?_) | (with_reducible refine Below.setCell ?_ ?_ _) | (with_reducible apply below_at; (case k => (with_reducible assumption)); (case hB => omega)) | (with_reducible apply below_on; (with_reducible assumption)) | (go_size; done) | (with_reducible apply size_of)))⟩
  clear h h'
  go_enter Tryd.func19, Tryd.ntmps19
  go_wp2_with fail
  generalize (w.alloc (.cells #[.slice P m c, .slice Q n d] 26)) = w0 at *
  go_loopw [10] (fun iv wr => (iv = .int .i64 0 ∨ (iv = .int .i64 1 ∧ goodB (numsY rs) = true) ∨ (iv = .int .i64 2 ∧ goodB (numsY rs) = true ∧ goodB (numsY qs) = true)) ∧ Below w.heap.size w wr) (fun iv _ => 2 - (intOf iv).toNat)
  case atStart => exact ⟨.inl rfl, S0.out.2.2⟩
  case round =>
    obtain ⟨hiv, hb⟩ := hrel
    have HB := Lib.hid hb
    clear hb
    rcases hiv with rfl | ⟨rfl, hp⟩ | ⟨rfl, hp, hq⟩
    · by_cases c1 : m = 256
      · subst c1
        have S1 : Hid (RowsY (wr.alloc (.cells #[.slice P 256 c] 24)) P 256 c rs ∧ Below w.heap.size w (wr.alloc (.cells #[.slice P 256 c] 24))) := Lib.hid ⟨(S0.out.1.past HB.out).past ((Below.refl _ _).alloc (Nat.le_refl _) _), below_al HB.out _⟩
        go_wp2_with fail
        generalize (wr.alloc (.cells #[.slice P 256 c] 24)) = w1 at *
        refine (rfW.Check_any P 256 c rs w1 S1.out.1).mono ?_
        rintro e w2 ⟨rfl, b2⟩
        have HB2 := Lib.hid (below_bs S1.out.2 b2)
        clear b2
        cases hr : rfB (numsY rs)
        · have HN := Lib.hid (fnE_no (fn_a (x := numsY rs) (y := numsY qs) (good_no hr)))
          rw [rfE_no hr]
          clear hr
          go_wp2_with fail
          go_ret
          exact ⟨by rw [HN.out]; rfl, HB2.out⟩
        · have HG := Lib.hid (good_yes (by have := HL.out; omega) hr)
          rw [rfE_yes hr]
          clear hr
          go_wp2_with fail
          exact ⟨⟨.inr (.inl ⟨rfl, HG.out⟩), HB2.out⟩, by simp [intOf]⟩
      · have HN := Lib.hid (fnE_no (fn_a (x := numsY rs) (y := numsY qs) (good_len (by have := HL.out; omega))))
        have c2 : ((m : Int) != 256) = true := by simp; omega
        have c3 : ¬ (m : Int) = 256 := by omega
        have HB2 := Lib.hid (below_al HB.out (.cells #[.slice P m c] 24))
        clear c1
        go_wp2_with fail
        go_ret
        exact ⟨by rw [HN.out]; rfl, HB2.out⟩
    · have HP := Lib.hid hp
      clear hp
      by_cases c1 : n = 256
      · subst c1
        have S1 : Hid (RowsY (wr.alloc (.cells #[.slice Q 256 d] 24)) Q 256 d qs ∧ Below w.heap.size w (wr.alloc (.cells #[.slice Q 256 d] 24))) := Lib.hid ⟨(S0.out.2.1.past HB.out).past ((Below.refl _ _).alloc (Nat.le_refl _) _), below_al HB.out _⟩
        go_wp2_with fail
        generalize (wr.alloc (.cells #[.slice Q 256 d] 24)) = w1 at *
        refine (rfW.Check_any Q 256 d qs w1 S1.out.1).mono ?_
        rintro e w2 ⟨rfl, b2⟩
        have HB2 := Lib.hid (below_bs S1.out.2 b2)
        clear b2
        cases hr : rfB (numsY qs)
        · have HN := Lib.hid (fnE_no (fn_b (x := numsY rs) (y := numsY qs) (good_no hr)))
          rw [rfE_no hr]
          clear hr
          go_wp2_with fail
          go_ret
          exact ⟨by rw [HN.out]; rfl, HB2.out⟩
        · have HG := Lib.hid (good_yes (by have := HL.out; omega) hr)
          rw [rfE_yes hr]
          clear hr
          go_wp2_with fail
          exact ⟨⟨.inr (.inr ⟨rfl, HP.out, HG.out⟩), HB2.out⟩, by simp [intOf]⟩
      · have HN := Lib.hid (fnE_no (fn_b (x := numsY rs) (y := numsY qs) (good_len (by have := HL.out; omega))))
        have c2 : ((n : Int) != 256) = true := by simp; omega
        have c3 : ¬ (n : Int) = 256 := by omega
        have HB2 := Lib.hid (below_al HB.out (.cells #[.slice Q n d] 24))
        clear c1
        go_wp2_with fail
        go_ret
        exact ⟨by rw [HN.out]; rfl, HB2.out⟩
    · have HY := Lib.hid (fnE_yes (fn_both hp hq))
      clear hp hq
      go_wp2_with fail
      go_ret
      exact ⟨by rw [HY.out]; rfl, HB.out⟩
end Go.Proofs.YtdmnaipngcldbaaDoor.fnW
namespace Go.Proofs.YtdmnaipngcldbaaDoor.fnW
set_option maxRecDepth 100000
open Go.RowKit Go.Proofs.YtdmnaipngcldbaaDoor.base Go.Proofs.YtdmnaipngcldbaaDoor.rfP Go.Proofs.YtdmnaipngcldbaaDoor.rfW Go.Proofs.YtdmnaipngcldbaaDoor.fnP
set_option linter.unusedVariables false
set_option linter.unusedSimpArgs false
set_option maxHeartbeats 800000 in
theorem rCheck_any (P : Option Addr) (m c : Nat) (rs : List RY) (Q : Option Addr) (n d : Nat) (qs : List RY) (w : World) (h : RowsY w P m c rs) (h' : RowsY w Q n d qs) :
    Calls Tryd.prog 20 #[.agg #[.slice P m c, .slice Q n d]] w fun e w' => e = .returned (.int .i64 (fnE (numsY rs) (numsY qs))) ∧ Below w.heap.size w w' := by
  have HL : Hid ((numsY rs).length = m ∧ (numsY qs).length = n) := Lib.hid ⟨by rw [nums_len]; exact h.l, by rw [nums_len]; exact h'.l⟩
  have m9 : (m : Int) ≤ 9223372036854775807 := by have := h.c1; have := h.c2; omega
  have n9 : (n : Int) ≤ 9223372036854775807 := by have := h'.c1; have := h'.c2; omega
  have S0 : Hid (FnAt (w.alloc (.cells #[.slice P m c, .slice Q n d] 26)) w.heap.size P m c rs Q n d qs ∧ Below w.heap.size w (w.alloc (.cells #[.slice P m c, .slice Q n d] 26))) := Lib.hid ⟨fnAt_new h h', by (repeat' (first | (with_reducible exact Below.refl _ _) | (with_reducible assumption) | (with_reducible refine below_drewN ?_ _) | (with_reducible refine below_new ?_ _) | (with_reducible refine Below.alloc ?_ ?_ _) | (with_reducible refine Below.drew ?_) | (with_reducible refine Below.setCell ?_ ?_ _) | (with_reducible apply below_at; (case k => (with_reducible assumption)); (case hB => omega)) | (with_reducible apply below_on; (with_reducible assumption)) | (go_size; done) | (with_reducible apply size_of)))⟩
  clear h h'
  by_cases c1 : m = 256
  · subst c1
    by_cases c2 : n = 256
    · subst c2
      go_enter Tryd.func20, Tryd.ntmps20
      go_wp2_with fail
      generalize hw0 : (w.alloc (.cells #[.slice P 256 c, .slice Q 256 d] 26)) = w0 at *
      clear hw0
      refine (rfW.rCheck_any P 256 c rs w0 S0.out.1.r1).mono ?_
      rintro e w1 ⟨rfl, b1⟩
      have S1 : Hid (FnAt w1 w.heap.size P 256 c rs Q 256 d qs ∧ Below w.heap.size w w1) := Lib.hid ⟨S0.out.1.past b1, below_bs S0.out.2 b1⟩
      clear b1 S0
      cases hr : rfB (numsY rs)
      · have HN := Lib.hid (fnE_no (fn_a (x := numsY rs) (y := numsY qs) (good_no hr)))
        rw [rfE_no hr]
        clear hr
        go_wp2_with fail
        go_ret
        exact ⟨by rw [HN.out]; rfl, S1.out.2⟩
      have HR := Lib.hid hr
      rw [rfE_yes hr]
      clear hr
      have x1 := S1.out.1.c1
      go_wp2_with fail
      clear x1
      refine (rfW.rCheck_any Q 256 d qs w1 S1.out.1.r2).mono ?_
      rintro e w2 ⟨rfl, b2⟩
      have S2 := Lib.hid (below_bs S1.out.2 b2)
      clear b2 S1
      cases hq : rfB (numsY qs)
      · have HN := Lib.hid (fnE_no (fn_b (x := numsY rs) (y := numsY qs) (good_no hq)))
        rw [rfE_no hq]
        clear hq
        go_wp2_with fail
        go_ret
        exact ⟨by rw [HN.out]; rfl, S2.out⟩
      have HY := Lib.hid (fnE_yes (fn_both (good_yes (by have := HL.out; omega) HR.out) (good_yes (by have := HL.out; omega) hq)))
      rw [rfE_yes hq]
      clear hq
      go_wp2_with fail
      go_ret
      exact ⟨by rw [HY.out]; rfl, S2.out⟩
    · have HN := Lib.hid (fnE_no (fn_b (x := numsY rs) (y := numsY qs) (good_len (by have := HL.out; omega))))
      have c3 : ((n : Int) != 256) = true := by simp; omega
      have c4 : ¬ (n : Int) = 256 := by omega
      clear c2
      go_enter Tryd.func20, Tryd.ntmps20
      go_wp2_with fail
      go_ret
      exact ⟨by rw [HN.out]; rfl, S0.out.2⟩
  · have HN := Lib.hid (fnE_no (fn_a (x := numsY rs) (y := numsY qs) (good_len (by have := HL.out; omega))))
    have c3 : ((m : Int) != 256) = true := by simp; omega
    have c4 : ¬ (m : Int) = 256 := by omega
    clear c1
    go_enter Tryd.func20, Tryd.ntmps20
    go_wp2_with fail
    go_ret
    exact ⟨by rw [HN.out]; rfl, S0.out.2⟩
set_option maxHeartbeats 400000 in
theorem Great_any (P : Option Addr) (m c : Nat) (rs : List RY) (Q : Option Addr) (n d : Nat) (qs : List RY) (w : World) (h : RowsY w P m c rs) (h' : RowsY w Q n d qs) :
    Calls Tryd.prog 9 #[.agg #[.slice P m c, .slice Q n d]] w fun e w' => e = .returned (.bool (greatB (numsY rs) || greatB (numsY qs))) ∧ Below w.heap.size w w' := by
  have S0 : Hid (FnAt (w.alloc (.cells #[.slice P m c, .slice Q n d] 26)) w.heap.size P m c rs Q n d qs ∧ Below w.heap.size w (w.alloc (.cells #[.slice P m c, .slice Q n d] 26))) := Lib.hid ⟨fnAt_new h h', by (repeat' (first | (with_reducible exact Below.refl _ _) | (with_reducible assumption) | (with_reducible refine below_drewN ?_ _) | (with_reducible refine below_new ?_ _) | (with_reducible refine Below.alloc ?_ ?_ _) | (with_reducible refine Below.drew ?_) | (with_reducible refine Below.setCell ?_ ?_ _) | (with_reducible apply below_at; (case k => (with_reducible assumption)); (case hB => omega)) | (with_reducible apply below_on; (with_reducible assumption)) | (go_size; done) | (with_reducible apply size_of)))⟩
  clear h h'
  go_enter Tryd.func9, Tryd.ntmps9
  go_wp2_with fail
  generalize hw0 : (w.alloc (.cells #[.slice P m c, .slice Q n d] 26)) = w0 at *
  clear hw0
  refine (rfW.Great_any P m c rs w0 S0.out.1.r1).mono ?_
  rintro e w1 ⟨rfl, rfl⟩
  cases hr : greatB (numsY rs)
  · have x1 := S0.out.1.c1
    go_wp2_with fail
    clear x1
    refine (rfW.Great_any Q n d qs _ S0.out.1.r2).mono ?_
    rintro e w2 ⟨rfl, rfl⟩
    go_wp2_with fail
    go_ret
    exact ⟨by simp [hr], S0.out.2⟩
  · go_wp2_with fail
    go_ret
    exact ⟨by simp [hr], S0.out.2⟩
end Go.Proofs.YtdmnaipngcldbaaDoor.fnW
