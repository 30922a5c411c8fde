/- DecoderNames, region 2: six copies, in whatever order. -/
import Derived.Test.YtckbiielahgliaaDecL5
import Derived.Test.YtckbiielahgliaaInv
import Derived.BigRegion
namespace Go.Proofs.Ytckbiielahgliaa.decL
open Go.RowKit Go.Proofs.Ytckbiielahgliaa.base Go.Proofs.Ytckbiielahgliaa.encP Go.Proofs.Ytckbiielahgliaa.encW Go.Proofs.Ytckbiielahgliaa.decP Go.Proofs.Ytckbiielahgliaa.decW
set_option linter.unusedVariables false
set_option linter.unusedSimpArgs false

abbrev CG : List Value := [.int .u32 0, .int .u32 4294967295, .int .u32 0, .slice none 0 0, .int .i64 4]
abbrev CZ : List Value := [.int .u32 0, .int .u32 0, .int .u32 0, .slice none 0 0, .int .i64 0]
abbrev G0 : Value := .agg #[.int .u32 0, .int .u32 4294967295, .int .u32 0, .slice none 0 0, .int .i64 4]
structure Held2 (w wx : World) (g : Nat → Nat) (b0 b1 b2 b3 b4 b5 b6 b7 b8 b9 b10 b11 b12 b13 b14 b15 b16 b17 : Bool) (q0 q1 q2 q3 q4 q5 v0 v1 v2 v3 v4 v5 : Value) : Prop where
  ld0 : b0 = true → v0 = G0
  ld1 : b1 = true → v1 = G0
  ld2 : b2 = true → v2 = G0
  ld3 : b3 = true → v3 = G0
  ld4 : b4 = true → v4 = G0
  ld5 : b5 = true → v5 = G0
  al0 : b6 = true → q0 = .pointer (some ⟨g 0, 0, none⟩) ∧ w.heap.size + 1 ≤ g 0 ∧ Lies wx (g 0) 25 (if b12 = true then CG else CZ)
  al1 : b7 = true → q1 = .pointer (some ⟨g 1, 0, none⟩) ∧ w.heap.size + 1 ≤ g 1 ∧ Lies wx (g 1) 25 (if b13 = true then CG else CZ)
  al2 : b8 = true → q2 = .pointer (some ⟨g 2, 0, none⟩) ∧ w.heap.size + 1 ≤ g 2 ∧ Lies wx (g 2) 25 (if b14 = true then CG else CZ)
  al3 : b9 = true → q3 = .pointer (some ⟨g 3, 0, none⟩) ∧ w.heap.size + 1 ≤ g 3 ∧ Lies wx (g 3) 25 (if b15 = true then CG else CZ)
  al4 : b10 = true → q4 = .pointer (some ⟨g 4, 0, none⟩) ∧ w.heap.size + 1 ≤ g 4 ∧ Lies wx (g 4) 25 (if b16 = true then CG else CZ)
  al5 : b11 = true → q5 = .pointer (some ⟨g 5, 0, none⟩) ∧ w.heap.size + 1 ≤ g 5 ∧ Lies wx (g 5) 25 (if b17 = true then CG else CZ)
  st : (b12 = true → b6 = true) ∧ (b13 = true → b7 = true) ∧ (b14 = true → b8 = true) ∧ (b15 = true → b9 = true) ∧ (b16 = true → b10 = true) ∧ (b17 = true → b11 = true)
  df : (b6 = true → b7 = true → g 0 ≠ g 1) ∧ (b6 = true → b8 = true → g 0 ≠ g 2) ∧ (b6 = true → b9 = true → g 0 ≠ g 3) ∧ (b6 = true → b10 = true → g 0 ≠ g 4) ∧ (b6 = true → b11 = true → g 0 ≠ g 5) ∧ (b7 = true → b8 = true → g 1 ≠ g 2) ∧ (b7 = true → b9 = true → g 1 ≠ g 3) ∧ (b7 = true → b10 = true → g 1 ≠ g 4) ∧ (b7 = true → b11 = true → g 1 ≠ g 5) ∧ (b8 = true → b9 = true → g 2 ≠ g 3) ∧ (b8 = true → b10 = true → g 2 ≠ g 4) ∧ (b8 = true → b11 = true → g 2 ≠ g 5) ∧ (b9 = true → b10 = true → g 3 ≠ g 4) ∧ (b9 = true → b11 = true → g 3 ≠ g 5) ∧ (b10 = true → b11 = true → g 4 ≠ g 5)
  gd : Lies wx w.heap.size 25 CG
  bl : Below w.heap.size w wx
def Inv2 (w : World) (l : Array Bool) (a : Act) (wx : World) : Prop :=
  ∃ (b0 b1 b2 b3 b4 b5 b6 b7 b8 b9 b10 b11 b12 b13 b14 b15 b16 b17 : Bool) (q0 q1 q2 q3 q4 q5 v0 v1 v2 v3 v4 v5 : Value) (g : Nat → Nat), l = #[b0, b1, b2, b3, b4, b5, b6, b7, b8, b9, b10, b11, b12, b13, b14, b15, b16, b17] ∧ a = { tmps := #[.bool false, .pointer (some ⟨w.heap.size, 0, none⟩), q0, q1, q2, q3, q4, q5, undef, undef, undef, undef, undef, undef, undef, undef, undef, undef, undef, undef, undef, undef, undef, undef, undef, undef, undef, undef, undef, undef, undef, undef, undef, undef, undef, undef, undef, undef, undef, undef, undef, undef, .agg #[.int .u32 0, .int .u32 4294967295, .int .u32 0, .slice none 0 0, .int .i64 4], v0, v1, v2, v3, v4, v5, undef, undef, undef, undef, undef, undef, undef, undef, undef, undef, undef, undef, undef, undef, undef, undef, undef, undef, undef, undef, undef, undef, undef, undef, undef, undef, undef, undef, undef, undef, undef, undef, undef, undef, undef, undef, undef, undef, undef, undef, undef, undef, undef, undef, undef, undef, undef, undef, undef, undef, undef, undef, undef, undef, undef, undef, undef, undef, undef, undef, undef, undef, undef, undef, undef, undef, undef, undef, undef, undef, undef, undef, undef, undef, undef, undef, undef, undef, undef, undef, undef, undef, undef, undef, undef, undef, undef, undef, undef, undef, undef, undef, undef, undef, undef, undef, undef, undef, undef, undef, undef, undef, undef, undef, undef, undef, undef, undef, undef, undef, undef, undef, undef, undef, undef, undef, undef, undef, undef, undef, undef, undef, undef, undef, undef, undef, undef, undef, undef, undef, undef, undef, undef, undef, undef, undef, undef, undef, undef, undef, undef, undef, undef, undef, undef, undef, undef, undef, undef, undef, undef, undef, undef, undef, undef, undef, undef, undef, undef, undef, undef, undef, undef, undef, undef, undef, undef, undef, undef, undef, undef, undef, undef, undef, undef, undef, undef, undef, undef, undef, undef, undef, undef, undef, undef, undef, undef, undef, undef, undef, undef, undef, undef, undef], defers := [] } ∧ Held2 w wx g b0 b1 b2 b3 b4 b5 b6 b7 b8 b9 b10 b11 b12 b13 b14 b15 b16 b17 q0 q1 q2 q3 q4 q5 v0 v1 v2 v3 v4 v5
theorem mem_ready {md : Region.Mode} {ops : Array Oper} {l : Array Bool} {i : Nat} (h : i ∈ Region.ready md ops l) : i < ops.size ∧ l.getD i true = false ∧ ((ops[i]?).map (·.after.all fun e => !Region.binds md e || l.getD e.on false)).getD false = true := by
  simp only [Region.ready, List.mem_filter, Bool.and_eq_true, Bool.not_eq_true', List.mem_range] at h
  exact ⟨h.1, h.2.1, h.2.2⟩
theorem in_ready {md : Region.Mode} {ops : Array Oper} {l : Array Bool} {i : Nat} (h1 : i < ops.size) (h2 : l.getD i true = false) (h3 : ((ops[i]?).map (·.after.all fun e => !Region.binds md e || l.getD e.on false)).getD false = true) : i ∈ Region.ready md ops l := by
  simp only [Region.ready, List.mem_filter, Bool.and_eq_true, Bool.not_eq_true', List.mem_range]
  exact ⟨h1, h2, h3⟩
theorem not_ready {md : Region.Mode} {ops : Array Oper} {l : Array Bool} {i : Nat} (hr : Region.ready md ops l = []) (h1 : i < ops.size) (h2 : l.getD i true = false) (h3 : ((ops[i]?).map (·.after.all fun e => !Region.binds md e || l.getD e.on false)).getD false = true) : False := by
  have := in_ready (md := md) h1 h2 h3
  rw [hr] at this
  cases this
theorem wpOp_of {P : Program} {ops : Array Oper} {Q : Exit → Act → World → Prop} {i : Nat} {K : Act → World → Prop} {a : Act} {w : World} {o : Oper} (ho : ops[i]? = some o)
    (h : ∀ K' : Act → World → Prop, (∀ a w, K a w → K' a w) → if Region.wanted o (yielded ops a.tmps) = true then Oper.wp P o a w K' Q else K' (a.put o.dst undef) w) : wpOp P ops Q i K a w := by
  have h' := h K (fun _ _ k => k)
  unfold wpOp
  rw [ho]
  simp only
  split
  · rename_i hw
    rw [if_pos hw] at h'
    exact .inl h'
  · rename_i hw
    rw [if_neg hw] at h'
    exact h'
theorem Get_no (x1 x2 x : Int) (A : Option Addr) (n c : Nat) (t p : Int) (zs : List Int) (w : World) (a1 : 0 ≤ x1) (a2 : x1 ≤ 4294967295) (b1 : 0 ≤ x2) (b2 : x2 ≤ 4294967295) (c1 : 0 ≤ x) (c2 : x ≤ 4294967295) (hA : Has .u8 w A zs) (hn : zs.length = n) (hc : n ≤ c) (m : n ≤ 140737488355328) (hz : InB zs) (hok : decOk x1 x2 x n t = false) :
    Calls Try.prog 11 #[.agg #[.int .u32 x1, .int .u32 x2, .int .u32 x, .slice A n c, .int .i64 t], .int .i64 p] w fun e w' => ∃ A' c', e = .returned (.tuple #[.agg #[.int .u32 0, .int .u32 0, .int .u32 0, .slice A' 0 c', .int .i64 0], .bool false, .int .i64 8]) ∧ Below w.heap.size w w' := by
  subst hn
  have he := dgE_bad p hok
  obtain ⟨v1, v2⟩ := dgV_no (x1 := x1) (x2 := x2) (x := x) (zs := zs) (t := t) (p := p) (by rw [he]; omega)
  refine (Get_any x1 x2 x A zs.length c t p zs w a1 a2 b1 b2 c1 c2 hA rfl hc m hz).mono ?_
  rintro e w' ⟨A', c', rfl, k1, k2, k3, k4⟩
  rw [v1, v2, he]
  exact ⟨A', c', rfl, k4⟩
theorem Over_no (x1 x2 x : Int) (A : Option Addr) (n c : Nat) (t : Int) (w : World) (a1 : 0 ≤ x1) (a2 : x1 ≤ 4294967295) (b1 : 0 ≤ x2) (b2 : x2 ≤ 4294967295) (c1 : 0 ≤ x) (c2 : x ≤ 4294967295) (m : n ≤ 9223372036854775807) (hok : decOk x1 x2 x n t = false) :
    Calls Try.prog 13 #[.agg #[.int .u32 x1, .int .u32 x2, .int .u32 x, .slice A n c, .int .i64 t]] w fun e w' => e = .returned (.tuple #[.int .i64 0, .int .i64 8]) ∧ Below w.heap.size w w' := by
  have := Over_any x1 x2 x A n c t w a1 a2 b1 b2 c1 c2 m
  rwa [ovV, dcV, hok] at this
theorem Check_no (x1 x2 x : Int) (A : Option Addr) (n c : Nat) (t : Int) (w : World) (a1 : 0 ≤ x1) (a2 : x1 ≤ 4294967295) (b1 : 0 ≤ x2) (b2 : x2 ≤ 4294967295) (c1 : 0 ≤ x) (c2 : x ≤ 4294967295) (m : n ≤ 9223372036854775807) (hok : decOk x1 x2 x n t = false) :
    Calls Try.prog 16 #[.agg #[.int .u32 x1, .int .u32 x2, .int .u32 x, .slice A n c, .int .i64 t]] w fun e w' => e = .returned (.int .i64 8) ∧ Below w.heap.size w w' := by
  have := Check_any x1 x2 x A n c t w a1 a2 b1 b2 c1 c2 m
  rwa [dcV, hok] at this
theorem Get_e (x1 x2 x : Int) (A : Option Addr) (n c : Nat) (t p : Int) (zs : List Int) (e0 : Int) (w : World) (a1 : 0 ≤ x1) (a2 : x1 ≤ 4294967295) (b1 : 0 ≤ x2) (b2 : x2 ≤ 4294967295) (c1 : 0 ≤ x) (c2 : x ≤ 4294967295) (hA : Has .u8 w A zs) (hn : zs.length = n) (hc : n ≤ c) (m : n ≤ 140737488355328) (hz : InB zs) (he : dgE x1 x2 x zs t p = e0) (h0 : e0 ≠ 0) :
    Calls Try.prog 11 #[.agg #[.int .u32 x1, .int .u32 x2, .int .u32 x, .slice A n c, .int .i64 t], .int .i64 p] w fun e w' => ∃ A' c', e = .returned (.tuple #[.agg #[.int .u32 0, .int .u32 0, .int .u32 0, .slice A' 0 c', .int .i64 0], .bool false, .int .i64 e0]) ∧ Below w.heap.size w w' := by
  subst hn
  obtain ⟨v1, v2⟩ := dgV_no (x1 := x1) (x2 := x2) (x := x) (zs := zs) (t := t) (p := p) (by rw [he]; exact h0)
  refine (Get_any x1 x2 x A zs.length c t p zs w a1 a2 b1 b2 c1 c2 hA rfl hc m hz).mono ?_
  rintro e w' ⟨A', c', rfl, k1, k2, k3, k4⟩
  rw [v1, v2, he]
  exact ⟨A', c', rfl, k4⟩
theorem RunD_e (A P : Option Addr) (n c lp cp : Nat) (zs ps : List Int) (e0 : Int) (w : World) (hA : Has .u8 w A zs) (hn : zs.length = n) (hc : n ≤ c) (hm : n ≤ 9223372036854775807) (hz : InB zs) (hP : Has .i64 w P ps) (el : ps.length = lp) (m1 : lp ≤ 9223372036854775807) (he : drE n ps = e0) (h0 : e0 ≠ 0) :
    Calls Try.prog 18 #[.slice A n c, .slice P lp cp] w fun e w' => ∃ A' c', e = .returned (.tuple #[.slice A' 0 c', .int .i64 e0]) ∧ Below w.heap.size w w' := by
  subst hn
  have hv := drV_no (zs := zs) (ps := ps) (by rw [he]; exact h0)
  refine (RunD_any A P zs.length c lp cp zs ps w hA rfl hc hm hz hP el m1).mono ?_
  rintro e w' ⟨A', c', rfl, k1, k2, k3⟩
  rw [hv, he]
  exact ⟨A', c', rfl, k3⟩
theorem infoI : ∃ i, Try.prog.info? 3 = some i ∧ i.zero = some (.int .i64 0) ∧ i.size = 1 ∧ i.bytes = 8 := info_parts (by kernel_rfl)
theorem mkI (n : Nat) (hn : n ≤ 1000000) (w : World) : (Instr.makeSlice 43 (.int .i64 (n : Int)) (.int .i64 (n : Int))).run Try.prog w = .ok (.slice (some ⟨w.heap.size, 0, none⟩) n n) (w.alloc (.cells (iCells n) 3)) := by
  obtain ⟨i, hi, hz, h1, h2⟩ := infoI
  have := run_make_cells _ _ i (.int .i64 0) Try.underlying43 hi hz h1 rfl n (by rw [h2]; omega) (by omega) w
  rw [this]
  unfold iCells
  rfl
theorem m2001i (w : World) : (Instr.makeSlice 43 (.int .i64 2001) (.int .i64 2001)).run Try.prog w = .ok (.slice (some ⟨w.heap.size, 0, none⟩) 2001 2001) (w.alloc (.cells (iCells 2001) 3)) := mkI 2001 (by omega) w
theorem nvals : dgE 0 4294967295 0 [] 4 4096 = 2 ∧ dgE 0 4294967295 0 [] 4 (-1) = 2 ∧ dgE 16777215 16777216 16777215 [] 999998 0 = 4 ∧ dgE 16777215 16777216 16777215 [] 999996 0 = 0 ∧ dgV 16777215 16777216 16777215 [] 999996 0 = (0, 4294967295, 0, [], 1000000) ∧ dgB 16777215 16777216 16777215 [] 999996 0 = true ∧ win [1, 2, 3, 4, 5] 0 = 16909060 ∧ ovV 0 4294967295 16909060 5 4 = 1 ∧ dcV 0 4294967295 16909060 5 4 = 0 ∧ drE 0 [4096] = 2 ∧ drE 0 [] = 0 ∧ drV [] [] = [] := by decide +kernel
theorem m20001 (w : World) : (Instr.makeSlice 23 (.int .i64 20001) (.int .i64 20001)).run Try.prog w = .ok (.slice (some ⟨w.heap.size, 0, none⟩) 20001 20001) (w.alloc (.cells (zCells 20001) 5)) := mk8 20001 (by omega) w
set_option maxRecDepth 1000000 in
set_option maxHeartbeats 4000000 in
theorem names_t (w : World) : Calls Try.prog 5 #[] w fun e w' => e = .returned (.bool true) ∧ Below w.heap.size w w' := by
  go_enter Try.func5, Try.ntmps5
  go_upto_region 2 with fail
  refine wp_region_any (by kernel_rfl) ?_
  refine wpAny_inv (Inv2 w) ?step ?fin _ _ _ _ ?init ?fuel
  case init =>
    exact ⟨false, false, false, false, false, false, false, false, false, false, false, false, false, false, false, false, false, false, undef, undef, undef, undef, undef, undef, undef, undef, undef, undef, undef, undef, fun _ => 0, rfl, rfl, { ld0 := (fun h => by cases h), ld1 := (fun h => by cases h), ld2 := (fun h => by cases h), ld3 := (fun h => by cases h), ld4 := (fun h => by cases h), ld5 := (fun h => by cases h), al0 := (fun h => by cases h), al1 := (fun h => by cases h), al2 := (fun h => by cases h), al3 := (fun h => by cases h), al4 := (fun h => by cases h), al5 := (fun h => by cases h), st := ⟨(fun h => by cases h), (fun h => by cases h), (fun h => by cases h), (fun h => by cases h), (fun h => by cases h), (fun h => by cases h)⟩, df := ⟨(fun h => by cases h), (fun h => by cases h), (fun h => by cases h), (fun h => by cases h), (fun h => by cases h), (fun h => by cases h), (fun h => by cases h), (fun h => by cases h), (fun h => by cases h), (fun h => by cases h), (fun h => by cases h), (fun h => by cases h), (fun h => by cases h), (fun h => by cases h), (fun h => by cases h)⟩, gd := Lies.drew (Lies.fresh _ _ _), bl := ((Below.refl _ _).alloc (Nat.le_refl _) _).drew }⟩
  case fuel => decide
  case fin =>
    rintro l a wx ⟨b0, b1, b2, b3, b4, b5, b6, b7, b8, b9, b10, b11, b12, b13, b14, b15, b16, b17, q0, q1, q2, q3, q4, q5, v0, v1, v2, v3, v4, v5, g, rfl, rfl, hI⟩ hr
    have e0 : b0 = true := by
      cases b0
      · exact (not_ready hr (i := 0) (by decide) rfl (by simp [Region.binds])).elim
      · rfl
    subst e0
    have e1 : b1 = true := by
      cases b1
      · exact (not_ready hr (i := 1) (by decide) rfl (by simp [Region.binds])).elim
      · rfl
    subst e1
    have e2 : b2 = true := by
      cases b2
      · exact (not_ready hr (i := 2) (by decide) rfl (by simp [Region.binds])).elim
      · rfl
    subst e2
    have e3 : b3 = true := by
      cases b3
      · exact (not_ready hr (i := 3) (by decide) rfl (by simp [Region.binds])).elim
      · rfl
    subst e3
    have e4 : b4 = true := by
      cases b4
      · exact (not_ready hr (i := 4) (by decide) rfl (by simp [Region.binds])).elim
      · rfl
    subst e4
    have e5 : b5 = true := by
      cases b5
      · exact (not_ready hr (i := 5) (by decide) rfl (by simp [Region.binds])).elim
      · rfl
    subst e5
    have e6 : b6 = true := by
      cases b6
      · exact (not_ready hr (i := 6) (by decide) rfl (by simp [Region.binds])).elim
      · rfl
    subst e6
    have e7 : b7 = true := by
      cases b7
      · exact (not_ready hr (i := 7) (by decide) rfl (by simp [Region.binds])).elim
      · rfl
    subst e7
    have e8 : b8 = true := by
      cases b8
      · exact (not_ready hr (i := 8) (by decide) rfl (by simp [Region.binds])).elim
      · rfl
    subst e8
    have e9 : b9 = true := by
      cases b9
      · exact (not_ready hr (i := 9) (by decide) rfl (by simp [Region.binds])).elim
      · rfl
    subst e9
    have e10 : b10 = true := by
      cases b10
      · exact (not_ready hr (i := 10) (by decide) rfl (by simp [Region.binds])).elim
      · rfl
    subst e10
    have e11 : b11 = true := by
      cases b11
      · exact (not_ready hr (i := 11) (by decide) rfl (by simp [Region.binds])).elim
      · rfl
    subst e11
    have e12 : b12 = true := by
      cases b12
      · exact (not_ready hr (i := 12) (by decide) rfl (by simp [Region.binds])).elim
      · rfl
    subst e12
    have e13 : b13 = true := by
      cases b13
      · exact (not_ready hr (i := 13) (by decide) rfl (by simp [Region.binds])).elim
      · rfl
    subst e13
    have e14 : b14 = true := by
      cases b14
      · exact (not_ready hr (i := 14) (by decide) rfl (by simp [Region.binds])).elim
      · rfl
    subst e14
    have e15 : b15 = true := by
      cases b15
      · exact (not_ready hr (i := 15) (by decide) rfl (by simp [Region.binds])).elim
      · rfl
    subst e15
    have e16 : b16 = true := by
      cases b16
      · exact (not_ready hr (i := 16) (by decide) rfl (by simp [Region.binds])).elim
      · rfl
    subst e16
    have e17 : b17 = true := by
      cases b17
      · exact (not_ready hr (i := 17) (by decide) rfl (by simp [Region.binds])).elim
      · rfl
    subst e17
    obtain ⟨e20, s0, L0⟩ := hI.al0 rfl
    obtain ⟨e21, s1, L1⟩ := hI.al1 rfl
    obtain ⟨e22, s2, L2⟩ := hI.al2 rfl
    obtain ⟨e23, s3, L3⟩ := hI.al3 rfl
    obtain ⟨e24, s4, L4⟩ := hI.al4 rfl
    obtain ⟨e25, s5, L5⟩ := hI.al5 rfl
    have e30 := hI.ld0 rfl
    have e31 := hI.ld1 rfl
    have e32 := hI.ld2 rfl
    have e33 := hI.ld3 rfl
    have e34 := hI.ld4 rfl
    have e35 := hI.ld5 rfl
    subst e20 e21 e22 e23 e24 e25 e30 e31 e32 e33 e34 e35
    simp only [if_true] at L0 L1 L2 L3 L4 L5
    have hdf := hI.df
    have HGD := Lib.hid hI.gd
    have HBL := Lib.hid hI.bl
    clear hr hI
    generalize g 0 = g0 at *
    generalize g 1 = g1 at *
    generalize g 2 = g2 at *
    generalize g 3 = g3 at *
    generalize g 4 = g4 at *
    generalize g 5 = g5 at *
    simp only [forall_const] at hdf
    dsimp only
    obtain ⟨n01, n02, n03, n04, n05, n12, n13, n14, n15, n23, n24, n25, n34, n35, n45⟩ := hdf
    have z0 := L0.lt
    have z1 := L1.lt
    have z2 := L2.lt
    have z3 := L3.lt
    have z4 := L4.lt
    have z5 := L5.lt
    have K0 := five L0
    have K1 := five L1
    have K2 := five L2
    have K3 := five L3
    have K4 := five L4
    have K5 := five L5
    obtain ⟨⟨a0, a1, a2, a3, a4⟩, a5, a6, a7, a8, a9⟩ := K0
    obtain ⟨⟨c0, c1, c2, c3, c4⟩, c5, c6, c7, c8, c9⟩ := K1
    obtain ⟨⟨d0, d1, d2, d3, d4⟩, d5, d6, d7, d8, d9⟩ := K2
    obtain ⟨⟨i0, i1, i2, i3, i4⟩, i5, i6, i7, i8, i9⟩ := K3
    obtain ⟨⟨j0, j1, j2, j3, j4⟩, j5, j6, j7, j8, j9⟩ := K4
    obtain ⟨⟨k0, k1, k2, k3, k4⟩, k5, k6, k7, k8, k9⟩ := K5
    clear L0 L1 L2 L3 L4 L5
    have hm := m20001
    go_wp2_with fail
    clear a0 a1 a2 a3 a4 a5 a6 a7 a8 a9 c0 c1 c2 c3 c4 c5 c6 c7 c8 c9 d0 d1 d2 d3 d4 d5 d6 d7 d8 d9 i0 i1 i2 i3 i4 i5 i6 i7 i8 i9 j0 j1 j2 j3 j4 j5 j6 j7 j8 j9 k0 k1 k2 k3 k4 k5 k6 k7 k8 k9 hm
    go_loopw [9] (fun i wr => ∃ k : Nat, k ≤ 7 ∧ i = .int .i64 k ∧ Lies wr (wx.heap.size + 1) 25 [.int .u32 0, .int .u32 0, .int .u32 0, .slice none 0 0, .int .i64 0, .int .u32 5, .int .u32 4294967295, .int .u32 4, .slice none 0 0, .int .i64 4, .int .u32 0, .int .u32 16777216, .int .u32 16777217, .slice none 0 0, .int .i64 4, .int .u32 0, .int .u32 16777215, .int .u32 0, .slice none 0 0, .int .i64 4, .int .u32 0, .int .u32 4294967295, .int .u32 0, .slice none 0 0, .int .i64 3, .int .u32 0, .int .u32 4294967295, .int .u32 0, .slice none 0 0, .int .i64 1000001, .int .u32 0, .int .u32 4294967295, .int .u32 0, .slice (some ⟨wx.heap.size, 0, none⟩) 20001 20001, .int .i64 4] ∧ Has .u8 wr (some ⟨wx.heap.size, 0, none⟩) (List.replicate 20001 0) ∧ Lies wr w.heap.size 25 CG ∧ Below w.heap.size w wr) (fun i _ => 7 - (intOf i).toNat)
    case atStart =>
      exact ⟨0, by omega, rfl, Lies.fresh_at (by simp), (has_z _ _ 20001 (by decide) (by simp)).below ((Below.refl _ _).alloc (Nat.le_refl _) _) (Nat.le_refl _), by have := HGD.out; (repeat' (first | (with_reducible assumption) | (with_reducible exact Lies.fresh _ _ _) | (with_reducible apply Lies.fresh_at; (first | (with_reducible rfl) | (simp; done))) | (with_reducible refine Lies.drew ?_) | (with_reducible refine Lies.drewN ?_ _) | (with_reducible refine Lies.alloc ?_ _) | (with_reducible apply Lies.past; case hb => (with_reducible assumption)) | (with_reducible apply Lies.keeps; (case k => (with_reducible assumption)); (case ht => decide)) | (with_reducible apply Lies.store3) | (with_reducible apply Lies.other; case hp => (first | omega | (simp; done) | (simp; omega))))), by have := HBL.out; (repeat' (first | (with_reducible exact Below.refl _ _) | (with_reducible assumption) | (with_reducible refine below_drewN ?_ _) | (with_reducible refine below_new ?_ _) | (with_reducible refine Below.alloc ?_ ?_ _) | (with_reducible refine Below.drew ?_) | (with_reducible refine Below.setCell ?_ ?_ _) | (with_reducible apply below_at; (case k => (with_reducible assumption)); (case hB => omega)) | (with_reducible apply below_on; (with_reducible assumption)) | (go_size; done) | (with_reducible apply size_of)))⟩
    case round =>
      obtain ⟨k, hk, rfl, K, Z, GG, W⟩ := hrel
      have HK := Lib.hid K
      have HZ := Lib.hid Z
      have HG := Lib.hid GG
      have HW := Lib.hid W
      have ltk := K.lt
      clear K Z GG W n01 n02 n03 n04 n05 n12 n13 n14 n15 n23 n24 n25 n34 n35 n45 z0 z1 z2 z3 z4 z5 s0 s1 s2 s3 s4 s5 HGD HBL
      by_cases hlt : k < 7
      · rcases (show k = 0 ∨ k = 1 ∨ k = 2 ∨ k = 3 ∨ k = 4 ∨ k = 5 ∨ k = 6 by omega) with rfl | rfl | rfl | rfl | rfl | rfl | rfl
        · as_aux_lemma =>
          have a0 := (HK.out).cell 0; have a1 := (HK.out).cell 1; have a2 := (HK.out).cell 2; have a3 := (HK.out).cell 3; have a4 := (HK.out).cell 4; simp only [List.getElem?_cons_zero, List.getElem?_cons_succ] at a0 a1 a2 a3 a4
          go_wp2_with fail
          refine (Get_no 0 0 0 none 0 0 0 (-1) [] _ (by omega) (by omega) (by omega) (by omega) (by omega) (by omega) (.inl rfl) (by simp) (by omega) (by omega) (by simp [InB]) (by decide)).mono ?_
          rintro e w1 ⟨A1, c1, rfl, hb1⟩
          have HW1 := Lib.hid (HW.out.trans (hb1.mono HW.out.size))
          have HK1 := Lib.hid (HK.out.past hb1)
          have HZ1 := Lib.hid (HZ.out.below hb1 (Nat.le_refl _))
          have HG1 := Lib.hid (HG.out.past hb1)
          clear hb1 a0 a1 a2 a3 a4
          have a0 := (HK1.out).cell 0; have a1 := (HK1.out).cell 1; have a2 := (HK1.out).cell 2; have a3 := (HK1.out).cell 3; have a4 := (HK1.out).cell 4; simp only [List.getElem?_cons_zero, List.getElem?_cons_succ] at a0 a1 a2 a3 a4
          have lt1 := HK1.out.lt
          go_wp2_with fail
          refine (Over_no 0 0 0 none 0 0 0 _ (by omega) (by omega) (by omega) (by omega) (by omega) (by omega) (by omega) (by decide)).mono ?_
          rintro e w2 ⟨rfl, hb2⟩
          have HW2 : Hid (Below w.heap.size w w2) := Lib.hid (by have := HW1.out; (repeat' (first | (with_reducible exact Below.refl _ _) | (with_reducible assumption) | (with_reducible refine below_drewN ?_ _) | (with_reducible refine below_new ?_ _) | (with_reducible refine Below.alloc ?_ ?_ _) | (with_reducible refine Below.drew ?_) | (with_reducible refine Below.setCell ?_ ?_ _) | (with_reducible apply below_at; (case k => (with_reducible assumption)); (case hB => omega)) | (with_reducible apply below_on; (with_reducible assumption)) | (go_size; done) | (with_reducible apply size_of))))
          have HK2 := Lib.hid ((HK1.out.alloc _).past hb2)
          have HZ2 := Lib.hid (HZ1.out.below (((Below.refl _ _).alloc (Nat.le_refl _) _).trans (hb2.mono (by simp))) (Nat.le_refl _))
          have HG2 := Lib.hid ((HG1.out.alloc _).past hb2)
          clear hb2 a0 a1 a2 a3 a4
          have a0 := (HK2.out).cell 0; have a1 := (HK2.out).cell 1; have a2 := (HK2.out).cell 2; have a3 := (HK2.out).cell 3; have a4 := (HK2.out).cell 4; simp only [List.getElem?_cons_zero, List.getElem?_cons_succ] at a0 a1 a2 a3 a4
          have lt2 := HK2.out.lt
          go_wp2_with fail
          refine (Check_no 0 0 0 none 0 0 0 _ (by omega) (by omega) (by omega) (by omega) (by omega) (by omega) (by omega) (by decide)).mono ?_
          rintro e w3 ⟨rfl, hb3⟩
          go_wp2
          go_roundw
          case rel => exact ⟨1, by omega, (by first | rfl | go_num), HK2.out.past hb3, HZ2.out.below hb3 (Nat.le_refl _), HG2.out.past hb3, HW2.out.trans (hb3.mono HW2.out.size)⟩
          case measure => simp [intOf]
        · as_aux_lemma =>
          have a0 := (HK.out).cell 5; have a1 := (HK.out).cell 6; have a2 := (HK.out).cell 7; have a3 := (HK.out).cell 8; have a4 := (HK.out).cell 9; simp only [List.getElem?_cons_zero, List.getElem?_cons_succ] at a0 a1 a2 a3 a4
          go_wp2_with fail
          refine (Get_no 5 4294967295 4 none 0 0 4 (-1) [] _ (by omega) (by omega) (by omega) (by omega) (by omega) (by omega) (.inl rfl) (by simp) (by omega) (by omega) (by simp [InB]) (by decide)).mono ?_
          rintro e w1 ⟨A1, c1, rfl, hb1⟩
          have HW1 := Lib.hid (HW.out.trans (hb1.mono HW.out.size))
          have HK1 := Lib.hid (HK.out.past hb1)
          have HZ1 := Lib.hid (HZ.out.below hb1 (Nat.le_refl _))
          have HG1 := Lib.hid (HG.out.past hb1)
          clear hb1 a0 a1 a2 a3 a4
          have a0 := (HK1.out).cell 5; have a1 := (HK1.out).cell 6; have a2 := (HK1.out).cell 7; have a3 := (HK1.out).cell 8; have a4 := (HK1.out).cell 9; simp only [List.getElem?_cons_zero, List.getElem?_cons_succ] at a0 a1 a2 a3 a4
          have lt1 := HK1.out.lt
          go_wp2_with fail
          refine (Over_no 5 4294967295 4 none 0 0 4 _ (by omega) (by omega) (by omega) (by omega) (by omega) (by omega) (by omega) (by decide)).mono ?_
          rintro e w2 ⟨rfl, hb2⟩
          have HW2 : Hid (Below w.heap.size w w2) := Lib.hid (by have := HW1.out; (repeat' (first | (with_reducible exact Below.refl _ _) | (with_reducible assumption) | (with_reducible refine below_drewN ?_ _) | (with_reducible refine below_new ?_ _) | (with_reducible refine Below.alloc ?_ ?_ _) | (with_reducible refine Below.drew ?_) | (with_reducible refine Below.setCell ?_ ?_ _) | (with_reducible apply below_at; (case k => (with_reducible assumption)); (case hB => omega)) | (with_reducible apply below_on; (with_reducible assumption)) | (go_size; done) | (with_reducible apply size_of))))
          have HK2 := Lib.hid ((HK1.out.alloc _).past hb2)
          have HZ2 := Lib.hid (HZ1.out.below (((Below.refl _ _).alloc (Nat.le_refl _) _).trans (hb2.mono (by simp))) (Nat.le_refl _))
          have HG2 := Lib.hid ((HG1.out.alloc _).past hb2)
          clear hb2 a0 a1 a2 a3 a4
          have a0 := (HK2.out).cell 5; have a1 := (HK2.out).cell 6; have a2 := (HK2.out).cell 7; have a3 := (HK2.out).cell 8; have a4 := (HK2.out).cell 9; simp only [List.getElem?_cons_zero, List.getElem?_cons_succ] at a0 a1 a2 a3 a4
          have lt2 := HK2.out.lt
          go_wp2_with fail
          refine (Check_no 5 4294967295 4 none 0 0 4 _ (by omega) (by omega) (by omega) (by omega) (by omega) (by omega) (by omega) (by decide)).mono ?_
          rintro e w3 ⟨rfl, hb3⟩
          go_wp2
          go_roundw
          case rel => exact ⟨2, by omega, (by first | rfl | go_num), HK2.out.past hb3, HZ2.out.below hb3 (Nat.le_refl _), HG2.out.past hb3, HW2.out.trans (hb3.mono HW2.out.size)⟩
          case measure => simp [intOf]
        · as_aux_lemma =>
          have a0 := (HK.out).cell 10; have a1 := (HK.out).cell 11; have a2 := (HK.out).cell 12; have a3 := (HK.out).cell 13; have a4 := (HK.out).cell 14; simp only [List.getElem?_cons_zero, List.getElem?_cons_succ] at a0 a1 a2 a3 a4
          go_wp2_with fail
          refine (Get_no 0 16777216 16777217 none 0 0 4 (-1) [] _ (by omega) (by omega) (by omega) (by omega) (by omega) (by omega) (.inl rfl) (by simp) (by omega) (by omega) (by simp [InB]) (by decide)).mono ?_
          rintro e w1 ⟨A1, c1, rfl, hb1⟩
          have HW1 := Lib.hid (HW.out.trans (hb1.mono HW.out.size))
          have HK1 := Lib.hid (HK.out.past hb1)
          have HZ1 := Lib.hid (HZ.out.below hb1 (Nat.le_refl _))
          have HG1 := Lib.hid (HG.out.past hb1)
          clear hb1 a0 a1 a2 a3 a4
          have a0 := (HK1.out).cell 10; have a1 := (HK1.out).cell 11; have a2 := (HK1.out).cell 12; have a3 := (HK1.out).cell 13; have a4 := (HK1.out).cell 14; simp only [List.getElem?_cons_zero, List.getElem?_cons_succ] at a0 a1 a2 a3 a4
          have lt1 := HK1.out.lt
          go_wp2_with fail
          refine (Over_no 0 16777216 16777217 none 0 0 4 _ (by omega) (by omega) (by omega) (by omega) (by omega) (by omega) (by omega) (by decide)).mono ?_
          rintro e w2 ⟨rfl, hb2⟩
          have HW2 : Hid (Below w.heap.size w w2) := Lib.hid (by have := HW1.out; (repeat' (first | (with_reducible exact Below.refl _ _) | (with_reducible assumption) | (with_reducible refine below_drewN ?_ _) | (with_reducible refine below_new ?_ _) | (with_reducible refine Below.alloc ?_ ?_ _) | (with_reducible refine Below.drew ?_) | (with_reducible refine Below.setCell ?_ ?_ _) | (with_reducible apply below_at; (case k => (with_reducible assumption)); (case hB => omega)) | (with_reducible apply below_on; (with_reducible assumption)) | (go_size; done) | (with_reducible apply size_of))))
          have HK2 := Lib.hid ((HK1.out.alloc _).past hb2)
          have HZ2 := Lib.hid (HZ1.out.below (((Below.refl _ _).alloc (Nat.le_refl _) _).trans (hb2.mono (by simp))) (Nat.le_refl _))
          have HG2 := Lib.hid ((HG1.out.alloc _).past hb2)
          clear hb2 a0 a1 a2 a3 a4
          have a0 := (HK2.out).cell 10; have a1 := (HK2.out).cell 11; have a2 := (HK2.out).cell 12; have a3 := (HK2.out).cell 13; have a4 := (HK2.out).cell 14; simp only [List.getElem?_cons_zero, List.getElem?_cons_succ] at a0 a1 a2 a3 a4
          have lt2 := HK2.out.lt
          go_wp2_with fail
          refine (Check_no 0 16777216 16777217 none 0 0 4 _ (by omega) (by omega) (by omega) (by omega) (by omega) (by omega) (by omega) (by decide)).mono ?_
          rintro e w3 ⟨rfl, hb3⟩
          go_wp2
          go_roundw
          case rel => exact ⟨3, by omega, (by first | rfl | go_num), HK2.out.past hb3, HZ2.out.below hb3 (Nat.le_refl _), HG2.out.past hb3, HW2.out.trans (hb3.mono HW2.out.size)⟩
          case measure => simp [intOf]
        · as_aux_lemma =>
          have a0 := (HK.out).cell 15; have a1 := (HK.out).cell 16; have a2 := (HK.out).cell 17; have a3 := (HK.out).cell 18; have a4 := (HK.out).cell 19; simp only [List.getElem?_cons_zero, List.getElem?_cons_succ] at a0 a1 a2 a3 a4
          go_wp2_with fail
          refine (Get_no 0 16777215 0 none 0 0 4 (-1) [] _ (by omega) (by omega) (by omega) (by omega) (by omega) (by omega) (.inl rfl) (by simp) (by omega) (by omega) (by simp [InB]) (by decide)).mono ?_
          rintro e w1 ⟨A1, c1, rfl, hb1⟩
          have HW1 := Lib.hid (HW.out.trans (hb1.mono HW.out.size))
          have HK1 := Lib.hid (HK.out.past hb1)
          have HZ1 := Lib.hid (HZ.out.below hb1 (Nat.le_refl _))
          have HG1 := Lib.hid (HG.out.past hb1)
          clear hb1 a0 a1 a2 a3 a4
          have a0 := (HK1.out).cell 15; have a1 := (HK1.out).cell 16; have a2 := (HK1.out).cell 17; have a3 := (HK1.out).cell 18; have a4 := (HK1.out).cell 19; simp only [List.getElem?_cons_zero, List.getElem?_cons_succ] at a0 a1 a2 a3 a4
          have lt1 := HK1.out.lt
          go_wp2_with fail
          refine (Over_no 0 16777215 0 none 0 0 4 _ (by omega) (by omega) (by omega) (by omega) (by omega) (by omega) (by omega) (by decide)).mono ?_
          rintro e w2 ⟨rfl, hb2⟩
          have HW2 : Hid (Below w.heap.size w w2) := Lib.hid (by have := HW1.out; (repeat' (first | (with_reducible exact Below.refl _ _) | (with_reducible assumption) | (with_reducible refine below_drewN ?_ _) | (with_reducible refine below_new ?_ _) | (with_reducible refine Below.alloc ?_ ?_ _) | (with_reducible refine Below.drew ?_) | (with_reducible refine Below.setCell ?_ ?_ _) | (with_reducible apply below_at; (case k => (with_reducible assumption)); (case hB => omega)) | (with_reducible apply below_on; (with_reducible assumption)) | (go_size; done) | (with_reducible apply size_of))))
          have HK2 := Lib.hid ((HK1.out.alloc _).past hb2)
          have HZ2 := Lib.hid (HZ1.out.below (((Below.refl _ _).alloc (Nat.le_refl _) _).trans (hb2.mono (by simp))) (Nat.le_refl _))
          have HG2 := Lib.hid ((HG1.out.alloc _).past hb2)
          clear hb2 a0 a1 a2 a3 a4
          have a0 := (HK2.out).cell 15; have a1 := (HK2.out).cell 16; have a2 := (HK2.out).cell 17; have a3 := (HK2.out).cell 18; have a4 := (HK2.out).cell 19; simp only [List.getElem?_cons_zero, List.getElem?_cons_succ] at a0 a1 a2 a3 a4
          have lt2 := HK2.out.lt
          go_wp2_with fail
          refine (Check_no 0 16777215 0 none 0 0 4 _ (by omega) (by omega) (by omega) (by omega) (by omega) (by omega) (by omega) (by decide)).mono ?_
          rintro e w3 ⟨rfl, hb3⟩
          go_wp2
          go_roundw
          case rel => exact ⟨4, by omega, (by first | rfl | go_num), HK2.out.past hb3, HZ2.out.below hb3 (Nat.le_refl _), HG2.out.past hb3, HW2.out.trans (hb3.mono HW2.out.size)⟩
          case measure => simp [intOf]
        · as_aux_lemma =>
          have a0 := (HK.out).cell 20; have a1 := (HK.out).cell 21; have a2 := (HK.out).cell 22; have a3 := (HK.out).cell 23; have a4 := (HK.out).cell 24; simp only [List.getElem?_cons_zero, List.getElem?_cons_succ] at a0 a1 a2 a3 a4
          go_wp2_with fail
          refine (Get_no 0 4294967295 0 none 0 0 3 (-1) [] _ (by omega) (by omega) (by omega) (by omega) (by omega) (by omega) (.inl rfl) (by simp) (by omega) (by omega) (by simp [InB]) (by decide)).mono ?_
          rintro e w1 ⟨A1, c1, rfl, hb1⟩
          have HW1 := Lib.hid (HW.out.trans (hb1.mono HW.out.size))
          have HK1 := Lib.hid (HK.out.past hb1)
          have HZ1 := Lib.hid (HZ.out.below hb1 (Nat.le_refl _))
          have HG1 := Lib.hid (HG.out.past hb1)
          clear hb1 a0 a1 a2 a3 a4
          have a0 := (HK1.out).cell 20; have a1 := (HK1.out).cell 21; have a2 := (HK1.out).cell 22; have a3 := (HK1.out).cell 23; have a4 := (HK1.out).cell 24; simp only [List.getElem?_cons_zero, List.getElem?_cons_succ] at a0 a1 a2 a3 a4
          have lt1 := HK1.out.lt
          go_wp2_with fail
          refine (Over_no 0 4294967295 0 none 0 0 3 _ (by omega) (by omega) (by omega) (by omega) (by omega) (by omega) (by omega) (by decide)).mono ?_
          rintro e w2 ⟨rfl, hb2⟩
          have HW2 : Hid (Below w.heap.size w w2) := Lib.hid (by have := HW1.out; (repeat' (first | (with_reducible exact Below.refl _ _) | (with_reducible assumption) | (with_reducible refine below_drewN ?_ _) | (with_reducible refine below_new ?_ _) | (with_reducible refine Below.alloc ?_ ?_ _) | (with_reducible refine Below.drew ?_) | (with_reducible refine Below.setCell ?_ ?_ _) | (with_reducible apply below_at; (case k => (with_reducible assumption)); (case hB => omega)) | (with_reducible apply below_on; (with_reducible assumption)) | (go_size; done) | (with_reducible apply size_of))))
          have HK2 := Lib.hid ((HK1.out.alloc _).past hb2)
          have HZ2 := Lib.hid (HZ1.out.below (((Below.refl _ _).alloc (Nat.le_refl _) _).trans (hb2.mono (by simp))) (Nat.le_refl _))
          have HG2 := Lib.hid ((HG1.out.alloc _).past hb2)
          clear hb2 a0 a1 a2 a3 a4
          have a0 := (HK2.out).cell 20; have a1 := (HK2.out).cell 21; have a2 := (HK2.out).cell 22; have a3 := (HK2.out).cell 23; have a4 := (HK2.out).cell 24; simp only [List.getElem?_cons_zero, List.getElem?_cons_succ] at a0 a1 a2 a3 a4
          have lt2 := HK2.out.lt
          go_wp2_with fail
          refine (Check_no 0 4294967295 0 none 0 0 3 _ (by omega) (by omega) (by omega) (by omega) (by omega) (by omega) (by omega) (by decide)).mono ?_
          rintro e w3 ⟨rfl, hb3⟩
          go_wp2
          go_roundw
          case rel => exact ⟨5, by omega, (by first | rfl | go_num), HK2.out.past hb3, HZ2.out.below hb3 (Nat.le_refl _), HG2.out.past hb3, HW2.out.trans (hb3.mono HW2.out.size)⟩
          case measure => simp [intOf]
        · as_aux_lemma =>
          have a0 := (HK.out).cell 25; have a1 := (HK.out).cell 26; have a2 := (HK.out).cell 27; have a3 := (HK.out).cell 28; have a4 := (HK.out).cell 29; simp only [List.getElem?_cons_zero, List.getElem?_cons_succ] at a0 a1 a2 a3 a4
          go_wp2_with fail
          refine (Get_no 0 4294967295 0 none 0 0 1000001 (-1) [] _ (by omega) (by omega) (by omega) (by omega) (by omega) (by omega) (.inl rfl) (by simp) (by omega) (by omega) (by simp [InB]) (by decide)).mono ?_
          rintro e w1 ⟨A1, c1, rfl, hb1⟩
          have HW1 := Lib.hid (HW.out.trans (hb1.mono HW.out.size))
          have HK1 := Lib.hid (HK.out.past hb1)
          have HZ1 := Lib.hid (HZ.out.below hb1 (Nat.le_refl _))
          have HG1 := Lib.hid (HG.out.past hb1)
          clear hb1 a0 a1 a2 a3 a4
          have a0 := (HK1.out).cell 25; have a1 := (HK1.out).cell 26; have a2 := (HK1.out).cell 27; have a3 := (HK1.out).cell 28; have a4 := (HK1.out).cell 29; simp only [List.getElem?_cons_zero, List.getElem?_cons_succ] at a0 a1 a2 a3 a4
          have lt1 := HK1.out.lt
          go_wp2_with fail
          refine (Over_no 0 4294967295 0 none 0 0 1000001 _ (by omega) (by omega) (by omega) (by omega) (by omega) (by omega) (by omega) (by decide)).mono ?_
          rintro e w2 ⟨rfl, hb2⟩
          have HW2 : Hid (Below w.heap.size w w2) := Lib.hid (by have := HW1.out; (repeat' (first | (with_reducible exact Below.refl _ _) | (with_reducible assumption) | (with_reducible refine below_drewN ?_ _) | (with_reducible refine below_new ?_ _) | (with_reducible refine Below.alloc ?_ ?_ _) | (with_reducible refine Below.drew ?_) | (with_reducible refine Below.setCell ?_ ?_ _) | (with_reducible apply below_at; (case k => (with_reducible assumption)); (case hB => omega)) | (with_reducible apply below_on; (with_reducible assumption)) | (go_size; done) | (with_reducible apply size_of))))
          have HK2 := Lib.hid ((HK1.out.alloc _).past hb2)
          have HZ2 := Lib.hid (HZ1.out.below (((Below.refl _ _).alloc (Nat.le_refl _) _).trans (hb2.mono (by simp))) (Nat.le_refl _))
          have HG2 := Lib.hid ((HG1.out.alloc _).past hb2)
          clear hb2 a0 a1 a2 a3 a4
          have a0 := (HK2.out).cell 25; have a1 := (HK2.out).cell 26; have a2 := (HK2.out).cell 27; have a3 := (HK2.out).cell 28; have a4 := (HK2.out).cell 29; simp only [List.getElem?_cons_zero, List.getElem?_cons_succ] at a0 a1 a2 a3 a4
          have lt2 := HK2.out.lt
          go_wp2_with fail
          refine (Check_no 0 4294967295 0 none 0 0 1000001 _ (by omega) (by omega) (by omega) (by omega) (by omega) (by omega) (by omega) (by decide)).mono ?_
          rintro e w3 ⟨rfl, hb3⟩
          go_wp2
          go_roundw
          case rel => exact ⟨6, by omega, (by first | rfl | go_num), HK2.out.past hb3, HZ2.out.below hb3 (Nat.le_refl _), HG2.out.past hb3, HW2.out.trans (hb3.mono HW2.out.size)⟩
          case measure => simp [intOf]
        · as_aux_lemma =>
          have a0 := (HK.out).cell 30; have a1 := (HK.out).cell 31; have a2 := (HK.out).cell 32; have a3 := (HK.out).cell 33; have a4 := (HK.out).cell 34; simp only [List.getElem?_cons_zero, List.getElem?_cons_succ] at a0 a1 a2 a3 a4
          go_wp2_with fail
          refine (Get_no 0 4294967295 0 (some ⟨wx.heap.size, 0, none⟩) 20001 20001 4 (-1) (List.replicate 20001 0) _ (by omega) (by omega) (by omega) (by omega) (by omega) (by omega) HZ.out (by simp) (by omega) (by omega) (by simp [InB]) (by decide)).mono ?_
          rintro e w1 ⟨A1, c1, rfl, hb1⟩
          have HW1 := Lib.hid (HW.out.trans (hb1.mono HW.out.size))
          have HK1 := Lib.hid (HK.out.past hb1)
          have HZ1 := Lib.hid (HZ.out.below hb1 (Nat.le_refl _))
          have HG1 := Lib.hid (HG.out.past hb1)
          clear hb1 a0 a1 a2 a3 a4
          have a0 := (HK1.out).cell 30; have a1 := (HK1.out).cell 31; have a2 := (HK1.out).cell 32; have a3 := (HK1.out).cell 33; have a4 := (HK1.out).cell 34; simp only [List.getElem?_cons_zero, List.getElem?_cons_succ] at a0 a1 a2 a3 a4
          have lt1 := HK1.out.lt
          go_wp2_with fail
          refine (Over_no 0 4294967295 0 (some ⟨wx.heap.size, 0, none⟩) 20001 20001 4 _ (by omega) (by omega) (by omega) (by omega) (by omega) (by omega) (by omega) (by decide)).mono ?_
          rintro e w2 ⟨rfl, hb2⟩
          have HW2 : Hid (Below w.heap.size w w2) := Lib.hid (by have := HW1.out; (repeat' (first | (with_reducible exact Below.refl _ _) | (with_reducible assumption) | (with_reducible refine below_drewN ?_ _) | (with_reducible refine below_new ?_ _) | (with_reducible refine Below.alloc ?_ ?_ _) | (with_reducible refine Below.drew ?_) | (with_reducible refine Below.setCell ?_ ?_ _) | (with_reducible apply below_at; (case k => (with_reducible assumption)); (case hB => omega)) | (with_reducible apply below_on; (with_reducible assumption)) | (go_size; done) | (with_reducible apply size_of))))
          have HK2 := Lib.hid ((HK1.out.alloc _).past hb2)
          have HZ2 := Lib.hid (HZ1.out.below (((Below.refl _ _).alloc (Nat.le_refl _) _).trans (hb2.mono (by simp))) (Nat.le_refl _))
          have HG2 := Lib.hid ((HG1.out.alloc _).past hb2)
          clear hb2 a0 a1 a2 a3 a4
          have a0 := (HK2.out).cell 30; have a1 := (HK2.out).cell 31; have a2 := (HK2.out).cell 32; have a3 := (HK2.out).cell 33; have a4 := (HK2.out).cell 34; simp only [List.getElem?_cons_zero, List.getElem?_cons_succ] at a0 a1 a2 a3 a4
          have lt2 := HK2.out.lt
          go_wp2_with fail
          refine (Check_no 0 4294967295 0 (some ⟨wx.heap.size, 0, none⟩) 20001 20001 4 _ (by omega) (by omega) (by omega) (by omega) (by omega) (by omega) (by omega) (by decide)).mono ?_
          rintro e w3 ⟨rfl, hb3⟩
          go_wp2
          go_roundw
          case rel => exact ⟨7, by omega, (by first | rfl | go_num), HK2.out.past hb3, HZ2.out.below hb3 (Nat.le_refl _), HG2.out.past hb3, HW2.out.trans (hb3.mono HW2.out.size)⟩
          case measure => simp [intOf]
      · obtain rfl : k = 7 := by omega
        clear HK HZ ltk
        have NV := Lib.hid nvals
        have hm := m20001
        have hi := m2001i
        go_wp2_with fail
        refine (New_bad _ 20001 20001 _ (by omega) (by omega)).mono ?_
        rintro e w1 ⟨rfl, hb1⟩
        have HW1 : Hid (Below w.heap.size w w1) := Lib.hid (by have := HW.out; (repeat' (first | (with_reducible exact Below.refl _ _) | (with_reducible assumption) | (with_reducible refine below_drewN ?_ _) | (with_reducible refine below_new ?_ _) | (with_reducible refine Below.alloc ?_ ?_ _) | (with_reducible refine Below.drew ?_) | (with_reducible refine Below.setCell ?_ ?_ _) | (with_reducible apply below_at; (case k => (with_reducible assumption)); (case hB => omega)) | (with_reducible apply below_on; (with_reducible assumption)) | (go_size; done) | (with_reducible apply size_of))))
        have HG1 := Lib.hid ((HG.out.alloc _).past hb1)
        clear hb1 HW HG
        go_wp2_with fail
        refine (New_ok _ 5 _ [1, 2, 3, 4, 5] _ (has_lit (zs := [1, 2, 3, 4, 5]) (by simp) (by decide)) rfl (by omega) (by omega) (by simp [InB])).mono ?_
        rintro e w2 ⟨A2, c2, rfl, hh2, hc2, hm2, hb2⟩
        rw [NV.out.2.2.2.2.2.2.1]
        have HW2 : Hid (Below w.heap.size w w2) := Lib.hid (by have := HW1.out; (repeat' (first | (with_reducible exact Below.refl _ _) | (with_reducible assumption) | (with_reducible refine below_drewN ?_ _) | (with_reducible refine below_new ?_ _) | (with_reducible refine Below.alloc ?_ ?_ _) | (with_reducible refine Below.drew ?_) | (with_reducible refine Below.setCell ?_ ?_ _) | (with_reducible apply below_at; (case k => (with_reducible assumption)); (case hB => omega)) | (with_reducible apply below_on; (with_reducible assumption)) | (go_size; done) | (with_reducible apply size_of))))
        have HG2 : Hid (Lies w2 w.heap.size 25 CG) := Lib.hid (by have := HG1.out; (repeat' (first | (with_reducible assumption) | (with_reducible exact Lies.fresh _ _ _) | (with_reducible apply Lies.fresh_at; (first | (with_reducible rfl) | (simp; done))) | (with_reducible refine Lies.drew ?_) | (with_reducible refine Lies.drewN ?_ _) | (with_reducible refine Lies.alloc ?_ _) | (with_reducible apply Lies.past; case hb => (with_reducible assumption)) | (with_reducible apply Lies.keeps; (case k => (with_reducible assumption)); (case ht => decide)) | (with_reducible apply Lies.store3) | (with_reducible apply Lies.other; case hp => (first | omega | (simp; done) | (simp; omega))))))
        clear hb2 hh2 HW1 HG1
        go_wp2_with fail
        refine (Over_any 0 4294967295 16909060 A2 5 c2 4 _ (by omega) (by omega) (by omega) (by omega) (by omega) (by omega) (by omega)).mono ?_
        rintro e w3 ⟨rfl, hb3⟩
        rw [NV.out.2.2.2.2.2.2.2.1, NV.out.2.2.2.2.2.2.2.2.1]
        have HX3 : Hid (Lies (w3) (w2.heap.size) 25 [.int .u32 0, .int .u32 4294967295, .int .u32 16909060, .slice A2 5 c2, .int .i64 4]) := Lib.hid (by (repeat' (first | (with_reducible assumption) | (with_reducible exact Lies.fresh _ _ _) | (with_reducible apply Lies.fresh_at; (first | (with_reducible rfl) | (simp; done))) | (with_reducible refine Lies.drew ?_) | (with_reducible refine Lies.drewN ?_ _) | (with_reducible refine Lies.alloc ?_ _) | (with_reducible apply Lies.past; case hb => (with_reducible assumption)) | (with_reducible apply Lies.keeps; (case k => (with_reducible assumption)); (case ht => decide)) | (with_reducible apply Lies.store3) | (with_reducible apply Lies.other; case hp => (first | omega | (simp; done) | (simp; omega))))))
        have HW3 : Hid (Below w.heap.size w w3) := Lib.hid (by have := HW2.out; (repeat' (first | (with_reducible exact Below.refl _ _) | (with_reducible assumption) | (with_reducible refine below_drewN ?_ _) | (with_reducible refine below_new ?_ _) | (with_reducible refine Below.alloc ?_ ?_ _) | (with_reducible refine Below.drew ?_) | (with_reducible refine Below.setCell ?_ ?_ _) | (with_reducible apply below_at; (case k => (with_reducible assumption)); (case hB => omega)) | (with_reducible apply below_on; (with_reducible assumption)) | (go_size; done) | (with_reducible apply size_of))))
        have HG3 : Hid (Lies w3 w.heap.size 25 CG) := Lib.hid (by have := HG2.out; (repeat' (first | (with_reducible assumption) | (with_reducible exact Lies.fresh _ _ _) | (with_reducible apply Lies.fresh_at; (first | (with_reducible rfl) | (simp; done))) | (with_reducible refine Lies.drew ?_) | (with_reducible refine Lies.drewN ?_ _) | (with_reducible refine Lies.alloc ?_ _) | (with_reducible apply Lies.past; case hb => (with_reducible assumption)) | (with_reducible apply Lies.keeps; (case k => (with_reducible assumption)); (case ht => decide)) | (with_reducible apply Lies.store3) | (with_reducible apply Lies.other; case hp => (first | omega | (simp; done) | (simp; omega))))))
        clear hb3 HW2 HG2
        obtain ⟨⟨p0, p1, p2, p3, p4⟩, _⟩ := five HG3.out
        have lg3 := HG3.out.lt
        go_wp2_with fail
        refine (Get_e 0 4294967295 0 none 0 0 4 4096 [] 2 _ (by omega) (by omega) (by omega) (by omega) (by omega) (by omega) (.inl rfl) rfl (by omega) (by omega) (by simp [InB]) NV.out.1 (by omega)).mono ?_
        rintro e w4 ⟨A4, c4, rfl, hb4⟩
        have HX4 := Lib.hid (HX3.out.past hb4)
        have HW4 := Lib.hid (HW3.out.trans (hb4.mono HW3.out.size))
        have HG4 := Lib.hid (HG3.out.past hb4)
        clear hb4 HX3 HW3 HG3 p0 p1 p2 p3 p4 lg3
        obtain ⟨⟨p0, p1, p2, p3, p4⟩, _⟩ := five HG4.out
        have lg4 := HG4.out.lt
        go_wp2_with fail
        refine (Get_e 0 4294967295 0 none 0 0 4 (-1) [] 2 _ (by omega) (by omega) (by omega) (by omega) (by omega) (by omega) (.inl rfl) rfl (by omega) (by omega) (by simp [InB]) NV.out.2.1 (by omega)).mono ?_
        rintro e w5 ⟨A5, c5, rfl, hb5⟩
        have HX5 := Lib.hid ((HX4.out.alloc _).past hb5)
        have HW5 : Hid (Below w.heap.size w w5) := Lib.hid (by have := HW4.out; (repeat' (first | (with_reducible exact Below.refl _ _) | (with_reducible assumption) | (with_reducible refine below_drewN ?_ _) | (with_reducible refine below_new ?_ _) | (with_reducible refine Below.alloc ?_ ?_ _) | (with_reducible refine Below.drew ?_) | (with_reducible refine Below.setCell ?_ ?_ _) | (with_reducible apply below_at; (case k => (with_reducible assumption)); (case hB => omega)) | (with_reducible apply below_on; (with_reducible assumption)) | (go_size; done) | (with_reducible apply size_of))))
        clear hb5 HX4 HW4 HG4 p0 p1 p2 p3 p4 lg4
        go_wp2_with fail
        refine (Get_e 16777215 16777216 16777215 none 0 0 999998 0 [] 4 _ (by omega) (by omega) (by omega) (by omega) (by omega) (by omega) (.inl rfl) rfl (by omega) (by omega) (by simp [InB]) NV.out.2.2.1 (by omega)).mono ?_
        rintro e w6 ⟨A6, c6, rfl, hb6⟩
        have HX6 : Hid (Lies (w6) (w2.heap.size) 25 [.int .u32 0, .int .u32 4294967295, .int .u32 16909060, .slice A2 5 c2, .int .i64 4]) := Lib.hid (by have := HX5.out; (repeat' (first | (with_reducible assumption) | (with_reducible exact Lies.fresh _ _ _) | (with_reducible apply Lies.fresh_at; (first | (with_reducible rfl) | (simp; done))) | (with_reducible refine Lies.drew ?_) | (with_reducible refine Lies.drewN ?_ _) | (with_reducible refine Lies.alloc ?_ _) | (with_reducible apply Lies.past; case hb => (with_reducible assumption)) | (with_reducible apply Lies.keeps; (case k => (with_reducible assumption)); (case ht => decide)) | (with_reducible apply Lies.store3) | (with_reducible apply Lies.other; case hp => (first | omega | (simp; done) | (simp; omega))))))
        have HL6 : Hid (Lies (w6) (w5.heap.size + 1) 25 [.int .u32 16777215, .int .u32 16777216, .int .u32 16777215, .slice none 0 0, .int .i64 999998]) := Lib.hid (by (repeat' (first | (with_reducible assumption) | (with_reducible exact Lies.fresh _ _ _) | (with_reducible apply Lies.fresh_at; (first | (with_reducible rfl) | (simp; done))) | (with_reducible refine Lies.drew ?_) | (with_reducible refine Lies.drewN ?_ _) | (with_reducible refine Lies.alloc ?_ _) | (with_reducible apply Lies.past; case hb => (with_reducible assumption)) | (with_reducible apply Lies.keeps; (case k => (with_reducible assumption)); (case ht => decide)) | (with_reducible apply Lies.store3) | (with_reducible apply Lies.other; case hp => (first | omega | (simp; done) | (simp; omega))))))
        have HW6 : Hid (Below w.heap.size w w6) := Lib.hid (by have := HW5.out; (repeat' (first | (with_reducible exact Below.refl _ _) | (with_reducible assumption) | (with_reducible refine below_drewN ?_ _) | (with_reducible refine below_new ?_ _) | (with_reducible refine Below.alloc ?_ ?_ _) | (with_reducible refine Below.drew ?_) | (with_reducible refine Below.setCell ?_ ?_ _) | (with_reducible apply below_at; (case k => (with_reducible assumption)); (case hB => omega)) | (with_reducible apply below_on; (with_reducible assumption)) | (go_size; done) | (with_reducible apply size_of))))
        have hx5 := HX5.out.lt
        have hw5 := HW5.out.size
        clear hb6 HX5 HW5
        obtain ⟨⟨p0, p1, p2, p3, p4⟩, f0, f1, f2, f3, f4⟩ := five HL6.out
        have ll6 := HL6.out.lt
        go_wp2_with fail
        refine (Get_any 16777215 16777216 16777215 none 0 0 999996 0 [] _ (by omega) (by omega) (by omega) (by omega) (by omega) (by omega) (.inl rfl) rfl (by omega) (by omega) (by simp [InB])).mono ?_
        rintro e w7 ⟨A7, c7, rfl, hh7, hc7, hm7, hb7⟩
        rw [NV.out.2.2.2.2.1, NV.out.2.2.2.2.2.1, NV.out.2.2.2.1]
        have HX7 : Hid (Lies (w7) (w2.heap.size) 25 [.int .u32 0, .int .u32 4294967295, .int .u32 16909060, .slice A2 5 c2, .int .i64 4]) := Lib.hid (by have := HX6.out; (repeat' (first | (with_reducible assumption) | (with_reducible exact Lies.fresh _ _ _) | (with_reducible apply Lies.fresh_at; (first | (with_reducible rfl) | (simp; done))) | (with_reducible refine Lies.drew ?_) | (with_reducible refine Lies.drewN ?_ _) | (with_reducible refine Lies.alloc ?_ _) | (with_reducible apply Lies.past; case hb => (with_reducible assumption)) | (with_reducible apply Lies.keeps; (case k => (with_reducible assumption)); (case ht => decide)) | (with_reducible apply Lies.store3) | (with_reducible apply Lies.other; case hp => (first | omega | (simp; done) | (simp; omega))))))
        have HW7 : Hid (Below w.heap.size w w7) := Lib.hid (by have := HW6.out; (repeat' (first | (with_reducible exact Below.refl _ _) | (with_reducible assumption) | (with_reducible refine below_drewN ?_ _) | (with_reducible refine below_new ?_ _) | (with_reducible refine Below.alloc ?_ ?_ _) | (with_reducible refine Below.drew ?_) | (with_reducible refine Below.setCell ?_ ?_ _) | (with_reducible apply below_at; (case k => (with_reducible assumption)); (case hB => omega)) | (with_reducible apply below_on; (with_reducible assumption)) | (go_size; done) | (with_reducible apply size_of))))
        clear hb7 hh7 HX6 HW6 HL6 p0 p1 p2 p3 p4 f0 f1 f2 f3 f4 ll6
        go_wp2_with fail
        refine (RunD_e _ _ 20001 20001 1 1 (List.replicate 20001 0) [-1] 4 _ ((has_z _ _ 20001 (by decide) (by simp)).below ((Below.refl _ _).alloc (Nat.le_refl _) _) (Nat.le_refl _)) (by simp) (by omega) (by omega) (by simp [InB]) (has_lit (zs := [-1]) (by simp) (by decide)) rfl (by omega) (by rw [drE, if_pos (by omega)]) (by omega)).mono ?_
        rintro e w8 ⟨A8, c8, rfl, hb8⟩
        have HX8 : Hid (Lies (w8) (w2.heap.size) 25 [.int .u32 0, .int .u32 4294967295, .int .u32 16909060, .slice A2 5 c2, .int .i64 4]) := Lib.hid (by have := HX7.out; (repeat' (first | (with_reducible assumption) | (with_reducible exact Lies.fresh _ _ _) | (with_reducible apply Lies.fresh_at; (first | (with_reducible rfl) | (simp; done))) | (with_reducible refine Lies.drew ?_) | (with_reducible refine Lies.drewN ?_ _) | (with_reducible refine Lies.alloc ?_ _) | (with_reducible apply Lies.past; case hb => (with_reducible assumption)) | (with_reducible apply Lies.keeps; (case k => (with_reducible assumption)); (case ht => decide)) | (with_reducible apply Lies.store3) | (with_reducible apply Lies.other; case hp => (first | omega | (simp; done) | (simp; omega))))))
        have HY8 : Hid (Lies (w8) (w7.heap.size) 25 [.int .u32 0, .int .u32 4294967295, .int .u32 0, .slice A7 0 c7, .int .i64 1000000]) := Lib.hid (by (repeat' (first | (with_reducible assumption) | (with_reducible exact Lies.fresh _ _ _) | (with_reducible apply Lies.fresh_at; (first | (with_reducible rfl) | (simp; done))) | (with_reducible refine Lies.drew ?_) | (with_reducible refine Lies.drewN ?_ _) | (with_reducible refine Lies.alloc ?_ _) | (with_reducible apply Lies.past; case hb => (with_reducible assumption)) | (with_reducible apply Lies.keeps; (case k => (with_reducible assumption)); (case ht => decide)) | (with_reducible apply Lies.store3) | (with_reducible apply Lies.other; case hp => (first | omega | (simp; done) | (simp; omega))))))
        have HW8 : Hid (Below w.heap.size w w8) := Lib.hid (by have := HW7.out; (repeat' (first | (with_reducible exact Below.refl _ _) | (with_reducible assumption) | (with_reducible refine below_drewN ?_ _) | (with_reducible refine below_new ?_ _) | (with_reducible refine Below.alloc ?_ ?_ _) | (with_reducible refine Below.drew ?_) | (with_reducible refine Below.setCell ?_ ?_ _) | (with_reducible apply below_at; (case k => (with_reducible assumption)); (case hB => omega)) | (with_reducible apply below_on; (with_reducible assumption)) | (go_size; done) | (with_reducible apply size_of))))
        clear hb8 HX7 HW7 hm
        go_wp2_with fail
        refine (RunD_e none _ 0 0 2001 2001 [] (List.replicate 2001 0) 4 _ (.inl rfl) rfl (by omega) (by omega) (by simp [InB]) (has_i _ _ 2001 (by decide) rfl) (by simp) (by omega) (by rw [drE, if_neg (by omega), rnE, if_pos (by simp)]) (by omega)).mono ?_
        rintro e w9 ⟨A9, c9, rfl, hb9⟩
        have HX9 := Lib.hid ((HX8.out.alloc _).past hb9)
        have HY9 := Lib.hid ((HY8.out.alloc _).past hb9)
        have HW9 : Hid (Below w.heap.size w w9) := Lib.hid (by have := HW8.out; (repeat' (first | (with_reducible exact Below.refl _ _) | (with_reducible assumption) | (with_reducible refine below_drewN ?_ _) | (with_reducible refine below_new ?_ _) | (with_reducible refine Below.alloc ?_ ?_ _) | (with_reducible refine Below.drew ?_) | (with_reducible refine Below.setCell ?_ ?_ _) | (with_reducible apply below_at; (case k => (with_reducible assumption)); (case hB => omega)) | (with_reducible apply below_on; (with_reducible assumption)) | (go_size; done) | (with_reducible apply size_of))))
        clear hb9 HX8 HY8 HW8 hi
        go_wp2_with fail
        refine (RunD_e none _ 0 0 1 1 [] [4096] 2 _ (.inl rfl) rfl (by omega) (by omega) (by simp [InB]) (has_lit (zs := [4096]) rfl (by decide)) rfl (by omega) NV.out.2.2.2.2.2.2.2.2.2.1 (by omega)).mono ?_
        rintro e w10 ⟨A10, c10, rfl, hb10⟩
        have HX10 := Lib.hid ((HX9.out.alloc _).past hb10)
        have HY10 := Lib.hid ((HY9.out.alloc _).past hb10)
        have HW10 : Hid (Below w.heap.size w w10) := Lib.hid (by have := HW9.out; (repeat' (first | (with_reducible exact Below.refl _ _) | (with_reducible assumption) | (with_reducible refine below_drewN ?_ _) | (with_reducible refine below_new ?_ _) | (with_reducible refine Below.alloc ?_ ?_ _) | (with_reducible refine Below.drew ?_) | (with_reducible refine Below.setCell ?_ ?_ _) | (with_reducible apply below_at; (case k => (with_reducible assumption)); (case hB => omega)) | (with_reducible apply below_on; (with_reducible assumption)) | (go_size; done) | (with_reducible apply size_of))))
        clear hb10 HX9 HY9 HW9
        go_wp2_with fail
        refine (RunD_any none none 0 0 0 0 [] [] _ (.inl rfl) rfl (by omega) (by omega) (by simp [InB]) (.inl rfl) rfl (by omega)).mono ?_
        rintro e w11 ⟨A11, c11, rfl, hh11, hc11, hb11⟩
        rw [NV.out.2.2.2.2.2.2.2.2.2.2.2, NV.out.2.2.2.2.2.2.2.2.2.2.1]
        have HX11 := Lib.hid (HX10.out.past hb11)
        have HY11 := Lib.hid (HY10.out.past hb11)
        have HW11 := Lib.hid (HW10.out.trans (hb11.mono HW10.out.size))
        clear hb11 hh11 hc11 HX10 HY10 HW10 NV
        go_wp2_with (go_at_call 21; refine (alive _).mono ?_; rintro e w12 ⟨rfl, hb12⟩; have HX12 := HX11.out.past hb12; have HY12 := HY11.out.past hb12; obtain ⟨⟨p0, p1, p2, p3, p4⟩, _⟩ := five HX12; obtain ⟨⟨q0, q1, q2, q3, q4⟩, _⟩ := five HY12)
        go_ret
        exact ⟨rfl, by have := HW11.out; (repeat' (first | (with_reducible exact Below.refl _ _) | (with_reducible assumption) | (with_reducible refine below_drewN ?_ _) | (with_reducible refine below_new ?_ _) | (with_reducible refine Below.alloc ?_ ?_ _) | (with_reducible refine Below.drew ?_) | (with_reducible refine Below.setCell ?_ ?_ _) | (with_reducible apply below_at; (case k => (with_reducible assumption)); (case hB => omega)) | (with_reducible apply below_on; (with_reducible assumption)) | (go_size; done) | (with_reducible apply size_of)))⟩
  case step =>
    rintro l a wx i ⟨b0, b1, b2, b3, b4, b5, b6, b7, b8, b9, b10, b11, b12, b13, b14, b15, b16, b17, q0, q1, q2, q3, q4, q5, v0, v1, v2, v3, v4, v5, g, rfl, rfl, hI⟩ hi
    obtain ⟨h1, h2, h3⟩ := mem_ready hi
    clear hi
    have h18 : i < 18 := h1
    rcases (show i = 0 ∨ i = 1 ∨ i = 2 ∨ i = 3 ∨ i = 4 ∨ i = 5 ∨ i = 6 ∨ i = 7 ∨ i = 8 ∨ i = 9 ∨ i = 10 ∨ i = 11 ∨ i = 12 ∨ i = 13 ∨ i = 14 ∨ i = 15 ∨ i = 16 ∨ i = 17 by omega) with rfl | rfl | rfl | rfl | rfl | rfl | rfl | rfl | rfl | rfl | rfl | rfl | rfl | rfl | rfl | rfl | rfl | rfl
    · obtain ⟨⟨p0, p1, p2, p3, p4⟩, f0, f1, f2, f3, f4⟩ := five hI.gd
      refine wpOp_of rfl (fun K hK => ?_)
      go_simp
      refine hK _ _ ?_
      exact ⟨true, b1, b2, b3, b4, b5, b6, b7, b8, b9, b10, b11, b12, b13, b14, b15, b16, b17, q0, q1, q2, q3, q4, q5, G0, v1, v2, v3, v4, v5, g, rfl, rfl, { ld0 := fun _ => rfl, ld1 := hI.ld1, ld2 := hI.ld2, ld3 := hI.ld3, ld4 := hI.ld4, ld5 := hI.ld5, al0 := hI.al0, al1 := hI.al1, al2 := hI.al2, al3 := hI.al3, al4 := hI.al4, al5 := hI.al5, st := hI.st, df := hI.df, gd := hI.gd, bl := hI.bl }⟩
    · obtain ⟨⟨p0, p1, p2, p3, p4⟩, f0, f1, f2, f3, f4⟩ := five hI.gd
      refine wpOp_of rfl (fun K hK => ?_)
      go_simp
      refine hK _ _ ?_
      exact ⟨b0, true, b2, b3, b4, b5, b6, b7, b8, b9, b10, b11, b12, b13, b14, b15, b16, b17, q0, q1, q2, q3, q4, q5, v0, G0, v2, v3, v4, v5, g, rfl, rfl, { ld0 := hI.ld0, ld1 := fun _ => rfl, ld2 := hI.ld2, ld3 := hI.ld3, ld4 := hI.ld4, ld5 := hI.ld5, al0 := hI.al0, al1 := hI.al1, al2 := hI.al2, al3 := hI.al3, al4 := hI.al4, al5 := hI.al5, st := hI.st, df := hI.df, gd := hI.gd, bl := hI.bl }⟩
    · obtain ⟨⟨p0, p1, p2, p3, p4⟩, f0, f1, f2, f3, f4⟩ := five hI.gd
      refine wpOp_of rfl (fun K hK => ?_)
      go_simp
      refine hK _ _ ?_
      exact ⟨b0, b1, true, b3, b4, b5, b6, b7, b8, b9, b10, b11, b12, b13, b14, b15, b16, b17, q0, q1, q2, q3, q4, q5, v0, v1, G0, v3, v4, v5, g, rfl, rfl, { ld0 := hI.ld0, ld1 := hI.ld1, ld2 := fun _ => rfl, ld3 := hI.ld3, ld4 := hI.ld4, ld5 := hI.ld5, al0 := hI.al0, al1 := hI.al1, al2 := hI.al2, al3 := hI.al3, al4 := hI.al4, al5 := hI.al5, st := hI.st, df := hI.df, gd := hI.gd, bl := hI.bl }⟩
    · obtain ⟨⟨p0, p1, p2, p3, p4⟩, f0, f1, f2, f3, f4⟩ := five hI.gd
      refine wpOp_of rfl (fun K hK => ?_)
      go_simp
      refine hK _ _ ?_
      exact ⟨b0, b1, b2, true, b4, b5, b6, b7, b8, b9, b10, b11, b12, b13, b14, b15, b16, b17, q0, q1, q2, q3, q4, q5, v0, v1, v2, G0, v4, v5, g, rfl, rfl, { ld0 := hI.ld0, ld1 := hI.ld1, ld2 := hI.ld2, ld3 := fun _ => rfl, ld4 := hI.ld4, ld5 := hI.ld5, al0 := hI.al0, al1 := hI.al1, al2 := hI.al2, al3 := hI.al3, al4 := hI.al4, al5 := hI.al5, st := hI.st, df := hI.df, gd := hI.gd, bl := hI.bl }⟩
    · obtain ⟨⟨p0, p1, p2, p3, p4⟩, f0, f1, f2, f3, f4⟩ := five hI.gd
      refine wpOp_of rfl (fun K hK => ?_)
      go_simp
      refine hK _ _ ?_
      exact ⟨b0, b1, b2, b3, true, b5, b6, b7, b8, b9, b10, b11, b12, b13, b14, b15, b16, b17, q0, q1, q2, q3, q4, q5, v0, v1, v2, v3, G0, v5, g, rfl, rfl, { ld0 := hI.ld0, ld1 := hI.ld1, ld2 := hI.ld2, ld3 := hI.ld3, ld4 := fun _ => rfl, ld5 := hI.ld5, al0 := hI.al0, al1 := hI.al1, al2 := hI.al2, al3 := hI.al3, al4 := hI.al4, al5 := hI.al5, st := hI.st, df := hI.df, gd := hI.gd, bl := hI.bl }⟩
    · obtain ⟨⟨p0, p1, p2, p3, p4⟩, f0, f1, f2, f3, f4⟩ := five hI.gd
      refine wpOp_of rfl (fun K hK => ?_)
      go_simp
      refine hK _ _ ?_
      exact ⟨b0, b1, b2, b3, b4, true, b6, b7, b8, b9, b10, b11, b12, b13, b14, b15, b16, b17, q0, q1, q2, q3, q4, q5, v0, v1, v2, v3, v4, G0, g, rfl, rfl, { ld0 := hI.ld0, ld1 := hI.ld1, ld2 := hI.ld2, ld3 := hI.ld3, ld4 := hI.ld4, ld5 := fun _ => rfl, al0 := hI.al0, al1 := hI.al1, al2 := hI.al2, al3 := hI.al3, al4 := hI.al4, al5 := hI.al5, st := hI.st, df := hI.df, gd := hI.gd, bl := hI.bl }⟩
    · have h2' : b6 = false := h2
      subst h2'
      have hb : ¬ b12 = true := fun h => by have := hI.st.1 h; cases this
      have hs : w.heap.size + 1 ≤ wx.heap.size := hI.gd.lt
      refine wpOp_of rfl (fun K hK => ?_)
      go_simp
      refine hK _ _ ?_
      exact ⟨b0, b1, b2, b3, b4, b5, true, b7, b8, b9, b10, b11, b12, b13, b14, b15, b16, b17, .pointer (some ⟨wx.heap.size, 0, none⟩), q1, q2, q3, q4, q5, v0, v1, v2, v3, v4, v5, fun j => if j = 0 then wx.heap.size else g j, rfl, rfl, { ld0 := hI.ld0, ld1 := hI.ld1, ld2 := hI.ld2, ld3 := hI.ld3, ld4 := hI.ld4, ld5 := hI.ld5, al0 := fun _ => ⟨rfl, hs, by rw [if_neg hb]; exact Lies.fresh _ _ _⟩, al1 := fun h => ⟨(hI.al1 h).1, (hI.al1 h).2.1, (hI.al1 h).2.2.alloc _⟩, al2 := fun h => ⟨(hI.al2 h).1, (hI.al2 h).2.1, (hI.al2 h).2.2.alloc _⟩, al3 := fun h => ⟨(hI.al3 h).1, (hI.al3 h).2.1, (hI.al3 h).2.2.alloc _⟩, al4 := fun h => ⟨(hI.al4 h).1, (hI.al4 h).2.1, (hI.al4 h).2.2.alloc _⟩, al5 := fun h => ⟨(hI.al5 h).1, (hI.al5 h).2.1, (hI.al5 h).2.2.alloc _⟩, st := ⟨fun _ => rfl, hI.st.2.1, hI.st.2.2.1, hI.st.2.2.2.1, hI.st.2.2.2.2.1, hI.st.2.2.2.2.2⟩, df := ⟨fun _ h => Nat.ne_of_gt (hI.al1 h).2.2.lt, fun _ h => Nat.ne_of_gt (hI.al2 h).2.2.lt, fun _ h => Nat.ne_of_gt (hI.al3 h).2.2.lt, fun _ h => Nat.ne_of_gt (hI.al4 h).2.2.lt, fun _ h => Nat.ne_of_gt (hI.al5 h).2.2.lt, hI.df.2.2.2.2.2.1, hI.df.2.2.2.2.2.2.1, hI.df.2.2.2.2.2.2.2.1, hI.df.2.2.2.2.2.2.2.2.1, hI.df.2.2.2.2.2.2.2.2.2.1, hI.df.2.2.2.2.2.2.2.2.2.2.1, hI.df.2.2.2.2.2.2.2.2.2.2.2.1, hI.df.2.2.2.2.2.2.2.2.2.2.2.2.1, hI.df.2.2.2.2.2.2.2.2.2.2.2.2.2.1, hI.df.2.2.2.2.2.2.2.2.2.2.2.2.2.2⟩, gd := hI.gd.alloc _, bl := hI.bl.alloc hI.bl.size _ }⟩
    · have h2' : b7 = false := h2
      subst h2'
      have hb : ¬ b13 = true := fun h => by have := hI.st.2.1 h; cases this
      have hs : w.heap.size + 1 ≤ wx.heap.size := hI.gd.lt
      refine wpOp_of rfl (fun K hK => ?_)
      go_simp
      refine hK _ _ ?_
      exact ⟨b0, b1, b2, b3, b4, b5, b6, true, b8, b9, b10, b11, b12, b13, b14, b15, b16, b17, q0, .pointer (some ⟨wx.heap.size, 0, none⟩), q2, q3, q4, q5, v0, v1, v2, v3, v4, v5, fun j => if j = 1 then wx.heap.size else g j, rfl, rfl, { ld0 := hI.ld0, ld1 := hI.ld1, ld2 := hI.ld2, ld3 := hI.ld3, ld4 := hI.ld4, ld5 := hI.ld5, al0 := fun h => ⟨(hI.al0 h).1, (hI.al0 h).2.1, (hI.al0 h).2.2.alloc _⟩, al1 := fun _ => ⟨rfl, hs, by rw [if_neg hb]; exact Lies.fresh _ _ _⟩, al2 := fun h => ⟨(hI.al2 h).1, (hI.al2 h).2.1, (hI.al2 h).2.2.alloc _⟩, al3 := fun h => ⟨(hI.al3 h).1, (hI.al3 h).2.1, (hI.al3 h).2.2.alloc _⟩, al4 := fun h => ⟨(hI.al4 h).1, (hI.al4 h).2.1, (hI.al4 h).2.2.alloc _⟩, al5 := fun h => ⟨(hI.al5 h).1, (hI.al5 h).2.1, (hI.al5 h).2.2.alloc _⟩, st := ⟨hI.st.1, fun _ => rfl, hI.st.2.2.1, hI.st.2.2.2.1, hI.st.2.2.2.2.1, hI.st.2.2.2.2.2⟩, df := ⟨fun h _ => Nat.ne_of_lt (hI.al0 h).2.2.lt, hI.df.2.1, hI.df.2.2.1, hI.df.2.2.2.1, hI.df.2.2.2.2.1, fun _ h => Nat.ne_of_gt (hI.al2 h).2.2.lt, fun _ h => Nat.ne_of_gt (hI.al3 h).2.2.lt, fun _ h => Nat.ne_of_gt (hI.al4 h).2.2.lt, fun _ h => Nat.ne_of_gt (hI.al5 h).2.2.lt, hI.df.2.2.2.2.2.2.2.2.2.1, hI.df.2.2.2.2.2.2.2.2.2.2.1, hI.df.2.2.2.2.2.2.2.2.2.2.2.1, hI.df.2.2.2.2.2.2.2.2.2.2.2.2.1, hI.df.2.2.2.2.2.2.2.2.2.2.2.2.2.1, hI.df.2.2.2.2.2.2.2.2.2.2.2.2.2.2⟩, gd := hI.gd.alloc _, bl := hI.bl.alloc hI.bl.size _ }⟩
    · have h2' : b8 = false := h2
      subst h2'
      have hb : ¬ b14 = true := fun h => by have := hI.st.2.2.1 h; cases this
      have hs : w.heap.size + 1 ≤ wx.heap.size := hI.gd.lt
      refine wpOp_of rfl (fun K hK => ?_)
      go_simp
      refine hK _ _ ?_
      exact ⟨b0, b1, b2, b3, b4, b5, b6, b7, true, b9, b10, b11, b12, b13, b14, b15, b16, b17, q0, q1, .pointer (some ⟨wx.heap.size, 0, none⟩), q3, q4, q5, v0, v1, v2, v3, v4, v5, fun j => if j = 2 then wx.heap.size else g j, rfl, rfl, { ld0 := hI.ld0, ld1 := hI.ld1, ld2 := hI.ld2, ld3 := hI.ld3, ld4 := hI.ld4, ld5 := hI.ld5, al0 := fun h => ⟨(hI.al0 h).1, (hI.al0 h).2.1, (hI.al0 h).2.2.alloc _⟩, al1 := fun h => ⟨(hI.al1 h).1, (hI.al1 h).2.1, (hI.al1 h).2.2.alloc _⟩, al2 := fun _ => ⟨rfl, hs, by rw [if_neg hb]; exact Lies.fresh _ _ _⟩, al3 := fun h => ⟨(hI.al3 h).1, (hI.al3 h).2.1, (hI.al3 h).2.2.alloc _⟩, al4 := fun h => ⟨(hI.al4 h).1, (hI.al4 h).2.1, (hI.al4 h).2.2.alloc _⟩, al5 := fun h => ⟨(hI.al5 h).1, (hI.al5 h).2.1, (hI.al5 h).2.2.alloc _⟩, st := ⟨hI.st.1, hI.st.2.1, fun _ => rfl, hI.st.2.2.2.1, hI.st.2.2.2.2.1, hI.st.2.2.2.2.2⟩, df := ⟨hI.df.1, fun h _ => Nat.ne_of_lt (hI.al0 h).2.2.lt, hI.df.2.2.1, hI.df.2.2.2.1, hI.df.2.2.2.2.1, fun h _ => Nat.ne_of_lt (hI.al1 h).2.2.lt, hI.df.2.2.2.2.2.2.1, hI.df.2.2.2.2.2.2.2.1, hI.df.2.2.2.2.2.2.2.2.1, fun _ h => Nat.ne_of_gt (hI.al3 h).2.2.lt, fun _ h => Nat.ne_of_gt (hI.al4 h).2.2.lt, fun _ h => Nat.ne_of_gt (hI.al5 h).2.2.lt, hI.df.2.2.2.2.2.2.2.2.2.2.2.2.1, hI.df.2.2.2.2.2.2.2.2.2.2.2.2.2.1, hI.df.2.2.2.2.2.2.2.2.2.2.2.2.2.2⟩, gd := hI.gd.alloc _, bl := hI.bl.alloc hI.bl.size _ }⟩
    · have h2' : b9 = false := h2
      subst h2'
      have hb : ¬ b15 = true := fun h => by have := hI.st.2.2.2.1 h; cases this
      have hs : w.heap.size + 1 ≤ wx.heap.size := hI.gd.lt
      refine wpOp_of rfl (fun K hK => ?_)
      go_simp
      refine hK _ _ ?_
      exact ⟨b0, b1, b2, b3, b4, b5, b6, b7, b8, true, b10, b11, b12, b13, b14, b15, b16, b17, q0, q1, q2, .pointer (some ⟨wx.heap.size, 0, none⟩), q4, q5, v0, v1, v2, v3, v4, v5, fun j => if j = 3 then wx.heap.size else g j, rfl, rfl, { ld0 := hI.ld0, ld1 := hI.ld1, ld2 := hI.ld2, ld3 := hI.ld3, ld4 := hI.ld4, ld5 := hI.ld5, al0 := fun h => ⟨(hI.al0 h).1, (hI.al0 h).2.1, (hI.al0 h).2.2.alloc _⟩, al1 := fun h => ⟨(hI.al1 h).1, (hI.al1 h).2.1, (hI.al1 h).2.2.alloc _⟩, al2 := fun h => ⟨(hI.al2 h).1, (hI.al2 h).2.1, (hI.al2 h).2.2.alloc _⟩, al3 := fun _ => ⟨rfl, hs, by rw [if_neg hb]; exact Lies.fresh _ _ _⟩, al4 := fun h => ⟨(hI.al4 h).1, (hI.al4 h).2.1, (hI.al4 h).2.2.alloc _⟩, al5 := fun h => ⟨(hI.al5 h).1, (hI.al5 h).2.1, (hI.al5 h).2.2.alloc _⟩, st := ⟨hI.st.1, hI.st.2.1, hI.st.2.2.1, fun _ => rfl, hI.st.2.2.2.2.1, hI.st.2.2.2.2.2⟩, df := ⟨hI.df.1, hI.df.2.1, fun h _ => Nat.ne_of_lt (hI.al0 h).2.2.lt, hI.df.2.2.2.1, hI.df.2.2.2.2.1, hI.df.2.2.2.2.2.1, fun h _ => Nat.ne_of_lt (hI.al1 h).2.2.lt, hI.df.2.2.2.2.2.2.2.1, hI.df.2.2.2.2.2.2.2.2.1, fun h _ => Nat.ne_of_lt (hI.al2 h).2.2.lt, hI.df.2.2.2.2.2.2.2.2.2.2.1, hI.df.2.2.2.2.2.2.2.2.2.2.2.1, fun _ h => Nat.ne_of_gt (hI.al4 h).2.2.lt, fun _ h => Nat.ne_of_gt (hI.al5 h).2.2.lt, hI.df.2.2.2.2.2.2.2.2.2.2.2.2.2.2⟩, gd := hI.gd.alloc _, bl := hI.bl.alloc hI.bl.size _ }⟩
    · have h2' : b10 = false := h2
      subst h2'
      have hb : ¬ b16 = true := fun h => by have := hI.st.2.2.2.2.1 h; cases this
      have hs : w.heap.size + 1 ≤ wx.heap.size := hI.gd.lt
      refine wpOp_of rfl (fun K hK => ?_)
      go_simp
      refine hK _ _ ?_
      exact ⟨b0, b1, b2, b3, b4, b5, b6, b7, b8, b9, true, b11, b12, b13, b14, b15, b16, b17, q0, q1, q2, q3, .pointer (some ⟨wx.heap.size, 0, none⟩), q5, v0, v1, v2, v3, v4, v5, fun j => if j = 4 then wx.heap.size else g j, rfl, rfl, { ld0 := hI.ld0, ld1 := hI.ld1, ld2 := hI.ld2, ld3 := hI.ld3, ld4 := hI.ld4, ld5 := hI.ld5, al0 := fun h => ⟨(hI.al0 h).1, (hI.al0 h).2.1, (hI.al0 h).2.2.alloc _⟩, al1 := fun h => ⟨(hI.al1 h).1, (hI.al1 h).2.1, (hI.al1 h).2.2.alloc _⟩, al2 := fun h => ⟨(hI.al2 h).1, (hI.al2 h).2.1, (hI.al2 h).2.2.alloc _⟩, al3 := fun h => ⟨(hI.al3 h).1, (hI.al3 h).2.1, (hI.al3 h).2.2.alloc _⟩, al4 := fun _ => ⟨rfl, hs, by rw [if_neg hb]; exact Lies.fresh _ _ _⟩, al5 := fun h => ⟨(hI.al5 h).1, (hI.al5 h).2.1, (hI.al5 h).2.2.alloc _⟩, st := ⟨hI.st.1, hI.st.2.1, hI.st.2.2.1, hI.st.2.2.2.1, fun _ => rfl, hI.st.2.2.2.2.2⟩, df := ⟨hI.df.1, hI.df.2.1, hI.df.2.2.1, fun h _ => Nat.ne_of_lt (hI.al0 h).2.2.lt, hI.df.2.2.2.2.1, hI.df.2.2.2.2.2.1, hI.df.2.2.2.2.2.2.1, fun h _ => Nat.ne_of_lt (hI.al1 h).2.2.lt, hI.df.2.2.2.2.2.2.2.2.1, hI.df.2.2.2.2.2.2.2.2.2.1, fun h _ => Nat.ne_of_lt (hI.al2 h).2.2.lt, hI.df.2.2.2.2.2.2.2.2.2.2.2.1, fun h _ => Nat.ne_of_lt (hI.al3 h).2.2.lt, hI.df.2.2.2.2.2.2.2.2.2.2.2.2.2.1, fun _ h => Nat.ne_of_gt (hI.al5 h).2.2.lt⟩, gd := hI.gd.alloc _, bl := hI.bl.alloc hI.bl.size _ }⟩
    · have h2' : b11 = false := h2
      subst h2'
      have hb : ¬ b17 = true := fun h => by have := hI.st.2.2.2.2.2 h; cases this
      have hs : w.heap.size + 1 ≤ wx.heap.size := hI.gd.lt
      refine wpOp_of rfl (fun K hK => ?_)
      go_simp
      refine hK _ _ ?_
      exact ⟨b0, b1, b2, b3, b4, b5, b6, b7, b8, b9, b10, true, b12, b13, b14, b15, b16, b17, q0, q1, q2, q3, q4, .pointer (some ⟨wx.heap.size, 0, none⟩), v0, v1, v2, v3, v4, v5, fun j => if j = 5 then wx.heap.size else g j, rfl, rfl, { ld0 := hI.ld0, ld1 := hI.ld1, ld2 := hI.ld2, ld3 := hI.ld3, ld4 := hI.ld4, ld5 := hI.ld5, al0 := fun h => ⟨(hI.al0 h).1, (hI.al0 h).2.1, (hI.al0 h).2.2.alloc _⟩, al1 := fun h => ⟨(hI.al1 h).1, (hI.al1 h).2.1, (hI.al1 h).2.2.alloc _⟩, al2 := fun h => ⟨(hI.al2 h).1, (hI.al2 h).2.1, (hI.al2 h).2.2.alloc _⟩, al3 := fun h => ⟨(hI.al3 h).1, (hI.al3 h).2.1, (hI.al3 h).2.2.alloc _⟩, al4 := fun h => ⟨(hI.al4 h).1, (hI.al4 h).2.1, (hI.al4 h).2.2.alloc _⟩, al5 := fun _ => ⟨rfl, hs, by rw [if_neg hb]; exact Lies.fresh _ _ _⟩, st := ⟨hI.st.1, hI.st.2.1, hI.st.2.2.1, hI.st.2.2.2.1, hI.st.2.2.2.2.1, fun _ => rfl⟩, df := ⟨hI.df.1, hI.df.2.1, hI.df.2.2.1, hI.df.2.2.2.1, fun h _ => Nat.ne_of_lt (hI.al0 h).2.2.lt, hI.df.2.2.2.2.2.1, hI.df.2.2.2.2.2.2.1, hI.df.2.2.2.2.2.2.2.1, fun h _ => Nat.ne_of_lt (hI.al1 h).2.2.lt, hI.df.2.2.2.2.2.2.2.2.2.1, hI.df.2.2.2.2.2.2.2.2.2.2.1, fun h _ => Nat.ne_of_lt (hI.al2 h).2.2.lt, hI.df.2.2.2.2.2.2.2.2.2.2.2.2.1, fun h _ => Nat.ne_of_lt (hI.al3 h).2.2.lt, fun h _ => Nat.ne_of_lt (hI.al4 h).2.2.lt⟩, gd := hI.gd.alloc _, bl := hI.bl.alloc hI.bl.size _ }⟩
    · have h2' : b12 = false := h2
      have e1 : b6 = true := by revert h3; cases b6 <;> simp [Region.binds]
      have e2 : b0 = true := by revert h3; cases b0 <;> simp [Region.binds]
      subst h2' e1 e2
      obtain ⟨e3, hs, L0⟩ := hI.al0 rfl
      have e4 := hI.ld0 rfl
      subst e3 e4
      have L : Lies wx (g 0) 25 CZ := by simpa using L0
      have lt := L.lt
      obtain ⟨⟨p0, p1, p2, p3, p4⟩, f0, f1, f2, f3, f4⟩ := five L
      refine wpOp_of rfl (fun K hK => ?_)
      go_simp
      refine hK _ _ ?_
      exact ⟨true, b1, b2, b3, b4, b5, true, b7, b8, b9, b10, b11, true, b13, b14, b15, b16, b17, .pointer (some ⟨g 0, 0, none⟩), q1, q2, q3, q4, q5, G0, v1, v2, v3, v4, v5, g, rfl, rfl, { ld0 := fun _ => rfl, ld1 := hI.ld1, ld2 := hI.ld2, ld3 := hI.ld3, ld4 := hI.ld4, ld5 := hI.ld5, al0 := fun _ => ⟨rfl, hs, store5 L⟩, al1 := fun h => ⟨(hI.al1 h).1, (hI.al1 h).2.1, other5 (hI.al1 h).2.2 (hI.df.1 rfl h)⟩, al2 := fun h => ⟨(hI.al2 h).1, (hI.al2 h).2.1, other5 (hI.al2 h).2.2 (hI.df.2.1 rfl h)⟩, al3 := fun h => ⟨(hI.al3 h).1, (hI.al3 h).2.1, other5 (hI.al3 h).2.2 (hI.df.2.2.1 rfl h)⟩, al4 := fun h => ⟨(hI.al4 h).1, (hI.al4 h).2.1, other5 (hI.al4 h).2.2 (hI.df.2.2.2.1 rfl h)⟩, al5 := fun h => ⟨(hI.al5 h).1, (hI.al5 h).2.1, other5 (hI.al5 h).2.2 (hI.df.2.2.2.2.1 rfl h)⟩, st := ⟨fun _ => rfl, hI.st.2.1, hI.st.2.2.1, hI.st.2.2.2.1, hI.st.2.2.2.2.1, hI.st.2.2.2.2.2⟩, df := hI.df, gd := other5 hI.gd (by omega), bl := below_store5 hI.bl (by omega) }⟩
    · have h2' : b13 = false := h2
      have e1 : b7 = true := by revert h3; cases b7 <;> simp [Region.binds]
      have e2 : b1 = true := by revert h3; cases b1 <;> simp [Region.binds]
      subst h2' e1 e2
      obtain ⟨e3, hs, L0⟩ := hI.al1 rfl
      have e4 := hI.ld1 rfl
      subst e3 e4
      have L : Lies wx (g 1) 25 CZ := by simpa using L0
      have lt := L.lt
      obtain ⟨⟨p0, p1, p2, p3, p4⟩, f0, f1, f2, f3, f4⟩ := five L
      refine wpOp_of rfl (fun K hK => ?_)
      go_simp
      refine hK _ _ ?_
      exact ⟨b0, true, b2, b3, b4, b5, b6, true, b8, b9, b10, b11, b12, true, b14, b15, b16, b17, q0, .pointer (some ⟨g 1, 0, none⟩), q2, q3, q4, q5, v0, G0, v2, v3, v4, v5, g, rfl, rfl, { ld0 := hI.ld0, ld1 := fun _ => rfl, ld2 := hI.ld2, ld3 := hI.ld3, ld4 := hI.ld4, ld5 := hI.ld5, al0 := fun h => ⟨(hI.al0 h).1, (hI.al0 h).2.1, other5 (hI.al0 h).2.2 (Ne.symm (hI.df.1 h rfl))⟩, al1 := fun _ => ⟨rfl, hs, store5 L⟩, al2 := fun h => ⟨(hI.al2 h).1, (hI.al2 h).2.1, other5 (hI.al2 h).2.2 (hI.df.2.2.2.2.2.1 rfl h)⟩, al3 := fun h => ⟨(hI.al3 h).1, (hI.al3 h).2.1, other5 (hI.al3 h).2.2 (hI.df.2.2.2.2.2.2.1 rfl h)⟩, al4 := fun h => ⟨(hI.al4 h).1, (hI.al4 h).2.1, other5 (hI.al4 h).2.2 (hI.df.2.2.2.2.2.2.2.1 rfl h)⟩, al5 := fun h => ⟨(hI.al5 h).1, (hI.al5 h).2.1, other5 (hI.al5 h).2.2 (hI.df.2.2.2.2.2.2.2.2.1 rfl h)⟩, st := ⟨hI.st.1, fun _ => rfl, hI.st.2.2.1, hI.st.2.2.2.1, hI.st.2.2.2.2.1, hI.st.2.2.2.2.2⟩, df := hI.df, gd := other5 hI.gd (by omega), bl := below_store5 hI.bl (by omega) }⟩
    · have h2' : b14 = false := h2
      have e1 : b8 = true := by revert h3; cases b8 <;> simp [Region.binds]
      have e2 : b2 = true := by revert h3; cases b2 <;> simp [Region.binds]
      subst h2' e1 e2
      obtain ⟨e3, hs, L0⟩ := hI.al2 rfl
      have e4 := hI.ld2 rfl
      subst e3 e4
      have L : Lies wx (g 2) 25 CZ := by simpa using L0
      have lt := L.lt
      obtain ⟨⟨p0, p1, p2, p3, p4⟩, f0, f1, f2, f3, f4⟩ := five L
      refine wpOp_of rfl (fun K hK => ?_)
      go_simp
      refine hK _ _ ?_
      exact ⟨b0, b1, true, b3, b4, b5, b6, b7, true, b9, b10, b11, b12, b13, true, b15, b16, b17, q0, q1, .pointer (some ⟨g 2, 0, none⟩), q3, q4, q5, v0, v1, G0, v3, v4, v5, g, rfl, rfl, { ld0 := hI.ld0, ld1 := hI.ld1, ld2 := fun _ => rfl, ld3 := hI.ld3, ld4 := hI.ld4, ld5 := hI.ld5, al0 := fun h => ⟨(hI.al0 h).1, (hI.al0 h).2.1, other5 (hI.al0 h).2.2 (Ne.symm (hI.df.2.1 h rfl))⟩, al1 := fun h => ⟨(hI.al1 h).1, (hI.al1 h).2.1, other5 (hI.al1 h).2.2 (Ne.symm (hI.df.2.2.2.2.2.1 h rfl))⟩, al2 := fun _ => ⟨rfl, hs, store5 L⟩, al3 := fun h => ⟨(hI.al3 h).1, (hI.al3 h).2.1, other5 (hI.al3 h).2.2 (hI.df.2.2.2.2.2.2.2.2.2.1 rfl h)⟩, al4 := fun h => ⟨(hI.al4 h).1, (hI.al4 h).2.1, other5 (hI.al4 h).2.2 (hI.df.2.2.2.2.2.2.2.2.2.2.1 rfl h)⟩, al5 := fun h => ⟨(hI.al5 h).1, (hI.al5 h).2.1, other5 (hI.al5 h).2.2 (hI.df.2.2.2.2.2.2.2.2.2.2.2.1 rfl h)⟩, st := ⟨hI.st.1, hI.st.2.1, fun _ => rfl, hI.st.2.2.2.1, hI.st.2.2.2.2.1, hI.st.2.2.2.2.2⟩, df := hI.df, gd := other5 hI.gd (by omega), bl := below_store5 hI.bl (by omega) }⟩
    · have h2' : b15 = false := h2
      have e1 : b9 = true := by revert h3; cases b9 <;> simp [Region.binds]
      have e2 : b3 = true := by revert h3; cases b3 <;> simp [Region.binds]
      subst h2' e1 e2
      obtain ⟨e3, hs, L0⟩ := hI.al3 rfl
      have e4 := hI.ld3 rfl
      subst e3 e4
      have L : Lies wx (g 3) 25 CZ := by simpa using L0
      have lt := L.lt
      obtain ⟨⟨p0, p1, p2, p3, p4⟩, f0, f1, f2, f3, f4⟩ := five L
      refine wpOp_of rfl (fun K hK => ?_)
      go_simp
      refine hK _ _ ?_
      exact ⟨b0, b1, b2, true, b4, b5, b6, b7, b8, true, b10, b11, b12, b13, b14, true, b16, b17, q0, q1, q2, .pointer (some ⟨g 3, 0, none⟩), q4, q5, v0, v1, v2, G0, v4, v5, g, rfl, rfl, { ld0 := hI.ld0, ld1 := hI.ld1, ld2 := hI.ld2, ld3 := fun _ => rfl, ld4 := hI.ld4, ld5 := hI.ld5, al0 := fun h => ⟨(hI.al0 h).1, (hI.al0 h).2.1, other5 (hI.al0 h).2.2 (Ne.symm (hI.df.2.2.1 h rfl))⟩, al1 := fun h => ⟨(hI.al1 h).1, (hI.al1 h).2.1, other5 (hI.al1 h).2.2 (Ne.symm (hI.df.2.2.2.2.2.2.1 h rfl))⟩, al2 := fun h => ⟨(hI.al2 h).1, (hI.al2 h).2.1, other5 (hI.al2 h).2.2 (Ne.symm (hI.df.2.2.2.2.2.2.2.2.2.1 h rfl))⟩, al3 := fun _ => ⟨rfl, hs, store5 L⟩, al4 := fun h => ⟨(hI.al4 h).1, (hI.al4 h).2.1, other5 (hI.al4 h).2.2 (hI.df.2.2.2.2.2.2.2.2.2.2.2.2.1 rfl h)⟩, al5 := fun h => ⟨(hI.al5 h).1, (hI.al5 h).2.1, other5 (hI.al5 h).2.2 (hI.df.2.2.2.2.2.2.2.2.2.2.2.2.2.1 rfl h)⟩, st := ⟨hI.st.1, hI.st.2.1, hI.st.2.2.1, fun _ => rfl, hI.st.2.2.2.2.1, hI.st.2.2.2.2.2⟩, df := hI.df, gd := other5 hI.gd (by omega), bl := below_store5 hI.bl (by omega) }⟩
    · have h2' : b16 = false := h2
      have e1 : b10 = true := by revert h3; cases b10 <;> simp [Region.binds]
      have e2 : b4 = true := by revert h3; cases b4 <;> simp [Region.binds]
      subst h2' e1 e2
      obtain ⟨e3, hs, L0⟩ := hI.al4 rfl
      have e4 := hI.ld4 rfl
      subst e3 e4
      have L : Lies wx (g 4) 25 CZ := by simpa using L0
      have lt := L.lt
      obtain ⟨⟨p0, p1, p2, p3, p4⟩, f0, f1, f2, f3, f4⟩ := five L
      refine wpOp_of rfl (fun K hK => ?_)
      go_simp
      refine hK _ _ ?_
      exact ⟨b0, b1, b2, b3, true, b5, b6, b7, b8, b9, true, b11, b12, b13, b14, b15, true, b17, q0, q1, q2, q3, .pointer (some ⟨g 4, 0, none⟩), q5, v0, v1, v2, v3, G0, v5, g, rfl, rfl, { ld0 := hI.ld0, ld1 := hI.ld1, ld2 := hI.ld2, ld3 := hI.ld3, ld4 := fun _ => rfl, ld5 := hI.ld5, al0 := fun h => ⟨(hI.al0 h).1, (hI.al0 h).2.1, other5 (hI.al0 h).2.2 (Ne.symm (hI.df.2.2.2.1 h rfl))⟩, al1 := fun h => ⟨(hI.al1 h).1, (hI.al1 h).2.1, other5 (hI.al1 h).2.2 (Ne.symm (hI.df.2.2.2.2.2.2.2.1 h rfl))⟩, al2 := fun h => ⟨(hI.al2 h).1, (hI.al2 h).2.1, other5 (hI.al2 h).2.2 (Ne.symm (hI.df.2.2.2.2.2.2.2.2.2.2.1 h rfl))⟩, al3 := fun h => ⟨(hI.al3 h).1, (hI.al3 h).2.1, other5 (hI.al3 h).2.2 (Ne.symm (hI.df.2.2.2.2.2.2.2.2.2.2.2.2.1 h rfl))⟩, al4 := fun _ => ⟨rfl, hs, store5 L⟩, al5 := fun h => ⟨(hI.al5 h).1, (hI.al5 h).2.1, other5 (hI.al5 h).2.2 (hI.df.2.2.2.2.2.2.2.2.2.2.2.2.2.2 rfl h)⟩, st := ⟨hI.st.1, hI.st.2.1, hI.st.2.2.1, hI.st.2.2.2.1, fun _ => rfl, hI.st.2.2.2.2.2⟩, df := hI.df, gd := other5 hI.gd (by omega), bl := below_store5 hI.bl (by omega) }⟩
    · have h2' : b17 = false := h2
      have e1 : b11 = true := by revert h3; cases b11 <;> simp [Region.binds]
      have e2 : b5 = true := by revert h3; cases b5 <;> simp [Region.binds]
      subst h2' e1 e2
      obtain ⟨e3, hs, L0⟩ := hI.al5 rfl
      have e4 := hI.ld5 rfl
      subst e3 e4
      have L : Lies wx (g 5) 25 CZ := by simpa using L0
      have lt := L.lt
      obtain ⟨⟨p0, p1, p2, p3, p4⟩, f0, f1, f2, f3, f4⟩ := five L
      refine wpOp_of rfl (fun K hK => ?_)
      go_simp
      refine hK _ _ ?_
      exact ⟨b0, b1, b2, b3, b4, true, b6, b7, b8, b9, b10, true, b12, b13, b14, b15, b16, true, q0, q1, q2, q3, q4, .pointer (some ⟨g 5, 0, none⟩), v0, v1, v2, v3, v4, G0, g, rfl, rfl, { ld0 := hI.ld0, ld1 := hI.ld1, ld2 := hI.ld2, ld3 := hI.ld3, ld4 := hI.ld4, ld5 := fun _ => rfl, al0 := fun h => ⟨(hI.al0 h).1, (hI.al0 h).2.1, other5 (hI.al0 h).2.2 (Ne.symm (hI.df.2.2.2.2.1 h rfl))⟩, al1 := fun h => ⟨(hI.al1 h).1, (hI.al1 h).2.1, other5 (hI.al1 h).2.2 (Ne.symm (hI.df.2.2.2.2.2.2.2.2.1 h rfl))⟩, al2 := fun h => ⟨(hI.al2 h).1, (hI.al2 h).2.1, other5 (hI.al2 h).2.2 (Ne.symm (hI.df.2.2.2.2.2.2.2.2.2.2.2.1 h rfl))⟩, al3 := fun h => ⟨(hI.al3 h).1, (hI.al3 h).2.1, other5 (hI.al3 h).2.2 (Ne.symm (hI.df.2.2.2.2.2.2.2.2.2.2.2.2.2.1 h rfl))⟩, al4 := fun h => ⟨(hI.al4 h).1, (hI.al4 h).2.1, other5 (hI.al4 h).2.2 (Ne.symm (hI.df.2.2.2.2.2.2.2.2.2.2.2.2.2.2 h rfl))⟩, al5 := fun _ => ⟨rfl, hs, store5 L⟩, st := ⟨hI.st.1, hI.st.2.1, hI.st.2.2.1, hI.st.2.2.2.1, hI.st.2.2.2.2.1, fun _ => rfl⟩, df := hI.df, gd := other5 hI.gd (by omega), bl := below_store5 hI.bl (by omega) }⟩
end Go.Proofs.Ytckbiielahgliaa.decL
