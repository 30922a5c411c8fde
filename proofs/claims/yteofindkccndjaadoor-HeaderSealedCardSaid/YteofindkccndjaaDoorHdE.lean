/- Headers compared. -/
import Derived.Test.YteofindkccndjaaDoorHdW7
import Derived.Test.YteofindkccndjaaDoorShL3
namespace Go.Proofs.YteofindkccndjaaDoor.hdP
set_option maxRecDepth 100000
deriving instance DecidableEq for Hd
end Go.Proofs.YteofindkccndjaaDoor.hdP
namespace Go.Proofs.YteofindkccndjaaDoor.hdW
set_option maxRecDepth 100000
open Go.RowKit Go.Proofs.YteofindkccndjaaDoor.base Go.Proofs.YteofindkccndjaaDoor.hdP
set_option linter.unusedVariables false
set_option linter.unusedSimpArgs false
set_option maxRecDepth 100000
theorem lits_sum (l : List Int) (hl : l.length = 20) (hb : ∀ z ∈ l, 0 ≤ z ∧ z ≤ 255) (d : Nat) : Tryd.prog.keyLits (d + 2) 23 (sv l) = some (l.map (Lit.int .u8)) := by
  unfold Program.keyLits
  rw [Tryd.underlying23]
  have c1 : Tryd.prog.cellsOf 23 = 20 := by kernel_rfl
  have c2 : Tryd.prog.cellsOf 5 = 1 := by kernel_rfl
  have e : (List.range 20).mapM (fun i => Tryd.prog.keyLits (d + 1) 5 (((sv l).drop (i * 1)).take 1)) = some ((List.range 20).map fun i => [Lit.int .u8 (l.getD i 0)]) := by
    refine shL.mapM_some _ _ _ fun i hi => ?_
    have hi2 : i < l.length := by rw [hl]; exact List.mem_range.1 hi
    have e1 : ((sv l).drop (i * 1)).take 1 = [.int .u8 (l.getD i 0)] := by
      rw [Nat.mul_one, List.drop_eq_getElem_cons (by simpa [sv] using hi2), List.take_succ_cons, List.take_zero, List.getD_eq_getElem?_getD, List.getElem?_eq_getElem hi2]
      simp [sv]
    rw [e1]
    exact shL.one_lit (by rw [List.getD_eq_getElem?_getD, List.getElem?_eq_getElem hi2]; exact hb _ (List.getElem_mem hi2)) d
  show (if (sv l).length = Tryd.prog.cellsOf 23 then _ else none) = _
  rw [if_pos (by rw [c1]; simpa [sv] using hl), c2, e]
  obtain ⟨a, b, c, d, e, f, g, i, j, k, l, m, n, o, p, q, r, t, u, v, rfl⟩ := match20 hl
  rfl
theorem i64_wf {x : Int} (h : -9223372036854775808 ≤ x ∧ x ≤ 9223372036854775807) : (Lit.int .i64 x).wf = true := WalkArith.wf_i64 h
theorem one_lit64 {x : Int} (h : -9223372036854775808 ≤ x ∧ x ≤ 9223372036854775807) (d : Nat) : Tryd.prog.keyLits (d + 1) 3 [.int .i64 x] = some [.int .i64 x] := by
  have hw := i64_wf h
  unfold Program.keyLits
  rw [Tryd.underlying3]
  simp [hw]
def lit (h : Hd) : List Lit := [.int .u8 h.mo, .int .i64 h.me, .int .i64 h.of, .int .i64 h.ra, .int .i64 h.le] ++ h.s.map (Lit.int .u8)
theorem lits_hd (h : Hd) (hb : Bd h) : Tryd.prog.keyLits 5 25 (hl h) = some (lit h) := by
  unfold Program.keyLits
  rw [Tryd.underlying25]
  have c1 : Tryd.prog.cellsOf 25 = 25 := by kernel_rfl
  have c2 : Tryd.prog.cellsOf 5 = 1 := by kernel_rfl
  have c3 : Tryd.prog.cellsOf 3 = 1 := by kernel_rfl
  have c4 : Tryd.prog.cellsOf 23 = 20 := by kernel_rfl
  have e0 := shL.one_lit hb.mo 3
  have e1 := one_lit64 hb.me 3
  have e2 := one_lit64 hb.of 3
  have e3 := one_lit64 hb.ra 3
  have e4 := one_lit64 hb.le 3
  have e5 := lits_sum h.s hb.n hb.s 2
  have hl5 : (sv h.s).take 20 = sv h.s := List.take_of_length_le (by simp [sv, hb.n])
  have hl25 : (hl h).length = 25 := by simp [hl, sv, hb.n]
  have hls : (sv h.s).length = 20 := by simp [sv, hb.n]
  simp [c1, c2, c3, c4, hl25, hls, hl, e0, e1, e2, e3, e4, e5, hl5, List.mapM_cons, lit]
theorem lit_inj {a b : Hd} : a = b ↔ lit a = lit b := by
  constructor
  · rintro rfl; rfl
  · intro h
    obtain ⟨a0, a1, a2, a3, a4, a5⟩ := a
    obtain ⟨b0, b1, b2, b3, b4, b5⟩ := b
    simp only [lit, List.cons_append, List.nil_append, List.cons.injEq, Lit.int.injEq, true_and] at h
    obtain ⟨h0, h1, h2, h3, h4, h5⟩ := h
    have h6 := List.map_inj_right (fun x y e => by injection e) |>.1 h5
    subst h0; subst h1; subst h2; subst h3; subst h4; subst h6
    rfl
theorem sum_inj {a b : List Int} : a = b ↔ a.map (Lit.int .u8) = b.map (Lit.int .u8) := by
  constructor
  · rintro rfl; rfl
  · intro h
    exact List.map_inj_right (fun x y e => by injection e) |>.1 h
theorem hd_formed (h : Hd) (hb : Bd h) : (Value.agg (hv h)).formed Tryd.prog 25 = true := by
  have c : Tryd.prog.cellsOf 25 = 25 := by kernel_rfl
  unfold Value.formed
  rw [Tryd.underlying25]
  show ((hv h).size == _) = true
  rw [← hv_size h hb, c]; rfl
theorem sum_formed (l : List Int) (h : l.length = 20) : (Value.agg (sv l).toArray).formed Tryd.prog 23 = true := by
  have c : Tryd.prog.cellsOf 23 = 20 := by kernel_rfl
  unfold Value.formed
  rw [Tryd.underlying23]
  show ((sv l).toArray.size == _) = true
  rw [c]; simp [sv, h]
theorem hv_cells (h : Hd) : (Value.agg (hv h)).cells.toList = hl h := by unfold hv; rfl
theorem eq_hd (N : Nat) (a b : Hd) (ha : Bd a) (hb : Bd b) (w : World) : (Op.equalIn (N + 3) 25 (.agg (hv a)) (.agg (hv b))).run Tryd.prog w = .ok (decide (a = b)) w := by
  obtain ⟨r, h1, h2⟩ := run_equalIn_deep (P := Tryd.prog) N 3 25 (by kernel_rfl) w 5 5 (.agg (hv a)) (.agg (hv b)) _ _ (hd_formed a ha) (hd_formed b hb) (by rw [hv_cells]; exact lits_hd a ha) (by rw [hv_cells]; exact lits_hd b hb)
  rw [h1]
  congr 1
  rw [← lit_inj] at h2
  by_cases k : a = b
  · rw [decide_eq_true k]; exact h2.2 k
  · rw [decide_eq_false k]; cases r
    · rfl
    · exact absurd (h2.1 rfl) k
theorem eq_sum (N : Nat) (a b : List Int) (la : a.length = 20) (lb : b.length = 20) (ha : ∀ z ∈ a, 0 ≤ z ∧ z ≤ 255) (hb : ∀ z ∈ b, 0 ≤ z ∧ z ≤ 255) (w : World) : (Op.equalIn (N + 2) 23 (.agg (sv a).toArray) (.agg (sv b).toArray)).run Tryd.prog w = .ok (decide (a = b)) w := by
  obtain ⟨r, h1, h2⟩ := run_equalIn_deep (P := Tryd.prog) N 2 23 (by kernel_rfl) w 5 5 (.agg (sv a).toArray) (.agg (sv b).toArray) _ _ (sum_formed a la) (sum_formed b lb) (lits_sum a la ha 3) (lits_sum b lb hb 3)
  rw [h1]
  congr 1
  rw [← sum_inj] at h2
  by_cases k : a = b
  · rw [decide_eq_true k]; exact h2.2 k
  · rw [decide_eq_false k]; cases r
    · rfl
    · exact absurd (h2.1 rfl) k
theorem eq_hd0 (a b : Hd) (ha : Bd a) (hb : Bd b) (w : World) : (Op.equalIn 10000 25 (.agg (hv a)) (.agg (hv b))).run Tryd.prog w = .ok (decide (a = b)) w := eq_hd 9997 a b ha hb w
theorem eq_hd1 (a b : Hd) (ha : Bd a) (hb : Bd b) (w : World) : (Op.equalIn 9999 25 (.agg (hv a)) (.agg (hv b))).run Tryd.prog w = .ok (decide (a = b)) w := eq_hd 9996 a b ha hb w
end Go.Proofs.YteofindkccndjaaDoor.hdW
