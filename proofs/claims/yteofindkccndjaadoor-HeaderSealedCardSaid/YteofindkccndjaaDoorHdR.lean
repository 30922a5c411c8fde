/- What came in: digests and headers. -/
import Derived.Test.YteofindkccndjaaDoorHdE
import Derived.ChangeArms
import Derived.OpenShut
namespace Go.Proofs.YteofindkccndjaaDoor.base
set_option maxRecDepth 100000
open Go.ChangeShapes Go.WideShapes Go.ChangeAt Go.RowKit
open Go.Proofs.YteofindkccndjaaDoor.hdP Go.Proofs.YteofindkccndjaaDoor.hdW
set_option maxRecDepth 100000
theorem sum_cells {H : Type} {enc : TypeId × Value → H} {W : World} {fuel : Nat} {cs : List Value} {y : DataW H × List MemPlace}
    (hf : DataW.trod enc Tryd.prog W 0 (fun _ => true) true fuel 23 cs = some y) : ∃ l : List Int, cs = sv l ∧ l.length = 20 ∧ ∀ z ∈ l, 0 ≤ z ∧ z ≤ 255 := by
  obtain ⟨xs, m, -, -, hl, hx, hall⟩ := DataW.trod_array Tryd.underlying23 hf
  have hc1 : Tryd.prog.cellsOf 5 = 1 := by kernel_rfl
  have hc20 : Tryd.prog.cellsOf 23 = 20 := by kernel_rfl
  rw [hc1] at hall
  rw [hc20] at hl
  have go : ∀ i, i < 20 → ∃ a : Int, cs[i]? = some (.int .u8 a) ∧ 0 ≤ a ∧ a ≤ 255 := by
    intro i hi
    have h1 := hall i hi
    rw [List.getElem?_eq_getElem (by omega : i < xs.length)] at h1
    obtain ⟨a, e0, -, wa⟩ := DataW.trod_int Tryd.underlying5 h1
    have x := bounds_u8 wa
    refine ⟨a, ?_, x.1, x.2⟩
    rw [Nat.mul_one, List.drop_eq_getElem_cons (by omega : i < cs.length), List.take_succ_cons, List.take_zero] at e0
    rw [List.getElem?_eq_getElem (by omega : i < cs.length)]
    injection e0 with e1 e2
    rw [e1]
  refine ⟨cs.map intOf, ?_, by rw [List.length_map, hl], ?_⟩
  · apply List.ext_getElem?
    intro i
    rw [sv, List.map_map, List.getElem?_map]
    rcases Nat.lt_or_ge i 20 with h | h
    · obtain ⟨a, ha, -⟩ := go i h
      rw [ha]; rfl
    · rw [List.getElem?_eq_none (by omega)]; rfl
  · intro z hz
    obtain ⟨v, hv, rfl⟩ := List.mem_map.1 hz
    obtain ⟨i, hi, rfl⟩ := List.mem_iff_getElem.1 hv
    obtain ⟨a, ha, k⟩ := go i (by omega)
    rw [List.getElem?_eq_getElem hi] at ha
    injection ha with ha
    rw [ha]; exact k
theorem read_sum {H : Type} {enc : TypeId × Value → H} {W : World} {bs : Nat} {v : Value} {d : DataW H} {p : List MemPlace}
    (hv : Value.okWide Tryd.prog W .any bs 23 v) (h : DataW.Trod enc Tryd.prog W 0 (fun _ => true) true 23 v d p) : ∃ l : List Int, v = .agg (sv l).toArray ∧ l.length = 20 ∧ ∀ z ∈ l, 0 ≤ z ∧ z ≤ 255 := by
  simp only [Value.okWide, Tryd.underlying23] at hv
  obtain ⟨cs, rfl, hs, -⟩ := hv
  obtain ⟨fuel, hf⟩ := h
  rcases cs with ⟨l⟩
  obtain ⟨z, e, k1, k2⟩ := sum_cells (show DataW.trod enc Tryd.prog W 0 (fun _ => true) true fuel 23 l = _ from hf)
  exact ⟨z, by rw [e], k1, k2⟩
theorem read_hd {H : Type} {enc : TypeId × Value → H} {W : World} {bs : Nat} {v : Value} {d : DataW H} {p : List MemPlace}
    (hv' : Value.okWide Tryd.prog W .any bs 25 v) (h : DataW.Trod enc Tryd.prog W 0 (fun _ => true) true 25 v d p) : ∃ x : Hd, v = .agg (hv x) ∧ Bd x := by
  simp only [Value.okWide, Tryd.underlying25] at hv'
  obtain ⟨cs, rfl, hs, -⟩ := hv'
  obtain ⟨fuel, hf⟩ := h
  rcases cs with ⟨l⟩
  have hc25 : Tryd.prog.cellsOf 25 = 25 := by kernel_rfl
  have hc1 : Tryd.prog.cellsOf 5 = 1 := by kernel_rfl
  have hc2 : Tryd.prog.cellsOf 3 = 1 := by kernel_rfl
  have hc20 : Tryd.prog.cellsOf 23 = 20 := by kernel_rfl
  have hl : l.length = 25 := by rw [← hc25]; simpa using hs
  obtain ⟨xs, m, -, -, -, hx, hall⟩ := DataW.trod_struct Tryd.underlying25 (show DataW.trod enc Tryd.prog W 0 (fun _ => true) true fuel 25 l = _ from hf)
  have hx6 : xs.length = 6 := hx
  match l, hl with
  | c0 :: c1 :: c2 :: c3 :: c4 :: r, hl =>
    have h0 : DataW.trod enc Tryd.prog W 0 (fun _ => true) true m 5 (List.take (Tryd.prog.cellsOf 5) (List.drop 0 (c0 :: c1 :: c2 :: c3 :: c4 :: r))) = xs[0]? := hall 0 _ rfl
    have h1 : DataW.trod enc Tryd.prog W 0 (fun _ => true) true m 3 (List.take (Tryd.prog.cellsOf 3) (List.drop 1 (c0 :: c1 :: c2 :: c3 :: c4 :: r))) = xs[1]? := hall 1 _ rfl
    have h2 : DataW.trod enc Tryd.prog W 0 (fun _ => true) true m 3 (List.take (Tryd.prog.cellsOf 3) (List.drop 2 (c0 :: c1 :: c2 :: c3 :: c4 :: r))) = xs[2]? := hall 2 _ rfl
    have h3 : DataW.trod enc Tryd.prog W 0 (fun _ => true) true m 3 (List.take (Tryd.prog.cellsOf 3) (List.drop 3 (c0 :: c1 :: c2 :: c3 :: c4 :: r))) = xs[3]? := hall 3 _ rfl
    have h4 : DataW.trod enc Tryd.prog W 0 (fun _ => true) true m 3 (List.take (Tryd.prog.cellsOf 3) (List.drop 4 (c0 :: c1 :: c2 :: c3 :: c4 :: r))) = xs[4]? := hall 4 _ rfl
    have h5 : DataW.trod enc Tryd.prog W 0 (fun _ => true) true m 23 (List.take (Tryd.prog.cellsOf 23) (List.drop 5 (c0 :: c1 :: c2 :: c3 :: c4 :: r))) = xs[5]? := hall 5 _ rfl
    rw [List.getElem?_eq_getElem (by omega)] at h0 h1 h2 h3 h4 h5
    rw [hc1] at h0
    rw [hc2] at h1 h2 h3 h4
    rw [hc20] at h5
    obtain ⟨a0, e0, -, w0⟩ := DataW.trod_int Tryd.underlying5 h0
    obtain ⟨a1, e1, -, w1⟩ := DataW.trod_int Tryd.underlying3 h1
    obtain ⟨a2, e2, -, w2⟩ := DataW.trod_int Tryd.underlying3 h2
    obtain ⟨a3, e3, -, w3⟩ := DataW.trod_int Tryd.underlying3 h3
    obtain ⟨a4, e4, -, w4⟩ := DataW.trod_int Tryd.underlying3 h4
    obtain ⟨s, e5, k1, k2⟩ := sum_cells h5
    have hr : r.length = 20 := by simpa using hl
    have q5 : r = sv s := by
      rw [← e5]
      show r = List.take 20 r
      rw [List.take_of_length_le (by omega)]
    have q0 : c0 = .int .u8 a0 := by injection e0
    have q1 : c1 = .int .i64 a1 := by injection e1
    have q2 : c2 = .int .i64 a2 := by injection e2
    have q3 : c3 = .int .i64 a3 := by injection e3
    have q4 : c4 = .int .i64 a4 := by injection e4
    subst q0 q1 q2 q3 q4 q5
    exact ⟨⟨a0, a1, a2, a3, a4, s⟩, by unfold hv; rfl, ⟨bounds_u8 w0, bounds_i64 w1, bounds_i64 w2, bounds_i64 w3, bounds_i64 w4, k1, k2⟩⟩
end Go.Proofs.YteofindkccndjaaDoor.base
