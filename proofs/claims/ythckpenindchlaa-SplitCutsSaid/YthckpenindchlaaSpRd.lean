/- What came in: lists of pieces. -/
import Derived.Test.YthckpenindchlaaSpE
import Derived.ChangeArms
import Derived.ChangeSame
import Derived.OpenShut
namespace Go.Proofs.Ythckpenindchlaa.base
set_option maxRecDepth 100000
open Go.ChangeShapes Go.WideShapes Go.ChangeAt Go.RowKit
open Go.Proofs.Ythckpenindchlaa.spW
set_option maxRecDepth 100000
theorem sp_add (a : Addr) (x y : Nat) : (a.add x).add y = a.add (x + y) := by
  rcases Nat.eq_zero_or_pos x with rfl | hx
  · simp [Addr.add]
  · rcases Nat.eq_zero_or_pos y with rfl | hy
    · simp [Addr.add]
    · simp [Addr.add, show x ≠ 0 by omega, show y ≠ 0 by omega, Nat.add_assoc]
theorem pc_cells {H : Type} {enc : TypeId × Value → H} {W : World} {fuel : Nat} {l : List Value} {y : DataW H × List MemPlace}
    (hf : DataW.trod enc Try.prog W 0 (fun _ => true) true fuel 46 l = some y) : ∃ q : Pc, l = pcE q ∧ PcOk q := by
  have hc3 : Try.prog.cellsOf 46 = 3 := by kernel_rfl
  have hc1 : Try.prog.cellsOf 3 = 1 := by kernel_rfl
  obtain ⟨xs, m, -, -, hl, hx, hall⟩ := DataW.trod_struct Try.underlying46 hf
  have hx2 : xs.length = 3 := hx
  rw [hc3] at hl
  match l, hl with
  | [c, r, s], hl =>
    have h0 : DataW.trod enc Try.prog W 0 (fun _ => true) true m 3 (List.take (Try.prog.cellsOf 3) (List.drop 0 [c, r, s])) = xs[0]? := hall 0 _ rfl
    have h1 : DataW.trod enc Try.prog W 0 (fun _ => true) true m 3 (List.take (Try.prog.cellsOf 3) (List.drop 1 [c, r, s])) = xs[1]? := hall 1 _ rfl
    have h2 : DataW.trod enc Try.prog W 0 (fun _ => true) true m 3 (List.take (Try.prog.cellsOf 3) (List.drop 2 [c, r, s])) = xs[2]? := hall 2 _ rfl
    rw [List.getElem?_eq_getElem (by omega), hc1] at h0 h1 h2
    obtain ⟨a0, e0, -, w0⟩ := DataW.trod_int Try.underlying3 h0
    obtain ⟨a1, e1, -, w1⟩ := DataW.trod_int Try.underlying3 h1
    obtain ⟨a2, e2, -, w2⟩ := DataW.trod_int Try.underlying3 h2
    have q0 : c = .int .i64 a0 := by injection e0
    have q1 : r = .int .i64 a1 := by injection e1
    have q2 : s = .int .i64 a2 := by injection e2
    exact ⟨⟨a0, a1, a2⟩, by rw [q0, q1, q2]; rfl, bounds_i64 w0, bounds_i64 w1, bounds_i64 w2⟩
theorem read_pieces {H : Type} {enc : TypeId × Value → H} {W : World} {bs : Nat} {v : Value} {d : DataW H} {p : List MemPlace}
    (hv : Value.okWide Try.prog W .any bs 27 v) (h : DataW.Trod enc Try.prog W 0 (fun _ => true) true 27 v d p) :
    ∃ (A : Option Addr) (n c : Nat) (l : List Pc), v = .slice A n c ∧ PsB W A n c l := by
  obtain ⟨a, len0, cap0, rfl⟩ := okWide_slice Try.underlying27 hv
  obtain ⟨fuel, hf⟩ := h
  rcases DataW.trod_slice Try.underlying27 hf with ⟨e, -⟩ | ⟨ad, len, cap, elems, rest, m, -, e, -, hb, hl, hm, hlen, hel, -, -⟩
  · simp [Value.cells] at e
    obtain ⟨rfl, rfl, rfl⟩ := e
    exact ⟨none, 0, 0, [], rfl, .inl rfl, rfl, Nat.le_refl _, by omega, by simp⟩
  · simp [Value.cells] at e
    obtain ⟨rfl, rfl, rfl⟩ := e
    have hc3 : Try.prog.cellsOf 46 = 3 := by kernel_rfl
    unfold maxLen at hm
    have hcell : ∀ i, i < len0 → ∃ q : Pc, (∀ j, j < 3 → W.cell? (ad.add (i * 3 + j)) = (pcE q)[j]?) ∧ PcOk q := by
      intro i hi
      have h1 := hel i hi
      rw [hc3, List.getElem?_eq_getElem (by omega)] at h1
      obtain ⟨cs, h2, h3⟩ := Option.bind_eq_some_iff.1 h1
      obtain ⟨q, rfl, h5⟩ := pc_cells h3
      refine ⟨q, fun j hj => ?_, h5⟩
      obtain ⟨-, -, h8⟩ := World.cells?_some h2
      have := h8 j (by omega)
      rw [sp_add] at this
      exact this
    let dv : Nat → Pc := fun i => if h : i < len0 then (hcell i h).choose else pc0
    have hdv : ∀ i, i < len0 → (∀ j, j < 3 → W.cell? (ad.add (i * 3 + j)) = (pcE (dv i))[j]?) ∧ PcOk (dv i) := by
      intro i hi
      have := (hcell i hi).choose_spec
      simp only [dv, dif_pos hi]
      exact this
    have hlen2 : ((List.range len0).map dv).length = len0 := by simp
    have hget : ∀ i, i < len0 → ((List.range len0).map dv).getD i pc0 = dv i := by
      intro i hi
      rw [List.getD_eq_getElem?_getD, List.getElem?_map, List.getElem?_range hi]; rfl
    have hall : ∀ r ∈ (List.range len0).map dv, PcOk r := fun x hx => by
      obtain ⟨i, hi, rfl⟩ := List.mem_map.1 hx
      exact (hdv i (List.mem_range.1 hi)).2
    refine ⟨some ad, len0, cap0, (List.range len0).map dv, rfl, ?_, hlen2, hl, by omega, fun r hr => ⟨(hall r hr).m, (hall r hr).o, (hall r hr).r⟩⟩
    rcases Nat.eq_zero_or_pos len0 with h0 | h0
    · left; subst h0; rfl
    · right
      obtain ⟨b, off, spot⟩ := ad
      have hc0 := (hdv 0 h0).1 0 (by omega)
      have hc0' : W.cell? ((⟨b, off, spot⟩ : Addr).add (0 * 3 + 0)) = some (.int .i64 (dv 0).m) := hc0
      have hspot : spot = none := by simpa [Addr.add] using World.cell?_spot hc0'
      subst hspot
      rw [addr_add] at hc0'
      refine ⟨b, off, rfl, lt_of_cell hc0', fun q v hq => ?_⟩
      have hql : q < ((List.range len0).map dv).length * 3 := by
        have h1 := PE.row_len ((List.range len0).map dv)
        have h2 : q < (PE.row ((List.range len0).map dv)).length := by
          rcases Nat.lt_or_ge q (PE.row ((List.range len0).map dv)).length with h | h
          · exact h
          · rw [List.getElem?_eq_none h] at hq; cases hq
        rw [h1] at h2; exact h2
      rw [hlen2] at hql
      have h1 : q / 3 < len0 := by omega
      have h2 : q % 3 < 3 := by omega
      have h3 := (hdv (q / 3) h1).1 (q % 3) h2
      rw [addr_add, show q / 3 * 3 + q % 3 = q by omega] at h3
      rw [h3, ← hget _ h1]
      have e := PE.row_at (xs := (List.range len0).map dv) (i := q / 3) (by rw [hlen2]; exact h1)
      have e2 : ((pcE (((List.range len0).map dv).getD (q / 3) pc0)))[q % 3]? = (List.take 3 (List.drop (q / 3 * 3) (PE.row ((List.range len0).map dv))))[q % 3]? := by
        rw [show List.take 3 (List.drop (q / 3 * 3) (PE.row ((List.range len0).map dv))) = _ from e]; rfl
      rw [e2, List.getElem?_take, if_pos h2, List.getElem?_drop, show q / 3 * 3 + q % 3 = q by omega]
      exact hq
end Go.Proofs.Ythckpenindchlaa.base
