/- What came in: digests, lists of digests. -/
import Derived.Test.YtjdgobfjpjnhgaaDoorTrB
import Derived.ChangeArms
import Derived.OpenShut
namespace Go.Proofs.YtjdgobfjpjnhgaaDoor.base
set_option maxRecDepth 100000
open Go.ChangeShapes Go.WideShapes Go.ChangeAt Go.RowKit Go.Joins
open Go.Proofs.YtjdgobfjpjnhgaaDoor.shP Go.Proofs.YtjdgobfjpjnhgaaDoor.shW Go.Proofs.YtjdgobfjpjnhgaaDoor.trP Go.Proofs.YtjdgobfjpjnhgaaDoor.trW
set_option maxRecDepth 100000
theorem add_add (a : Addr) (x y : Nat) : (a.add x).add y = a.add (x + y) := by
  rcases Nat.eq_zero_or_pos x with rfl | hx
  · simp [Addr.add]
  · rcases Nat.eq_zero_or_pos y with rfl | hy
    · simp [Addr.add]
    · simp [Addr.add, show x ≠ 0 by omega, show y ≠ 0 by omega, Nat.add_assoc]
theorem sum_cells {H : Type} {enc : TypeId × Value → H} {W : World} {fuel : Nat} {cs : List Value} {y : DataW H × List MemPlace}
    (hf : DataW.trod enc Tryd.prog W 0 (fun _ => true) true fuel 26 cs = some y) : ∃ l : List Int, cs = sv l ∧ IsD l := by
  obtain ⟨xs, m, -, -, hl, hx, hall⟩ := DataW.trod_array Tryd.underlying26 hf
  have hc1 : Tryd.prog.cellsOf 5 = 1 := by kernel_rfl
  have hc20 : Tryd.prog.cellsOf 26 = 20 := by kernel_rfl
  rw [hc1] at hall
  rw [hc20] at hl
  have go : ∀ i, i < 20 → ∃ a : Int, cs[i]? = some (.int .u8 a) ∧ 0 ≤ a ∧ a ≤ 255 := by
    intro i hi
    have h1 := hall i hi
    rw [List.getElem?_eq_getElem (by omega : i < xs.length)] at h1
    obtain ⟨a, e0, -, wa⟩ := DataW.trod_int Tryd.underlying5 h1
    have x := bounds_u8 wa
    refine ⟨a, ?_, x.1, x.2⟩
    rw [Nat.mul_one, List.drop_eq_getElem_cons (by omega : i < cs.length), List.take_succ_cons, List.take_zero] at e0
    rw [List.getElem?_eq_getElem (by omega : i < cs.length)]
    injection e0 with e1 e2
    rw [e1]
  refine ⟨cs.map intOf, ?_, by rw [List.length_map, hl], ?_⟩
  · apply List.ext_getElem?
    intro i
    rw [sv, List.map_map, List.getElem?_map]
    rcases Nat.lt_or_ge i 20 with h | h
    · obtain ⟨a, ha, -⟩ := go i h
      rw [ha]; rfl
    · rw [List.getElem?_eq_none (by omega)]; rfl
  · intro z hz
    obtain ⟨v, hv, rfl⟩ := List.mem_map.1 hz
    obtain ⟨i, hi, rfl⟩ := List.mem_iff_getElem.1 hv
    obtain ⟨a, ha, k⟩ := go i (by omega)
    rw [List.getElem?_eq_getElem hi] at ha
    injection ha with ha
    rw [ha]; exact k
theorem read_sum {H : Type} {enc : TypeId × Value → H} {W : World} {bs : Nat} {v : Value} {d : DataW H} {p : List MemPlace}
    (hv : Value.okWide Tryd.prog W .any bs 26 v) (h : DataW.Trod enc Tryd.prog W 0 (fun _ => true) true 26 v d p) : ∃ l : List Int, v = .agg (darr l) ∧ IsD l := by
  simp only [Value.okWide, Tryd.underlying26] at hv
  obtain ⟨cs, rfl, hs, -⟩ := hv
  obtain ⟨fuel, hf⟩ := h
  rcases cs with ⟨l⟩
  obtain ⟨z, e, k1⟩ := sum_cells (show DataW.trod enc Tryd.prog W 0 (fun _ => true) true fuel 26 l = _ from hf)
  exact ⟨z, by rw [e]; rfl, k1⟩
structure SumsIn (W : World) (A : Option Addr) (n c : Nat) (ls : List (List Int)) : Prop where
  h : HasD W A ls
  l : ls.length = n
  c1 : n ≤ c
  c2 : c ≤ 9223372036854775807
theorem read_sums {H : Type} {enc : TypeId × Value → H} {W : World} {bs : Nat} {v : Value} {d : DataW H} {p : List MemPlace}
    (hv : Value.okWide Tryd.prog W .any bs 34 v) (h : DataW.Trod enc Tryd.prog W 0 (fun _ => true) true 34 v d p) :
    ∃ (A : Option Addr) (n c : Nat) (ls : List (List Int)), v = .slice A n c ∧ SumsIn W A n c ls := by
  obtain ⟨a, len0, cap0, rfl⟩ := okWide_slice Tryd.underlying34 hv
  obtain ⟨fuel, hf⟩ := h
  rcases DataW.trod_slice Tryd.underlying34 hf with ⟨e, -⟩ | ⟨ad, len, cap, elems, rest, m, -, e, -, hb, hl, hm, hlen, hel, -, -⟩
  · simp [Value.cells] at e
    obtain ⟨rfl, rfl, rfl⟩ := e
    exact ⟨none, 0, 0, [], rfl, ⟨.inl rfl, AllD.nil⟩, rfl, Nat.le_refl _, by omega⟩
  · simp [Value.cells] at e
    obtain ⟨rfl, rfl, rfl⟩ := e
    have hc20 : Tryd.prog.cellsOf 26 = 20 := by kernel_rfl
    unfold maxLen at hm
    have hcell : ∀ i, i < len0 → ∃ l : List Int, IsD l ∧ ∀ j, j < 20 → W.cell? (ad.add (i * 20 + j)) = some (.int .u8 (l.getD j 0)) := by
      intro i hi
      have h1 := hel i hi
      rw [hc20, List.getElem?_eq_getElem (by omega)] at h1
      obtain ⟨cs, h2, h3⟩ := Option.bind_eq_some_iff.1 h1
      obtain ⟨l, rfl, hd⟩ := sum_cells h3
      refine ⟨l, hd, fun j hj => ?_⟩
      obtain ⟨-, -, h8⟩ := World.cells?_some h2
      have := h8 j (by omega)
      rw [add_add] at this
      rw [this, sv, List.getElem?_map, List.getElem?_eq_getElem (by rw [hd.len]; exact hj), List.getD_eq_getElem?_getD, List.getElem?_eq_getElem (by rw [hd.len]; exact hj)]
      rfl
    let dv : Nat → List Int := fun i => if h : i < len0 then (hcell i h).choose else zd
    have hdv : ∀ i, i < len0 → IsD (dv i) ∧ ∀ j, j < 20 → W.cell? (ad.add (i * 20 + j)) = some (.int .u8 ((dv i).getD j 0)) := by
      intro i hi
      have := (hcell i hi).choose_spec
      simp only [dv, dif_pos hi]
      exact this
    have hall : AllD ((List.range len0).map dv) := fun x hx => by
      obtain ⟨i, hi, rfl⟩ := List.mem_map.1 hx
      exact (hdv i (List.mem_range.1 hi)).1
    have hlen2 : ((List.range len0).map dv).length = len0 := by simp
    have hget : ∀ i, i < len0 → ((List.range len0).map dv).getD i zd = dv i := by
      intro i hi
      rw [List.getD_eq_getElem?_getD, List.getElem?_map, List.getElem?_range hi]; rfl
    refine ⟨some ad, len0, cap0, (List.range len0).map dv, rfl, ⟨?_, hall⟩, hlen2, hl, by omega⟩
    rcases Nat.eq_zero_or_pos len0 with h0 | h0
    · left; subst h0; rfl
    · right
      obtain ⟨b, off, spot⟩ := ad
      have hc0 := (hdv 0 h0).2 0 (by omega)
      have hspot : spot = none := by simpa [Addr.add] using World.cell?_spot hc0
      subst hspot
      rw [addr_add] at hc0
      refine ⟨b, off, rfl, lt_of_cell hc0, fun q hq => ?_⟩
      rw [dL_len hall, hlen2] at hq
      have h1 : q / 20 < len0 := by omega
      have h2 : q % 20 < 20 := by omega
      have h3 := (hdv (q / 20) h1).2 (q % 20) h2
      rw [addr_add, show q / 20 * 20 + q % 20 = q by omega] at h3
      rw [h3]
      have e := dL_at hall (i := q / 20) (by rw [hlen2]; exact h1)
      rw [hget _ h1] at e
      rw [← e, List.getD_eq_getElem?_getD, List.getElem?_take, if_pos h2, List.getElem?_drop, show q / 20 * 20 + q % 20 = q by omega, List.getD_eq_getElem?_getD]
end Go.Proofs.YtjdgobfjpjnhgaaDoor.base
