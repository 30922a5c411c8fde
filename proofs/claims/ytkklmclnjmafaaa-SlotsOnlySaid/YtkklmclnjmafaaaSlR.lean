/- What came in: tables. -/
import Derived.Test.YtkklmclnjmafaaaSlW
import Derived.ChangeArms
import Derived.Lib.SmallJoins
import Derived.OpenShut
namespace Go.Proofs.Ytkklmclnjmafaaa.base
set_option maxRecDepth 100000
open Go.ChangeShapes Go.WideShapes Go.ChangeAt Go.RowKit Go.Joins
open Go.Proofs.Ytkklmclnjmafaaa.slP Go.Proofs.Ytkklmclnjmafaaa.slW
set_option maxRecDepth 100000
theorem add_add (a : Addr) (x y : Nat) : (a.add x).add y = a.add (x + y) := by
  rcases Nat.eq_zero_or_pos x with rfl | hx
  · simp [Addr.add]
  · rcases Nat.eq_zero_or_pos y with rfl | hy
    · simp [Addr.add]
    · simp [Addr.add, show x ≠ 0 by omega, show y ≠ 0 by omega, Nat.add_assoc]
theorem bytes_cells {H : Type} {enc : TypeId × Value → H} {W : World} {fuel : Nat} {cs : List Value} {y : DataW H × List MemPlace}
    (hf : DataW.trod enc Try.prog W 0 (fun _ => true) true fuel 29 cs = some y) : ∀ i, i < 15 → ∃ a : Int, cs[i]? = some (.int .u8 a) ∧ 0 ≤ a ∧ a ≤ 255 := by
  obtain ⟨xs, m, -, -, hl, hx, hall⟩ := DataW.trod_array Try.underlying29 hf
  have hc1 : Try.prog.cellsOf 5 = 1 := by kernel_rfl
  have hc15 : Try.prog.cellsOf 29 = 15 := by kernel_rfl
  rw [hc1] at hall
  rw [hc15] at hl
  intro i hi
  have h1 := hall i hi
  rw [List.getElem?_eq_getElem (by omega : i < xs.length)] at h1
  obtain ⟨a, e0, -, wa⟩ := DataW.trod_int Try.underlying5 h1
  have x := bounds_u8 wa
  refine ⟨a, ?_, x.1, x.2⟩
  rw [Nat.mul_one, List.drop_eq_getElem_cons (by omega : i < cs.length), List.take_succ_cons, List.take_zero] at e0
  rw [List.getElem?_eq_getElem (by omega : i < cs.length)]
  injection e0 with e1 e2
  rw [e1]
theorem slot_cells {H : Type} {enc : TypeId × Value → H} {W : World} {fuel : Nat} {l : List Value} {y : DataW H × List MemPlace}
    (hf : DataW.trod enc Try.prog W 0 (fun _ => true) true fuel 31 l = some y) : l.length = 16 ∧ ∀ i, i < 16 → ∃ a : Int, l[i]? = some (.int .u8 a) ∧ 0 ≤ a ∧ a ≤ 255 := by
  have hc16 : Try.prog.cellsOf 31 = 16 := by kernel_rfl
  have hc1 : Try.prog.cellsOf 5 = 1 := by kernel_rfl
  have hc15 : Try.prog.cellsOf 29 = 15 := by kernel_rfl
  obtain ⟨xs, m, -, -, hl, hx, hall⟩ := DataW.trod_struct Try.underlying31 hf
  have hx2 : xs.length = 2 := hx
  rw [hc16] at hl
  match l, hl with
  | c :: r, hl =>
    have h0 : DataW.trod enc Try.prog W 0 (fun _ => true) true m 5 (List.take (Try.prog.cellsOf 5) (List.drop 0 (c :: r))) = xs[0]? := hall 0 _ rfl
    have h1 : DataW.trod enc Try.prog W 0 (fun _ => true) true m 29 (List.take (Try.prog.cellsOf 29) (List.drop 1 (c :: r))) = xs[1]? := hall 1 _ rfl
    rw [List.getElem?_eq_getElem (by omega)] at h0 h1
    rw [hc1] at h0
    rw [hc15] at h1
    obtain ⟨a0, e0, -, w0⟩ := DataW.trod_int Try.underlying5 h0
    have q0 : c = .int .u8 a0 := by injection e0
    have k1 := bytes_cells h1
    refine ⟨hl, fun i hi => ?_⟩
    match i with
    | 0 => exact ⟨a0, by rw [q0]; rfl, (bounds_u8 w0).1, (bounds_u8 w0).2⟩
    | j + 1 =>
      obtain ⟨a, ha, hb⟩ := k1 j (by omega)
      refine ⟨a, ?_, hb⟩
      rw [List.getElem?_take, if_pos (by omega), List.getElem?_drop, Nat.add_comm 1 j] at ha
      exact ha
theorem read_table {H : Type} {enc : TypeId × Value → H} {W : World} {bs : Nat} {v : Value} {d : DataW H} {p : List MemPlace}
    (hv : Value.okWide Try.prog W .any bs 24 v) (h : DataW.Trod enc Try.prog W 0 (fun _ => true) true 24 v d p) :
    ∃ (lv : Int) (A : Option Addr) (n c : Nat) (fl : List Int), v = .agg #[.int .i64 lv, .slice A n c] ∧ (-9223372036854775808 ≤ lv ∧ lv ≤ 9223372036854775807) ∧ InS W A n c fl := by
  obtain ⟨v0, v1, y0, y1, k, rfl, rfl, rfl, t0, t1⟩ := open_agg2 Try.underlying24 (by kernel_rfl) (by kernel_rfl) hv h
  obtain ⟨a, e0, rfl, wa⟩ := DataW.trod_int Try.underlying3 t0
  simp at e0
  subst e0
  have x := bounds_i64 wa
  rcases DataW.trod_slice Try.underlying22 t1 with ⟨e, -⟩ | ⟨ad, len, cap, elems, rest, m, -, e, -, hb, hl, hm, hlen, hel, -, -⟩
  · simp at e
    subst e
    exact ⟨a, none, 0, 0, [], rfl, x, .inl rfl, rfl, Nat.le_refl _, by omega, by simp⟩
  · simp at e
    subst e
    have hc16 : Try.prog.cellsOf 31 = 16 := by kernel_rfl
    unfold maxLen at hm
    have hcell : ∀ i, i < len → ∀ j, j < 16 → ∃ z : Int, W.cell? (ad.add (i * 16 + j)) = some (.int .u8 z) ∧ 0 ≤ z ∧ z ≤ 255 := by
      intro i hi j hj
      have h1 := hel i hi
      rw [hc16, List.getElem?_eq_getElem (by omega)] at h1
      obtain ⟨cs, h2, h3⟩ := Option.bind_eq_some_iff.1 h1
      obtain ⟨h4, h5⟩ := slot_cells h3
      obtain ⟨z, h6, h7⟩ := h5 j hj
      obtain ⟨-, -, h8⟩ := World.cells?_some h2
      refine ⟨z, ?_, h7⟩
      have := h8 j (by omega)
      rw [h6] at this
      rw [← this, add_add]
    let cv : Nat → Int := fun q => match W.cell? (ad.add q) with | some (.int .u8 z) => z | _ => 0
    have hcv : ∀ q, q < len * 16 → W.cell? (ad.add q) = some (.int .u8 (cv q)) ∧ 0 ≤ cv q ∧ cv q ≤ 255 := by
      intro q hq
      obtain ⟨z, h1, h2⟩ := hcell (q / 16) (by omega) (q % 16) (by omega)
      rw [show q / 16 * 16 + q % 16 = q by omega] at h1
      have : cv q = z := by simp only [cv, h1]
      rw [this]
      exact ⟨h1, h2⟩
    refine ⟨a, some ad, len, cap, (List.range (len * 16)).map cv, rfl, x, ?_, by simp, hl, by omega, ?_⟩
    · rcases Nat.eq_zero_or_pos len with h0 | h0
      · subst h0; exact .inl rfl
      · right
        obtain ⟨b, off, spot⟩ := ad
        have hc0 := (hcv 0 (by omega)).1
        have hspot : spot = none := by simpa [Addr.add] using World.cell?_spot hc0
        subst hspot
        rw [addr_add] at hc0
        refine ⟨b, off, rfl, lt_of_cell hc0, fun i hi => ?_⟩
        have hi2 : i < len * 16 := by simpa using hi
        rw [← addr_add, (hcv i hi2).1, List.getD_eq_getElem?_getD, List.getElem?_map, List.getElem?_range hi2]
        rfl
    · intro z hz
      obtain ⟨q, hq, rfl⟩ := List.mem_map.1 hz
      exact (hcv q (List.mem_range.1 hq)).2
end Go.Proofs.Ytkklmclnjmafaaa.base
