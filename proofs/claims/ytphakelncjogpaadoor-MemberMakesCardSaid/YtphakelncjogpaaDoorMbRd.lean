/- What came in: members, lists of members, lists of records. -/
import Derived.Test.YtphakelncjogpaaDoorMbW7
import Derived.ChangeArms
import Derived.ChangeSame
import Derived.OpenShut
import Derived.ShutString
namespace Go.Proofs.YtphakelncjogpaaDoor.base
set_option maxRecDepth 100000
open Go.ChangeShapes Go.WideShapes Go.ChangeAt Go.RowKit
open Go.Proofs.YtphakelncjogpaaDoor.shP Go.Proofs.YtphakelncjogpaaDoor.shW Go.Proofs.YtphakelncjogpaaDoor.mbW
open Go.Proofs.YtphakelncjogpaaDoor.trW (IsD sv zd_isD)
set_option maxRecDepth 100000
theorem mem_add (a : Addr) (x y : Nat) : (a.add x).add y = a.add (x + y) := by
  rcases Nat.eq_zero_or_pos x with rfl | hx
  · simp [Addr.add]
  · rcases Nat.eq_zero_or_pos y with rfl | hy
    · simp [Addr.add]
    · simp [Addr.add, show x ≠ 0 by omega, show y ≠ 0 by omega, Nat.add_assoc]
theorem mem_sum {H : Type} {enc : TypeId × Value → H} {W : World} {fuel : Nat} {cs : List Value} {y : DataW H × List MemPlace}
    (hf : DataW.trod enc Tryd.prog W 0 (fun _ => true) true fuel 52 cs = some y) : ∃ l : List Int, cs = sv l ∧ IsD l := by
  obtain ⟨xs, m, -, -, hl, hx, hall⟩ := DataW.trod_array Tryd.underlying52 hf
  have hc1 : Tryd.prog.cellsOf 5 = 1 := by kernel_rfl
  have hc20 : Tryd.prog.cellsOf 52 = 20 := by kernel_rfl
  rw [hc1] at hall
  rw [hc20] at hl
  have go : ∀ i, i < 20 → ∃ a : Int, cs[i]? = some (.int .u8 a) ∧ 0 ≤ a ∧ a ≤ 255 := by
    intro i hi
    have h1 := hall i hi
    rw [List.getElem?_eq_getElem (by omega : i < xs.length)] at h1
    obtain ⟨a, e0, -, wa⟩ := DataW.trod_int Tryd.underlying5 h1
    have x := bounds_u8 wa
    refine ⟨a, ?_, x.1, x.2⟩
    rw [Nat.mul_one, List.drop_eq_getElem_cons (by omega : i < cs.length), List.take_succ_cons, List.take_zero] at e0
    rw [List.getElem?_eq_getElem (by omega : i < cs.length)]
    injection e0 with e1 e2
    rw [e1]
  refine ⟨cs.map intOf, ?_, by rw [List.length_map, hl], ?_⟩
  · apply List.ext_getElem?
    intro i
    rw [sv, List.map_map, List.getElem?_map]
    rcases Nat.lt_or_ge i 20 with h | h
    · obtain ⟨a, ha, -⟩ := go i h
      rw [ha]; rfl
    · rw [List.getElem?_eq_none (by omega)]; rfl
  · intro z hz
    obtain ⟨v, hv, rfl⟩ := List.mem_map.1 hz
    obtain ⟨i, hi, rfl⟩ := List.mem_iff_getElem.1 hv
    obtain ⟨a, ha, k⟩ := go i (by omega)
    rw [List.getElem?_eq_getElem hi] at ha
    injection ha with ha
    rw [ha]; exact k
theorem mem_bytes {H : Type} {enc : TypeId × Value → H} {W : World} {n : Nat} {v : Value} {y : DataW H × List MemPlace}
    (h : DataW.trod enc Tryd.prog W 0 (fun _ => true) true n 35 [v] = some y) : ∃ r : R8, v = .slice r.A r.n r.c ∧ InR W r := by
  have hr : ∃ (a : Option Addr) (len cap : Nat) (zs : List Int), v = .slice a len cap ∧ IsRow .u8 W a len cap zs := by
    rcases open_ints Tryd.underlying35 Tryd.underlying5 (by kernel_rfl) h with ⟨hcs, _⟩ | ⟨x, l, c, zs, hcs, _, hl, hm, hz, _, hcell, hwz⟩
    · simp at hcs
      exact ⟨none, 0, 0, [], hcs, .inl ⟨rfl, rfl, rfl, rfl⟩⟩
    · simp at hcs
      exact ⟨some x, l, c, zs, hcs, .inr ⟨x, rfl, hl, hm, by simpa using hz, hcell, hwz⟩⟩
  obtain ⟨a, len, cap, zs, rfl, hrow⟩ := hr
  obtain ⟨q1, q2, q3, q4⟩ := has_of_row hrow
  have hc : len ≤ cap ∧ cap ≤ maxLen := by
    rcases hrow with ⟨_, h1, h2, _⟩ | ⟨x, _, h1, h2, _⟩
    · rw [h1, h2]; exact ⟨Nat.le_refl _, Nat.zero_le _⟩
    · exact ⟨h1, h2⟩
  unfold maxLen at hc
  exact ⟨⟨a, len, cap, zs.take len⟩, rfl, q1, q2, hc.1, by dsimp only; omega, fun z hz => bounds_u8 (q4 z hz)⟩
theorem mem_cells {H : Type} {enc : TypeId × Value → H} {W : World} {fuel : Nat} {l : List Value} {y : DataW H × List MemPlace}
    (hf : DataW.trod enc Tryd.prog W 0 (fun _ => true) true fuel 37 l = some y) : ∃ q : Mb, l = [.string q.nm, .slice q.r.A q.r.n q.r.c] ∧ q.nm.size ≤ maxLen ∧ InR W q.r := by
  have hc2 : Tryd.prog.cellsOf 37 = 2 := by kernel_rfl
  have hc1 : Tryd.prog.cellsOf 9 = 1 := by kernel_rfl
  have hc8 : Tryd.prog.cellsOf 35 = 1 := by kernel_rfl
  obtain ⟨xs, m, -, -, hl, hx, hall⟩ := DataW.trod_struct Tryd.underlying37 hf
  have hx2 : xs.length = 2 := hx
  rw [hc2] at hl
  match l, hl with
  | [c, r], hl =>
    have h0 : DataW.trod enc Tryd.prog W 0 (fun _ => true) true m 9 (List.take (Tryd.prog.cellsOf 9) (List.drop 0 [c, r])) = xs[0]? := hall 0 _ rfl
    have h1 : DataW.trod enc Tryd.prog W 0 (fun _ => true) true m 35 (List.take (Tryd.prog.cellsOf 35) (List.drop 1 [c, r])) = xs[1]? := hall 1 _ rfl
    rw [List.getElem?_eq_getElem (by omega)] at h0 h1
    rw [hc1] at h0
    rw [hc8] at h1
    obtain ⟨s, e0, -, w0⟩ := DataW.trod_string Tryd.underlying9 h0
    obtain ⟨r8, e1, w1⟩ := mem_bytes (show DataW.trod enc Tryd.prog W 0 (fun _ => true) true m 35 [r] = some xs[1] from h1)
    have q0 : c = .string s := by injection e0
    exact ⟨⟨s, r8⟩, by rw [q0, e1], w0, w1⟩
structure MemsIn (W : World) (P : Option Addr) (m d : Nat) (ms : List Mb) : Prop where
  b : MemB W P m d ms
  z : ∀ q ∈ ms, q.nm.size ≤ maxLen
theorem read_members {H : Type} {enc : TypeId × Value → H} {W : World} {bs : Nat} {v : Value} {d : DataW H} {p : List MemPlace}
    (hv : Value.okWide Tryd.prog W .any bs 22 v) (h : DataW.Trod enc Tryd.prog W 0 (fun _ => true) true 22 v d p) :
    ∃ (A : Option Addr) (n c : Nat) (ms : List Mb), v = .slice A n c ∧ MemsIn W A n c ms := by
  obtain ⟨A, n, c, rfl⟩ := okWide_slice Tryd.underlying22 hv
  obtain ⟨fuel, hf⟩ := h
  rcases DataW.trod_slice Tryd.underlying22 hf with ⟨e, -⟩ | ⟨ad, len, cap, elems, rest, m, -, e, -, hb, hl, hm, hlen, hel, -, -⟩
  · simp [Value.cells] at e
    obtain ⟨rfl, rfl, rfl⟩ := e
    exact ⟨none, 0, 0, [], rfl, ⟨rfl, Nat.le_refl _, by omega, .inl rfl, by simp⟩, by simp⟩
  · simp [Value.cells] at e
    obtain ⟨rfl, rfl, rfl⟩ := e
    have hc2 : Tryd.prog.cellsOf 37 = 2 := by kernel_rfl
    unfold maxLen at hm
    have hcell : ∀ i, i < n → ∃ q : Mb, W.cell? (ad.add (i * 2)) = some (.string q.nm) ∧ W.cell? (ad.add (i * 2 + 1)) = some (.slice q.r.A q.r.n q.r.c) ∧ q.nm.size ≤ maxLen ∧ InR W q.r := by
      intro i hi
      have h1 := hel i hi
      rw [hc2, List.getElem?_eq_getElem (by omega)] at h1
      obtain ⟨cs, h2, h3⟩ := Option.bind_eq_some_iff.1 h1
      obtain ⟨q, rfl, h5, h6⟩ := mem_cells h3
      obtain ⟨-, -, h8⟩ := World.cells?_some h2
      have g0 := h8 0 (by omega)
      have g1 := h8 1 (by omega)
      rw [mem_add] at g0 g1
      exact ⟨q, g0, g1, h5, h6⟩
    let dv : Nat → Mb := fun i => if h : i < n then (hcell i h).choose else mb0
    have hdv : ∀ i, i < n → W.cell? (ad.add (i * 2)) = some (.string (dv i).nm) ∧ W.cell? (ad.add (i * 2 + 1)) = some (.slice (dv i).r.A (dv i).r.n (dv i).r.c) ∧ (dv i).nm.size ≤ maxLen ∧ InR W (dv i).r := by
      intro i hi
      have := (hcell i hi).choose_spec
      simp only [dv, dif_pos hi]
      exact this
    have hget : ∀ i, i < n → ((List.range n).map dv).getD i mb0 = dv i := by
      intro i hi
      rw [List.getD_eq_getElem?_getD, List.getElem?_map, List.getElem?_range hi]; rfl
    refine ⟨some ad, n, c, (List.range n).map dv, rfl, ⟨by simp, hl, by omega, ?_, ?_⟩, ?_⟩
    · rcases Nat.eq_zero_or_pos n with h0 | h0
      · subst h0; exact .inl rfl
      · right
        obtain ⟨b, off, spot⟩ := ad
        have hc0 := (hdv 0 (by omega)).1
        have hspot : spot = none := by simpa [Addr.add] using World.cell?_spot hc0
        subst hspot
        rw [addr_add] at hc0
        refine ⟨b, off, rfl, lt_of_cell hc0, fun i hi => ?_⟩
        have hi2 : i < n := by simpa using hi
        rw [hget i hi2, ← addr_add, Nat.add_assoc, ← addr_add]
        exact ⟨(hdv i hi2).1, (hdv i hi2).2.1⟩
    · intro z hz
      obtain ⟨q, hq, rfl⟩ := List.mem_map.1 hz
      exact (hdv q (List.mem_range.1 hq)).2.2.2
    · intro z hz
      obtain ⟨q, hq, rfl⟩ := List.mem_map.1 hz
      exact (hdv q (List.mem_range.1 hq)).2.2.1
theorem rec_cells {H : Type} {enc : TypeId × Value → H} {W : World} {fuel : Nat} {l : List Value} {y : DataW H × List MemPlace}
    (hf : DataW.trod enc Tryd.prog W 0 (fun _ => true) true fuel 54 l = some y) : ∃ q : Rc, l = rcE q ∧ q.nm.size ≤ maxLen ∧ (-9223372036854775808 ≤ q.sz ∧ q.sz ≤ 9223372036854775807) ∧ IsD q.sum := by
  have hc22 : Tryd.prog.cellsOf 54 = 22 := by kernel_rfl
  have hc1 : Tryd.prog.cellsOf 9 = 1 := by kernel_rfl
  have hc8 : Tryd.prog.cellsOf 3 = 1 := by kernel_rfl
  have hc20 : Tryd.prog.cellsOf 52 = 20 := by kernel_rfl
  obtain ⟨xs, m, -, -, hl, hx, hall⟩ := DataW.trod_struct Tryd.underlying54 hf
  have hx2 : xs.length = 3 := hx
  rw [hc22] at hl
  match l, hl with
  | c :: r :: t, hl =>
    have h0 : DataW.trod enc Tryd.prog W 0 (fun _ => true) true m 9 (List.take (Tryd.prog.cellsOf 9) (List.drop 0 (c :: r :: t))) = xs[0]? := hall 0 _ rfl
    have h1 : DataW.trod enc Tryd.prog W 0 (fun _ => true) true m 3 (List.take (Tryd.prog.cellsOf 3) (List.drop 1 (c :: r :: t))) = xs[1]? := hall 1 _ rfl
    have h2 : DataW.trod enc Tryd.prog W 0 (fun _ => true) true m 52 (List.take (Tryd.prog.cellsOf 52) (List.drop 2 (c :: r :: t))) = xs[2]? := hall 2 _ rfl
    rw [List.getElem?_eq_getElem (by omega)] at h0 h1 h2
    rw [hc1] at h0
    rw [hc8] at h1
    have ht : t.length = 20 := by simpa using hl
    rw [hc20, show List.take 20 (List.drop 2 (c :: r :: t)) = t by simp [List.take_of_length_le, ht]] at h2
    obtain ⟨s, e0, -, w0⟩ := DataW.trod_string Tryd.underlying9 h0
    obtain ⟨a1, e1, -, w1⟩ := DataW.trod_int Tryd.underlying3 h1
    obtain ⟨z, e2, hz⟩ := mem_sum h2
    have q0 : c = .string s := by injection e0
    have q1 : r = .int .i64 a1 := by injection e1
    refine ⟨⟨s, a1, z⟩, ?_, w0, bounds_i64 w1, hz⟩
    rw [rcE_eq (r := ⟨s, a1, z⟩) hz.len, q0, q1, e2]
structure RecsIn (W : World) (A : Option Addr) (n c : Nat) (rs : List Rc) : Prop where
  h : RE.Has W A rs
  l : rs.length = n
  c1 : n ≤ c
  c2 : c ≤ 9223372036854775807
  nm : ∀ r ∈ rs, r.nm.size ≤ maxLen
  z : ∀ r ∈ rs, -9223372036854775808 ≤ r.sz ∧ r.sz ≤ 9223372036854775807
  d : ∀ r ∈ rs, IsD r.sum
theorem read_records {H : Type} {enc : TypeId × Value → H} {W : World} {bs : Nat} {v : Value} {d : DataW H} {p : List MemPlace}
    (hv : Value.okWide Tryd.prog W .any bs 25 v) (h : DataW.Trod enc Tryd.prog W 0 (fun _ => true) true 25 v d p) :
    ∃ (A : Option Addr) (n c : Nat) (rs : List Rc), v = .slice A n c ∧ RecsIn W A n c rs := by
  obtain ⟨a, len0, cap0, rfl⟩ := okWide_slice Tryd.underlying25 hv
  obtain ⟨fuel, hf⟩ := h
  rcases DataW.trod_slice Tryd.underlying25 hf with ⟨e, -⟩ | ⟨ad, len, cap, elems, rest, m, -, e, -, hb, hl, hm, hlen, hel, -, -⟩
  · simp [Value.cells] at e
    obtain ⟨rfl, rfl, rfl⟩ := e
    exact ⟨none, 0, 0, [], rfl, .inl rfl, rfl, Nat.le_refl _, by omega, by simp, by simp, by simp⟩
  · simp [Value.cells] at e
    obtain ⟨rfl, rfl, rfl⟩ := e
    have hc22 : Tryd.prog.cellsOf 54 = 22 := by kernel_rfl
    unfold maxLen at hm
    have hcell : ∀ i, i < len0 → ∃ q : Rc, (∀ j, j < 22 → W.cell? (ad.add (i * 22 + j)) = (rcE q)[j]?) ∧ q.nm.size ≤ maxLen ∧ (-9223372036854775808 ≤ q.sz ∧ q.sz ≤ 9223372036854775807) ∧ IsD q.sum := by
      intro i hi
      have h1 := hel i hi
      rw [hc22, List.getElem?_eq_getElem (by omega)] at h1
      obtain ⟨cs, h2, h3⟩ := Option.bind_eq_some_iff.1 h1
      obtain ⟨q, rfl, h5, h6, h7⟩ := rec_cells h3
      refine ⟨q, fun j hj => ?_, h5, h6, h7⟩
      obtain ⟨-, -, h8⟩ := World.cells?_some h2
      have := h8 j (by omega)
      rw [mem_add] at this
      exact this
    let dv : Nat → Rc := fun i => if h : i < len0 then (hcell i h).choose else rc0
    have hdv : ∀ i, i < len0 → (∀ j, j < 22 → W.cell? (ad.add (i * 22 + j)) = (rcE (dv i))[j]?) ∧ (dv i).nm.size ≤ maxLen ∧ (-9223372036854775808 ≤ (dv i).sz ∧ (dv i).sz ≤ 9223372036854775807) ∧ IsD (dv i).sum := by
      intro i hi
      have := (hcell i hi).choose_spec
      simp only [dv, dif_pos hi]
      exact this
    have hlen2 : ((List.range len0).map dv).length = len0 := by simp
    have hget : ∀ i, i < len0 → ((List.range len0).map dv).getD i rc0 = dv i := by
      intro i hi
      rw [List.getD_eq_getElem?_getD, List.getElem?_map, List.getElem?_range hi]; rfl
    have hall : ∀ r ∈ (List.range len0).map dv, r.nm.size ≤ maxLen ∧ (-9223372036854775808 ≤ r.sz ∧ r.sz ≤ 9223372036854775807) ∧ IsD r.sum := fun x hx => by
      obtain ⟨i, hi, rfl⟩ := List.mem_map.1 hx
      exact (hdv i (List.mem_range.1 hi)).2
    refine ⟨some ad, len0, cap0, (List.range len0).map dv, rfl, ?_, hlen2, hl, by omega, fun r hr => (hall r hr).1, fun r hr => (hall r hr).2.1, fun r hr => (hall r hr).2.2⟩
    rcases Nat.eq_zero_or_pos len0 with h0 | h0
    · left; subst h0; rfl
    · right
      obtain ⟨b, off, spot⟩ := ad
      have hc0 := (hdv 0 h0).1 0 (by omega)
      have hc0' : W.cell? ((⟨b, off, spot⟩ : Addr).add (0 * 22 + 0)) = some (.string (dv 0).nm) := hc0
      have hspot : spot = none := by simpa [Addr.add] using World.cell?_spot hc0'
      subst hspot
      rw [addr_add] at hc0'
      refine ⟨b, off, rfl, lt_of_cell hc0', fun q v hq => ?_⟩
      have hql : q < ((List.range len0).map dv).length * 22 := by
        have h1 := RE.row_len ((List.range len0).map dv)
        have h2 : q < (RE.row ((List.range len0).map dv)).length := by
          rcases Nat.lt_or_ge q (RE.row ((List.range len0).map dv)).length with h | h
          · exact h
          · rw [List.getElem?_eq_none h] at hq; cases hq
        rw [h1] at h2; exact h2
      rw [hlen2] at hql
      have h1 : q / 22 < len0 := by omega
      have h2 : q % 22 < 22 := by omega
      have h3 := (hdv (q / 22) h1).1 (q % 22) h2
      rw [addr_add, show q / 22 * 22 + q % 22 = q by omega] at h3
      rw [h3, ← hget _ h1]
      have e := RE.row_at (xs := (List.range len0).map dv) (i := q / 22) (by rw [hlen2]; exact h1)
      have e2 : ((rcE (((List.range len0).map dv).getD (q / 22) rc0)))[q % 22]? = (List.take 22 (List.drop (q / 22 * 22) (RE.row ((List.range len0).map dv))))[q % 22]? := by
        rw [show List.take 22 (List.drop (q / 22 * 22) (RE.row ((List.range len0).map dv))) = _ from e]; rfl
      rw [e2, List.getElem?_take, if_pos h2, List.getElem?_drop, show q / 22 * 22 + q % 22 = q by omega]
      exact hq
end Go.Proofs.YtphakelncjogpaaDoor.base
