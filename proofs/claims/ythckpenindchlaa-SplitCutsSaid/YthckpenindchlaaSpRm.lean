/- What came in: members (as in member/XMbRd, for a seat without sums). -/
import Derived.Test.YthckpenindchlaaSpRd
import Derived.Test.YthckpenindchlaaSpTw
import Derived.ShutString
namespace Go.Proofs.Ythckpenindchlaa.base
set_option maxRecDepth 100000
open Go.ChangeShapes Go.WideShapes Go.ChangeAt Go.RowKit
open Go.Proofs.Ythckpenindchlaa.mbW
set_option maxRecDepth 100000
theorem sp_bytes {H : Type} {enc : TypeId × Value → H} {W : World} {n : Nat} {v : Value} {y : DataW H × List MemPlace}
    (h : DataW.trod enc Try.prog W 0 (fun _ => true) true n 51 [v] = some y) : ∃ r : R8, v = .slice r.A r.n r.c ∧ InR W r := by
  have hr : ∃ (a : Option Addr) (len cap : Nat) (zs : List Int), v = .slice a len cap ∧ IsRow .u8 W a len cap zs := by
    rcases open_ints Try.underlying51 Try.underlying5 (by kernel_rfl) h with ⟨hcs, _⟩ | ⟨x, l, c, zs, hcs, _, hl, hm, hz, _, hcell, hwz⟩
    · simp at hcs
      exact ⟨none, 0, 0, [], hcs, .inl ⟨rfl, rfl, rfl, rfl⟩⟩
    · simp at hcs
      exact ⟨some x, l, c, zs, hcs, .inr ⟨x, rfl, hl, hm, by simpa using hz, hcell, hwz⟩⟩
  obtain ⟨a, len, cap, zs, rfl, hrow⟩ := hr
  obtain ⟨q1, q2, q3, q4⟩ := has_of_row hrow
  have hc : len ≤ cap ∧ cap ≤ maxLen := by
    rcases hrow with ⟨_, h1, h2, _⟩ | ⟨x, _, h1, h2, _⟩
    · rw [h1, h2]; exact ⟨Nat.le_refl _, Nat.zero_le _⟩
    · exact ⟨h1, h2⟩
  unfold maxLen at hc
  exact ⟨⟨a, len, cap, zs.take len⟩, rfl, q1, q2, hc.1, by dsimp only; omega, fun z hz => bounds_u8 (q4 z hz)⟩
theorem sp_cells {H : Type} {enc : TypeId × Value → H} {W : World} {fuel : Nat} {l : List Value} {y : DataW H × List MemPlace}
    (hf : DataW.trod enc Try.prog W 0 (fun _ => true) true fuel 53 l = some y) : ∃ q : Mb, l = [.string q.nm, .slice q.r.A q.r.n q.r.c] ∧ q.nm.size ≤ maxLen ∧ InR W q.r := by
  have hc2 : Try.prog.cellsOf 53 = 2 := by kernel_rfl
  have hc1 : Try.prog.cellsOf 9 = 1 := by kernel_rfl
  have hc8 : Try.prog.cellsOf 51 = 1 := by kernel_rfl
  obtain ⟨xs, m, -, -, hl, hx, hall⟩ := DataW.trod_struct Try.underlying53 hf
  have hx2 : xs.length = 2 := hx
  rw [hc2] at hl
  match l, hl with
  | [c, r], hl =>
    have h0 : DataW.trod enc Try.prog W 0 (fun _ => true) true m 9 (List.take (Try.prog.cellsOf 9) (List.drop 0 [c, r])) = xs[0]? := hall 0 _ rfl
    have h1 : DataW.trod enc Try.prog W 0 (fun _ => true) true m 51 (List.take (Try.prog.cellsOf 51) (List.drop 1 [c, r])) = xs[1]? := hall 1 _ rfl
    rw [List.getElem?_eq_getElem (by omega)] at h0 h1
    rw [hc1] at h0
    rw [hc8] at h1
    obtain ⟨s, e0, -, w0⟩ := DataW.trod_string Try.underlying9 h0
    obtain ⟨r8, e1, w1⟩ := sp_bytes (show DataW.trod enc Try.prog W 0 (fun _ => true) true m 51 [r] = some xs[1] from h1)
    have q0 : c = .string s := by injection e0
    exact ⟨⟨s, r8⟩, by rw [q0, e1], w0, w1⟩
theorem sp_members {H : Type} {enc : TypeId × Value → H} {W : World} {bs : Nat} {v : Value} {d : DataW H} {p : List MemPlace}
    (hv : Value.okWide Try.prog W .any bs 23 v) (h : DataW.Trod enc Try.prog W 0 (fun _ => true) true 23 v d p) :
    ∃ (A : Option Addr) (n c : Nat) (ms : List Mb), v = .slice A n c ∧ MemB W A n c ms := by
  obtain ⟨A, n, c, rfl⟩ := okWide_slice Try.underlying23 hv
  obtain ⟨fuel, hf⟩ := h
  rcases DataW.trod_slice Try.underlying23 hf with ⟨e, -⟩ | ⟨ad, len, cap, elems, rest, m, -, e, -, hb, hl, hm, hlen, hel, -, -⟩
  · simp [Value.cells] at e
    obtain ⟨rfl, rfl, rfl⟩ := e
    exact ⟨none, 0, 0, [], rfl, ⟨rfl, Nat.le_refl _, by omega, .inl rfl, by simp⟩⟩
  · simp [Value.cells] at e
    obtain ⟨rfl, rfl, rfl⟩ := e
    have hc2 : Try.prog.cellsOf 53 = 2 := by kernel_rfl
    unfold maxLen at hm
    have hcell : ∀ i, i < n → ∃ q : Mb, W.cell? (ad.add (i * 2)) = some (.string q.nm) ∧ W.cell? (ad.add (i * 2 + 1)) = some (.slice q.r.A q.r.n q.r.c) ∧ q.nm.size ≤ maxLen ∧ InR W q.r := by
      intro i hi
      have h1 := hel i hi
      rw [hc2, List.getElem?_eq_getElem (by omega)] at h1
      obtain ⟨cs, h2, h3⟩ := Option.bind_eq_some_iff.1 h1
      obtain ⟨q, rfl, h5, h6⟩ := sp_cells h3
      obtain ⟨-, -, h8⟩ := World.cells?_some h2
      have g0 := h8 0 (by omega)
      have g1 := h8 1 (by omega)
      rw [sp_add] at g0 g1
      exact ⟨q, g0, g1, h5, h6⟩
    let dv : Nat → Mb := fun i => if h : i < n then (hcell i h).choose else mb0
    have hdv : ∀ i, i < n → W.cell? (ad.add (i * 2)) = some (.string (dv i).nm) ∧ W.cell? (ad.add (i * 2 + 1)) = some (.slice (dv i).r.A (dv i).r.n (dv i).r.c) ∧ (dv i).nm.size ≤ maxLen ∧ InR W (dv i).r := by
      intro i hi
      have := (hcell i hi).choose_spec
      simp only [dv, dif_pos hi]
      exact this
    have hget : ∀ i, i < n → ((List.range n).map dv).getD i mb0 = dv i := by
      intro i hi
      rw [List.getD_eq_getElem?_getD, List.getElem?_map, List.getElem?_range hi]; rfl
    refine ⟨some ad, n, c, (List.range n).map dv, rfl, ⟨by simp, hl, by omega, ?_, ?_⟩⟩
    · rcases Nat.eq_zero_or_pos n with h0 | h0
      · subst h0; exact .inl rfl
      · right
        obtain ⟨b, off, spot⟩ := ad
        have hc0 := (hdv 0 (by omega)).1
        have hspot : spot = none := by simpa [Addr.add] using World.cell?_spot hc0
        subst hspot
        rw [addr_add] at hc0
        refine ⟨b, off, rfl, lt_of_cell hc0, fun i hi => ?_⟩
        have hi2 : i < n := by simpa using hi
        rw [hget i hi2, ← addr_add, Nat.add_assoc, ← addr_add]
        exact ⟨(hdv i hi2).1, (hdv i hi2).2.1⟩
    · intro z hz
      obtain ⟨q, hq, rfl⟩ := List.mem_map.1 hz
      exact (hdv q (List.mem_range.1 hq)).2.2.2
end Go.Proofs.Ythckpenindchlaa.base
