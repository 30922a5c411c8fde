/- AdaptNames: what the functions say of a map that is not valid, and of one bad map. -/
import Derived.Test.YtipbafcjmeibpaaAdL4
import Derived.Test.YtipbafcjmeibpaaAdL2
namespace Go.Proofs.Ytipbafcjmeibpaa.adL
open Go.RowKit Go.Proofs.Ytipbafcjmeibpaa.base Go.Proofs.Ytipbafcjmeibpaa.adP Go.Proofs.Ytipbafcjmeibpaa.adW Go.Proofs.Ytipbafcjmeibpaa.cntP Go.Proofs.Ytipbafcjmeibpaa.stP
set_option linter.unusedVariables false
set_option linter.unusedSimpArgs false

/-- A map that is not valid, as it lies in memory. -/
structure BadIn (w : World) (l : Int) (A B : Option Addr) (lp ln c d : Nat) : Prop where
  ex : ∃ m : Ad, m.l = l ∧ adOk m = false ∧ AdIn w A B lp ln m ∧ lp ≤ c ∧ ln ≤ d
theorem BadIn.past {w w' : World} {l : Int} {A B : Option Addr} {lp ln c d : Nat} (h : BadIn w l A B lp ln c d) (hb : Below w.heap.size w w') : BadIn w' l A B lp ln c d := by
  obtain ⟨m, h1, h2, h3, h4⟩ := h.ex
  exact ⟨m, h1, h2, h3.below hb, h4⟩
theorem bad_at {m : Ad} (h : adOk m = false) (s : Int) : atE m s = 8 := by unfold atE; rw [h]; rfl
theorem P_no {w : World} {l : Int} {A B : Option Addr} {lp ln c d : Nat} (h : BadIn w l A B lp ln c d) (s : Int) (s0 : 0 ≤ s) (s1 : s ≤ 255) :
    Calls Try.prog 11 #[.agg #[.int .i32 l, .slice A lp c, .slice B ln d], .int .u8 s] w fun e w' => e = .returned (.tuple #[.int .i32 0, .int .i64 8]) ∧ Below w.heap.size w w' := by
  obtain ⟨m, rfl, h2, h3, _⟩ := h.ex
  have e1 := bad_at h2 s
  have e2 : pV m s = 0 := pV_no (by rw [e1]; decide)
  have := P_any m A B lp ln c d s w h3 s0 s1
  rwa [e1, e2] at this
theorem Update_no {w : World} {l : Int} {A B : Option Addr} {lp ln c d : Nat} (h : BadIn w l A B lp ln c d) (s b : Int) (s0 : 0 ≤ s) (s1 : s ≤ 255) :
    Calls Try.prog 12 #[.agg #[.int .i32 l, .slice A lp c, .slice B ln d], .int .u8 s, .int .u8 b] w fun e w' => e = .returned (.tuple #[.agg #[.int .i32 0, .slice none 0 0, .slice none 0 0], .int .i64 8]) ∧ Below w.heap.size w w' := by
  obtain ⟨m, rfl, h2, h3, _⟩ := h.ex
  have e1 := bad_at h2 s
  have := Update_bad m A B lp ln c d s b w h3 s0 s1 (by rw [e1]; decide)
  rwa [e1] at this
theorem Run_no {w : World} {l : Int} {A B : Option Addr} {lp ln c d : Nat} (h : BadIn w l A B lp ln c d) (s : Int) (C : Option Addr) (n cc : Nat) (s0 : 0 ≤ s) (s1 : s ≤ 255) :
    Calls Try.prog 13 #[.agg #[.int .i32 l, .slice A lp c, .slice B ln d], .int .u8 s, .slice C n cc] w fun e w' => e = .returned (.tuple #[.agg #[.int .i32 0, .slice none 0 0, .slice none 0 0], .int .u8 0, .int .i64 8]) ∧ Below w.heap.size w w' := by
  obtain ⟨m, rfl, h2, h3, _⟩ := h.ex
  have e1 := bad_at h2 s
  have := Run_bad m A B lp ln c d s C n cc w h3 s0 s1 (by rw [e1]; decide)
  rwa [e1] at this
theorem Check_no {w : World} {l : Int} {A B : Option Addr} {lp ln c d : Nat} (h : BadIn w l A B lp ln c d) :
    Calls Try.prog 14 #[.agg #[.int .i32 l, .slice A lp c, .slice B ln d]] w fun e w' => e = .returned (.int .i64 8) ∧ Below w.heap.size w w' := by
  obtain ⟨m, rfl, h2, h3, _⟩ := h.ex
  have := Check_any m A B lp ln c d w h3
  rwa [adE_no h2] at this
theorem mem_set_bd {l : List Int} {i : Nat} {x : Int} (h : ∀ z ∈ l, -2147483648 ≤ z ∧ z ≤ 2147483647) (hx : -2147483648 ≤ x ∧ x ≤ 2147483647) : ∀ z ∈ l.set i x, -2147483648 ≤ z ∧ z ≤ 2147483647 := by
  intro z hz
  rcases List.mem_or_eq_of_mem_set hz with h1 | h1
  · exact h z h1
  · rw [h1]; exact hx
theorem bad_of {m : Ad} (h : ¬ ((1 ≤ m.l ∧ m.l ≤ 1000 ∧ m.p.length = 193 ∧ m.n.length = 193) ∧ ∀ i, i < 193 → (0 ≤ m.p.getD i 0 ∧ m.p.getD i 0 ≤ 65535) ∧ (0 ≤ m.n.getD i 0 ∧ m.n.getD i 0 ≤ m.l))) : adOk m = false := by
  cases h' : adOk m
  · rfl
  · exact absurd ((adOk_iff m).1 h') h
/-- The seven maps of the statement. -/
theorem bad_l {w : World} {B gp gn c d : Nat} {m : Ad} (O : AdOwn w B gp gn c d m) (ok : adOk m = true) (l : Int) (hl : l < 1 ∨ 1000 < l) (b1 : -2147483648 ≤ l) (b2 : l ≤ 2147483647) : BadIn w l (some ⟨gp, 0, none⟩) (some ⟨gn, 0, none⟩) 193 193 c d := by
  have hr := ok_rows ok
  exact ⟨⟨l, m.p, m.n⟩, rfl, bad_of (fun h => by have := h.1; simp only at this; omega), ⟨b1, b2, O.p.has, O.lp, O.n.has, O.ln, by omega, by omega, hr.1, hr.2⟩, O.capLe.1, O.capLe.2⟩
theorem bad_p {w : World} {B gp gn c d : Nat} {m : Ad} {i : Nat} {x : Int} (O : AdOwn w B gp gn c d ⟨m.l, m.p.set i x, m.n⟩) (ok : adOk m = true) (hi : i < 193) (hx : x < 0 ∨ 65535 < x) (b1 : -2147483648 ≤ x) (b2 : x ≤ 2147483647) : BadIn w m.l (some ⟨gp, 0, none⟩) (some ⟨gn, 0, none⟩) 193 193 c d := by
  have hr := ok_rows ok
  have hok := (adOk_iff m).1 ok
  refine ⟨⟨m.l, m.p.set i x, m.n⟩, rfl, bad_of (fun h => ?_), ⟨by have := hok.1; show -2147483648 ≤ m.l; omega, by have := hok.1; show m.l ≤ 2147483647; omega, O.p.has, O.lp, O.n.has, O.ln, by omega, by omega, mem_set_bd hr.1 ⟨b1, b2⟩, hr.2⟩, O.capLe.1, O.capLe.2⟩
  have := (h.2 i hi).1
  simp only at this
  rw [getD_set_row _ _ _ _ (by have := hok.1; omega), if_pos rfl] at this
  omega
theorem bad_n {w : World} {B gp gn c d : Nat} {m : Ad} {i : Nat} {x : Int} (O : AdOwn w B gp gn c d ⟨m.l, m.p, m.n.set i x⟩) (ok : adOk m = true) (hi : i < 193) (hx : x < 0 ∨ m.l < x) (b1 : -2147483648 ≤ x) (b2 : x ≤ 2147483647) : BadIn w m.l (some ⟨gp, 0, none⟩) (some ⟨gn, 0, none⟩) 193 193 c d := by
  have hr := ok_rows ok
  have hok := (adOk_iff m).1 ok
  refine ⟨⟨m.l, m.p, m.n.set i x⟩, rfl, bad_of (fun h => ?_), ⟨by have := hok.1; show -2147483648 ≤ m.l; omega, by have := hok.1; show m.l ≤ 2147483647; omega, O.p.has, O.lp, O.n.has, O.ln, by omega, by omega, hr.1, mem_set_bd hr.2 ⟨b1, b2⟩⟩, O.capLe.1, O.capLe.2⟩
  have := (h.2 i hi).2
  simp only at this
  rw [getD_set_row _ _ _ _ (by have := hok.1; omega), if_pos rfl] at this
  omega
theorem bad_cut {w : World} {B gp gn c d : Nat} {m : Ad} (O : AdOwn w B gp gn c d m) (ok : adOk m = true) : BadIn w m.l (some ⟨gp, 1, none⟩) (some ⟨gn, 0, none⟩) 192 193 (c - 1) d := by
  have hr := ok_rows ok
  have hok := (adOk_iff m).1 ok
  have hc := O.capLe
  have hd := (O.p.has).dropAt 1
  rw [Nat.zero_add] at hd
  have e : (m.p.drop 1).length = 192 := by rw [List.length_drop]; have := O.lp; omega
  exact ⟨⟨m.l, m.p.drop 1, m.n⟩, rfl, bad_of (fun h => by have := h.1.2.2.1; simp only at this; rw [e] at this; omega), ⟨by have := hok.1; show -2147483648 ≤ m.l; omega, by have := hok.1; show m.l ≤ 2147483647; omega, hd, e, O.n.has, O.ln, by omega, by omega, fun z hz => hr.1 z (List.mem_of_mem_drop hz), hr.2⟩, by omega, hc.2⟩
end Go.Proofs.Ytipbafcjmeibpaa.adL
