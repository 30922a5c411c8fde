/- Headers, by themselves. -/
import Derived.WalkKit
import Derived.Test.YteofindkccndjaaDoorShPlain
namespace Go.Proofs.YteofindkccndjaaDoor.hdP
set_option maxRecDepth 100000
open Go.Proofs.YteofindkccndjaaDoor.shP
structure Hd where
  mo : Int
  me : Int
  of : Int
  ra : Int
  le : Int
  s : List Int
def Ok (h : Hd) : Prop := (0 ≤ h.me ∧ h.me < 16) ∧ (1 ≤ h.ra ∧ h.ra ≤ 4096) ∧ (0 ≤ h.of ∧ h.of ≤ 8192 - h.ra) ∧ ((h.mo = 1 ∧ h.le = h.ra) ∨ (h.mo = 2 ∧ 1 ≤ h.le ∧ h.le < h.ra))
instance (h : Hd) : Decidable (Ok h) := by unfold Ok; exact inferInstance
def hdE (h : Hd) : Int := if Ok h then 0 else 8
/-- The bytes before Sum. -/
def fr (h : Hd) : List Int := [h.mo, h.me, h.of / 256, h.of % 256, h.ra / 256, h.ra % 256, h.le / 256, h.le % 256]
def by_ (h : Hd) : List Int := fr h ++ h.s
def nul : Hd := ⟨0, 0, 0, 0, 0, List.replicate 20 0⟩
/-- The header that bytes say. -/
def of_ (b : List Int) : Hd := ⟨b.getD 0 0, b.getD 1 0, 256 * b.getD 2 0 + b.getD 3 0, 256 * b.getD 4 0 + b.getD 5 0, 256 * b.getD 6 0 + b.getD 7 0, b.drop 8⟩
def paB (b : List Int) : Prop := b.length = 28 ∧ Ok (of_ b)
instance (b : List Int) : Decidable (paB b) := by unfold paB; exact inferInstance
def paE (b : List Int) : Int := if paB b then 0 else 12
def paV (b : List Int) : Hd := if paB b then of_ b else nul
def enV (h : Hd) : List Int := if Ok h then by_ h else []
structure Bd (h : Hd) : Prop where
  mo : 0 ≤ h.mo ∧ h.mo ≤ 255
  me : -9223372036854775808 ≤ h.me ∧ h.me ≤ 9223372036854775807
  of : -9223372036854775808 ≤ h.of ∧ h.of ≤ 9223372036854775807
  ra : -9223372036854775808 ≤ h.ra ∧ h.ra ≤ 9223372036854775807
  le : -9223372036854775808 ≤ h.le ∧ h.le ≤ 9223372036854775807
  n : h.s.length = 20
  s : ∀ z ∈ h.s, 0 ≤ z ∧ z ≤ 255
theorem Ok.le_ {h : Hd} (k : Ok h) : 1 ≤ h.le ∧ h.le ≤ 4096 := by unfold Ok at k; omega
theorem fr_bd {h : Hd} (k : Ok h) : ∀ z ∈ fr h, 0 ≤ z ∧ z ≤ 255 := by
  have := k.le_
  unfold Ok at k
  intro z hz
  simp only [fr, List.mem_cons, List.not_mem_nil, or_false] at hz
  rcases hz with rfl | rfl | rfl | rfl | rfl | rfl | rfl | rfl <;> omega
theorem by_bd {h : Hd} (k : Ok h) (hb : Bd h) : ∀ z ∈ by_ h, 0 ≤ z ∧ z ≤ 255 := by
  intro z hz
  rcases List.mem_append.1 hz with c | c
  · exact fr_bd k z c
  · exact hb.s z c
theorem by_len {h : Hd} (hb : Bd h) : (by_ h).length = 28 := by simp [by_, fr, hb.n]
theorem of_by {h : Hd} (k : Ok h) (hb : Bd h) : of_ (by_ h) = h := by
  have := k.le_
  unfold Ok at k
  obtain ⟨mo, me, of, ra, le, s⟩ := h
  simp only [by_, fr, of_, Hd.mk.injEq] at *
  refine ⟨rfl, rfl, ?_, ?_, ?_, rfl⟩ <;> simp <;> omega
theorem by_of {b : List Int} (hl : b.length = 28) (hb : ∀ z ∈ b, 0 ≤ z ∧ z ≤ 255) : by_ (of_ b) = b := by
  match b, hl with
  | b0 :: b1 :: b2 :: b3 :: b4 :: b5 :: b6 :: b7 :: r, _ =>
    have h0 := hb b2 (by simp); have h1 := hb b3 (by simp); have h2 := hb b4 (by simp); have h3 := hb b5 (by simp); have h4 := hb b6 (by simp); have h5 := hb b7 (by simp)
    simp [by_, fr, of_]
    omega
theorem of_bd {b : List Int} (hl : b.length = 28) (hb : ∀ z ∈ b, 0 ≤ z ∧ z ≤ 255) : Bd (of_ b) := by
  have g : ∀ i, i < 28 → 0 ≤ b.getD i 0 ∧ b.getD i 0 ≤ 255 := fun i hi => by
    rw [List.getD_eq_getElem?_getD, List.getElem?_eq_getElem (by omega)]; exact hb _ (List.getElem_mem _)
  have g0 := g 0 (by omega); have g1 := g 1 (by omega); have g2 := g 2 (by omega); have g3 := g 3 (by omega); have g4 := g 4 (by omega); have g5 := g 5 (by omega); have g6 := g 6 (by omega); have g7 := g 7 (by omega)
  clear g
  unfold of_
  refine ⟨g0, ?_, ?_, ?_, ?_, ?_, ?_⟩
  · exact ⟨by show _ ≤ b.getD 1 0; omega, by show b.getD 1 0 ≤ _; omega⟩
  · exact ⟨by show _ ≤ 256 * b.getD 2 0 + b.getD 3 0; omega, by show 256 * b.getD 2 0 + b.getD 3 0 ≤ _; omega⟩
  · exact ⟨by show _ ≤ 256 * b.getD 4 0 + b.getD 5 0; omega, by show 256 * b.getD 4 0 + b.getD 5 0 ≤ _; omega⟩
  · exact ⟨by show _ ≤ 256 * b.getD 6 0 + b.getD 7 0; omega, by show 256 * b.getD 6 0 + b.getD 7 0 ≤ _; omega⟩
  · show (b.drop 8).length = 20; rw [List.length_drop, hl]
  · intro z hz; exact hb z (List.mem_of_mem_drop hz)
theorem nul_bd : Bd nul := ⟨by decide, by decide, by decide, by decide, by decide, by decide, by intro z hz; simp [nul] at hz; omega⟩
theorem nul_no : ¬ Ok nul := by decide
theorem paV_bd {b : List Int} (hb : ∀ z ∈ b, 0 ≤ z ∧ z ≤ 255) : Bd (paV b) := by
  unfold paV; split
  · rename_i h; exact of_bd h.1 hb
  · exact nul_bd
theorem hdE_yes {h : Hd} (k : Ok h) : hdE h = 0 := if_pos k
theorem hdE_no {h : Hd} (k : ¬ Ok h) : hdE h = 8 := if_neg k
end Go.Proofs.YteofindkccndjaaDoor.hdP
