/- The real cost, the bytes and the last range. No program. -/
import Derived.Test.YtaehjhjbbkblbaaCostMath2
import Derived.Test.YtaehjhjbbkblbaaCostPlain2
namespace Go.Proofs.Ytaehjhjbbkblbaa.costP
open Go.RowKit Go.Proofs.Ytaehjhjbbkblbaa.encP

theorem lgR_256 {m : Int} (h1 : 1 ≤ m) (h2 : m * 256 ≤ 4294967296) : lgR (m * 256) = lgR m + 524288 := by
  have a1 := lgR_two (m := m) h1 (by omega)
  have a2 := lgR_two (m := 2 * m) (by omega) (by omega)
  have a3 := lgR_two (m := 2 * (2 * m)) (by omega) (by omega)
  have a4 := lgR_two (m := 2 * (2 * (2 * m))) (by omega) (by omega)
  have a5 := lgR_two (m := 2 * (2 * (2 * (2 * m)))) (by omega) (by omega)
  have a6 := lgR_two (m := 2 * (2 * (2 * (2 * (2 * m))))) (by omega) (by omega)
  have a7 := lgR_two (m := 2 * (2 * (2 * (2 * (2 * (2 * m)))))) (by omega) (by omega)
  have a8 := lgR_two (m := 2 * (2 * (2 * (2 * (2 * (2 * (2 * m))))))) (by omega) (by omega)
  have e : m * 256 = 2 * (2 * (2 * (2 * (2 * (2 * (2 * (2 * m))))))) := by omega
  rw [e, a8, a7, a6, a5, a4, a3, a2, a1]
  generalize lgR m = x
  omega
theorem lg_given : ∀ (f : Nat) (a b : Int), 0 ≤ a → a ≤ b → b ≤ 4294967295 → lgR ((given f a b).2.1 - (given f a b).1 + 1) = lgR (b - a + 1) + 524288 * ((given f a b).2.2.length : Int)
  | 0, a, b, _, _, _ => by simp [given]
  | f + 1, a, b, h0, h, h1 => by
    by_cases e : a / 16777216 = b / 16777216
    · obtain ⟨s1, s2, s3, s4, s5⟩ := step_bd h0 h h1 e
      have ih := lg_given f (a * 256 % 4294967296) (b * 256 % 4294967296 + 255) s1 (by omega) s2
      have hw : b * 256 % 4294967296 + 255 - a * 256 % 4294967296 + 1 = (b - a + 1) * 256 := by omega
      rw [hw, lgR_256 (by omega) (by omega)] at ih
      simp only [given, if_pos e]
      rw [ih]
      generalize lgR (b - a + 1) = x
      rw [List.length_cons]
      omega
    · simp only [given, if_neg e]
      simp
theorem nx_prt (x1 x2 p : Int) (b : Bool) : (nx x1 x2 p b).2 - (nx x1 x2 p b).1 + 1 = prtV x1 x2 p b := by
  cases b
  · show x2 - (mid x1 x2 p + 1) + 1 = x2 - mid x1 x2 p
    omega
  · rfl
/-- What a state of coding has cost, and what its range is still worth. -/
def CSum (s : Int × Int × Int × Int) : Prop := s.2.2.1 + lgR (s.2.1 - s.1 + 1) = 2097152 + 524288 * s.2.2.2
theorem csum_nxt (s : Int × Int × Int × Int) (p : Int) (b : Bool) (hp : cOk p = true) (h : CGood s ∧ CSum s) : CGood (cN s p b) ∧ CSum (cN s p b) := by
  obtain ⟨g, c⟩ := h
  refine ⟨cgood_nxt s p b hp g, ?_⟩
  obtain ⟨h1, h2, h3, h4⟩ := g
  obtain ⟨n1, n2, n3⟩ := nx_bd (b := b) h1 h2 h3 (cOk_pOk hp)
  have hk : ctOk s.1 s.2.1 p = true := by rw [ctOk, hp, decide_eq_true h2]; rfl
  have e := lg_given 4 (nx s.1 s.2.1 p b).1 (nx s.1 s.2.1 p b).2 n1 n2 n3
  rw [nx_prt] at e
  have ct : ctV s.1 s.2.1 p b = lgR (s.2.1 - s.1 + 1) - lgR (prtV s.1 s.2.1 p b) := by rw [ctV, if_pos hk]
  unfold CSum at c ⊢
  simp only [cN]
  rw [ct]
  unfold pu
  rw [e]
  generalize lgR (s.2.1 - s.1 + 1) = u at *
  generalize lgR (prtV s.1 s.2.1 p b) = v at *
  omega
theorem lgv : lgR 4294967296 = 2097152 ∧ lgR 2 = 65536 := by decide +kernel
theorem csum_all {ps : List Int} {bs : List Bool} (h : ps.all cOk = true) : CGood (cS ps bs) ∧ CSum (cS ps bs) :=
  fold2_inv (I := fun s => CGood s ∧ CSum s) csum_nxt ps bs c0 h ⟨by unfold CGood c0; decide, by unfold CSum; show 0 + lgR (4294967295 - 0 + 1) = 2097152 + 524288 * 0; rw [show (4294967295 - 0 + 1 : Int) = 4294967296 from rfl, lgv.1]; rfl⟩
theorem run_cs : ∀ (ps : List Int) (bs : List Bool) (s : Int × Int × List Int) (t : Int × Int × Int × Int), s.1 = t.1 → s.2.1 = t.2.1 → (s.2.2.length : Int) = t.2.2.2 →
    (runS ps bs s).1 = (fold2 cN ps bs t).1 ∧ (runS ps bs s).2.1 = (fold2 cN ps bs t).2.1 ∧ ((runS ps bs s).2.2.length : Int) = (fold2 cN ps bs t).2.2.2
  | [], _, s, t, h1, h2, h3 => by simp [runS, fold2, h1, h2, h3]
  | _ :: _, [], s, t, h1, h2, h3 => by simp [runS, fold2, h1, h2, h3]
  | p :: ps, b :: bs, s, t, h1, h2, h3 => by
    rw [runS, fold2]
    refine run_cs ps bs _ _ ?_ ?_ ?_
    · simp only [cN]; rw [h1, h2]
    · simp only [cN]; rw [h1, h2]
    · simp only [cN, List.length_append]; rw [h1, h2]; omega
theorem run_cs0 (ps : List Int) (bs : List Bool) : (runS ps bs s0).1 = (cS ps bs).1 ∧ (runS ps bs s0).2.1 = (cS ps bs).2.1 ∧ ((runS ps bs s0).2.2.length : Int) = (cS ps bs).2.2.2 := run_cs ps bs s0 c0 rfl rfl rfl
/-- What the law on bytes says. -/
theorem bytes_facts {ps : List Int} {bs : List Bool} (h : ps.all cOk = true) :
    lgE ((cS ps bs).2.1 - (cS ps bs).1 + 1) = 0 ∧ 524288 * (cS ps bs).2.2.2 = (cS ps bs).2.2.1 - 2097152 + lgV ((cS ps bs).2.1 - (cS ps bs).1 + 1) ∧ 524288 * (cS ps bs).2.2.2 ≤ (cS ps bs).2.2.1 ∧ (cS ps bs).2.2.1 < 524288 * ((cS ps bs).2.2.2 + 4) ∧ 0 ≤ lgV ((cS ps bs).2.1 - (cS ps bs).1 + 1) ∧ lgV ((cS ps bs).2.1 - (cS ps bs).1 + 1) ≤ 2097152 := by
  obtain ⟨⟨g1, g2, g3, g4⟩, c⟩ := csum_all (bs := bs) h
  unfold CSum at c
  generalize cS ps bs = s at *
  have hk : lgOk (s.2.1 - s.1 + 1) = true := (lgOk_iff _).2 ⟨by omega, by omega⟩
  have u := lgR_le (n := 2) (m := s.2.1 - s.1 + 1) (by omega) (by omega) (by omega)
  have v := lgR_le (n := s.2.1 - s.1 + 1) (m := 4294967296) (by omega) (by omega) (by omega)
  rw [lgv.2] at u
  rw [lgv.1] at v
  rw [lgE, if_pos hk, lgV, if_pos hk]
  generalize lgR (s.2.1 - s.1 + 1) = x at *
  omega
end Go.Proofs.Ytaehjhjbbkblbaa.costP
