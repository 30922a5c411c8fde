/- After learning: plain; one row of a map as a map. -/
import Derived.Test.YtdmnaipngcldbaaDoorFnW7
import Derived.Test.YtdmnaipngcldbaaDoorRfA4
namespace Go.Proofs.YtdmnaipngcldbaaDoor.fnP
set_option maxRecDepth 100000
open Go.Proofs.YtdmnaipngcldbaaDoor.base Go.Proofs.YtdmnaipngcldbaaDoor.rfP Go.Proofs.YtdmnaipngcldbaaDoor.rfW
set_option linter.unusedVariables false
theorem one_map {x : List (List Int)} {r d : Int} (bit : Bool) (hE : lookE x r d = 0) :
    learnE x r (lookJ x r d) = 0 ∧ rfB (learnV x r (lookJ x r d) bit) = true ∧ (learnV x r (lookJ x r d) bit).length = x.length ∧ lookE (learnV x r (lookJ x r d) bit) r d = 0 ∧ lookJ (learnV x r (lookJ x r d) bit) r d = lookJ x r d ∧ Stp (lookV x r d) (lookV (learnV x r (lookJ x r d) bit) r d) bit ∧ ∀ i : Nat, (i : Int) ≠ r → (learnV x r (lookJ x r d) bit).getD i [] = x.getD i [] := by
  have ha : askE x r = 0 := by
    unfold lookE at hE
    split at hE
    · assumption
    · exact hE
  have hd : -2047 ≤ d ∧ d ≤ 2047 := by
    unfold lookE at hE
    rw [if_pos ha] at hE
    split at hE
    · cases hE
    · omega
  obtain ⟨h1, h2, h3⟩ := ask_zero ha
  obtain ⟨k, rfl⟩ : ∃ k : Nat, r = k := ⟨r.toNat, by omega⟩
  obtain ⟨t, rfl⟩ : ∃ t : Nat, d = (t : Int) - 2048 := ⟨(d + 2048).toNat, by omega⟩
  have t1 : 1 ≤ t := by omega
  have t2 : t ≤ 4095 := by omega
  have hk : k < x.length := by omega
  obtain ⟨e1, e2, e3⟩ := look_at ha t1 t2
  have hj := near_bd t2
  obtain ⟨l1, l2⟩ := learn_at ha hj bit
  have ha2 := learn_ask ha hj bit
  obtain ⟨e4, e5, e6⟩ := look_at ha2 t1 t2
  rw [e3, l2]
  refine ⟨l1, learn_ok h1 hk hj bit, learn_len _ _ _ _, e4, e6, ?_, ?_⟩
  · rw [e2, e5]; exact seen_stp h1 hk hj bit t2
  · intro i hi; exact learn_else bit (fun e => hi (by rw [e]))
theorem one_bd {x : List (List Int)} {r d : Int} (hE : lookE x r d = 0) : 0 ≤ lookV x r d ∧ lookV x r d ≤ 4095 := by
  have ha : askE x r = 0 := by
    unfold lookE at hE
    split at hE
    · assumption
    · exact hE
  have hd : -2047 ≤ d ∧ d ≤ 2047 := by
    unfold lookE at hE
    rw [if_pos ha] at hE
    split at hE
    · cases hE
    · omega
  obtain ⟨h1, h2, h3⟩ := ask_zero ha
  unfold lookV
  rw [if_pos hE]
  exact (seen_between (rf_row h1 r.toNat (by omega)) (t := (d + 2048).toNat) (by omega)).2.2
theorem join_up3 {p a b c d : Int} (h2 : a ≤ c) (h3 : b ≤ d) : joinN p a b ≤ joinN p c d := by unfold joinN; omega
theorem fE_zero {x y : List (List Int)} {r0 r1 d p : Int} (h : fE x y r0 r1 d p = 0) : fnB x y = true ∧ lookE x r0 d = 0 ∧ lookE y r1 d = 0 ∧ joinB p (lookV x r0 d) (lookV y r1 d) = true := by
  unfold fE at h
  split at h
  · next hf =>
    split at h
    · next ha =>
      split at h
      · next hb =>
        refine ⟨hf, ha, hb, ?_⟩
        cases hj : joinB p (lookV x r0 d) (lookV y r1 d)
        · rw [(join_no hj).1] at h; cases h
        · rfl
      · next hb => exact absurd h hb
    · next ha => exact absurd h ha
  · cases h
theorem both {x y : List (List Int)} {r0 r1 d p : Int} (bit : Bool) (h : fE x y r0 r1 d p = 0) :
    gE x y r0 r1 (lookJ x r0 d) (lookJ y r1 d) = 0 ∧ fnB (gX x y r0 r1 (lookJ x r0 d) (lookJ y r1 d) bit) (gY x y r0 r1 (lookJ x r0 d) (lookJ y r1 d) bit) = true ∧
    fE (gX x y r0 r1 (lookJ x r0 d) (lookJ y r1 d) bit) (gY x y r0 r1 (lookJ x r0 d) (lookJ y r1 d) bit) r0 r1 d p = 0 ∧
    lookJ (gX x y r0 r1 (lookJ x r0 d) (lookJ y r1 d) bit) r0 d = lookJ x r0 d ∧ lookJ (gY x y r0 r1 (lookJ x r0 d) (lookJ y r1 d) bit) r1 d = lookJ y r1 d ∧
    Stp (fV x y r0 r1 d p) (fV (gX x y r0 r1 (lookJ x r0 d) (lookJ y r1 d) bit) (gY x y r0 r1 (lookJ x r0 d) (lookJ y r1 d) bit) r0 r1 d p) bit ∧
    (∀ i : Nat, (i : Int) ≠ r0 → (gX x y r0 r1 (lookJ x r0 d) (lookJ y r1 d) bit).getD i [] = x.getD i []) ∧ (∀ i : Nat, (i : Int) ≠ r1 → (gY x y r0 r1 (lookJ x r0 d) (lookJ y r1 d) bit).getD i [] = y.getD i []) := by
  obtain ⟨hf, ha, hb, hj⟩ := fE_zero h
  obtain ⟨a1, a2, a3, a4, a5, a6, a7⟩ := one_map bit ha
  obtain ⟨b1, b2, b3, b4, b5, b6, b7⟩ := one_map bit hb
  have hg : gE x y r0 r1 (lookJ x r0 d) (lookJ y r1 d) = 0 := by rw [gE_two hf a1, b1]
  obtain ⟨g1, g2⟩ := g_ok (bit := bit) hg
  rw [g1, g2]
  obtain ⟨f1, f2, f3, f4⟩ := (fnB_iff x y).1 hf
  have hF : fnB (learnV x r0 (lookJ x r0 d) bit) (learnV y r1 (lookJ y r1 d) bit) = true := (fnB_iff _ _).2 ⟨by rw [a3, f1], by rw [b3, f2], a2, b2⟩
  have hJ : joinB p (lookV (learnV x r0 (lookJ x r0 d) bit) r0 d) (lookV (learnV y r1 (lookJ y r1 d) bit) r1 d) = true := (joinB_iff _ _ _).2 ⟨((joinB_iff _ _ _).1 hj).1, one_bd a4, one_bd b4⟩
  have hE : fE (learnV x r0 (lookJ x r0 d) bit) (learnV y r1 (lookJ y r1 d) bit) r0 r1 d p = 0 := by rw [fE_join hF a4 b4, (join_yes hJ).1]
  refine ⟨hg, hF, hE, a5, b5, ?_, a7, b7⟩
  rw [(f_ok h).1, (f_ok hE).1]
  exact ⟨fun e => join_up3 (a6.1 e) (b6.1 e), fun e => join_up3 (a6.2 e) (b6.2 e)⟩
end Go.Proofs.YtdmnaipngcldbaaDoor.fnP
namespace Go.Proofs.YtdmnaipngcldbaaDoor.base
set_option maxRecDepth 100000
theorem row_sub {w : World} {b o m c : Nat} {rs : List RY} (h : RowsY w (some ⟨b, o, none⟩) m c rs) (n : Nat) (hn : n < m) : RowsY w (some ⟨b, o + n, none⟩) 1 (c - n) [rs.getD n ry0] := by
  have hl := h.l
  have hc1 := h.c1
  have hc2 := h.c2
  obtain ⟨b', o', e, hb, hc⟩ := h.h.some (by omega)
  have e : (some ⟨b, o, none⟩ : Option Addr) = some ⟨b', o', none⟩ := e
  injection e with e
  injection e with e1 e2
  subst e1 e2
  have hg := h.h.get n (by omega)
  have hk := hc n (by omega)
  exact ⟨rfl, by omega, by omega, .inr ⟨b, o + n, rfl, hb, fun i hi => by have : i = 0 := (by simpa using hi); subst this; exact hk⟩, fun r hr => by rw [List.mem_singleton] at hr; subst hr; exact hg⟩
end Go.Proofs.YtdmnaipngcldbaaDoor.base
