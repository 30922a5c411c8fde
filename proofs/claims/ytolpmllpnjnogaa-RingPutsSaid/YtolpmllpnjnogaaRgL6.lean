/- What putting in two parts is; that old bytes leave no trace. No program. -/
import Derived.Test.YtolpmllpnjnogaaRgL5
namespace Go.Proofs.Ytolpmllpnjnogaa.rgL
open Go.RowKit Go.Proofs.Ytolpmllpnjnogaa.base Go.Proofs.Ytolpmllpnjnogaa.rgP Go.Proofs.Ytolpmllpnjnogaa.rgW
set_option linter.unusedVariables false

theorem hit (N n i b : Nat) (hn : 0 < n) (hi : i < n) : ∃ t, t < n ∧ (N + b + t) % n = i := by
  refine ⟨(i + n - (N + b) % n) % n, Nat.mod_lt _ hn, ?_⟩
  have h := Nat.mod_lt (N + b) hn
  rw [Nat.add_mod, Nat.mod_mod, ← Nat.add_mod_mod, ← Nat.add_mod]
  rw [Nat.add_mod, Nat.mod_mod]
  have e : (N + b) % n + (i + n - (N + b) % n) = i + n := by omega
  have : ((N + b) % n + (i + n - (N + b) % n) % n) % n = i := by
    rw [Nat.add_mod_mod, e, Nat.add_mod_right, Nat.mod_eq_of_lt hi]
  exact this
theorem putR_same {r o : Rg} {l : List Int} (hl : r.l = o.l) (hn : r.n = o.n) (h0 : 0 ≤ r.n) (hb : r.b.length = o.b.length) (hp : 0 < r.b.length) (hk : r.b.length ≤ l.length) : putR r l = putR o l := by
  have e1 : (putR r l).l = (putR o l).l := by rw [putR_l, putR_l, hl]
  have e2 : (putR r l).n = (putR o l).n := by rw [putR_n, putR_n, hn]
  have e3 : (putR r l).b = (putR o l).b := by
    apply List.ext_getElem
    · rw [putR_len, putR_len, hb]
    · intro i i1 i2
      rw [putR_len] at i1
      obtain ⟨t, ht, hit⟩ := hit r.n.toNat r.b.length i (l.length - r.b.length) hp i1
      have g1 := putR_get l r (l.length - r.b.length + t) h0 hp (by omega) (by omega)
      have g2 := putR_get l o (l.length - r.b.length + t) (by rw [← hn]; exact h0) (by omega) (by omega) (by omega)
      rw [← hn, ← hb] at g2
      rw [← Nat.add_assoc, hit] at g1 g2
      have x1 : (putR r l).b[i] = (putR r l).b.getD i 0 := by rw [List.getD_eq_getElem?_getD, List.getElem?_eq_getElem (by rw [putR_len]; exact i1)]; rfl
      have x2 : (putR o l).b[i] = (putR o l).b.getD i 0 := by rw [List.getD_eq_getElem?_getD, List.getElem?_eq_getElem (by rw [putR_len, ← hb]; exact i1)]; rfl
      rw [x1, x2, g1, g2]
  have eta : ∀ x : Rg, x = ⟨x.l, x.b, x.n⟩ := fun x => rfl
  rw [eta (putR r l), eta (putR o l), e1, e2, e3]
theorem putE_ok {r : Rg} {l : List Int} (h : rgOk r = true) (hl : l.length ≤ 700) (hn : r.n ≤ 1000001000) : putE r l = 0 ∧ putV r l = putR r l ∧ rgOk (putR r l) = true := by
  have e : putE r l = 0 := by rw [putE, if_pos h, if_neg (by omega), if_neg (by omega)]
  exact ⟨e, by rw [putV, if_pos e], putR_ok l h (by omega)⟩
theorem put_parts2 {r : Rg} {l : List Int} (k : Nat) (h : rgOk r = true) (hl : l.length ≤ 700) (hn : r.n ≤ 1000000000) : putE r l = 0 ∧ putE r (l.take k) = 0 ∧ putE (putV r (l.take k)) (l.drop k) = 0 ∧ putV (putV r (l.take k)) (l.drop k) = putV r l := by
  obtain ⟨a1, a2, a3⟩ := putE_ok h hl (by omega)
  obtain ⟨b1, b2, b3⟩ := putE_ok (l := l.take k) h (by rw [List.length_take]; omega) (by omega)
  have hb : (putR r (l.take k)).n ≤ 1000001000 := by rw [putR_n, List.length_take]; omega
  obtain ⟨c1, c2, c3⟩ := putE_ok (l := l.drop k) b3 (by rw [List.length_drop]; omega) hb
  refine ⟨a1, b1, by rw [b2]; exact c1, ?_⟩
  rw [b2, c2, a2, ← putR_app, List.take_append_drop]
theorem row_form {k : IntKind} {w : World} {a : Option Addr} {len cap : Nat} {zs : List Int} (h : IsRow k w a len cap zs) : cap = 0 ∨ ∃ b off, a = some ⟨b, off, none⟩ ∧ b < w.heap.size := by
  rcases h with ⟨h1, _, h2, _⟩ | ⟨x, rfl, hl, hm, hz, hc, _⟩
  · exact .inl h2
  · obtain ⟨b, off, spot⟩ := x
    rcases Nat.eq_zero_or_pos cap with hp | hp
    · exact .inl hp
    · have h0 := hc 0 (by omega)
      have hspot : spot = none := by simpa [Addr.add] using World.cell?_spot h0
      subst hspot
      have h0' : w.cell? ⟨b, off, none⟩ = some (.int k (zs.getD 0 0)) := by simpa [Addr.add] using h0
      exact .inr ⟨b, off, rfl, lt_of_cell h0'⟩
end Go.Proofs.Ytolpmllpnjnogaa.rgL
