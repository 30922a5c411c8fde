/- What Cut answers. -/
import Derived.Test.YthckpenindchlaaSpC2
import Derived.Test.YthckpenindchlaaSpPlN
namespace Go.Proofs.Ythckpenindchlaa.spW
set_option maxRecDepth 100000
open Go.RowKit Go.Proofs.Ythckpenindchlaa.base Go.Proofs.Ythckpenindchlaa.mbW
set_option linter.unusedVariables false
set_option linter.unusedSimpArgs false
set_option maxRecDepth 100000
theorem pcs_wi {zs : List Int} {b : Int} (hb : blB b = true) : ∀ n, n ≤ zs.length → ∀ p ∈ pcsT zs b n, wiP zs p
  | 0, _, p, hp => by simp [pcsT] at hp
  | n + 1, hn, p, hp => by
    rw [pcsT, List.mem_append] at hp
    rcases hp with hp | hp
    · exact pcs_wi hb n (by omega) p hp
    · obtain ⟨t, ht, rfl⟩ := List.mem_map.1 hp
      have b1 := ((blB_iff b).1 hb).1
      have h1 := (lt_cnt (z := zs.getD n 0) (b := b) (by omega) t).2 (List.mem_range.1 ht)
      have h0 : 0 ≤ (t : Int) * b := Int.mul_nonneg (by omega) (by omega)
      unfold wiP pc1
      dsimp only
      rw [show ((n : Int)).toNat = n by omega]
      generalize (t : Int) * b = x at *
      generalize zs.getD n 0 = z at *
      omega
theorem wi_smallC {zs : List Int} (h : szE zs = 0) {p : Pc} (hp : wiP zs p) : (0 ≤ p.m ∧ p.m ≤ 16) ∧ 0 ≤ p.o ∧ 1 ≤ p.r ∧ p.o + p.r ≤ 8192 := by
  obtain ⟨h1, h2, h3, h4, h5, h6⟩ := hp
  have a := (sz_zero h).2.1
  have b := sz_one h (k := p.m.toNat) (by omega)
  have b2 := b.2
  omega
theorem ok_smallC {p : Pc} (h : (0 ≤ p.m ∧ p.m ≤ 16) ∧ 0 ≤ p.o ∧ 1 ≤ p.r ∧ p.o + p.r ≤ 8192) : PcOk p := ⟨by omega, by omega, by omega⟩
def cutB (ms : List Mb) (p : Pc) : List Int := ((ms.getD p.m.toNat mb0).r.b.drop p.o.toNat).take p.r.toNat
noncomputable def ctE (ms : List Mb) (b : Int) : Int := if ckE ms = 0 then (if blB b then 0 else 2) else ckE ms
noncomputable def ctV (ms : List Mb) (b : Int) : List Pc := if ctE ms b = 0 then pcsT (lensM ms) b ms.length else []
theorem ct_ck {ms : List Mb} (b : Int) (h : ckE ms ≠ 0) : ctE ms b = ckE ms ∧ ctV ms b = [] := by
  have e : ctE ms b = ckE ms := by unfold ctE; rw [if_neg h]
  exact ⟨e, by unfold ctV; rw [if_neg (by rw [e]; exact h)]⟩
theorem ct_bl {ms : List Mb} {b : Int} (h : ckE ms = 0) (h2 : blB b = false) : ctE ms b = 2 ∧ ctV ms b = [] := by
  have e : ctE ms b = 2 := by unfold ctE; rw [if_pos h, if_neg (by rw [h2]; decide)]
  exact ⟨e, by unfold ctV; rw [if_neg (by rw [e]; decide)]⟩
theorem ct_ok {ms : List Mb} {b : Int} (h : ckE ms = 0) (h2 : blB b = true) : ctE ms b = 0 ∧ ctV ms b = pcsT (lensM ms) b ms.length := by
  have e : ctE ms b = 0 := by unfold ctE; rw [if_pos h, if_pos h2]
  exact ⟨e, by unfold ctV; rw [if_pos e]⟩
/-- What Cut answers: the error, and parts of own bytes. -/
def CtP (ms : List Mb) (b : Int) (w : World) (e : Ending) (w' : World) : Prop := ∃ (A : Option Addr) (n c : Nat) (ts : List Pt), e = .returned (.tuple #[.slice A n c, .int .i64 (ctE ms b)]) ∧ ts.length = n ∧ n ≤ 600 ∧ TE.Has w' A ts ∧ (∀ t ∈ ts, InR w' t.r ∧ t.r.b = cutB ms t.p ∧ PcOk t.p) ∧ ts.map (·.p) = ctV ms b ∧ Below w.heap.size w w'
theorem ct_no {ms : List Mb} {b e : Int} {w w' : World} (h : ctE ms b = e ∧ ctV ms b = []) (hb : Below w.heap.size w w') : CtP ms b w (.returned (.tuple #[.slice none 0 0, .int .i64 e])) w' :=
  ⟨none, 0, 0, [], by rw [h.1], rfl, by omega, .inl rfl, by simp, by rw [h.2]; rfl, hb⟩
/-- Own parts grow: bytes of blocks of bytes stay. -/
theorem data_grownT {w w' : World} {r : R8} (h : InR w r) (hd : spT.DataU w r) {B : Nat} {v : Value} {xs : List Pt} (ho : TE.Own w B v xs) (hg : w.grownBy w' v.ownBlock) : InR w' r ∧ spT.DataU w' r := by
  have hne : ∀ g cur fr, w.heap[g]? = some (.cells cur 5 fr) → some g ≠ v.ownBlock := by
    intro g cur fr hh e
    rcases ho.2 with ⟨rfl, _⟩ | ⟨g', cap, cur', rfl, _, hh', _⟩
    · simp [Value.ownBlock] at e
    · have : g = g' := by simpa [Value.ownBlock] using e
      subst this
      rw [hh] at hh'
      injection hh' with h1
      injection h1 with _ h2
      exact absurd h2 (by show (5 : TypeId) ≠ 59; decide)
  rcases hd with hd | ⟨g, cur, fr, h1, h2⟩
  · exact ⟨⟨.inl hd, h.e, h.c1, h.c2, h.b⟩, .inl hd⟩
  · have hgne := hne g cur fr h2
    refine ⟨⟨?_, h.e, h.c1, h.c2, h.b⟩, .inr ⟨g, cur, fr, h1, by rw [hg.block g (lt_of_block h2) hgne]; exact h2⟩⟩
    rcases h.h with h0 | ⟨b, off, e, hb, hc⟩
    · exact .inl h0
    · rw [h1] at e
      injection e with e
      injection e with e1 e2
      subst e1 e2
      exact .inr ⟨g, 0, h1, Nat.lt_of_lt_of_le hb hg.size, fun i hi => hg.cell (hc i hi) hgne⟩
end Go.Proofs.Ythckpenindchlaa.spW
