/- RingPuts, by a walk: the parts. -/
import Derived.Test.YtolpmllpnjnogaaRgL7
namespace Go.Proofs.Ytolpmllpnjnogaa.rgL
open Go.RowKit Go.Proofs.Ytolpmllpnjnogaa.base Go.Proofs.Ytolpmllpnjnogaa.rgP Go.Proofs.Ytolpmllpnjnogaa.rgW
set_option linter.unusedVariables false
set_option linter.unusedSimpArgs false

/-- A row of the call's own in a block from lo on and below hi, or no elements. -/
def Row (w : World) (lo hi : Nat) (A : Option Addr) (n c : Nat) (zs : List Int) : Prop :=
  (n = 0 ∧ zs = []) ∨ ∃ g, A = some ⟨g, 0, none⟩ ∧ lo ≤ g ∧ g < hi ∧ zs.length = n ∧ OwnI w lo 5 .u8 (.slice (some ⟨g, 0, none⟩) n c) zs
theorem Row.of {w : World} {lo : Nat} {A : Option Addr} {n c : Nat} {zs : List Int} (h : OwnZ w lo (.slice A n c) zs) (hn : zs.length = n) : Row w lo w.heap.size A n c zs := by
  by_cases h0 : zs = []
  · exact .inl ⟨by rw [← hn, h0]; rfl, h0⟩
  · obtain ⟨g, rfl, g1, g2, o⟩ := OwnZ.head h h0
    exact .inr ⟨g, rfl, g1, g2, hn, o⟩
theorem Row.below {w w' : World} {lo hi : Nat} {A : Option Addr} {n c : Nat} {zs : List Int} (h : Row w lo hi A n c zs) (hb : Below w.heap.size w w') : Row w' lo hi A n c zs := by
  rcases h with h | ⟨g, h1, h2, h3, h4, h5⟩
  · exact .inl h
  · exact .inr ⟨g, h1, h2, h3, h4, h5.below hb (Nat.le_refl _)⟩
theorem Row.has {w : World} {lo hi : Nat} {A : Option Addr} {n c : Nat} {zs : List Int} (h : Row w lo hi A n c zs) : Has .u8 w A zs := by
  rcases h with h | ⟨g, rfl, h2, h3, h4, h5⟩
  · exact .inl h.2
  · exact h5.has
theorem Row.set {w : World} {lo hi : Nat} {A : Option Addr} {n c : Nat} {zs : List Int} (h : Row w lo hi A n c zs) {p : Addr} (hp : p.block < lo ∨ hi ≤ p.block) (x : Value) : Row (w.setCell p x) lo hi A n c zs := by
  rcases h with h | ⟨g, h1, h2, h3, h4, h5⟩
  · exact .inl h
  · exact .inr ⟨g, h1, h2, h3, h4, own_set h5 (fun e => by
      have : g = p.block := by simpa [Value.ownBlock] using e
      omega) x⟩
theorem Row.drew {w : World} {lo hi : Nat} {A : Option Addr} {n c : Nat} {zs : List Int} (h : Row w lo hi A n c zs) : Row w.drew lo hi A n c zs := h
theorem OwnZ.caps {w : World} {B : Nat} {A : Option Addr} {n c : Nat} {zs : List Int} (h : OwnZ w B (.slice A n c) zs) : n = zs.length ∧ n ≤ c ∧ c ≤ 9223372036854775807 := by
  rcases h with h | ⟨h0, D, e⟩
  · obtain ⟨hl, h2⟩ := h
    rcases h2 with ⟨h', h0⟩ | ⟨g', cap, cur, hv, hB, hg, hnc, hcm, hcs, ht⟩
    · injection h' with _ v2 v3
      subst v2 v3
      exact ⟨h0.symm, Nat.le_refl _, by omega⟩
    · injection hv with v1 v2 v3
      subst v2 v3
      exact ⟨rfl, hnc, by simpa [maxLen] using hcm⟩
  · injection e with _ v2 v3
    subst v2 v3 h0
    exact ⟨rfl, Nat.le_refl _, by omega⟩
theorem twin_in {w w' : World} {A A' : Option Addr} {n c c' B : Nat} {r : Rg} (h : RgIn w A n c r) (o : OwnZ w' B (.slice A' n c') r.b) : RgIn w' A' n c' r := by
  obtain ⟨c1, c2, c3⟩ := OwnZ.caps o
  exact ⟨h.l1, h.l2, h.n1, h.n2, o.has, h.e, c2, c3, h.b⟩
theorem clone_z {w w' : World} {A' D : Option Addr} {m c' : Nat} {ys : List Int} (hm : ys.length = m) (h : ys = [] ∧ A' = D ∧ c' = 0 ∧ w' = w ∨ OwnI w' w.heap.size 5 .u8 (.slice A' m c') ys) : OwnZ w' w.heap.size (.slice A' m c') ys := by
  rcases h with ⟨h1, h2, h3, h4⟩ | h
  · subst h1 h2 h3 hm
    exact .inr ⟨rfl, _, rfl⟩
  · exact .inl h
theorem Row.mono {w : World} {lo lo' hi hi' : Nat} {A : Option Addr} {n c : Nat} {zs : List Int} (h : Row w lo hi A n c zs) (h1 : lo' ≤ lo) (h2 : hi ≤ hi') : Row w lo' hi' A n c zs := by
  rcases h with h | ⟨g, a1, a2, a3, a4, a5⟩
  · exact .inl h
  · exact .inr ⟨g, a1, by omega, by omega, a4, a5.mono h1⟩
theorem Row.step {w w' : World} {o : Obj} {lo hi : Nat} {A : Option Addr} {n c : Nat} {zs : List Int} (h : Row w lo hi A n c zs) (hb : Below (w.alloc o).heap.size (w.alloc o) w') : Row w' lo hi A n c zs := (h.below ((Below.refl _ _).alloc (Nat.le_refl _) _)).below hb
theorem lies_step {w w' : World} {o : Obj} {g : Nat} {t : TypeId} {cs : List Value} (h : Lies w g t cs) (hb : Below (w.alloc o).heap.size (w.alloc o) w') : Lies w' g t cs := (h.alloc _).past hb
theorem in_step {w w' : World} {o : Obj} {A : Option Addr} {n c : Nat} {r : Rg} (h : RgIn w A n c r) (hb : Below (w.alloc o).heap.size (w.alloc o) w') : RgIn w' A n c r := (h.below ((Below.refl _ _).alloc (Nat.le_refl _) _)).below hb
theorem has_step {w w' : World} {o : Obj} {k : IntKind} {A : Option Addr} {zs : List Int} (h : Has k w A zs) (hb : Below (w.alloc o).heap.size (w.alloc o) w') : Has k w' A zs := (has_alloc h _).below hb (Nat.le_refl _)
theorem size_step {w w' : World} {o : Obj} (hb : Below (w.alloc o).heap.size (w.alloc o) w') : w.heap.size < w'.heap.size := by have := hb.size; simp at this; omega
theorem acc_step {a w w' : World} {o : Obj} (h : Below a.heap.size a w) (hb : Below (w.alloc o).heap.size (w.alloc o) w') : Below a.heap.size a w' := (h.alloc h.size _).trans (hb.mono (by have := h.size; simp; omega))
end Go.Proofs.Ytolpmllpnjnogaa.rgL
