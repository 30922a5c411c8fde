/- A row of bytes of the call's own, or a slice without room: what slices.Clone gives; append onto it. -/
import Derived.Test.YtkklmclnjmafaaaMem8
import Derived.Test.YtkklmclnjmafaaaStep
import Derived.Test.YtkklmclnjmafaaaBlock
import Derived.Test.YtkklmclnjmafaaaReg
import Derived.Lib.Hide
import Derived.Outline
import Derived.WalkSpells
namespace Go.Proofs.Ytkklmclnjmafaaa.base
set_option maxRecDepth 100000
open Go.RowKit
set_option linter.unusedVariables false

def OwnZ (w : World) (B : Nat) (v : Value) (zs : List Int) : Prop := OwnI w B 5 .u8 v zs ∨ (zs = [] ∧ ∃ D, v = .slice D 0 0)
theorem OwnZ.val {w : World} {B : Nat} {v : Value} {zs : List Int} (h : OwnZ w B v zs) : ∃ A cap, v = .slice A zs.length cap ∧ Has .u8 w A zs ∧ zs.length ≤ cap := by
  rcases h with h | ⟨rfl, D, rfl⟩
  · obtain ⟨A, cap, h1, h2, h3, _⟩ := h.val
    exact ⟨A, cap, h1, h2, h3⟩
  · exact ⟨D, 0, rfl, .inl rfl, Nat.le_refl _⟩
theorem own_set {w : World} {B : Nat} {e : TypeId} {k : IntKind} {v : Value} {zs : List Int} {p : Addr} (h : OwnI w B e k v zs) (hne : v.ownBlock ≠ some p.block) (x : Value) : OwnI (w.setCell p x) B e k v zs := by
  refine ⟨h.1, ?_⟩
  rcases h.2 with h2 | ⟨g, cap, cur, hv, hB, hg, r⟩
  · exact .inl h2
  · exact .inr ⟨g, cap, cur, hv, hB, by rw [Below.heap_setCell w p x g (fun e => hne (by rw [hv, e]; rfl))]; exact hg, r⟩
theorem own_ne {w : World} {B g : Nat} {e t : TypeId} {k : IntKind} {v : Value} {zs : List Int} {cs : List Value} (h : OwnI w B e k v zs) (K : Lies w g t cs) (ht : t ≠ e) : v.ownBlock ≠ some g := by
  rcases h.2 with ⟨rfl, _⟩ | ⟨g', cap, cur, rfl, hB, hg, r⟩
  · simp [Value.ownBlock]
  · intro hh
    have : g' = g := by simpa [Value.ownBlock] using hh
    subst this
    unfold Lies at K
    rw [hg] at K
    injection K with K
    injection K with _ K2
    exact ht K2.symm
/-- All blocks that are no bytes are as they were. -/
def Keeps (w w' : World) : Prop := ∀ g t cs, Lies w g t cs → t ≠ 5 → Lies w' g t cs
theorem Lies.keeps {w w' : World} {g : Nat} {t : TypeId} {cs : List Value} (h : Lies w g t cs) (k : Keeps w w') (ht : t ≠ 5) : Lies w' g t cs := k g t cs h ht
theorem below_at {a w w' : World} {B : Nat} (k : Below B w w') (h : Below a.heap.size a w) (hB : a.heap.size ≤ B) : Below a.heap.size a w' := h.trans (k.mono hB)
theorem OwnZ.drewN {w : World} {B : Nat} {v : Value} {zs : List Int} (h : OwnZ w B v zs) (n : Nat) : OwnZ (w.drewN n) B v zs := h
theorem OwnZ.drew {w : World} {B : Nat} {v : Value} {zs : List Int} (h : OwnZ w B v zs) : OwnZ w.drew B v zs := h
theorem OwnZ.below {w w' : World} {B C : Nat} {v : Value} {zs : List Int} (h : OwnZ w B v zs) (hb : Below C w w') (hC : w.heap.size ≤ C) : OwnZ w' B v zs := by
  rcases h with h | h
  · exact .inl (h.below hb hC)
  · exact .inr h
theorem OwnZ.past {w w' : World} {B : Nat} {v : Value} {zs : List Int} (h : OwnZ w B v zs) (hb : Below w.heap.size w w') : OwnZ w' B v zs := h.below hb (Nat.le_refl _)
theorem OwnZ.mono {w : World} {B B' : Nat} {v : Value} {zs : List Int} (h : OwnZ w B v zs) (hB : B' ≤ B) : OwnZ w B' v zs := by
  rcases h with h | h
  · exact .inl (OwnI.mono h hB)
  · exact .inr h
theorem OwnZ.other {w : World} {B g : Nat} {v : Value} {zs : List Int} {t : TypeId} {cs : List Value} (h : OwnZ w B v zs) (K : Lies w g t cs) (ht : t ≠ 5) (i : Nat) (x : Value) : OwnZ (w.setCell ⟨g, i, none⟩ x) B v zs := by
  rcases h with h | h
  · exact .inl (own_set h (own_ne h K ht) x)
  · exact .inr h
theorem OwnZ.has {w : World} {B : Nat} {A : Option Addr} {n c : Nat} {zs : List Int} (h : OwnZ w B (.slice A n c) zs) : Has .u8 w A zs := by
  obtain ⟨A', c', e, h1, _⟩ := h.val
  injection e with e1 _ _
  rw [e1]; exact h1
theorem OwnZ.alloc {w : World} {B : Nat} {v : Value} {zs : List Int} (h : OwnZ w B v zs) (o : Obj) : OwnZ (w.alloc o) B v zs := h.below ((Below.refl _ _).alloc (Nat.le_refl _) _) (Nat.le_refl _)

theorem OwnZ.store3 {w : World} {B g : Nat} {v : Value} {zs : List Int} {t : TypeId} {x y z a b c : Value} (h : OwnZ w B v zs) (K : Lies w g t [x, y, z]) (ht : t ≠ 5) : OwnZ (((w.setCell ⟨g, 0, none⟩ a).setCell ⟨g, 1, none⟩ b).setCell ⟨g, 2, none⟩ c) B v zs :=
  ((h.other K ht _ _).other (K.set 0 _) ht _ _).other ((K.set 0 _).set 1 _) ht _ _
end Go.Proofs.Ytkklmclnjmafaaa.base
