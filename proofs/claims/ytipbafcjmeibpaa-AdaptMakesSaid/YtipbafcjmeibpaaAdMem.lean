/- Rows of an adaptive map in memory that a call makes. -/
import Derived.Test.YtipbafcjmeibpaaAdBase
import Derived.Test.YtipbafcjmeibpaaAdPlain2
import Derived.Test.YtipbafcjmeibpaaOwnY
import Derived.Test.YtipbafcjmeibpaaBlock
import Derived.Test.YtipbafcjmeibpaaReg
import Derived.Lib.Hide
import Derived.Outline
import Derived.WalkSpells
namespace Go.Proofs.Ytipbafcjmeibpaa.base
open Go.RowKit
open Go.Proofs.Ytipbafcjmeibpaa.adP
set_option linter.unusedVariables false

theorem own_set {w : World} {B : Nat} {e : TypeId} {k : IntKind} {v : Value} {zs : List Int} {p : Addr} (h : OwnI w B e k v zs) (hne : v.ownBlock ≠ some p.block) (x : Value) : OwnI (w.setCell p x) B e k v zs := by
  refine ⟨h.1, ?_⟩
  rcases h.2 with h2 | ⟨g, cap, cur, hv, hB, hg, r⟩
  · exact .inl h2
  · exact .inr ⟨g, cap, cur, hv, hB, by rw [Below.heap_setCell w p x g (fun e => hne (by rw [hv, e]; rfl))]; exact hg, r⟩
theorem own_ne {w : World} {B g : Nat} {e t : TypeId} {k : IntKind} {v : Value} {zs : List Int} {cs : List Value} (h : OwnI w B e k v zs) (K : Lies w g t cs) (ht : t ≠ e) : v.ownBlock ≠ some g := by
  rcases h.2 with ⟨rfl, _⟩ | ⟨g', cap, cur, rfl, hB, hg, r⟩
  · simp [Value.ownBlock]
  · intro hh
    have : g' = g := by simpa [Value.ownBlock] using hh
    subst this
    unfold Lies at K
    rw [hg] at K
    injection K with K
    injection K with _ K2
    exact ht K2.symm
/-- All blocks that are no rows of int32 are as they were. -/
def Keeps (w w' : World) : Prop := ∀ g t cs, Lies w g t cs → t ≠ 21 → Lies w' g t cs
theorem Lies.keeps {w w' : World} {g : Nat} {t : TypeId} {cs : List Value} (h : Lies w g t cs) (k : Keeps w w') (ht : t ≠ 21) : Lies w' g t cs := k g t cs h ht
theorem Keeps.past {w w' : World} (h : Below w.heap.size w w') : Keeps w w' := fun _ _ _ K _ => K.past h
theorem Keeps.trans {w w' w'' : World} (h : Keeps w w') (k : Keeps w' w'') : Keeps w w'' := fun g t cs K ht => k g t cs (h g t cs K ht) ht
theorem Keeps.refl (w : World) : Keeps w w := fun _ _ _ K _ => K
theorem Keeps.drewN {w w' : World} (h : Keeps w w') (n : Nat) : Keeps w (w'.drewN n) := h
/-- A map whose rows are a call's own, each at the head of its block. -/
structure AdOwn (w : World) (B gp gn cp cn : Nat) (m : Ad) : Prop where
  p : OwnI w B 21 .i32 (.slice (some ⟨gp, 0, none⟩) 193 cp) m.p
  n : OwnI w B 21 .i32 (.slice (some ⟨gn, 0, none⟩) 193 cn) m.n
  ne : gp ≠ gn
  lp : m.p.length = 193
  ln : m.n.length = 193
theorem OwnI.capLe {w : World} {B : Nat} {e : TypeId} {k : IntKind} {A : Option Addr} {n c : Nat} {zs : List Int} (h : OwnI w B e k (.slice A n c) zs) : n ≤ c ∧ c ≤ 9223372036854775807 := by
  rcases h.2 with ⟨h', h0⟩ | ⟨g, cap, cur, h', _, _, hnc, hcm, _⟩
  · injection h' with _ h2 h3; omega
  · injection h' with _ h2 h3; unfold maxLen at hcm; omega
theorem AdOwn.below {w w' : World} {B C gp gn cp cn : Nat} {m : Ad} (h : AdOwn w B gp gn cp cn m) (hb : Below C w w') (hC : w.heap.size ≤ C) : AdOwn w' B gp gn cp cn m :=
  ⟨h.p.below hb hC, h.n.below hb hC, h.ne, h.lp, h.ln⟩
theorem AdOwn.past {w w' : World} {B gp gn cp cn : Nat} {m : Ad} (h : AdOwn w B gp gn cp cn m) (hb : Below w.heap.size w w') : AdOwn w' B gp gn cp cn m := h.below hb (Nat.le_refl _)
theorem AdOwn.mono {w : World} {B C gp gn cp cn : Nat} {m : Ad} (h : AdOwn w B gp gn cp cn m) (hC : C ≤ B) : AdOwn w C gp gn cp cn m :=
  ⟨h.p.mono hC, h.n.mono hC, h.ne, h.lp, h.ln⟩
theorem AdOwn.drewN {w : World} {B gp gn cp cn : Nat} {m : Ad} (h : AdOwn w B gp gn cp cn m) (n : Nat) : AdOwn (w.drewN n) B gp gn cp cn m := ⟨h.p, h.n, h.ne, h.lp, h.ln⟩
theorem AdOwn.other {w : World} {B gp gn cp cn g : Nat} {m : Ad} {t : TypeId} {cs : List Value} (h : AdOwn w B gp gn cp cn m) (K : Lies w g t cs) (ht : t ≠ 21) (i : Nat) (x : Value) : AdOwn (w.setCell ⟨g, i, none⟩ x) B gp gn cp cn m :=
  ⟨own_set h.p (own_ne h.p K ht) x, own_set h.n (own_ne h.n K ht) x, h.ne, h.lp, h.ln⟩
theorem AdOwn.store3 {w : World} {B gp gn cp cn g : Nat} {m : Ad} {t : TypeId} {x y z a b c : Value} (h : AdOwn w B gp gn cp cn m) (K : Lies w g t [x, y, z]) (ht : t ≠ 21) : AdOwn (((w.setCell ⟨g, 0, none⟩ a).setCell ⟨g, 1, none⟩ b).setCell ⟨g, 2, none⟩ c) B gp gn cp cn m :=
  ((h.other K ht 0 a).other (K.set 0 a) ht 1 b).other ((K.set 0 a).set 1 b) ht 2 c
theorem AdOwn.alloc {w : World} {B gp gn cp cn : Nat} {m : Ad} (h : AdOwn w B gp gn cp cn m) (o : Obj) : AdOwn (w.alloc o) B gp gn cp cn m := h.past ((Below.refl _ _).alloc (Nat.le_refl _) _)
theorem AdOwn.capLe {w : World} {B gp gn cp cn : Nat} {m : Ad} (h : AdOwn w B gp gn cp cn m) : 193 ≤ cp ∧ 193 ≤ cn := ⟨h.p.capLe.1, h.n.capLe.1⟩
theorem AdOwn.setN {w : World} {B gp gn cp cn : Nat} {m : Ad} (h : AdOwn w B gp gn cp cn m) (i : Nat) (x : Int) : AdOwn (w.setCell ⟨gn, i, none⟩ (.int .i32 x)) B gp gn cp cn ⟨m.l, m.p, m.n.set i x⟩ :=
  ⟨own_set h.p (by simp [Value.ownBlock]; exact h.ne) _, h.n.store i x, h.ne, h.lp, by simp [h.ln]⟩
theorem AdOwn.setP {w : World} {B gp gn cp cn : Nat} {m : Ad} (h : AdOwn w B gp gn cp cn m) (i : Nat) (x : Int) : AdOwn (w.setCell ⟨gp, i, none⟩ (.int .i32 x)) B gp gn cp cn ⟨m.l, m.p.set i x, m.n⟩ :=
  ⟨h.p.store i x, own_set h.n (by simp [Value.ownBlock]; exact fun e => h.ne e.symm) _, h.ne, by simp [h.lp], h.ln⟩
/-- A store into a row of int32 leaves the blocks that are none. -/
theorem Keeps.set {w w' : World} {B g cp n : Nat} {k : IntKind} {zs : List Int} (h : Keeps w w') (o : OwnI w' B 21 k (.slice (some ⟨g, 0, none⟩) n cp) zs) (i : Nat) (x : Value) : Keeps w (w'.setCell ⟨g, i, none⟩ x) := by
  intro g' t cs K ht
  have K' := h g' t cs K ht
  refine K'.other ?_ x
  intro e
  exact own_ne o K' ht (by simp [Value.ownBlock]; exact e)
theorem AdOwn.in_ {w : World} {B gp gn cp cn : Nat} {m : Ad} (h : AdOwn w B gp gn cp cn m) (h1 : -2147483648 ≤ m.l) (h2 : m.l ≤ 2147483647) (bp : ∀ z ∈ m.p, -2147483648 ≤ z ∧ z ≤ 2147483647) (bn : ∀ z ∈ m.n, -2147483648 ≤ z ∧ z ≤ 2147483647) : AdIn w (some ⟨gp, 0, none⟩) (some ⟨gn, 0, none⟩) 193 193 m :=
  ⟨h1, h2, h.p.has, h.lp, h.n.has, h.ln, by omega, by omega, bp, bn⟩
theorem ok_rows {m : Ad} (h : adOk m = true) : (∀ z ∈ m.p, -2147483648 ≤ z ∧ z ≤ 2147483647) ∧ (∀ z ∈ m.n, -2147483648 ≤ z ∧ z ≤ 2147483647) := by
  rw [adOk_iff] at h
  obtain ⟨⟨l1, l2, e1, e2⟩, hr⟩ := h
  constructor
  · intro z hz
    obtain ⟨i, hi, rfl⟩ := List.getElem_of_mem hz
    have := (hr i (by omega)).1
    rw [List.getD_eq_getElem?_getD, List.getElem?_eq_getElem hi] at this
    simp at this; omega
  · intro z hz
    obtain ⟨i, hi, rfl⟩ := List.getElem_of_mem hz
    have := (hr i (by omega)).2
    rw [List.getD_eq_getElem?_getD, List.getElem?_eq_getElem hi] at this
    simp at this; omega
theorem AdOwn.inOk {w : World} {B gp gn cp cn : Nat} {m : Ad} (h : AdOwn w B gp gn cp cn m) (ha : adOk m = true) : AdIn w (some ⟨gp, 0, none⟩) (some ⟨gn, 0, none⟩) 193 193 m := by
  have hr := ok_rows ha
  rw [adOk_iff] at ha
  exact h.in_ (by omega) (by omega) hr.1 hr.2
theorem zero_in (w : World) : AdIn w none none 0 0 zeroA := ⟨by decide, by decide, .inl rfl, rfl, .inl rfl, rfl, by omega, by omega, by simp [zeroA], by simp [zeroA]⟩
set_option maxHeartbeats 400000 in
/-- slices.Clone of int32. -/
theorem Clone32 {A : Option Addr} {n c : Nat} {zs : List Int} {w : World} (hA : Has .i32 w A zs) (hn : zs.length = n) (hc : n ≤ c) (hm : n ≤ 1073741824) (hp : 0 < n) :
    Calls Try.prog 44 #[.slice A n c] w fun e w' => ∃ g c', e = .returned (.slice (some ⟨g, 0, none⟩) n c') ∧ OwnI w' w.heap.size 21 .i32 (.slice (some ⟨g, 0, none⟩) n c') zs ∧ Below w.heap.size w w' := by
  subst hn
  have HA := Lib.hid hA
  have HP := Lib.hid (List.length_pos_iff.1 hp)
  obtain ⟨b, off, rfl, _, _⟩ := has_some hA hp
  clear hA
  have he : ∀ w : World, (binOp .eql 22 (.slice (some ⟨b, off, none⟩) zs.length c) (.slice none 0 0)).run Try.prog w = .ok (.bool false) w := fun w => Lib.run_eql_slice_nil w 22 21 (some ⟨b, off, none⟩) zs.length c 0 0 Try.underlying22
  go_enter Try.func44, Try.ntmps44
  go_wp2_with (at_builtin; refine clone32 rfl _ _ rfl (some ⟨w.heap.size, 0, none⟩) rfl (some ⟨b, off, none⟩) _ _ zs rfl rfl (HA.out.below ((Below.refl _ _).alloc (Nat.le_refl _) _) (Nat.le_refl _)) hm ?_; intro A1 c1 w1 hh1 hb1 ho1)
  go_ret
  rcases ho1 with ⟨h0, _⟩ | ho1
  · exact absurd h0 HP.out
  · obtain ⟨g, e1, _, _, _⟩ := ho1.form HP.out
    subst e1
    exact ⟨g, c1, rfl, ho1.mono (by simp), ((Below.refl _ _).alloc (Nat.le_refl _) _).trans (hb1.mono (by simp))⟩
end Go.Proofs.Ytipbafcjmeibpaa.base
