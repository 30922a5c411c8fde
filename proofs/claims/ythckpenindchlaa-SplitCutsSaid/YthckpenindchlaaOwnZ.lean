/- A row of bytes of the call's own, or a slice without room: what slices.Clone gives; append onto it. -/
import Derived.Test.YthckpenindchlaaMem8
import Derived.Test.YthckpenindchlaaStep
import Derived.Test.YthckpenindchlaaBlock
import Derived.Test.YthckpenindchlaaReg
import Derived.Lib.Hide
import Derived.Outline
import Derived.WalkSpells
namespace Go.Proofs.Ythckpenindchlaa.base
set_option maxRecDepth 100000
open Go.RowKit
set_option linter.unusedVariables false

def OwnZ (w : World) (B : Nat) (v : Value) (zs : List Int) : Prop := OwnI w B 5 .u8 v zs ∨ (zs = [] ∧ ∃ D, v = .slice D 0 0)
theorem OwnZ.val {w : World} {B : Nat} {v : Value} {zs : List Int} (h : OwnZ w B v zs) : ∃ A cap, v = .slice A zs.length cap ∧ Has .u8 w A zs ∧ zs.length ≤ cap := by
  rcases h with h | ⟨rfl, D, rfl⟩
  · obtain ⟨A, cap, h1, h2, h3, _⟩ := h.val
    exact ⟨A, cap, h1, h2, h3⟩
  · exact ⟨D, 0, rfl, .inl rfl, Nat.le_refl _⟩
theorem own_set {w : World} {B : Nat} {e : TypeId} {k : IntKind} {v : Value} {zs : List Int} {p : Addr} (h : OwnI w B e k v zs) (hne : v.ownBlock ≠ some p.block) (x : Value) : OwnI (w.setCell p x) B e k v zs := by
  refine ⟨h.1, ?_⟩
  rcases h.2 with h2 | ⟨g, cap, cur, hv, hB, hg, r⟩
  · exact .inl h2
  · exact .inr ⟨g, cap, cur, hv, hB, by rw [Below.heap_setCell w p x g (fun e => hne (by rw [hv, e]; rfl))]; exact hg, r⟩
theorem own_ne {w : World} {B g : Nat} {e t : TypeId} {k : IntKind} {v : Value} {zs : List Int} {cs : List Value} (h : OwnI w B e k v zs) (K : Lies w g t cs) (ht : t ≠ e) : v.ownBlock ≠ some g := by
  rcases h.2 with ⟨rfl, _⟩ | ⟨g', cap, cur, rfl, hB, hg, r⟩
  · simp [Value.ownBlock]
  · intro hh
    have : g' = g := by simpa [Value.ownBlock] using hh
    subst this
    unfold Lies at K
    rw [hg] at K
    injection K with K
    injection K with _ K2
    exact ht K2.symm
/-- All blocks that are no bytes are as they were. -/
def Keeps (w w' : World) : Prop := ∀ g t cs, Lies w g t cs → t ≠ 5 → Lies w' g t cs
theorem Lies.keeps {w w' : World} {g : Nat} {t : TypeId} {cs : List Value} (h : Lies w g t cs) (k : Keeps w w') (ht : t ≠ 5) : Lies w' g t cs := k g t cs h ht
theorem below_at {a w w' : World} {B : Nat} (k : Below B w w') (h : Below a.heap.size a w) (hB : a.heap.size ≤ B) : Below a.heap.size a w' := h.trans (k.mono hB)
theorem step_app8z {w : World} {ops : Array Oper} {o : Oper} {a : Act} {K : Act → World → Prop} {Q : Exit → Act → World → Prop} {E : Prop} (hgd : o.guard = none) (s x : Operand)
    (ho : o.op = .call { callee := .builtin .append, args := #[s, x], argTypes := #[51, 51] })
    (base : Nat) (v : Value) (zs : List Int) (hs : a.eval s = v) (hown : OwnZ w base v zs) (A : Option Addr) (m c : Nat) (ys : List Int) (hx : a.eval x = .slice A m c) (hm : ys.length = m) (hr : Has .u8 w A ys) (hp : 0 < m)
    (tot : Nat) (htot : zs.length + m = tot) (h63 : tot ≤ 140737488355328) (hbase : base ≤ w.heap.size)
    (h : ∀ A' c' w', OwnI w' base 5 .u8 (.slice A' tot c') (zs ++ ys) → Keeps w w' → Below base w w' → K (a.put o.dst (.slice A' tot c')) w') :
    if Region.wanted o (yielded ops a.tmps) = true then Oper.wp Try.prog o a w K Q else E := by
  rcases hown with hown | ⟨rfl, D, rfl⟩
  · exact step_app8 hgd s x ho base v zs hs hown A m c ys hx hm hr tot htot h63 hbase fun A' c' w' k1 k2 k3 => h A' c' w' k1 (fun g t cs K ht => K.grown k2 (fun e => own_ne hown K ht e.symm)) k3
  · have hw : Region.wanted o (yielded ops a.tmps) = true := by simp [Region.wanted, hgd]
    rw [if_pos hw]
    subst hm
    have ht : tot = ys.length := by rw [← htot]; simp
    subst ht
    obtain ⟨i, hi, hz, h1, h2⟩ := info8
    obtain ⟨A', c', w', hrun, k2, k3, k4⟩ := run_append_zero (P := Try.prog) w _ o.type 5 i (.int .u8 0) 1 Try.underlying51 hi hz h1 h2 rfl .u8 D A c ys hr (by simp only [maxLen]; omega) (by omega)
    unfold Oper.wp execOp
    simp only [ho, resolve, invoke, builtin, Sem.run_bind, Sem.run_pure, Result.andThen_ok, List.map_toArray, List.map_cons, List.map_nil, hs, hx, hrun]
    rcases k4 with ⟨rfl, _⟩ | k4
    · simp at hp
    · exact h A' c' w' (k4.mono hbase) (fun g t cs K _ => K.past k3) (k3.mono hbase)
theorem OwnZ.drewN {w : World} {B : Nat} {v : Value} {zs : List Int} (h : OwnZ w B v zs) (n : Nat) : OwnZ (w.drewN n) B v zs := h
theorem OwnZ.drew {w : World} {B : Nat} {v : Value} {zs : List Int} (h : OwnZ w B v zs) : OwnZ w.drew B v zs := h
theorem OwnZ.below {w w' : World} {B C : Nat} {v : Value} {zs : List Int} (h : OwnZ w B v zs) (hb : Below C w w') (hC : w.heap.size ≤ C) : OwnZ w' B v zs := by
  rcases h with h | h
  · exact .inl (h.below hb hC)
  · exact .inr h
theorem OwnZ.past {w w' : World} {B : Nat} {v : Value} {zs : List Int} (h : OwnZ w B v zs) (hb : Below w.heap.size w w') : OwnZ w' B v zs := h.below hb (Nat.le_refl _)
theorem OwnZ.mono {w : World} {B B' : Nat} {v : Value} {zs : List Int} (h : OwnZ w B v zs) (hB : B' ≤ B) : OwnZ w B' v zs := by
  rcases h with h | h
  · exact .inl (OwnI.mono h hB)
  · exact .inr h
theorem OwnZ.other {w : World} {B g : Nat} {v : Value} {zs : List Int} {t : TypeId} {cs : List Value} (h : OwnZ w B v zs) (K : Lies w g t cs) (ht : t ≠ 5) (i : Nat) (x : Value) : OwnZ (w.setCell ⟨g, i, none⟩ x) B v zs := by
  rcases h with h | h
  · exact .inl (own_set h (own_ne h K ht) x)
  · exact .inr h
theorem OwnZ.has {w : World} {B : Nat} {A : Option Addr} {n c : Nat} {zs : List Int} (h : OwnZ w B (.slice A n c) zs) : Has .u8 w A zs := by
  obtain ⟨A', c', e, h1, _⟩ := h.val
  injection e with e1 _ _
  rw [e1]; exact h1
theorem OwnZ.alloc {w : World} {B : Nat} {v : Value} {zs : List Int} (h : OwnZ w B v zs) (o : Obj) : OwnZ (w.alloc o) B v zs := h.below ((Below.refl _ _).alloc (Nat.le_refl _) _) (Nat.le_refl _)

theorem app8z {w : World} {ops : Array Oper} {rest : List Oper} {o : Oper} {a : Act} {Q : Exit → Act → World → Prop} (hgd : o.guard = none) (s x : Operand)
    (ho : o.op = .call { callee := .builtin .append, args := #[s, x], argTypes := #[51, 51] })
    (base : Nat) (v : Value) (zs : List Int) (hs : a.eval s = v) (hown : OwnZ w base v zs) (A : Option Addr) (m c : Nat) (ys : List Int) (hx : a.eval x = .slice A m c) (hm : ys.length = m) (hr : Has .u8 w A ys)
    (tot : Nat) (htot : zs.length + m = tot) (h63 : tot ≤ 140737488355328) (hbase : base ≤ w.heap.size)
    (h : ∀ A' c' w', OwnZ w' base (.slice A' tot c') (zs ++ ys) → Keeps w w' → Below base w w' → wpList Try.prog ops Q rest (a.put o.dst (.slice A' tot c')) w') : wpList Try.prog ops Q (o :: rest) a w := by
  rcases hown with hown | ⟨rfl, D, rfl⟩
  · exact app8 hgd s x ho base v zs hs hown A m c ys hx hm hr tot htot h63 hbase fun A' c' w' k1 k2 k3 => h A' c' w' (.inl k1) (fun g t cs K ht => K.grown k2 (fun e => own_ne hown K ht e.symm)) k3
  · subst hm
    have ht : tot = ys.length := by rw [← htot]; simp
    subst ht
    refine clone8 hgd s x ho D hs A _ c ys hx rfl hr h63 fun A' c' w' k1 k2 k3 => h A' c' w' ?_ (fun g t cs K _ => K.past k2) (k2.mono hbase)
    rcases k3 with ⟨rfl, rfl, rfl, rfl⟩ | k3
    · exact .inr ⟨rfl, _, rfl⟩
    · exact .inl (k3.mono hbase)

theorem run_app8z {w : World} (ty : TypeId) (base : Nat) (v : Value) (zs : List Int) (hown : OwnZ w base v zs) (A : Option Addr) (c : Nat) (ys : List Int) (hr : Has .u8 w A ys)
    (h63 : zs.length + ys.length ≤ 140737488355328) (hbase : base ≤ w.heap.size) :
    ∃ A' c' w', (Builtin.append_ #[51, 51] ty #[v, .slice A ys.length c]).run Try.prog w = .ok (.slice A' (zs.length + ys.length) c') w' ∧ OwnZ w' base (.slice A' (zs.length + ys.length) c') (zs ++ ys) ∧ Keeps w w' ∧ Below base w w' := by
  obtain ⟨i, hi, hz, h1, h2⟩ := info8
  rcases hown with hown | ⟨rfl, D, rfl⟩
  · obtain ⟨A', c', w', hrun, k2, k3, k4⟩ := run_append_I (P := Try.prog) w _ ty 5 i (.int .u8 0) 1 Try.underlying51 hi hz h1 h2 rfl base .u8 v zs hown A c ys hr (by simp only [maxLen]; omega) (by omega) hbase
    exact ⟨A', c', w', hrun, .inl k2, fun g t cs K ht => K.grown k3 (fun e => own_ne hown K ht e.symm), k4⟩
  · rw [List.length_nil, Nat.zero_add] at *
    obtain ⟨A', c', w', hrun, k2, k3, k4⟩ := run_append_zero (P := Try.prog) w _ ty 5 i (.int .u8 0) 1 Try.underlying51 hi hz h1 h2 rfl .u8 D A c ys hr (by simp only [maxLen]; omega) (by omega)
    refine ⟨A', c', w', hrun, ?_, fun g t cs K _ => K.past k3, k3.mono hbase⟩
    rcases k4 with ⟨rfl, rfl, rfl, rfl⟩ | k4
    · exact .inr ⟨rfl, _, rfl⟩
    · exact .inl (k4.mono hbase)
/-- append of bytes at a step of a region that draws its order. -/
theorem step_app8g {w : World} {ops : Array Oper} {o : Oper} {a : Act} {K : Act → World → Prop} {Q : Exit → Act → World → Prop} {E : Prop} (hgd : o.guard = none) (s x : Operand)
    (ho : o.op = .call { callee := .builtin .append, args := #[s, x], argTypes := #[51, 51] })
    (base : Nat) (v : Value) (zs : List Int) (hs : a.eval s = v) (hown : OwnZ w base v zs) (A : Option Addr) (m c : Nat) (ys : List Int) (hx : a.eval x = .slice A m c) (hm : ys.length = m) (hr : Has .u8 w A ys)
    (tot : Nat) (htot : zs.length + m = tot) (h63 : tot ≤ 140737488355328) (hbase : base ≤ w.heap.size)
    (h : ∀ A' c' w', OwnZ w' base (.slice A' tot c') (zs ++ ys) → Keeps w w' → Below base w w' → K (a.put o.dst (.slice A' tot c')) w') :
    if Region.wanted o (yielded ops a.tmps) = true then Oper.wp Try.prog o a w K Q else E := by
  have hw : Region.wanted o (yielded ops a.tmps) = true := by simp [Region.wanted, hgd]
  rw [if_pos hw]
  subst hm
  subst htot
  obtain ⟨A', c', w', hrun, k2, k3, k4⟩ := run_app8z o.type base v zs hown A c ys hr h63 hbase
  unfold Oper.wp execOp
  simp only [ho, resolve, invoke, builtin, Sem.run_bind, Sem.run_pure, Result.andThen_ok, List.map_toArray, List.map_cons, List.map_nil, hs, hx, hrun]
  exact h A' c' w' k2 k3 k4
theorem OwnZ.store3 {w : World} {B g : Nat} {v : Value} {zs : List Int} {t : TypeId} {x y z a b c : Value} (h : OwnZ w B v zs) (K : Lies w g t [x, y, z]) (ht : t ≠ 5) : OwnZ (((w.setCell ⟨g, 0, none⟩ a).setCell ⟨g, 1, none⟩ b).setCell ⟨g, 2, none⟩ c) B v zs :=
  ((h.other K ht _ _).other (K.set 0 _) ht _ _).other ((K.set 0 _).set 1 _) ht _ _
set_option maxHeartbeats 400000 in
/-- slices.Clone of bytes. -/
theorem Clone8 {A : Option Addr} {n c : Nat} {zs : List Int} {w : World} (hA : Has .u8 w A zs) (hn : zs.length = n) (hc : n ≤ c) (hm : n ≤ 140737488355328) :
    Calls Try.prog 24 #[.slice A n c] w fun e w' => ∃ A' c', e = .returned (.slice A' n c') ∧ Has .u8 w' A' zs ∧ OwnZ w' w.heap.size (.slice A' n c') zs ∧ Below w.heap.size w w' := by
  subst hn
  have HA := Lib.hid hA
  clear hA
  rcases A with _ | ad
  · have hz : zs = [] := by
      rcases HA.out with h | ⟨b, off, ha, _⟩
      · exact h
      · cases ha
    have HZ := Lib.hid hz
    clear hz
    have he : ∀ w : World, (binOp .eql 51 (.slice none zs.length c) (.slice none 0 0)).run Try.prog w = .ok (.bool true) w := fun w => Lib.run_eql_slice_nil w 51 5 none zs.length c 0 0 Try.underlying51
    go_enter Try.func24, Try.ntmps24
    go_wp2
    go_ret
    exact ⟨none, 0, by rw [HZ.out]; rfl, .inl HZ.out, .inr ⟨HZ.out, none, by rw [HZ.out]; rfl⟩, Below.refl _ _⟩
  · have he : ∀ w : World, (binOp .eql 51 (.slice (some ad) zs.length c) (.slice none 0 0)).run Try.prog w = .ok (.bool false) w := fun w => Lib.run_eql_slice_nil w 51 5 (some ad) zs.length c 0 0 Try.underlying51
    go_enter Try.func24, Try.ntmps24
    go_wp2_with (at_builtin; refine clone8 rfl _ _ rfl (some ⟨w.heap.size, 0, none⟩) rfl (some ad) _ _ zs rfl rfl (HA.out.below ((Below.refl _ _).alloc (Nat.le_refl _) _) (Nat.le_refl _)) hm ?_; intro A1 c1 w1 hh1 hb1 ho1)
    go_ret
    refine ⟨A1, c1, rfl, hh1, ?_, ((Below.refl _ _).alloc (Nat.le_refl _) _).trans (hb1.mono (by simp))⟩
    rcases ho1 with ⟨rfl, rfl, rfl, rfl⟩ | ho1
    · exact .inr ⟨rfl, _, rfl⟩
    · exact .inl (ho1.mono (by simp))
end Go.Proofs.Ythckpenindchlaa.base
