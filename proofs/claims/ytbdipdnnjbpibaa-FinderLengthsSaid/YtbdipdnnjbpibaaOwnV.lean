/- A row of bytes of the call's own, or a slice without room: what slices.Clone gives; append onto it. -/
import Derived.Test.YtbdipdnnjbpibaaOwnZ
import Derived.Test.YtbdipdnnjbpibaaMemI
import Derived.Test.YtbdipdnnjbpibaaStepI
import Derived.Test.YtbdipdnnjbpibaaBlock
import Derived.Test.YtbdipdnnjbpibaaReg
import Derived.Lib.Hide
import Derived.Outline
import Derived.WalkSpells
namespace Go.Proofs.Ytbdipdnnjbpibaa.base
open Go.RowKit
set_option linter.unusedVariables false

def OwnV (w : World) (B : Nat) (v : Value) (zs : List Int) : Prop := OwnI w B 3 .i64 v zs ∨ (zs = [] ∧ ∃ D, v = .slice D 0 0)
theorem OwnV.val {w : World} {B : Nat} {v : Value} {zs : List Int} (h : OwnV w B v zs) : ∃ A cap, v = .slice A zs.length cap ∧ Has .i64 w A zs ∧ zs.length ≤ cap := by
  rcases h with h | ⟨rfl, D, rfl⟩
  · obtain ⟨A, cap, h1, h2, h3, _⟩ := h.val
    exact ⟨A, cap, h1, h2, h3⟩
  · exact ⟨D, 0, rfl, .inl rfl, Nat.le_refl _⟩
/-- All blocks that are no bytes are as they were. -/
def KeepsI (w w' : World) : Prop := ∀ g t cs, Lies w g t cs → t ≠ 3 → Lies w' g t cs
theorem Lies.keepsI {w w' : World} {g : Nat} {t : TypeId} {cs : List Value} (h : Lies w g t cs) (k : KeepsI w w') (ht : t ≠ 3) : Lies w' g t cs := k g t cs h ht
theorem step_appIz {w : World} {ops : Array Oper} {o : Oper} {a : Act} {K : Act → World → Prop} {Q : Exit → Act → World → Prop} {E : Prop} (hgd : o.guard = none) (s x : Operand)
    (ho : o.op = .call { callee := .builtin .append, args := #[s, x], argTypes := #[22, 22] })
    (base : Nat) (v : Value) (zs : List Int) (hs : a.eval s = v) (hown : OwnV w base v zs) (A : Option Addr) (m c : Nat) (ys : List Int) (hx : a.eval x = .slice A m c) (hm : ys.length = m) (hr : Has .i64 w A ys) (hp : 0 < m)
    (tot : Nat) (htot : zs.length + m = tot) (h63 : tot ≤ 17592186044416) (hbase : base ≤ w.heap.size)
    (h : ∀ A' c' w', OwnI w' base 3 .i64 (.slice A' tot c') (zs ++ ys) → KeepsI w w' → Below base w w' → K (a.put o.dst (.slice A' tot c')) w') :
    if Region.wanted o (yielded ops a.tmps) = true then Oper.wp Try.prog o a w K Q else E := by
  rcases hown with hown | ⟨rfl, D, rfl⟩
  · exact step_appI hgd s x ho base v zs hs hown A m c ys hx hm hr tot htot h63 hbase fun A' c' w' k1 k2 k3 => h A' c' w' k1 (fun g t cs K ht => K.grown k2 (fun e => own_ne hown K ht e.symm)) k3
  · have hw : Region.wanted o (yielded ops a.tmps) = true := by simp [Region.wanted, hgd]
    rw [if_pos hw]
    subst hm
    have ht : tot = ys.length := by rw [← htot]; simp
    subst ht
    obtain ⟨i, hi, hz, h1, h2⟩ := infoI
    obtain ⟨A', c', w', hrun, k2, k3, k4⟩ := run_append_zero (P := Try.prog) w _ o.type 3 i (.int .i64 0) 8 Try.underlying22 hi hz h1 h2 rfl .i64 D A c ys hr (by simp only [maxLen]; omega) (by omega)
    unfold Oper.wp execOp
    simp only [ho, resolve, invoke, builtin, Sem.run_bind, Sem.run_pure, Result.andThen_ok, List.map_toArray, List.map_cons, List.map_nil, hs, hx, hrun]
    rcases k4 with ⟨rfl, _⟩ | k4
    · simp at hp
    · exact h A' c' w' (k4.mono hbase) (fun g t cs K _ => K.past k3) (k3.mono hbase)
theorem OwnV.drewN {w : World} {B : Nat} {v : Value} {zs : List Int} (h : OwnV w B v zs) (n : Nat) : OwnV (w.drewN n) B v zs := h
theorem OwnV.drew {w : World} {B : Nat} {v : Value} {zs : List Int} (h : OwnV w B v zs) : OwnV w.drew B v zs := h
theorem OwnV.below {w w' : World} {B C : Nat} {v : Value} {zs : List Int} (h : OwnV w B v zs) (hb : Below C w w') (hC : w.heap.size ≤ C) : OwnV w' B v zs := by
  rcases h with h | h
  · exact .inl (h.below hb hC)
  · exact .inr h
theorem OwnV.past {w w' : World} {B : Nat} {v : Value} {zs : List Int} (h : OwnV w B v zs) (hb : Below w.heap.size w w') : OwnV w' B v zs := h.below hb (Nat.le_refl _)
theorem OwnV.mono {w : World} {B B' : Nat} {v : Value} {zs : List Int} (h : OwnV w B v zs) (hB : B' ≤ B) : OwnV w B' v zs := by
  rcases h with h | h
  · exact .inl (OwnI.mono h hB)
  · exact .inr h
theorem OwnV.other {w : World} {B g : Nat} {v : Value} {zs : List Int} {t : TypeId} {cs : List Value} (h : OwnV w B v zs) (K : Lies w g t cs) (ht : t ≠ 3) (i : Nat) (x : Value) : OwnV (w.setCell ⟨g, i, none⟩ x) B v zs := by
  rcases h with h | h
  · exact .inl (own_set h (own_ne h K ht) x)
  · exact .inr h
theorem OwnV.has {w : World} {B : Nat} {A : Option Addr} {n c : Nat} {zs : List Int} (h : OwnV w B (.slice A n c) zs) : Has .i64 w A zs := by
  obtain ⟨A', c', e, h1, _⟩ := h.val
  injection e with e1 _ _
  rw [e1]; exact h1
theorem OwnV.alloc {w : World} {B : Nat} {v : Value} {zs : List Int} (h : OwnV w B v zs) (o : Obj) : OwnV (w.alloc o) B v zs := h.below ((Below.refl _ _).alloc (Nat.le_refl _) _) (Nat.le_refl _)

theorem appIz {w : World} {ops : Array Oper} {rest : List Oper} {o : Oper} {a : Act} {Q : Exit → Act → World → Prop} (hgd : o.guard = none) (s x : Operand)
    (ho : o.op = .call { callee := .builtin .append, args := #[s, x], argTypes := #[22, 22] })
    (base : Nat) (v : Value) (zs : List Int) (hs : a.eval s = v) (hown : OwnV w base v zs) (A : Option Addr) (m c : Nat) (ys : List Int) (hx : a.eval x = .slice A m c) (hm : ys.length = m) (hr : Has .i64 w A ys)
    (tot : Nat) (htot : zs.length + m = tot) (h63 : tot ≤ 17592186044416) (hbase : base ≤ w.heap.size)
    (h : ∀ A' c' w', OwnV w' base (.slice A' tot c') (zs ++ ys) → KeepsI w w' → Below base w w' → wpList Try.prog ops Q rest (a.put o.dst (.slice A' tot c')) w') : wpList Try.prog ops Q (o :: rest) a w := by
  rcases hown with hown | ⟨rfl, D, rfl⟩
  · exact appI hgd s x ho base v zs hs hown A m c ys hx hm hr tot htot h63 hbase fun A' c' w' k1 k2 k3 => h A' c' w' (.inl k1) (fun g t cs K ht => K.grown k2 (fun e => own_ne hown K ht e.symm)) k3
  · subst hm
    have ht : tot = ys.length := by rw [← htot]; simp
    subst ht
    refine cloneI hgd s x ho D hs A _ c ys hx rfl hr h63 fun A' c' w' k1 k2 k3 => h A' c' w' ?_ (fun g t cs K _ => K.past k2) (k2.mono hbase)
    rcases k3 with ⟨rfl, rfl, rfl, rfl⟩ | k3
    · exact .inr ⟨rfl, _, rfl⟩
    · exact .inl (k3.mono hbase)

theorem run_appIz {w : World} (ty : TypeId) (base : Nat) (v : Value) (zs : List Int) (hown : OwnV w base v zs) (A : Option Addr) (c : Nat) (ys : List Int) (hr : Has .i64 w A ys)
    (h63 : zs.length + ys.length ≤ 17592186044416) (hbase : base ≤ w.heap.size) :
    ∃ A' c' w', (Builtin.append_ #[22, 22] ty #[v, .slice A ys.length c]).run Try.prog w = .ok (.slice A' (zs.length + ys.length) c') w' ∧ OwnV w' base (.slice A' (zs.length + ys.length) c') (zs ++ ys) ∧ KeepsI w w' ∧ Below base w w' := by
  obtain ⟨i, hi, hz, h1, h2⟩ := infoI
  rcases hown with hown | ⟨rfl, D, rfl⟩
  · obtain ⟨A', c', w', hrun, k2, k3, k4⟩ := run_append_I (P := Try.prog) w _ ty 3 i (.int .i64 0) 8 Try.underlying22 hi hz h1 h2 rfl base .i64 v zs hown A c ys hr (by simp only [maxLen]; omega) (by omega) hbase
    exact ⟨A', c', w', hrun, .inl k2, fun g t cs K ht => K.grown k3 (fun e => own_ne hown K ht e.symm), k4⟩
  · rw [List.length_nil, Nat.zero_add] at *
    obtain ⟨A', c', w', hrun, k2, k3, k4⟩ := run_append_zero (P := Try.prog) w _ ty 3 i (.int .i64 0) 8 Try.underlying22 hi hz h1 h2 rfl .i64 D A c ys hr (by simp only [maxLen]; omega) (by omega)
    refine ⟨A', c', w', hrun, ?_, fun g t cs K _ => K.past k3, k3.mono hbase⟩
    rcases k4 with ⟨rfl, rfl, rfl, rfl⟩ | k4
    · exact .inr ⟨rfl, _, rfl⟩
    · exact .inl (k4.mono hbase)
/-- append of bytes at a step of a region that draws its order. -/
theorem step_appIg {w : World} {ops : Array Oper} {o : Oper} {a : Act} {K : Act → World → Prop} {Q : Exit → Act → World → Prop} {E : Prop} (hgd : o.guard = none) (s x : Operand)
    (ho : o.op = .call { callee := .builtin .append, args := #[s, x], argTypes := #[22, 22] })
    (base : Nat) (v : Value) (zs : List Int) (hs : a.eval s = v) (hown : OwnV w base v zs) (A : Option Addr) (m c : Nat) (ys : List Int) (hx : a.eval x = .slice A m c) (hm : ys.length = m) (hr : Has .i64 w A ys)
    (tot : Nat) (htot : zs.length + m = tot) (h63 : tot ≤ 17592186044416) (hbase : base ≤ w.heap.size)
    (h : ∀ A' c' w', OwnV w' base (.slice A' tot c') (zs ++ ys) → KeepsI w w' → Below base w w' → K (a.put o.dst (.slice A' tot c')) w') :
    if Region.wanted o (yielded ops a.tmps) = true then Oper.wp Try.prog o a w K Q else E := by
  have hw : Region.wanted o (yielded ops a.tmps) = true := by simp [Region.wanted, hgd]
  rw [if_pos hw]
  subst hm
  subst htot
  obtain ⟨A', c', w', hrun, k2, k3, k4⟩ := run_appIz o.type base v zs hown A c ys hr h63 hbase
  unfold Oper.wp execOp
  simp only [ho, resolve, invoke, builtin, Sem.run_bind, Sem.run_pure, Result.andThen_ok, List.map_toArray, List.map_cons, List.map_nil, hs, hx, hrun]
  exact h A' c' w' k2 k3 k4
theorem OwnV.store3 {w : World} {B g : Nat} {v : Value} {zs : List Int} {t : TypeId} {x y z a b c : Value} (h : OwnV w B v zs) (K : Lies w g t [x, y, z]) (ht : t ≠ 3) : OwnV (((w.setCell ⟨g, 0, none⟩ a).setCell ⟨g, 1, none⟩ b).setCell ⟨g, 2, none⟩ c) B v zs :=
  ((h.other K ht _ _).other (K.set 0 _) ht _ _).other ((K.set 0 _).set 1 _) ht _ _
set_option maxHeartbeats 400000 in
/-- slices.Clone of bytes. -/
theorem CloneI {A : Option Addr} {n c : Nat} {zs : List Int} {w : World} (hA : Has .i64 w A zs) (hn : zs.length = n) (hc : n ≤ c) (hm : n ≤ 17592186044416) :
    Calls Try.prog 35 #[.slice A n c] w fun e w' => ∃ A' c', e = .returned (.slice A' n c') ∧ Has .i64 w' A' zs ∧ OwnV w' w.heap.size (.slice A' n c') zs ∧ Below w.heap.size w w' := by
  subst hn
  have HA := Lib.hid hA
  clear hA
  rcases A with _ | ad
  · have hz : zs = [] := by
      rcases HA.out with h | ⟨b, off, ha, _⟩
      · exact h
      · cases ha
    have HZ := Lib.hid hz
    clear hz
    have he : ∀ w : World, (binOp .eql 22 (.slice none zs.length c) (.slice none 0 0)).run Try.prog w = .ok (.bool true) w := fun w => Lib.run_eql_slice_nil w 22 3 none zs.length c 0 0 Try.underlying22
    go_enter Try.func35, Try.ntmps35
    go_wp2
    go_ret
    exact ⟨none, 0, by rw [HZ.out]; rfl, .inl HZ.out, .inr ⟨HZ.out, none, by rw [HZ.out]; rfl⟩, Below.refl _ _⟩
  · have he : ∀ w : World, (binOp .eql 22 (.slice (some ad) zs.length c) (.slice none 0 0)).run Try.prog w = .ok (.bool false) w := fun w => Lib.run_eql_slice_nil w 22 3 (some ad) zs.length c 0 0 Try.underlying22
    go_enter Try.func35, Try.ntmps35
    go_wp2_with (at_builtin; refine cloneI rfl _ _ rfl (some ⟨w.heap.size, 0, none⟩) rfl (some ad) _ _ zs rfl rfl (HA.out.below ((Below.refl _ _).alloc (Nat.le_refl _) _) (Nat.le_refl _)) hm ?_; intro A1 c1 w1 hh1 hb1 ho1)
    go_ret
    refine ⟨A1, c1, rfl, hh1, ?_, ((Below.refl _ _).alloc (Nat.le_refl _) _).trans (hb1.mono (by simp))⟩
    rcases ho1 with ⟨rfl, rfl, rfl, rfl⟩ | ho1
    · exact .inr ⟨rfl, _, rfl⟩
    · exact .inl (ho1.mono (by simp))
end Go.Proofs.Ytbdipdnnjbpibaa.base
