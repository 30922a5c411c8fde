/- Put of rings, by a walk. -/
import Derived.Test.YtpggdijhfdddpaaDoorRgW17
import Derived.BigRegion
import Derived.Deep.DeepCutAuto
import Derived.WalkMore
import Derived.Laws.MakeOwn
import Derived.Laws.CopyOwn
namespace Go.Proofs.YtpggdijhfdddpaaDoor.rgW
open Go.RowKit Go.Proofs.YtpggdijhfdddpaaDoor.base Go.Proofs.YtpggdijhfdddpaaDoor.rgP
set_option linter.unusedVariables false
set_option linter.unusedSimpArgs false

def zCells (n : Nat) : Array Value := ((List.replicate n (0 : Int)).map (Value.int .u8)).toArray
theorem mk8 (n : Nat) (hn : n ≤ 1000000) (w : World) : (Instr.makeSlice 22 (.int .i64 (n : Int)) (.int .i64 (n : Int))).run Tryd.prog w = .ok (.slice (some ⟨w.heap.size, 0, none⟩) n n) (w.alloc (.cells (zCells n) 5)) := by
  obtain ⟨i, hi, hz, h1, h2⟩ := info8
  have hr := run_make (P := Tryd.prog) w 22 5 i (.int .u8 0) Tryd.underlying22 hi hz .i64 .i64 n n (by omega) (by omega) (by rw [h2]; omega) (by omega)
  simp only [Int.toNat_natCast] at hr
  rw [hr]
  have e1 : madeCells (Value.int .u8 0).cells (n * i.size) = zCells n := by
    rw [h1, Nat.mul_one]
    apply Array.ext'
    have e : (Value.int .u8 0).cells = #[.int .u8 0] := rfl
    rw [e, toList_madeCells_one]
    simp [zCells]
  rw [e1]
theorem own_z (w : World) (n : Nat) (hn : n ≤ maxLen) {B g : Nat} (hB : B ≤ g) (hg : w.heap.size = g) : OwnI (w.alloc (.cells (zCells n) 5)) B 5 .u8 (.slice (some ⟨g, 0, none⟩) n n) (List.replicate n 0) := by
  subst hg
  have := OwnI.lit w 5 .u8 (List.replicate n 0) B hB (by simpa using hn)
  rwa [List.length_replicate] at this
attribute [irreducible] zCells
theorem own_alloc {w : World} {B : Nat} {e : TypeId} {k : IntKind} {v : Value} {zs : List Int} (h : OwnI w B e k v zs) (o : Obj) : OwnI (w.alloc o) B e k v zs := h.below ((Below.refl _ _).alloc (Nat.le_refl _) _) (Nat.le_refl _)
theorem own_drew {w : World} {B : Nat} {e : TypeId} {k : IntKind} {v : Value} {zs : List Int} (h : OwnI w B e k v zs) : OwnI w.drew B e k v zs := h
/-- copy of as many bytes as a row of the call's own has, onto that row. -/
theorem copy8 {w : World} {ops : Array Oper} {rest : List Oper} {o : Oper} {a : Act} {Q : Exit → Act → World → Prop} (hgd : o.guard = none) (d s : Operand)
    (ho : o.op = .call { callee := .builtin .copy, args := #[d, s], argTypes := #[22, 22] })
    (B g n cap : Nat) (zs ys : List Int) (hd : a.eval d = .slice (some ⟨g, 0, none⟩) n cap) (hown : OwnI w B 5 .u8 (.slice (some ⟨g, 0, none⟩) n cap) zs) (A : Option Addr) (c : Nat) (hs : a.eval s = .slice A n c) (hr : Has .u8 w A ys) (hy : ys.length = n) (hn : 0 < n)
    (h : ∀ w', OwnI w' B 5 .u8 (.slice (some ⟨g, 0, none⟩) n cap) ys → Keeps w w' → Below g w w' → wpList Tryd.prog ops Q rest (a.put o.dst (goInt n)) w') : wpList Tryd.prog ops Q (o :: rest) a w := by
  obtain ⟨hl, h2⟩ := hown
  rcases h2 with ⟨h', _⟩ | ⟨g', cap', cur, hv, hB, hg, hnc, hcm, hcs, ht⟩
  · cases h'
  · injection hv with v1 v2 v3
    injection v1 with v1
    injection v1 with v1
    subst v1 v2 v3
    rcases A with _ | ad
    · rcases hr with h0 | ⟨b, off, ha, _⟩
      · subst h0; simp at hy; omega
      · cases ha
    obtain ⟨i, hi, hz, h1, -⟩ := info8
    refine wpList_copy_own hgd d s _ _ ho 5 Tryd.underlying22 (by rw [hi]; exact congrArg some h1) g 0 _ _ ad _ c hd hs cur 5 hg (ys.map (Value.int .u8)) (by simp [hy]) hr.cells (by simp [hy]; omega) one_ints ?_
    rw [List.length_map, hy]
    refine h _ ⟨by simp [hy], .inr ⟨g, cap, _, by rw [hy], hB, setRow_heap w g cur _ _ _ hg, by rw [hy]; exact hnc, hcm, ?_, ?_⟩⟩ ?_ ?_
    · simp [hy]; omega
    · simp [hy]
    · intro k t cs K htt
      have hk : k ≠ g := by
        intro e; subst e
        unfold Lies at K
        rw [hg] at K
        injection K with K
        injection K with _ K2
        exact htt K2.symm
      exact (setRow_other w g k _ hk).trans K
    · exact below_setRow (Below.refl _ _) (Nat.le_refl _) _
end Go.Proofs.YtpggdijhfdddpaaDoor.rgW
