/- FilterNames: what the operations of its regions make. -/
import Derived.Test.YtbfodmckgjeoaaaFiN1
import Derived.Test.YtbfodmckgjeoaaaFlowG
namespace Go.Proofs.Ytbfodmckgjeoaaa.fiL
set_option maxRecDepth 100000
open Go.RowKit Go.Proofs.Ytbfodmckgjeoaaa.base Go.Proofs.Ytbfodmckgjeoaaa.fiP Go.Proofs.Ytbfodmckgjeoaaa.fiW Go.Proofs.Ytbfodmckgjeoaaa.fiU
set_option linter.unusedVariables false
set_option linter.unusedSimpArgs false
set_option maxRecDepth 100000
/-- The value is a row of these bytes. -/
def RowV (zs : List Int) (v : Value) (w : World) : Prop := ∃ A n c, v = .slice A n c ∧ Ib w A n c zs
theorem RowV.grow {zs : List Int} {v : Value} {w w' : World} (h : RowV zs v w) (g : Grows w w') : RowV zs v w' := by
  obtain ⟨A, n, c, e, i⟩ := h
  exact ⟨A, n, c, e, i.below g⟩
/-- The value is a row of these filters. -/
def FilV (fs : List (Int × Int)) (v : Value) (w : World) : Prop := ∃ A n c, v = .slice A n c ∧ InF w A n c fs
theorem FilV.grow {fs : List (Int × Int)} {v : Value} {w w' : World} (h : FilV fs v w) (g : Grows w w') : FilV fs v w' := by
  obtain ⟨A, n, c, e, i⟩ := h
  exact ⟨A, n, c, e, i.below g⟩
def FiV (k n : Int) : Value := .agg #[.int .u8 k, .int .i64 n]
def FactF (rows : Nat → Option (List Int)) (fil : Nat → Option (List (Int × Int))) (vs : Nat → Value) (i : Nat) (v : Value) (w : World) : Prop :=
  match rows i with
  | some zs => RowV zs v w
  | none => match fil i with
    | some fs => FilV fs v w
    | none => v = vs i
theorem FactF.grow (rows : Nat → Option (List Int)) (fil : Nat → Option (List (Int × Int))) (vs : Nat → Value) (i : Nat) (v : Value) (w w' : World) (g : Grows w w') (h : FactF rows fil vs i v w) : FactF rows fil vs i v w' := by
  unfold FactF at h ⊢
  cases h1 : rows i with
  | some zs => rw [h1] at h; exact RowV.grow h g
  | none =>
    rw [h1] at h
    cases h2 : fil i with
    | some fs => rw [h2] at h; exact FilV.grow h g
    | none => rw [h2] at h; exact h
def rows2 : Nat → Option (List Int)
  | 1 => some (List.replicate 257 3)
  | 2 => some [3, 3, 255]
  | 6 => some (List.replicate 258 3)
  | 7 => some [3, 3, 255, 3]
  | 12 => some (List.replicate 259 3)
  | 13 => some [3, 3, 255, 3, 3, 0]
  | 18 => some (List.replicate 256 3)
  | 19 => some [3, 3, 254]
  | 28 => some [1, 1, 2, 2]
  | 29 => some [1, 1, 0, 2, 2, 0]
  | _ => none
def vs2 : Nat → Value
  | 0 | 5 | 11 | 17 | 23 | 27 => FiV 3 0
  | _ => .bool true
def rows11 : Nat → Option (List Int)
  | 6 => some (List.replicate 2001 0)
  | _ => none
def rows15 : Nat → Option (List Int)
  | 1 => some (List.replicate 10126 0)
  | _ => none
def vs15 : Nat → Value
  | 0 => FiV 3 0
  | 2 | 3 => .tuple #[.slice none 0 0, .int .i64 4]
  | 4 | 6 => .slice none 0 0
  | _ => .int .i64 4
/-- The value is a row of these bytes, beside no error. -/
def TupV (zs : List Int) (v : Value) (w : World) : Prop := ∃ A n c, v = .tuple #[.slice A n c, .int .i64 0] ∧ Ib w A n c zs
def FactT (tup rows : Nat → Option (List Int)) (fil : Nat → Option (List (Int × Int))) (vs : Nat → Value) (i : Nat) (v : Value) (w : World) : Prop :=
  match tup i with
  | some zs => TupV zs v w
  | none => FactF rows fil vs i v w
theorem FactT.grow (tup rows : Nat → Option (List Int)) (fil : Nat → Option (List (Int × Int))) (vs : Nat → Value) (i : Nat) (v : Value) (w w' : World) (g : Grows w w') (h : FactT tup rows fil vs i v w) : FactT tup rows fil vs i v w' := by
  unfold FactT at h ⊢
  cases h1 : tup i with
  | some zs =>
    rw [h1] at h
    obtain ⟨A, n, c, e, i⟩ := h
    exact ⟨A, n, c, e, i.below g⟩
  | none => rw [h1] at h; exact FactF.grow _ _ _ _ _ _ _ g h
def tup22 (wh : List Int) : Nat → Option (List Int)
  | 6 | 7 => some wh
  | _ => none
def rows22 (wh : List Int) : Nat → Option (List Int)
  | 5 => some (List.replicate 2000 0)
  | 8 | 10 => some wh
  | _ => none
def fil22 : Nat → Option (List (Int × Int))
  | 4 => some runs4
  | _ => none
def vs22 : Nat → Value
  | 9 | 11 => .int .i64 0
  | _ => FiV 3 0
def rows9 : Nat → Option (List Int)
  | 4 => some (List.replicate 10126 0)
  | _ => none
theorem TupV.elim {zs : List Int} {v : Value} {w : World} {C : Prop} (h : TupV zs v w) (f : ∀ A n c, v = .tuple #[.slice A n c, .int .i64 0] → Ib w A n c zs → C) : C := by
  obtain ⟨A, n, c, e, i⟩ := h
  exact f A n c e i
theorem RowV.elim {zs : List Int} {v : Value} {w : World} {C : Prop} (h : RowV zs v w) (f : ∀ A n c, v = .slice A n c → Ib w A n c zs → C) : C := by
  obtain ⟨A, n, c, e, i⟩ := h
  exact f A n c e i
theorem f22_6 (wh : List Int) (v : Value) (w : World) : FactT (tup22 wh) (rows22 wh) fil22 vs22 6 v w = TupV wh v w := rfl
theorem f22_7 (wh : List Int) (v : Value) (w : World) : FactT (tup22 wh) (rows22 wh) fil22 vs22 7 v w = TupV wh v w := rfl
theorem f22_8 (wh : List Int) (v : Value) (w : World) : FactT (tup22 wh) (rows22 wh) fil22 vs22 8 v w = RowV wh v w := rfl
theorem f22_9 (wh : List Int) (v : Value) (w : World) : FactT (tup22 wh) (rows22 wh) fil22 vs22 9 v w = (v = .int .i64 0) := rfl
theorem f22_10 (wh : List Int) (v : Value) (w : World) : FactT (tup22 wh) (rows22 wh) fil22 vs22 10 v w = RowV wh v w := rfl
theorem f22_11 (wh : List Int) (v : Value) (w : World) : FactT (tup22 wh) (rows22 wh) fil22 vs22 11 v w = (v = .int .i64 0) := rfl
end Go.Proofs.Ytbfodmckgjeoaaa.fiL
