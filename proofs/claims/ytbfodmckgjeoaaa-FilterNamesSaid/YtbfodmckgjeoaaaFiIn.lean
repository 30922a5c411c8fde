/- A list of filters in memory. -/
import Derived.Test.YtbfodmckgjeoaaaFiWF
namespace Go.Proofs.Ytbfodmckgjeoaaa.fiW
set_option maxRecDepth 100000
open Go.RowKit Go.Proofs.Ytbfodmckgjeoaaa.base Go.Proofs.Ytbfodmckgjeoaaa.fiP
set_option linter.unusedVariables false
set_option linter.unusedSimpArgs false
set_option maxRecDepth 100000
structure InF (w : World) (A : Option Addr) (n c : Nat) (fs : List (Int × Int)) : Prop where
  h : fs = [] ∨ ∃ b off, A = some ⟨b, off, none⟩ ∧ b < w.heap.size ∧ ∀ i, i < fs.length → w.cell? ⟨b, off + i * 2, none⟩ = some (.int .u8 (fs.getD i (0, 0)).1) ∧ w.cell? ⟨b, off + i * 2 + 1, none⟩ = some (.int .i64 (fs.getD i (0, 0)).2)
  e : fs.length = n
  c1 : n ≤ c
  c2 : c ≤ 9223372036854775807
  bd : ∀ f ∈ fs, (0 ≤ f.1 ∧ f.1 ≤ 255) ∧ (-9223372036854775808 ≤ f.2 ∧ f.2 ≤ 9223372036854775807)
theorem InF.below {w w' : World} {A : Option Addr} {n c : Nat} {fs : List (Int × Int)} (h : InF w A n c fs) (hb : Below w.heap.size w w') : InF w' A n c fs := by
  refine ⟨?_, h.e, h.c1, h.c2, h.bd⟩
  rcases h.h with h0 | ⟨b, off, h1, h2, h3⟩
  · exact .inl h0
  · exact .inr ⟨b, off, h1, Nat.lt_of_lt_of_le h2 hb.size, fun i hi => ⟨by rw [hb.cell (p := ⟨b, off + i * 2, none⟩) h2]; exact (h3 i hi).1, by rw [hb.cell (p := ⟨b, off + i * 2 + 1, none⟩) h2]; exact (h3 i hi).2⟩⟩
theorem InF.at_ {w : World} {A : Option Addr} {n c : Nat} {fs : List (Int × Int)} (h : InF w A n c fs) {k : Nat} (hk : k < n) : ∃ b off, A = some ⟨b, off, none⟩ ∧ b < w.heap.size ∧ ∀ i, i < n → w.cell? ⟨b, off + i * 2, none⟩ = some (.int .u8 (fs.getD i (0, 0)).1) ∧ w.cell? ⟨b, off + i * 2 + 1, none⟩ = some (.int .i64 (fs.getD i (0, 0)).2) := by
  rcases h.h with h0 | ⟨b, off, h1, h2, h3⟩
  · have := h.e; rw [h0] at this; simp at this; omega
  · exact ⟨b, off, h1, h2, fun i hi => h3 i (by rw [h.e]; exact hi)⟩
/-- What a call gives back, whichever way. -/
def rE (r : Option (List Int)) (er : Int) : Int := if r.isSome = true then 0 else er
theorem Res.any {w' : World} {B : Nat} {r : Option (List Int)} {er : Int} {e : Ending} (h : Res w' B r er e) : ∃ A c, e = .returned (.tuple #[.slice A (r.getD []).length c, .int .i64 (rE r er)]) ∧ OwnZ w' B (.slice A (r.getD []).length c) (r.getD []) := by
  rcases h with ⟨s, A, c, rfl, rfl, h3⟩ | ⟨rfl, rfl⟩
  · exact ⟨A, c, rfl, h3⟩
  · exact ⟨Option.none, 0, rfl, .inr ⟨rfl, Option.none, rfl⟩⟩
theorem oneO_len (f : Int × Int) (b : List Int) : ((oneO f b).getD []).length ≤ 20000 := by
  unfold oneO
  split
  · rename_i h
    have := oneF_len (f := f) (b := b)
    simp; omega
  · simp
theorem backO_len (f : Int × Int) (b : List Int) : ((backO f b).getD []).length ≤ 20000 := by
  unfold backO
  split
  · rename_i h
    cases e : backF f b with
    | none => simp
    | some s => have := backF_len h.2 e; simp; omega
  · simp
end Go.Proofs.Ytbfodmckgjeoaaa.fiW
