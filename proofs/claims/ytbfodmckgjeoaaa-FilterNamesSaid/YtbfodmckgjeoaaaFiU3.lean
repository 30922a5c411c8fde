/- Undo of the program, whatever the chain, by a walk. -/
import Derived.Test.YtbfodmckgjeoaaaFiU2
namespace Go.Proofs.Ytbfodmckgjeoaaa.fiU
set_option maxRecDepth 100000
open Go.RowKit Go.Shelf Go.Proofs.Ytbfodmckgjeoaaa.base Go.Proofs.Ytbfodmckgjeoaaa.fiP Go.Proofs.Ytbfodmckgjeoaaa.fiW
set_option linter.unusedVariables false
set_option linter.unusedSimpArgs false
set_option maxRecDepth 100000
attribute [local go_sem] Oper.semAt_some
set_option maxHeartbeats 4000000 in
theorem Undo_bad (fs : List (Int × Int)) (A A2 : Option Addr) (n c m d : Nat) (w : World) (v x : Int) (h : InF w A n c fs) (m9 : (m : Int) ≤ 9223372036854775807) (hv : chE fs = v) (hx : (v = 0 ∧ 10125 < m ∧ x = 4) ∨ (v ≠ 0 ∧ x = v)) :
    Calls Try.prog 19 #[.slice A n c, .slice A2 m d] w fun e w' => e = .returned (.tuple #[.slice none 0 0, .int .i64 x]) ∧ Below w.heap.size w w' := by
  have HH := Lib.hid h
  have HV := Lib.hid hv
  clear h hv
  refine (callsIn_wide (n := 3)).1 ?_
  refine callsIn_of_wp_marks Try.func19 rfl trivial ?_ rfl
  simp only [Try.ntmps19, List.size_toArray, List.length_cons, List.length_nil, Nat.reduceAdd, Nat.reduceSub, Array.replicate_succ, Array.replicate_zero, List.push_toArray, List.append_toArray, List.nil_append, List.cons_append]
  have B2 : Below w.heap.size w ((w.alloc (Obj.cells #[Value.slice none 0 0] 24)).alloc (Obj.cells #[Value.int IntKind.i64 0] 26)) := ((Below.refl _ _).alloc (Nat.le_refl _) _).alloc (by simp) _
  have R1 := (Boxed.new w 24 (.slice none 0 0)).alloc (.cells #[.int .i64 0] 26)
  have R2 := Boxed.new (w.alloc (.cells #[.slice none 0 0] 24)) 26 (.int .i64 0)
  rw [World.size_alloc] at R2
  gi_wp2
  refine ⟨trivial, ?_⟩
  refine (callsIn_wide.2 (checkChain_any fs A n c _ (HH.out.below B2))).mono ?_
  rintro e w1 ⟨rfl, b1⟩
  rw [HV.out]
  have HB1 := Lib.hid (B2.trans (b1.mono (by simp; omega)))
  have HR1 := Lies.past R1 b1
  have HR2 := Lies.past R2 b1
  clear b1 R1 R2 B2
  have c5 := Lies.cell HR1 0
  have c6 := Lies.cell HR2 0
  have f5 := Lies.free HR1 0
  have f6 := Lies.free HR2 0
  simp only [List.getElem?_cons_zero] at c5 c6
  rcases hx with ⟨rfl, hx, rfl⟩ | ⟨hx, rfl⟩
  · have m1 : (10125 : Int) < m := by omega
    gi_wp2
    have y5 := Lies.set HR1 0 (Value.slice none 0 0)
    have y6 := Lies.other (p := ⟨w.heap.size, 0, none⟩) HR2 (by simp) (Value.slice none 0 0)
    have z5 := Lies.cell (Lies.other (p := ⟨w.heap.size + 1, 0, none⟩) y5 (by simp) (Value.int .i64 4)) 0
    have z6 := Lies.cell (Lies.set y6 0 (Value.int .i64 4)) 0
    have gz := Below.setCell (p := ⟨w.heap.size + 1, 0, none⟩) (Below.setCell (p := ⟨w.heap.size, 0, none⟩) HB1.out (Nat.le_refl _) (Value.slice none 0 0)) (by simp) (Value.int .i64 4)
    refine ⟨_, ?_, rfl, gz⟩
    have z5' : _ = some (Value.slice none 0 0) := z5
    have z6' : _ = some (Value.int .i64 4) := z6
    simp [results, Try.f19, go_sem, z5', z6']
  · have hne : (x != 0) = true := by simpa using hx
    gi_wp2
    have y5 := Lies.set HR1 0 (Value.slice none 0 0)
    have y6 := Lies.other (p := ⟨w.heap.size, 0, none⟩) HR2 (by simp) (Value.slice none 0 0)
    have z5 := Lies.cell (Lies.other (p := ⟨w.heap.size + 1, 0, none⟩) y5 (by simp) (Value.int .i64 x)) 0
    have z6 := Lies.cell (Lies.set y6 0 (Value.int .i64 x)) 0
    have gz := Below.setCell (p := ⟨w.heap.size + 1, 0, none⟩) (Below.setCell (p := ⟨w.heap.size, 0, none⟩) HB1.out (Nat.le_refl _) (Value.slice none 0 0)) (by simp) (Value.int .i64 x)
    refine ⟨_, ?_, rfl, gz⟩
    have z5' : _ = some (Value.slice none 0 0) := z5
    have z6' : _ = some (Value.int .i64 x) := z6
    simp [results, Try.f19, go_sem, z5', z6']
/-- Undo, whatever the chain and the bytes. -/
theorem Undo_any (fs : List (Int × Int)) (A A2 : Option Addr) (n c m d : Nat) (b : List Int) (w : World) (h : InF w A n c fs) (hb : Ib w A2 m d b) :
    Calls Try.prog 19 #[.slice A n c, .slice A2 m d] w fun e w' => Res w' w.heap.size (undO fs b) (undE fs b) e ∧ Below w.heap.size w w' := by
  have m9 : (m : Int) ≤ 9223372036854775807 := by have := hb.c1; have := hb.c2; omega
  by_cases h0 : chE fs = 0
  · by_cases hm : m ≤ 10125
    · exact Undo_in fs A A2 n c m d b w h hb h0 hm
    · refine (Undo_bad fs A A2 n c m d w _ 4 h m9 h0 (.inl ⟨rfl, by omega, rfl⟩)).mono ?_
      rintro e w' ⟨rfl, hb'⟩
      refine ⟨Res.none (if_neg (fun hh => hm (by rw [← hb.e]; exact hh.2))) ?_, hb'⟩
      unfold undE; rw [if_pos h0, if_neg (by rw [hb.e]; exact hm)]
  · refine (Undo_bad fs A A2 n c m d w _ (chE fs) h m9 rfl (.inr ⟨h0, rfl⟩)).mono ?_
    rintro e w' ⟨rfl, hb'⟩
    refine ⟨Res.none (if_neg (fun hh => h0 hh.1)) ?_, hb'⟩
    unfold undE; rw [if_neg h0]
end Go.Proofs.Ytbfodmckgjeoaaa.fiU
