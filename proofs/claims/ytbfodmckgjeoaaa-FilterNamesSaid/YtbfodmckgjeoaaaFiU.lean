/- slices.Backward over filters: the iterator's contract. -/
import Derived.RangeFuncNested
import Derived.RangeFuncBound
import Derived.RangeFuncCalls
import Derived.RangeFuncLeaves
import Derived.Shelf.Abstract
import Derived.Shelf.RegionOpen
import Derived.WalkKit
import Derived.OwnWalkIn
import Derived.TacticsInMore
import Derived.LoopNIn
import Derived.LoopIn
import Derived.Test.YtbfodmckgjeoaaaFiC3
namespace Go.Proofs.Ytbfodmckgjeoaaa.fiU
set_option maxRecDepth 100000
open Go.RowKit Go.Shelf Go.Proofs.Ytbfodmckgjeoaaa.base Go.Proofs.Ytbfodmckgjeoaaa.fiP Go.Proofs.Ytbfodmckgjeoaaa.fiW
set_option linter.unusedVariables false
set_option linter.unusedSimpArgs false
set_option maxRecDepth 100000
attribute [local go_sem] Oper.semAt_some
/-- What comes: an index and a valid filter. -/
abbrev Ix := { x : Nat × (Int × Int) // okF x.2 = true }
def enc (x : Ix) : Array Value := #[.int .i64 (x.1.1 : Int), .agg #[.int .u8 x.1.2.1, .int .i64 x.1.2.2]]
/-- What comes in round j. -/
def com (fs : List (Int × Int)) (j : Nat) : Ix := if h : okF (fs.getD (fs.length - 1 - j) (0, 0)) = true then ⟨(fs.length - 1 - j, fs.getD (fs.length - 1 - j) (0, 0)), h⟩ else ⟨(0, (1, 1)), rfl⟩
theorem com_at {fs : List (Int × Int)} (h : okC fs = true) {j : Nat} (hj : j < fs.length) : (com fs j).1 = (fs.length - 1 - j, fs.getD (fs.length - 1 - j) (0, 0)) := by
  unfold com
  rw [dif_pos (okC_at (by omega) h)]
def upto (fs : List (Int × Int)) (k : Nat) : List Ix := (List.range k).map (com fs)
theorem upto_succ (fs : List (Int × Int)) (k : Nat) : upto fs (k + 1) = upto fs k ++ [com fs k] := by simp [upto, List.range_succ]
theorem upto_length (fs : List (Int × Int)) (k : Nat) : (upto fs k).length = k := by simp [upto]
/-- What a round keeps: all that lay below n₀, and the iterator's own box. -/
def Kp (n₀ Bs : Nat) (W W' : World) : Prop := Below n₀ W W' ∧ W'.heap[Bs]? = W.heap[Bs]?
theorem Kp.refl (n₀ Bs : Nat) (W : World) : Kp n₀ Bs W W := ⟨Below.refl _ _, rfl⟩
theorem Kp.trans {n₀ Bs : Nat} {A B C : World} (h : Kp n₀ Bs A B) (k : Kp n₀ Bs B C) : Kp n₀ Bs A C := ⟨h.1.trans k.1, k.2.trans h.2⟩
theorem Kp.box {n₀ Bs : Nat} {W W' : World} {v : Value} (h : Kp n₀ Bs W W') (hc : W.cell? ⟨Bs, 0, none⟩ = some v) : W'.cell? ⟨Bs, 0, none⟩ = some v := by
  rw [← hc]; simp only [World.cell?]; rw [h.2]
theorem kp_b {n₀ Bs : Nat} {w : World} (hn : n₀ ≤ w.heap.size) (hB : Bs < w.heap.size) (W : World) (l : Nat) (o o' : Obj) (hl : w.heap.size ≤ l) (h : W.heap[l]? = some o) (h1 : o.isCells = false) (h2 : o.isWalk = false) : Kp n₀ Bs W (W.putObj l o') :=
  ⟨belowK_b hn W l o o' hl h h1 h2, (grownBy_putObj' W l o').block Bs (by have := (Array.getElem?_eq_some_iff.1 h).1; omega) (by intro e; injection e with e; omega)⟩
set_option maxHeartbeats 2000000 in
theorem back1_in (F : Fence) (n : Nat) (h49 : F.fn 49) (hro : F.round = none) (hn : 1 ≤ n) (l Bs n₀ len cap b off : Nat) (fs : List (Int × Int)) (hok : okC fs = true) (hlen : fs.length = len) (h4 : len ≤ 4) (hb : b < n₀) (J Jx : List Ix → World → Prop)
    (hY : ∀ pre x W, J pre W → pre.length < len → YieldAt F (n - 1) Try.prog l (enc x) W fun e W' =>
      (e = .returned (.bool true) ∧ J (pre ++ [x]) W' ∧ Kp n₀ Bs W W') ∨ (e = .returned (.bool false) ∧ Jx (pre ++ [x]) W'))
    (W : World) (hBs : W.cell? ⟨Bs, 0, none⟩ = some (.slice (some ⟨b, off, none⟩) len cap)) (hc : ∀ i, i < len → W.cell? ⟨b, off + i * 2, none⟩ = some (.int .u8 (fs.getD i (0, 0)).1) ∧ W.cell? ⟨b, off + i * 2 + 1, none⟩ = some (.int .i64 (fs.getD i (0, 0)).2)) (h0 : J [] W) :
    CallsIn F n Try.prog 49 #[.func (.yield l) #[] #[], .pointer (some ⟨Bs, 0, none⟩)] W fun e W' => (∃ v, e = .returned v) ∧
      ((∃ ys, ys = upto fs len ∧ J ys W') ∨ (∃ pre, (∃ k, k ≤ len ∧ pre = upto fs k) ∧ Jx pre W')) := by
  have l4 : (len : Int) ≤ 4 := by omega
  refine callsIn_of_wp Try.func49 rfl h49 ?_ hro
  simp only [Try.ntmps49, List.size_toArray, List.length_cons, List.length_nil, Nat.reduceAdd, Nat.reduceSub, Array.replicate_succ, Array.replicate_zero, List.push_toArray, List.append_toArray, List.nil_append, List.cons_append]
  have w0 : IntKind.i64.wrap ((len : Int) - 1) = (len : Int) - 1 := IntWalk.i64_in _ (by omega)
  gi_wp2
  clear w0
  gi_loopw [3] (fun i wr => ∃ k : Nat, k ≤ len ∧ i = .int .i64 ((len : Int) - 1 - k) ∧ J (upto fs k) wr ∧ Kp n₀ Bs W wr)
    (fun i _ => (intOf i + 1).toNat)
  case atStart => exact ⟨0, Nat.zero_le _, by simp, h0, Kp.refl _ _ _⟩
  case round =>
    obtain ⟨k, hk, rfl, hJs, hnx⟩ := hrel
    by_cases hlt : k < len
    · obtain ⟨i, hi⟩ : ∃ i, len - 1 - k = i := ⟨_, rfl⟩
      have e1 : (len : Int) - 1 - k = i := by omega
      obtain ⟨p0, p1⟩ := hc i (by omega)
      have p0 : wr.cell? ⟨b, off + i * 2, none⟩ = some (.int .u8 (fs.getD i (0, 0)).1) := (hnx.1.cell (p := ⟨b, off + i * 2, none⟩) hb).trans p0
      have p1 : wr.cell? ⟨b, off + i * 2 + 1, none⟩ = some (.int .i64 (fs.getD i (0, 0)).2) := (hnx.1.cell (p := ⟨b, off + i * 2 + 1, none⟩) hb).trans p1
      have p2 : wr.cell? ⟨Bs, 0, none⟩ = some (.slice (some ⟨b, off, none⟩) len cap) := hnx.box hBs
      have hx := com_at hok (j := k) (by omega)
      rw [hlen, hi] at hx
      obtain ⟨fn, tmps, assign, body, hy, hR⟩ := hY _ (com fs k) wr hJs (by rw [upto_length]; exact hlt)
      unfold enc at hy
      rw [hx] at hy
      dsimp only at hy
      generalize (fs.getD i (0, 0)).1 = q at *
      generalize (fs.getD i (0, 0)).2 = u at *
      have i1 : (i : Int) < len := by omega
      have i2 : i < len := by omega
      have i3 : (0 : Int) ≤ i := by omega
      have w1 : IntKind.i64.wrap ((i : Int) - 1) = (i : Int) - 1 := IntWalk.i64_in _ (by omega)
      rw [e1]
      have HE := Lib.hid e1
      clear e1 hx hi
      gi_wp2
      refine hR.mono ?_
      rintro e W3 (⟨rfl, hJ3, hk3⟩ | ⟨rfl, hJx3⟩)
      · gi_wp2
        go_roundw
        case rel => exact ⟨k + 1, by omega, by rw [← HE.out]; congr 1; omega, by rw [upto_succ]; exact hJ3, hnx.trans hk3⟩
        case measure => simp [intOf]
      · gi_wp2
        refine bodyPost_ret (results_none rfl _ _ _) rfl ?_
        exact ⟨⟨_, rfl⟩, .inr ⟨_, ⟨k + 1, by omega, (upto_succ _ _).symm⟩, hJx3⟩⟩
    · obtain rfl : k = len := by omega
      have e1 : ¬ (0 : Int) ≤ (k : Int) - 1 - k := by omega
      gi_wp2
      go_end0
      exact ⟨⟨_, rfl⟩, .inl hJs⟩
set_option maxHeartbeats 1000000 in
/-- .. of no filters: no round. -/
theorem back1_nil_in (F : Fence) (n : Nat) (h49 : F.fn 49) (hro : F.round = none) (l Bs cap : Nat) (A : Option Addr) (J : List Ix → World → Prop) (W : World) (hBs : W.cell? ⟨Bs, 0, none⟩ = some (.slice A 0 cap)) (h0 : J [] W) :
    CallsIn F n Try.prog 49 #[.func (.yield l) #[] #[], .pointer (some ⟨Bs, 0, none⟩)] W fun e W' => (∃ v, e = .returned v) ∧ J [] W' := by
  refine callsIn_of_wp Try.func49 rfl h49 ?_ hro
  simp only [Try.ntmps49, List.size_toArray, List.length_cons, List.length_nil, Nat.reduceAdd, Nat.reduceSub, Array.replicate_succ, Array.replicate_zero, List.push_toArray, List.append_toArray, List.nil_append, List.cons_append]
  gi_wp2
  gi_loopw [3] (fun i wr => i = .int .i64 (-1) ∧ J [] wr) (fun _ _ => 0)
  case atStart => exact ⟨rfl, h0⟩
  case round =>
    obtain ⟨rfl, hJs⟩ := hrel
    gi_wp2
    go_end0
    exact ⟨⟨_, rfl⟩, hJs⟩
set_option maxHeartbeats 1000000 in
/-- slices.Backward: the slice is boxed; the function value captures the box. -/
theorem backward_in (F : Fence) (n : Nat) (h37 : F.fn 37) (hro : F.round = none) (a : Option Addr) (len cap : Nat) (w : World) :
    CallsIn F n Try.prog 37 #[.slice a len cap] w fun e w' => e = .returned (.func (.func 49) #[] #[.pointer (some ⟨w.heap.size, 0, none⟩)]) ∧ w' = w.alloc (.cells #[.slice a len cap] 35) := by
  refine callsIn_of_wp Try.func37 rfl h37 ?_ hro
  simp only [Try.ntmps37, List.size_toArray, List.length_cons, List.length_nil, Nat.reduceAdd, Nat.reduceSub, Array.replicate_succ, Array.replicate_zero, List.push_toArray, List.append_toArray, List.nil_append, List.cons_append]
  gi_wp2
  go_ret
  exact ⟨rfl, rfl⟩
theorem back_stops (F : Fence) (n : Nat) (h49 : F.fn 49) (hro : F.round = none) (hn : 1 ≤ n) (Bs n₀ : Nat) (A : Option Addr) (len cap : Nat) (fs : List (Int × Int)) (hok : okC fs = true) (h4 : len ≤ 4) (w : World) (hBs : Bs < w.heap.size) (hn₀ : n₀ ≤ w.heap.size)
    (hc : w.cell? ⟨Bs, 0, none⟩ = some (.slice A len cap)) (hI : InF w A len cap fs) (hA : ∀ a, A = some a → a.block < n₀ ∨ fs = []) :
    SeqStopsK F n Try.prog 49 #[.pointer (some ⟨Bs, 0, none⟩)] enc (Kp n₀ Bs) (fun ys => ys = upto fs len) (fun pre => ∃ k, k ≤ len ∧ pre = upto fs k) len w := fun l J Jx W hW _ _ hY h0 => by
  have hc' := (hW.cell (p := ⟨Bs, 0, none⟩) hBs).trans hc
  rcases Nat.eq_zero_or_pos len with rfl | hp
  · exact (back1_nil_in F n h49 hro l Bs cap A J W hc' h0).mono fun e W' ⟨he, hj⟩ => ⟨he, .inl ⟨_, rfl, hj⟩⟩
  · obtain ⟨b, off, rfl, hb, hcs⟩ := (hI.below hW).at_ hp
    refine back1_in F n h49 hro hn l Bs n₀ len cap b off fs hok hI.e h4 ?_ J Jx hY W hc' hcs h0
    rcases hA _ rfl with h | h
    · exact h
    · have := hI.e; rw [h] at this; simp at this; omega
end Go.Proofs.Ytbfodmckgjeoaaa.fiU
