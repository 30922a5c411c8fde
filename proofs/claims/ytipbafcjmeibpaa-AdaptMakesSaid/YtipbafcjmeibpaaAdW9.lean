/- New adaptive maps, by walks. -/
import Derived.Test.YtipbafcjmeibpaaAdW4
import Derived.Deep.RegionLaw
import Derived.Deep.RegionHeld3
import Derived.BigRegion
import Derived.Deep.DeepCutAuto
import Derived.WalkMore
import Derived.Laws.MakeOwn
namespace Go.Proofs.Ytipbafcjmeibpaa.adW
open Go.RowKit Go.Proofs.Ytipbafcjmeibpaa.base Go.Proofs.Ytipbafcjmeibpaa.adP
set_option linter.unusedVariables false
set_option linter.unusedSimpArgs false

def kCells (n : Nat) : Array Value := ((List.replicate n (0 : Int)).map (Value.int .i32)).toArray
theorem mk32 (n : Nat) (hn : n ≤ 1000000) (w : World) : (Instr.makeSlice 22 (.int .i64 (n : Int)) (.int .i64 (n : Int))).run Try.prog w = .ok (.slice (some ⟨w.heap.size, 0, none⟩) n n) (w.alloc (.cells (kCells n) 21)) := by
  obtain ⟨i, hi, hz, h1, h2⟩ := info32
  have hr := run_make (P := Try.prog) w 22 21 i (.int .i32 0) Try.underlying22 hi hz .i64 .i64 n n (by omega) (by omega) (by rw [h2]; omega) (by omega)
  simp only [Int.toNat_natCast] at hr
  rw [hr]
  have e1 : madeCells (Value.int .i32 0).cells (n * i.size) = kCells n := by
    rw [h1, Nat.mul_one]
    apply Array.ext'
    have e : (Value.int .i32 0).cells = #[.int .i32 0] := rfl
    rw [e, toList_madeCells_one]
    simp [kCells]
  rw [e1]
theorem own_k (w : World) (n : Nat) (hn : n ≤ maxLen) {B g : Nat} (hB : B ≤ g) (hg : w.heap.size = g) : OwnI (w.alloc (.cells (kCells n) 21)) B 21 .i32 (.slice (some ⟨g, 0, none⟩) n n) (List.replicate n 0) := by
  subst hg
  have := OwnI.lit w 21 .i32 (List.replicate n 0) B hB (by simpa using hn)
  rwa [List.length_replicate] at this
attribute [irreducible] kCells
theorem m193 (w : World) : (Instr.makeSlice 22 (.int .i64 193) (.int .i64 193)).run Try.prog w = .ok (.slice (some ⟨w.heap.size, 0, none⟩) 193 193) (w.alloc (.cells (kCells 193) 21)) := mk32 193 (by omega) w
set_option maxHeartbeats 1000000 in
theorem New_bad (l : Int) (w : World) (h : newOk l = false) :
    Calls Try.prog 9 #[.int .i64 l] w fun e w' => e = .returned (.tuple #[.agg #[.int .i32 (zeroA).l, .slice none 0 0, .slice none 0 0], .int .i64 2]) ∧ Below w.heap.size w w' := by
  by_cases c1 : l < 1
  · clear h
    go_enter Try.func9, Try.ntmps9
    go_wp2
    refine bodyPost_ret (by simp [results, Try.results9, go_sem, ]; try rfl) rfl ?_
    exact ⟨rfl, by (repeat' (first | (with_reducible exact Below.refl _ _) | (with_reducible assumption) | (with_reducible refine below_drewN ?_ _) | (with_reducible refine below_new ?_ _) | (with_reducible refine Below.alloc ?_ ?_ _) | (with_reducible refine Below.drew ?_) | (with_reducible refine Below.setCell ?_ ?_ _) | (with_reducible apply below_at; (case k => (with_reducible assumption)); (case hB => omega)) | (with_reducible apply below_on; (with_reducible assumption)) | (go_size; done) | (with_reducible apply size_of)))⟩
  · have c2 : 1000 < l := by
      have : ¬ (1 ≤ l ∧ l ≤ 1000) := fun hh => by rw [(newOk_iff l).2 hh] at h; cases h
      omega
    clear h
    go_enter Try.func9, Try.ntmps9
    go_wp2
    refine bodyPost_ret (by simp [results, Try.results9, go_sem, ]; try rfl) rfl ?_
    exact ⟨rfl, by (repeat' (first | (with_reducible exact Below.refl _ _) | (with_reducible assumption) | (with_reducible refine below_drewN ?_ _) | (with_reducible refine below_new ?_ _) | (with_reducible refine Below.alloc ?_ ?_ _) | (with_reducible refine Below.drew ?_) | (with_reducible refine Below.setCell ?_ ?_ _) | (with_reducible apply below_at; (case k => (with_reducible assumption)); (case hB => omega)) | (with_reducible apply below_on; (with_reducible assumption)) | (go_size; done) | (with_reducible apply size_of)))⟩
theorem own_alloc {w : World} {B : Nat} {e : TypeId} {k : IntKind} {v : Value} {zs : List Int} (h : OwnI w B e k v zs) (o : Obj) : OwnI (w.alloc o) B e k v zs := h.below ((Below.refl _ _).alloc (Nat.le_refl _) _) (Nat.le_refl _)
theorem own_drew {w : World} {B : Nat} {e : TypeId} {k : IntKind} {v : Value} {zs : List Int} (h : OwnI w B e k v zs) : OwnI w.drew B e k v zs := h
def half (k : Nat) : List Int := fill 0 (List.replicate 193 32768) k
theorem half_zero : half 0 = List.replicate 193 0 := by unfold half; rw [fill_zero, List.length_replicate]
theorem half_all : half 193 = List.replicate 193 32768 := by unfold half; rw [fill_all (by rw [List.length_replicate]; exact Nat.le_refl _)]
theorem half_len {k : Nat} (h : k ≤ 193) : (half k).length = 193 := by unfold half; rw [fill_len (by rw [List.length_replicate]; exact h), List.length_replicate]
theorem half_set {k : Nat} (h : k < 193) : (half k).set k 32768 = half (k + 1) := by
  have e : (List.replicate 193 (32768 : Int)).getD k 0 = 32768 := rep_get h
  unfold half
  rw [← fill_set (l := List.replicate 193 (32768 : Int)) (by rw [List.length_replicate]; exact h) 0, e]
def zr : List Int := List.replicate 193 0
theorem zr_eq : zr = List.replicate 193 0 := rfl
theorem zr_len : zr.length = 193 := by rw [zr_eq, List.length_replicate]
theorem newA_l (l : Int) : (newA l).l = l := rfl
theorem newA_eq (l : Int) : newA l = ⟨l, half 193, zr⟩ := by rw [half_all, zr_eq]; rfl
attribute [irreducible] half zr
set_option maxHeartbeats 2000000 in
theorem New_ok (l : Int) (w : World) (h1 : 1 ≤ l) (h2 : l ≤ 1000) :
    Calls Try.prog 9 #[.int .i64 l] w fun e w' => ∃ gp gn, e = .returned (.tuple #[.agg #[.int .i32 (newA l).l, .slice (some ⟨gp, 0, none⟩) 193 193, .slice (some ⟨gn, 0, none⟩) 193 193], .int .i64 0]) ∧ AdOwn w' w.heap.size gp gn 193 193 (newA l) ∧ Below w.heap.size w w' := by
  have hm := m193
  have hw : IntKind.i32.wrap l = l := by rw [IntKind.wrap_i32]; omega
  go_enter Try.func9, Try.ntmps9
  go_upto_region 3 with fail
  go_cut [4] (fun s4 wx => ∃ gp gn g, s4 = .pointer (some ⟨g, 0, none⟩) ∧ (Lies (wx) (g) 24 [.int .i32 (l), .slice (some ⟨gp, 0, none⟩) 193 (193), .slice (some ⟨gn, 0, none⟩) 193 (193)]) ∧ AdOwn wx (w.heap.size + 1) gp gn 193 193 ⟨l, half 0, zr⟩ ∧ Lies wx w.heap.size 24 [.int .i32 0, .slice none 0 0, .slice none 0 0] ∧ Below w.heap.size w wx ∧ w.heap.size < g)
  case first =>
    go_region
    all_goals
      go_wp2_with fail
      go_meet
      refine ⟨_, _, _, rfl, by (repeat' (first | (with_reducible assumption) | (with_reducible exact Lies.fresh _ _ _) | (with_reducible apply Lies.fresh_at; (first | (with_reducible rfl) | (simp; done))) | (with_reducible refine Lies.drew ?_) | (with_reducible refine Lies.drewN ?_ _) | (with_reducible refine Lies.alloc ?_ _) | (with_reducible apply Lies.past; case hb => (with_reducible assumption)) | (with_reducible apply Lies.keeps; (case k => (with_reducible assumption)); (case ht => decide)) | (with_reducible apply Lies.store3) | (with_reducible apply Lies.other; case hp => (first | omega | (simp; done) | (simp; omega))))), ⟨?_, ?_, ?_, ?_, ?_⟩, by (repeat' (first | (with_reducible assumption) | (with_reducible exact Lies.fresh _ _ _) | (with_reducible apply Lies.fresh_at; (first | (with_reducible rfl) | (simp; done))) | (with_reducible refine Lies.drew ?_) | (with_reducible refine Lies.drewN ?_ _) | (with_reducible refine Lies.alloc ?_ _) | (with_reducible apply Lies.past; case hb => (with_reducible assumption)) | (with_reducible apply Lies.keeps; (case k => (with_reducible assumption)); (case ht => decide)) | (with_reducible apply Lies.store3) | (with_reducible apply Lies.other; case hp => (first | omega | (simp; done) | (simp; omega))))), by (repeat' (first | (with_reducible exact Below.refl _ _) | (with_reducible assumption) | (with_reducible refine below_drewN ?_ _) | (with_reducible refine below_new ?_ _) | (with_reducible refine Below.alloc ?_ ?_ _) | (with_reducible refine Below.drew ?_) | (with_reducible refine Below.setCell ?_ ?_ _) | (with_reducible apply below_at; (case k => (with_reducible assumption)); (case hB => omega)) | (with_reducible apply below_on; (with_reducible assumption)) | (go_size; done) | (with_reducible apply size_of))), by first | omega | (simp; done) | (simp; omega)⟩
      · show OwnI _ _ _ _ _ (half 0)
        rw [half_zero]
        repeat' (first | (refine own_k _ 193 ?_ ?_ ?_ <;> (first | omega | (simp; done) | (simp; omega) | decide)) | refine own_drew ?_ | refine own_alloc ?_ _)
      · show OwnI _ _ _ _ _ zr
        rw [zr_eq]
        repeat' (first | (refine own_k _ 193 ?_ ?_ ?_ <;> (first | omega | (simp; done) | (simp; omega) | decide)) | refine own_drew ?_ | refine own_alloc ?_ _)
      · first | omega | (simp; done) | (simp; omega)
      · exact half_len (by omega)
      · exact zr_len
  case rest =>
    obtain ⟨gp, gn, g, rfl, K, O, R, W, lt⟩ := hcut
    have HK := Lib.hid K
    have HO := Lib.hid O
    have HR := Lib.hid R
    have HW := Lib.hid W
    obtain ⟨p0, p1, p2, -, -, -⟩ := K.three
    clear K O R W hm
    go_wp2_with fail
    go_loopw [21] (fun i wr => ∃ k : Nat, k ≤ 193 ∧ i = .int .i64 (k : Int) ∧ (Lies (wr) (g) 24 [.int .i32 (l), .slice (some ⟨gp, 0, none⟩) 193 (193), .slice (some ⟨gn, 0, none⟩) 193 (193)]) ∧ AdOwn wr (w.heap.size + 1) gp gn 193 193 ⟨l, half k, zr⟩ ∧ Lies wr w.heap.size 24 [.int .i32 0, .slice none 0 0, .slice none 0 0] ∧ Below w.heap.size w wr) (fun i _ => 193 - (intOf i).toNat)
    case atStart => exact ⟨0, by omega, rfl, HK.out, HO.out, HR.out, HW.out⟩
    case round =>
      obtain ⟨k, hk, rfl, K, O, R, W⟩ := hrel
      have HK1 := Lib.hid K
      have HO1 := Lib.hid O
      have HR1 := Lib.hid R
      have HW1 := Lib.hid W
      obtain ⟨q0, q1, q2, -, -, -⟩ := K.three
      obtain ⟨r0, r1, r2, f0, f1, f2⟩ := R.three
      have lt2 := R.lt
      have fp := O.p.frozen k
      have ne1 : gp ≠ g := fun e => own_ne O.p K (by decide) (by rw [← e]; rfl)
      have ne2 : gp ≠ w.heap.size := fun e => own_ne O.p R (by decide) (by rw [← e]; rfl)
      by_cases hlt : k < 193
      · have hcp := O.p.cell k (by show k < (half k).length; rw [half_len hk]; exact hlt)
        clear K O R W HK HO HR HW
        generalize (half k).getD k 0 = x at hcp
        have HLT := Lib.hid hlt
        have hk2 : (k : Int) < 193 := by omega
        have hk0 : 0 ≤ (k : Int) := by omega
        clear hlt hk
        go_wp2
        go_roundw
        case rel =>
          refine ⟨k + 1, by have := HLT.out; omega, by go_num, HK1.out.other ne1 _, ?_, HR1.out.other ne2 _, Below.setCell HW1.out (by have := HO1.out.p.base_le.1; show w.heap.size ≤ gp; omega) _⟩
          have h := HO1.out.setP k 32768
          rw [half_set HLT.out] at h
          exact h
        case measure => simp [intOf]; omega
      · have HE : Hid (half k = half 193) := Lib.hid (by rw [show k = 193 by omega])
        have hk2 : ¬ ((k : Int) < 193) := by omega
        clear K O R W HK HO HR HW hlt hk fp
        go_wp2
        obtain ⟨t0, t1, t2, -, -, -⟩ := (HR1.out.store3 (a := .int .i32 l) (b := .slice (some ⟨gp, 0, none⟩) 193 193) (c := .slice (some ⟨gn, 0, none⟩) 193 193)).three
        refine bodyPost_ret (by simp [results, Try.results9, go_sem, t0, t1, t2]; try rfl) rfl ?_
        refine ⟨gp, gn, by rw [newA_l], ?_, by have := HW1.out; (repeat' (first | (with_reducible exact Below.refl _ _) | (with_reducible assumption) | (with_reducible refine below_drewN ?_ _) | (with_reducible refine below_new ?_ _) | (with_reducible refine Below.alloc ?_ ?_ _) | (with_reducible refine Below.drew ?_) | (with_reducible refine Below.setCell ?_ ?_ _) | (with_reducible apply below_at; (case k => (with_reducible assumption)); (case hB => omega)) | (with_reducible apply below_on; (with_reducible assumption)) | (go_size; done) | (with_reducible apply size_of)))⟩
        have h := (HO1.out.store3 HR1.out (by decide) (a := .int .i32 l) (b := .slice (some ⟨gp, 0, none⟩) 193 193) (c := .slice (some ⟨gn, 0, none⟩) 193 193)).mono (Nat.le_succ _)
        rw [newA_eq, ← HE.out]
        exact h
end Go.Proofs.Ytipbafcjmeibpaa.adW
