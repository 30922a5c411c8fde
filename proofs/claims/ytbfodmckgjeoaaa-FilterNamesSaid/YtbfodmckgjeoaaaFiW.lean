/- Filters: differences and sums of the reference, by walks. -/
import Derived.Test.YtbfodmckgjeoaaaOwnZ
import Derived.Test.YtbfodmckgjeoaaaReg
import Derived.Test.YtbfodmckgjeoaaaFiPlain
import Derived.BigQuiet
import Derived.Deep.LoopGhost
import Derived.Lib.Hide
import Derived.IntWalk
namespace Go.Proofs.Ytbfodmckgjeoaaa.fiW
set_option maxRecDepth 100000
open Go.RowKit Go.Proofs.Ytbfodmckgjeoaaa.base Go.Proofs.Ytbfodmckgjeoaaa.fiP
set_option linter.unusedVariables false
set_option linter.unusedSimpArgs false
/-- A slice of bytes. -/
structure Ib (w : World) (A : Option Addr) (n c : Nat) (b : List Int) : Prop where
  h : Has .u8 w A b
  e : b.length = n
  c1 : n ≤ c
  c2 : c ≤ 9223372036854775807
  bd : ∀ z ∈ b, 0 ≤ z ∧ z ≤ 255
theorem Ib.below {w w' : World} {A : Option Addr} {n c : Nat} {b : List Int} (h : Ib w A n c b) (hb : Below w.heap.size w w') : Ib w' A n c b := ⟨h.h.below hb (Nat.le_refl _), h.e, h.c1, h.c2, h.bd⟩
theorem in_at {w wr : World} {b : List Int} {A : Option Addr} {n c : Nat} (h : Ib w A n c b) (hb : Below w.heap.size w wr) {k : Nat} (hk : k < n) : ∃ bb off, A = some ⟨bb, off, none⟩ ∧ bb < w.heap.size ∧ ∀ j, j < n → wr.cell? ⟨bb, off + j, none⟩ = some (.int .u8 (b.getD j 0)) := by
  obtain ⟨bb, off, hA, hlt, hc⟩ := has_some h.h (by rw [h.e]; omega)
  exact ⟨bb, off, hA, hlt, fun j hj => by rw [hb.cell (p := ⟨bb, off + j, none⟩) hlt]; exact hc j (by rw [h.e]; exact hj)⟩
set_option maxHeartbeats 1000000 in
theorem rDeltas (b : List Int) (A : Option Addr) (n c m : Nat) (w : World) (h : Ib w A n c b) (hl : n ≤ 20000) (h1 : 1 ≤ m) (h8 : m ≤ 8) :
    Calls Try.prog 41 #[.slice A n c, .int .i64 (m : Int)] w fun e w' => ∃ A' c', e = .returned (.slice A' n c') ∧ OwnI w' w.heap.size 5 .u8 (.slice A' n c') (dl b m) ∧ Below w.heap.size w w' := by
  have HH := Lib.hid h
  have hn : b.length = n := h.e
  have HN := Lib.hid hn
  have HL := Lib.hid hl
  have n9 : (n : Int) ≤ 20000 := by omega
  have m1 : (1 : Int) ≤ m := by omega
  have m8 : (m : Int) ≤ 8 := by omega
  clear h hn hl h1 h8
  go_enter Try.func41, Try.ntmps41
  go_wp2_with fail
  go_loopw [5, 6] (fun v j wr => ∃ (k : Nat) (B : Option Addr) (d : Nat), k ≤ n ∧ j = .int .i64 k ∧ v = .slice B k d ∧ OwnI wr w.heap.size 5 .u8 (.slice B k d) (bld (dF b m) k) ∧ Below w.heap.size w wr) (fun _ j _ => n - (intOf j).toNat)
  case atStart => exact ⟨0, none, 0, Nat.zero_le _, rfl, rfl, OwnI.nil _ _ _ _, Below.refl _ _⟩
  case round =>
    obtain ⟨k, B, d, hk, rfl, rfl, own, acc⟩ := hrel
    have HO := Lib.hid own
    have HACC := Lib.hid acc
    by_cases hlt : k < n
    · obtain ⟨bb, off, rfl, hbb, hc⟩ := in_at HH.out acc hlt
      have p1 := hc k hlt
      have HLT := Lib.hid hlt
      have k1 : (k : Int) < n := by omega
      obtain ⟨x1, x2⟩ := at_bd HH.out.bd k
      by_cases hm : m ≤ k
      · obtain ⟨j, hj⟩ : ∃ j, k - m = j := ⟨_, rfl⟩
        have p2 := hc j (by omega)
        obtain ⟨y1, y2⟩ := at_bd HH.out.bd j
        have HF : Hid (dF b m (bld (dF b m) k) k = (b.getD k 0 - b.getD j 0) % 256) := Lib.hid (by unfold dF bef; rw [if_pos hm, hj])
        have j1 : (k : Int) - m = j := by omega
        have j2 : (m : Int) ≤ k := by omega
        generalize b.getD k 0 = x at *
        generalize b.getD j 0 = y at *
        clear hk own acc hlt hc hm hj
        go_wp2_with (at_builtin; refine app8 rfl _ _ rfl w.heap.size _ (bld _ k) rfl (HO.out.below ((Below.refl _ _).alloc (Nat.le_refl _) _) (Nat.le_refl _)) (some ⟨_, 0, none⟩) 1 1 [(x - y) % 256] rfl rfl (has_lit (zs := [(x - y) % 256]) rfl (by simp [maxLen])) (k + 1) (by rw [bld_len]) (by have := HLT.out; have := HL.out; omega) (by have := HACC.out.size; simp; omega) ?_; intro A4 c4 w4 ho4 hg4 hb4; have HA4 : Hid (Below w.heap.size w w4) := Lib.hid ((Below.alloc HACC.out HACC.out.size _).trans hb4))
        go_roundw
        case rel => exact ⟨k + 1, A4, c4, HLT.out, by go_num, rfl, by rw [bld_snoc, HF.out]; exact ho4, HA4.out⟩
        case measure => simp [intOf]; have := HLT.out; omega
      · have HF : Hid (dF b m (bld (dF b m) k) k = b.getD k 0) := Lib.hid (by unfold dF bef; rw [if_neg hm]; omega)
        have j2 : (k : Int) < m := by omega
        generalize b.getD k 0 = x at *
        clear hk own acc hlt hc hm
        go_wp2_with (at_builtin; refine app8 rfl _ _ rfl w.heap.size _ (bld _ k) rfl (HO.out.below ((Below.refl _ _).alloc (Nat.le_refl _) _) (Nat.le_refl _)) (some ⟨_, 0, none⟩) 1 1 [x] rfl rfl (has_lit (zs := [x]) rfl (by simp [maxLen])) (k + 1) (by rw [bld_len]) (by have := HLT.out; have := HL.out; omega) (by have := HACC.out.size; simp; omega) ?_; intro A4 c4 w4 ho4 hg4 hb4; have HA4 : Hid (Below w.heap.size w w4) := Lib.hid ((Below.alloc HACC.out HACC.out.size _).trans hb4))
        go_roundw
        case rel => exact ⟨k + 1, A4, c4, HLT.out, by go_num, rfl, by rw [bld_snoc, HF.out]; exact ho4, HA4.out⟩
        case measure => simp [intOf]; have := HLT.out; omega
    · obtain rfl : k = n := by omega
      have k1 : ¬ (k : Int) < k := by omega
      clear hk own acc hlt
      go_wp2_with fail
      go_ret
      exact ⟨B, d, rfl, by rw [dl, HN.out]; exact HO.out, HACC.out⟩
set_option maxHeartbeats 1000000 in
theorem rSums (b : List Int) (A : Option Addr) (n c m : Nat) (w : World) (h : Ib w A n c b) (hl : n ≤ 20000) (h1 : 1 ≤ m) (h8 : m ≤ 8) :
    Calls Try.prog 46 #[.slice A n c, .int .i64 (m : Int)] w fun e w' => ∃ A' c', e = .returned (.slice A' n c') ∧ OwnI w' w.heap.size 5 .u8 (.slice A' n c') (sm b m) ∧ Below w.heap.size w w' := by
  have HH := Lib.hid h
  have hn : b.length = n := h.e
  have HN := Lib.hid hn
  have HL := Lib.hid hl
  have n9 : (n : Int) ≤ 20000 := by omega
  have m1 : (1 : Int) ≤ m := by omega
  have m8 : (m : Int) ≤ 8 := by omega
  clear h hn hl h1 h8
  go_enter Try.func46, Try.ntmps46
  go_wp2_with fail
  go_loopw [5, 6] (fun v j wr => ∃ (k : Nat) (B : Option Addr) (d : Nat), k ≤ n ∧ j = .int .i64 k ∧ v = .slice B k d ∧ OwnI wr w.heap.size 5 .u8 (.slice B k d) (bld (sF b m) k) ∧ Below w.heap.size w wr) (fun _ j _ => n - (intOf j).toNat)
  case atStart => exact ⟨0, none, 0, Nat.zero_le _, rfl, rfl, OwnI.nil _ _ _ _, Below.refl _ _⟩
  case round =>
    obtain ⟨k, B, d, hk, rfl, rfl, own, acc⟩ := hrel
    have HO := Lib.hid own
    have HACC := Lib.hid acc
    by_cases hlt : k < n
    · obtain ⟨bb, off, rfl, hbb, hc⟩ := in_at HH.out acc hlt
      have p1 := hc k hlt
      have HLT := Lib.hid hlt
      have k1 : (k : Int) < n := by omega
      obtain ⟨x1, x2⟩ := at_bd HH.out.bd k
      by_cases hm : m ≤ k
      · obtain ⟨j, hj⟩ : ∃ j, k - m = j := ⟨_, rfl⟩
        obtain ⟨g, rfl, -, hg, -⟩ := own.form (by intro e; have := bld_len (sF b m) k; rw [e] at this; simp at this; omega)
        have p2 := own.cell j (by rw [bld_len]; omega)
        obtain ⟨y1, y2⟩ := at_bd (bld_bd (sF_bd b m) k) j
        have HF : Hid (sF b m (bld (sF b m) k) k = (b.getD k 0 + (bld (sF b m) k).getD j 0) % 256) := Lib.hid (by unfold sF bef; rw [if_pos hm, hj])
        have j3 : (j : Int) < k := by omega
        have j1 : (k : Int) - m = j := by omega
        have j2 : (m : Int) ≤ k := by omega
        generalize b.getD k 0 = x at *
        generalize (bld (sF b m) k).getD j 0 = y at *
        clear hk own acc hlt hc hm hj
        go_wp2_with (at_builtin; refine app8 rfl _ _ rfl w.heap.size _ (bld _ k) rfl (HO.out.below ((Below.refl _ _).alloc (Nat.le_refl _) _) (Nat.le_refl _)) (some ⟨_, 0, none⟩) 1 1 [(x + y) % 256] rfl rfl (has_lit (zs := [(x + y) % 256]) rfl (by simp [maxLen])) (k + 1) (by rw [bld_len]) (by have := HLT.out; have := HL.out; omega) (by have := HACC.out.size; simp; omega) ?_; intro A4 c4 w4 ho4 hg4 hb4; have HA4 : Hid (Below w.heap.size w w4) := Lib.hid ((Below.alloc HACC.out HACC.out.size _).trans hb4))
        go_roundw
        case rel => exact ⟨k + 1, A4, c4, HLT.out, by go_num, rfl, by rw [bld_snoc, HF.out]; exact ho4, HA4.out⟩
        case measure => simp [intOf]; have := HLT.out; omega
      · have HF : Hid (sF b m (bld (sF b m) k) k = b.getD k 0) := Lib.hid (by unfold sF bef; rw [if_neg hm]; omega)
        have j2 : (k : Int) < m := by omega
        generalize b.getD k 0 = x at *
        clear hk own acc hlt hc hm
        go_wp2_with (at_builtin; refine app8 rfl _ _ rfl w.heap.size _ (bld _ k) rfl (HO.out.below ((Below.refl _ _).alloc (Nat.le_refl _) _) (Nat.le_refl _)) (some ⟨_, 0, none⟩) 1 1 [x] rfl rfl (has_lit (zs := [x]) rfl (by simp [maxLen])) (k + 1) (by rw [bld_len]) (by have := HLT.out; have := HL.out; omega) (by have := HACC.out.size; simp; omega) ?_; intro A4 c4 w4 ho4 hg4 hb4; have HA4 : Hid (Below w.heap.size w w4) := Lib.hid ((Below.alloc HACC.out HACC.out.size _).trans hb4))
        go_roundw
        case rel => exact ⟨k + 1, A4, c4, HLT.out, by go_num, rfl, by rw [bld_snoc, HF.out]; exact ho4, HA4.out⟩
        case measure => simp [intOf]; have := HLT.out; omega
    · obtain rfl : k = n := by omega
      have k1 : ¬ (k : Int) < k := by omega
      clear hk own acc hlt
      go_wp2_with fail
      go_ret
      exact ⟨B, d, rfl, by rw [sm, HN.out]; exact HO.out, HACC.out⟩
end Go.Proofs.Ytbfodmckgjeoaaa.fiW
