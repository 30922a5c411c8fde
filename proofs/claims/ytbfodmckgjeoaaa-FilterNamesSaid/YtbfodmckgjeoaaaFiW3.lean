/- Filters: sums of the program, by a walk. -/
import Derived.Test.YtbfodmckgjeoaaaFiW2
namespace Go.Proofs.Ytbfodmckgjeoaaa.fiW
set_option maxRecDepth 100000
open Go.RowKit Go.Proofs.Ytbfodmckgjeoaaa.base Go.Proofs.Ytbfodmckgjeoaaa.fiP
set_option linter.unusedVariables false
set_option linter.unusedSimpArgs false
set_option maxHeartbeats 1000000 in
theorem sums_any (b : List Int) (A : Option Addr) (n c m : Nat) (w : World) (h : Ib w A n c b) (hl : n ≤ 20000) (h1 : 1 ≤ m) (h8 : m ≤ 8) :
    Calls Try.prog 30 #[.slice A n c, .int .i64 (m : Int)] w fun e w' => ∃ A' c', e = .returned (.slice A' n c') ∧ OwnZ w' w.heap.size (.slice A' n c') (sm b m) ∧ Below w.heap.size w w' := by
  have HH := Lib.hid h
  have hn : b.length = n := h.e
  have HN := Lib.hid hn
  have HL := Lib.hid hl
  have n9 : (n : Int) ≤ 20000 := by omega
  have m1 : (1 : Int) ≤ m := by omega
  have m8 : (m : Int) ≤ 8 := by omega
  have HST := Lib.hid (half_start (sF_start h.bd m))
  clear h hn hl h1 h8
  go_enter Try.func30, Try.ntmps30
  go_wp2_with fail
  refine (Clone8 (zs := b) HH.out.h HH.out.e HH.out.c1 (by have := HL.out; omega)).mono ?_
  rintro e w1 ⟨A1, c1, rfl, -, o1, hb1⟩
  have HO1 := Lib.hid o1
  have HB1 := Lib.hid hb1
  clear o1 hb1
  go_wp2_with fail
  by_cases hmn : m < n
  · obtain ⟨g, rfl, hg0, hg1, o⟩ := HO1.out.at_head (by omega)
    have HOI := Lib.hid o
    have HG := Lib.hid (And.intro hg0 hg1)
    clear o hg0 hg1 HO1
    go_loopw [6] (fun j wr => ∃ k : Nat, m ≤ k ∧ k ≤ n ∧ j = .int .i64 k ∧ OwnI wr w.heap.size 5 .u8 (.slice (some ⟨g, 0, none⟩) n c1) (half (sF b m) b k) ∧ Below w.heap.size w wr) (fun j _ => n - (intOf j).toNat)
    case atStart => exact ⟨m, Nat.le_refl _, by omega, rfl, by rw [HST.out m (Nat.le_refl _) (by rw [HN.out]; omega)]; exact HOI.out, HB1.out⟩
    case round =>
      obtain ⟨k, hmk, hk, rfl, own, acc⟩ := hrel
      have HO := Lib.hid own
      have HACC := Lib.hid acc
      by_cases hlt : k < n
      · obtain ⟨j, hj⟩ : ∃ j, k - m = j := ⟨_, rfl⟩
        have p1 := own.cell k (by rw [half_len (by rw [HN.out]; omega), HN.out]; exact hlt)
        have p2 := own.cell j (by rw [half_len (by rw [HN.out]; omega), HN.out]; omega)
        rw [half_at (Nat.le_refl k)] at p1
        rw [half_before (by omega)] at p2
        have p4 := own.frozen k
        obtain ⟨x1, x2⟩ := at_bd HH.out.bd k
        obtain ⟨y1, y2⟩ := at_bd (bld_bd (sF_bd b m) k) j
        have HF : Hid (sF b m (bld (sF b m) k) k = (b.getD k 0 + (bld (sF b m) k).getD j 0) % 256) := Lib.hid (by unfold sF bef; rw [if_pos hmk, hj])
        have HS := Lib.hid (half_set (f := sF b m) (b := b) (k := k) (by rw [HN.out]; exact hlt))
        have HLT := Lib.hid (And.intro hmk hlt)
        have k1 : (k : Int) < n := by omega
        have k2 : k < n := hlt
        have j1 : IntKind.i64.wrap ((k : Int) - m) = (j : Int) := by
          have : (k : Int) - m = j := by omega
          rw [this]; exact IntWalk.i64_in _ (by omega)
        have j3 : (j : Int) < n := by omega
        generalize b.getD k 0 = x at *
        generalize (bld (sF b m) k).getD j 0 = y at *
        have z1 : IntKind.u8.wrap (x + y) = (x + y) % 256 := by rfl
        clear hk own acc hlt hmk hj
        go_wp2_with fail
        go_still_tail 12, (by kernel_rfl)
        go_wp2
        refine ⟨⟨k + 1, by have := HLT.out; omega, by have := HLT.out; omega, by go_num, ?_, ?_⟩, by simp [intOf]; have := HLT.out; omega⟩
        · rw [← HS.out, HF.out]
          exact HO.out.store k _
        · have h1 : Below w.heap.size w (wr.setCell ⟨g, k, none⟩ (.int .u8 ((x + y) % 256))) := Below.setCell HACC.out HG.out.1 _
          exact h1.drew
      · obtain rfl : k = n := by omega
        have k1 : ¬ (k : Int) < k := by omega
        clear hk hmk own acc hlt
        go_wp2_with fail
        go_ret
        exact ⟨_, c1, rfl, .inl (by rw [sm, HN.out, ← half_all (b := b) (by rw [HN.out]; omega)]; exact HO.out), HACC.out⟩
  · have HD : Hid (sm b m = b) := Lib.hid (by
      have := HST.out n (by omega) (by rw [HN.out]; omega)
      rw [half_all (by rw [HN.out]; omega)] at this
      rw [sm, HN.out]; exact this)
    have k1 : ¬ (m : Int) < n := by omega
    have d1 : decide (m < n) = false := decide_eq_false hmn
    clear hmn
    go_loopw [6] (fun j wr => j = .int .i64 (m : Int) ∧ wr = w1) (fun j _ => 0)
    case atStart => exact ⟨rfl, rfl⟩
    case round =>
      obtain ⟨rfl, rfl⟩ := hrel
      go_wp2_with fail
      go_ret
      exact ⟨A1, c1, rfl, by rw [HD.out]; exact HO1.out, HB1.out⟩
end Go.Proofs.Ytbfodmckgjeoaaa.fiW
