/- FilterNames: n times the same byte. -/
import Derived.Test.YtbfodmckgjeoaaaFiL2
import Derived.Test.YtbfodmckgjeoaaaFlowG
namespace Go.Proofs.Ytbfodmckgjeoaaa.fiL
set_option maxRecDepth 100000
open Go.RowKit Go.Proofs.Ytbfodmckgjeoaaa.base Go.Proofs.Ytbfodmckgjeoaaa.fiP Go.Proofs.Ytbfodmckgjeoaaa.fiW Go.Proofs.Ytbfodmckgjeoaaa.fiU
set_option linter.unusedVariables false
set_option linter.unusedSimpArgs false
set_option maxRecDepth 100000
set_option maxHeartbeats 1000000 in
theorem same_any (c : Int) (n : Nat) (w : World) (hn : n ≤ 300) :
    Calls Try.prog 22 #[.int .u8 c, .int .i64 (n : Int)] w fun e w' => ∃ A d, e = .returned (.slice A n d) ∧ OwnI w' w.heap.size 5 .u8 (.slice A n d) (List.replicate n c) ∧ Below w.heap.size w w' := by
  have HN := Lib.hid hn
  have n9 : (n : Int) ≤ 300 := by omega
  clear hn
  go_enter Try.func22, Try.ntmps22
  go_wp2_with fail
  go_loopw [5, 6] (fun v j wr => ∃ (k : Nat) (B : Option Addr) (d : Nat), k ≤ n ∧ j = .int .i64 k ∧ v = .slice B k d ∧ OwnI wr w.heap.size 5 .u8 (.slice B k d) (List.replicate k c) ∧ Below w.heap.size w wr) (fun _ j _ => n - (intOf j).toNat)
  case atStart => exact ⟨0, none, 0, Nat.zero_le _, rfl, rfl, OwnI.nil _ _ _ _, Below.refl _ _⟩
  case round =>
    obtain ⟨k, B, d, hk, rfl, rfl, own, acc⟩ := hrel
    have HO := Lib.hid own
    have HA := Lib.hid acc
    by_cases hlt : k < n
    · have k1 : (k : Int) < n := by omega
      have HLT : Hid (k < n ∧ n ≤ 300) := Lib.hid ⟨hlt, HN.out⟩
      clear hk own acc hlt
      go_wp2_with ((at_builtin; refine app8 rfl _ _ rfl w.heap.size _ (List.replicate k c) rfl (HO.out.below ((Below.refl _ _).alloc (Nat.le_refl _) _) (Nat.le_refl _)) (some ⟨_, 0, none⟩) 1 1 [c] rfl rfl (has_lit (zs := [c]) rfl (by simp [maxLen])) (k + 1) (by simp) (by have := HLT.out; omega) (by have := HA.out.size; simp; omega) ?_; intro A4 c4 w4 ho4 hg4 hb4; have HO4 := Lib.hid ho4; have HA4 := Lib.hid ((Below.alloc HA.out HA.out.size _).trans hb4); clear ho4 hg4 hb4))
      go_roundw
      case rel => exact ⟨k + 1, A4, c4, HLT.out.1, by go_num, rfl, by rw [List.replicate_succ']; exact HO4.out, HA4.out⟩
      case measure => simp [intOf]; have := HLT.out; omega
    · obtain rfl : k = n := by omega
      have k1 : ¬ (k : Int) < k := by omega
      clear hk own acc hlt
      go_wp2_with fail
      go_ret
      exact ⟨B, d, rfl, HO.out, HA.out⟩
end Go.Proofs.Ytbfodmckgjeoaaa.fiL
