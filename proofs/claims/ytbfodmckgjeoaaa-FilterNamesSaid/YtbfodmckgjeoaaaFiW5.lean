/- Filters: counted of the reference, runs of the program, by walks. -/
import Derived.Test.YtbfodmckgjeoaaaFiW4
namespace Go.Proofs.Ytbfodmckgjeoaaa.fiW
set_option maxRecDepth 100000
open Go.RowKit Go.Proofs.Ytbfodmckgjeoaaa.base Go.Proofs.Ytbfodmckgjeoaaa.fiP
set_option linter.unusedVariables false
set_option linter.unusedSimpArgs false
set_option maxHeartbeats 2000000 in
theorem rCounted (b : List Int) (A : Option Addr) (n c : Nat) (w : World) (h : Ib w A n c b) (hl : n ≤ 20000) :
    Calls Try.prog 43 #[.slice A n c] w fun e w' => ∃ A' n' c', e = .returned (.slice A' n' c') ∧ n' = (cn b 0).length ∧ OwnI w' w.heap.size 5 .u8 (.slice A' n' c') (cn b 0) ∧ Below w.heap.size w w' := by
  have HH := Lib.hid h
  have hn : b.length = n := h.e
  have HN := Lib.hid hn
  have HL := Lib.hid hl
  have n9 : (n : Int) ≤ 20000 := by omega
  have HCL : Hid ((cn b 0).length ≤ 30000) := Lib.hid (by have := cn_len b _ 0 rfl; omega)
  clear h hn hl
  go_enter Try.func43, Try.ntmps43
  go_wp2_with fail
  go_loopw [3, 4] (fun v j wr => ∃ (k t : Nat) (B : Option Addr) (d : Nat) (zs : List Int), k ≤ n ∧ j = .int .i64 k ∧ v = .slice B t d ∧ t = zs.length ∧ zs ++ cn b k = cn b 0 ∧ OwnI wr w.heap.size 5 .u8 (.slice B t d) zs ∧ Below w.heap.size w wr) (fun _ j _ => n - (intOf j).toNat)
  case atStart => exact ⟨0, 0, none, 0, [], Nat.zero_le _, rfl, rfl, rfl, rfl, OwnI.nil _ _ _ _, Below.refl _ _⟩
  case round =>
    obtain ⟨k, t, B, d, zs, hk, rfl, rfl, ht, hz, own, acc⟩ := hrel
    have HT := Lib.hid ht
    have HZ := Lib.hid hz
    have HO := Lib.hid own
    have HACC := Lib.hid acc
    by_cases hlt : k < n
    · have hkb : k < b.length := by rw [HN.out]; exact hlt
      have HRB := Lib.hid (rl_bd hkb)
      have HST := Lib.hid (cn_step hkb)
      have hzl := congrArg List.length hz
      rw [HST.out] at hzl
      simp only [List.length_append] at hzl
      have HZL : Hid (t + (tok b k).length ≤ 30000) := Lib.hid (by have := HCL.out; omega)
      obtain ⟨bb, off, rfl, hbb, hc⟩ := in_at HH.out acc hlt
      have p1 := hc k hlt
      have lt0 := Lib.hid hbb
      have HP1 := Lib.hid p1
      obtain ⟨x1, x2⟩ := at_bd HH.out.bd k
      have HLT := Lib.hid hlt
      have k1 : (k : Int) < n := by omega
      have HTK : Hid (tok b k = if rl b k = 1 then [b.getD k 0] else [b.getD k 0, b.getD k 0, (rl b k : Int) - 2]) := Lib.hid rfl
      generalize b.getD k 0 = x at *
      generalize hr : rl b k = r at *
      have HR := Lib.hid hr
      have r1 : (1 : Int) ≤ r := by have := HRB.out; omega
      have r2 : (r : Int) ≤ 257 := by have := HRB.out; omega
      have r3 : (k : Int) + r ≤ 20000 := by have := HRB.out; have := HN.out; omega
      have HTL : Hid ((tok b k).length ≤ 3) := Lib.hid (by rw [HTK.out]; split <;> simp)
      clear hk ht hz own acc hlt hkb hzl hc p1 hbb hr
      go_wp2_with fail
      refine (rLength b _ n c k _ (HH.out.below HACC.out) HL.out HLT.out).mono ?_
      rintro e w1 ⟨rfl, hb1⟩
      rw [HR.out]
      have HO1 := Lib.hid (HO.out.below hb1 (Nat.le_refl _))
      have HACC1 := Lib.hid (HACC.out.trans (hb1.mono HACC.out.size))
      have p1 : w1.cell? ⟨bb, off + k, none⟩ = some (.int .u8 x) := by rw [hb1.cell (p := ⟨bb, off + k, none⟩) (by have := lt0.out; have := HACC.out.size; simp; omega)]; exact HP1.out
      have HP0 : Hid (w.cell? ⟨bb, off + k, none⟩ = some (.int .u8 x)) := Lib.hid (by rw [← HACC.out.cell (p := ⟨bb, off + k, none⟩) lt0.out]; exact HP1.out)
      clear hb1
      have w1' : IntKind.i64.wrap ((k : Int) + r) = (k : Int) + r := IntWalk.i64_in _ (by omega)
      by_cases hr1 : r = 1
      · have HTK1 : Hid (tok b k = [x]) := Lib.hid (by rw [HTK.out, if_pos hr1])
        have HZL : Hid (t + 1 ≤ 30000) := Lib.hid (by have := HZL.out; rw [HTK1.out] at this; simpa using this)
        have q1 : ¬ (1 : Int) < r := by omega
        go_wp2_with ((at_builtin; go_loud (refine app8 rfl _ _ rfl w.heap.size _ zs rfl ((HO1).out.below ((Below.refl _ _).alloc (Nat.le_refl _) _) (Nat.le_refl _)) (some ⟨_, 0, none⟩) _ _ [x] rfl rfl (has_lit (zs := [x]) rfl (by simp [maxLen])) (t + 1) (by have := HT.out; simp; omega) (by have := HZL.out; omega) (by have := (HACC1).out.size; simp; omega) ?_)); intro A4 c4 w4 ho4 hg4 hb4; have HO4 := Lib.hid ho4; have HACC4 := Lib.hid ((Below.alloc HACC1.out HACC1.out.size _).trans hb4); clear ho4 hg4 hb4)
        go_roundw
        case rel => exact ⟨k + r, t + 1, A4, c4, zs ++ [x], by have := HRB.out; have := HN.out; omega, by go_num, rfl, by have := HT.out; simp; omega, by rw [← HZ.out, HST.out, HTK1.out, List.append_assoc], HO4.out, HACC4.out⟩
        case measure => simp [intOf]; omega
      · have HTK1 : Hid (tok b k = [x, x, (r : Int) - 2]) := Lib.hid (by rw [HTK.out, if_neg hr1])
        have HZL : Hid (t + 1 + 2 ≤ 30000) := Lib.hid (by have := HZL.out; rw [HTK1.out] at this; simpa using this)
        have q1 : (1 : Int) < r := by omega
        have w2' : IntKind.i64.wrap ((r : Int) - 2) = (r : Int) - 2 := IntWalk.i64_in _ (by omega)
        have w3' : IntKind.u8.wrap ((r : Int) - 2) = (r : Int) - 2 := IntWalk.u8_in _ (by omega)
        go_wp2_with (first | ((at_builtin; go_loud (refine app8 rfl _ _ rfl w.heap.size _ zs rfl ((HO1).out.below ((Below.refl _ _).alloc (Nat.le_refl _) _) (Nat.le_refl _)) (some ⟨_, 0, none⟩) _ _ [x] rfl rfl (has_lit (zs := [x]) rfl (by simp [maxLen])) (t + 1) (by have := HT.out; simp; omega) (by have := HZL.out; omega) (by have := (HACC1).out.size; simp; omega) ?_)); intro A4 c4 w4 ho4 hg4 hb4; have HO4 := Lib.hid ho4; have HACC4 := Lib.hid ((Below.alloc HACC1.out HACC1.out.size _).trans hb4); have p4 : w4.cell? ⟨bb, off + k, none⟩ = some (.int .u8 x) := (by rw [HACC4.out.cell (p := ⟨bb, off + k, none⟩) lt0.out]; exact HP0.out); clear ho4 hg4 hb4) | ((at_builtin; go_loud (refine app8 rfl _ _ rfl w.heap.size _ (zs ++ [x]) rfl ((HO4).out.below ((Below.refl _ _).alloc (Nat.le_refl _) _) (Nat.le_refl _)) (some ⟨_, 0, none⟩) _ _ [x, (r : Int) - 2] rfl rfl (has_lit (zs := [x, (r : Int) - 2]) rfl (by simp [maxLen])) (t + 1 + 2) (by have := HT.out; simp; omega) (by have := HZL.out; omega) (by have := (HACC4).out.size; simp; omega) ?_)); intro A5 c5 w5 ho5 hg5 hb5; have HO5 := Lib.hid ho5; have HACC5 := Lib.hid ((Below.alloc HACC4.out HACC4.out.size _).trans hb5); clear ho5 hg5 hb5))
        go_roundw
        case rel => exact ⟨k + r, t + 1 + 2, A5, c5, zs ++ [x] ++ [x, (r : Int) - 2], by have := HRB.out; have := HN.out; omega, by go_num, rfl, by have := HT.out; simp; omega, by rw [← HZ.out, HST.out, HTK1.out]; simp, HO5.out, HACC5.out⟩
        case measure => simp [intOf]; omega
    · obtain rfl : k = n := by omega
      have HF : Hid (zs = cn b 0) := Lib.hid (by rw [← HZ.out, cn_end (by rw [HN.out]; omega), List.append_nil])
      have k1 : ¬ (k : Int) < k := by omega
      clear hk ht hz own acc hlt
      go_wp2_with fail
      go_ret
      exact ⟨B, t, d, rfl, by rw [HT.out, HF.out], by rw [← HF.out]; exact HO.out, HACC.out⟩
end Go.Proofs.Ytbfodmckgjeoaaa.fiW
