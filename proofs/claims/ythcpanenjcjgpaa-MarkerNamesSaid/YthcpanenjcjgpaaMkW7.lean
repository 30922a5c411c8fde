/- Markers: All of the program, by a walk. -/
import Derived.Test.YthcpanenjcjgpaaMkW6
namespace Go.Proofs.Ythcpanenjcjgpaa.mkW
open Go.RowKit Go.Proofs.Ythcpanenjcjgpaa.base Go.Proofs.Ythcpanenjcjgpaa.mkP
set_option linter.unusedVariables false
set_option linter.unusedSimpArgs false
set_option maxHeartbeats 1000000 in
theorem All_any (b : List Int) (A : Option Addr) (n c : Nat) (w : World) (hT : Tab w) (h : Ib w A n c b) :
    Calls Try.prog 13 #[.slice A n c] w fun e w' => ∃ A' n' c', e = .returned (.tuple #[.slice A' n' c', .int .i64 (chE b)]) ∧ n' = (allV b).length ∧ OwnI w' w.heap.size 3 .i64 (.slice A' n' c') (allV b) ∧ Below w.heap.size w w' := by
  have HH := Lib.hid h
  have HTT := Lib.hid hT
  have hn : b.length = n := h.e
  have HN := Lib.hid hn
  have n9 : (n : Int) ≤ 9223372036854775807 := by have h1 : n ≤ c := h.h.c1; have h2 : c ≤ 9223372036854775807 := h.h.c2; omega
  by_cases c1 : (n : Int) ≤ 50000
  · have HC := Lib.hid (chE_yes (b := b) (by omega))
    have HV : Hid (allV b = pl b) := Lib.hid (by rw [allV, if_pos (by omega)])
    have HL : Hid (n ≤ 50000) := Lib.hid (by omega)
    have HX := Lib.hid (nx_le b 0 (Nat.zero_le _))
    have HX2 := Lib.hid (nx_at b (f := 0) (Nat.zero_le _))
    clear h hT hn
    go_enter Try.func13, Try.ntmps13
    go_wp2_with fail
    refine (next_any b A n c 0 _ HTT.out HH.out (Nat.zero_le _) HL.out).mono ?_
    rintro e w1 ⟨rfl, hb1⟩
    have HB1 := Lib.hid hb1
    clear hb1
    go_wp2_with fail
    go_loopw [4, 5] (fun v j wr => ∃ (k m : Nat) (B : Option Addr) (d : Nat), k ≤ n ∧ (k = n ∨ occ b k = true) ∧ j = .int .i64 k ∧ v = .slice B m d ∧ m = (plK b k).length ∧ OwnI wr w.heap.size 3 .i64 (.slice B m d) (plK b k) ∧ Below w.heap.size w wr) (fun _ j _ => n - (intOf j).toNat)
    case atStart => exact ⟨nx b 0, 0, none, 0, by have := HX.out; have := HN.out; omega, by rw [← HN.out]; exact HX2.out, rfl, rfl, by rw [plK_first]; rfl, by rw [plK_first]; exact OwnI.nil _ _ _ _, HB1.out⟩
    case round =>
      obtain ⟨k, m, B, d, hk, hor, rfl, rfl, hm, own, acc⟩ := hrel
      have HM := Lib.hid hm
      have HO := Lib.hid own
      have HACC := Lib.hid acc
      by_cases hlt : k < n
      · have ho : occ b k = true := by
          rcases hor with h1 | h1
          · omega
          · exact h1
        have HR := Lib.hid (occ_room ho)
        have HS := Lib.hid (plK_on ho)
        have HY := Lib.hid (nx_le b (k + 13) (occ_room ho))
        have HY2 := Lib.hid (nx_at b (occ_room ho))
        have HLE := Lib.hid (plK_len b k)
        have HLT := Lib.hid hlt
        have k1 : (k : Int) < n := by omega
        have k2 : (k : Int) + 13 ≤ 9223372036854775807 := by omega
        have ek : ((k : Int) + 13) = ((k + 13 : Nat) : Int) := by omega
        have HEK := Lib.hid ek
        clear hk hor hm own acc hlt ho ek
        go_wp2_with (first | (at_builtin; refine appI rfl _ _ rfl w.heap.size _ (plK b k) rfl (HO.out.below ((Below.refl _ _).alloc (Nat.le_refl _) _) (Nat.le_refl _)) (some ⟨_, 0, none⟩) 1 1 [(k : Int)] rfl rfl (has_lit (zs := [(k : Int)]) rfl (by simp [maxLen])) (m + 1) (by rw [HM.out]) (by have := HM.out; have := HLE.out; have := HLT.out; have := HL.out; omega) (by have := HACC.out.size; simp; omega) ?_; intro A4 c4 w4 ho4 hg4 hb4; have HO4 := Lib.hid ho4; have HB4 : Hid (Below w.heap.size w w4) := Lib.hid (by have := HACC.out; (repeat' (first | (with_reducible exact Below.refl _ _) | (with_reducible assumption) | (with_reducible refine below_drewN ?_ _) | (with_reducible refine below_new ?_ _) | (with_reducible refine Below.alloc ?_ ?_ _) | (with_reducible refine Below.drew ?_) | (with_reducible refine Below.setCell ?_ ?_ _) | (with_reducible apply below_at; (case k => (with_reducible assumption)); (case hB => omega)) | (with_reducible apply below_on; (with_reducible assumption)) | (go_size; done) | (with_reducible apply size_of)))); clear ho4 hg4 hb4) | (go_at_call 27; rw [HEK.out]; refine (next_any b A n c (k + 13) _ (HTT.out.below HB4.out) (HH.out.below HB4.out) (by rw [← HN.out]; exact HR.out) HL.out).mono ?_; rintro e w5 ⟨rfl, hb5⟩))
        go_roundw
        case rel =>
          refine ⟨nx b (k + 13), m + 1, A4, c4, by rw [← HN.out]; exact HY.out.2, by rw [← HN.out]; exact HY2.out, rfl, rfl, by rw [HS.out, List.length_append, ← HM.out]; rfl, by rw [HS.out]; exact HO4.out.below hb5 (Nat.le_refl _), HB4.out.trans (hb5.mono HB4.out.size)⟩
        case measure => simp [intOf]; have := HLT.out; have := HY.out; omega
      · have HK : Hid (plK b k = pl b) := Lib.hid (by rw [pl, show k = b.length by rw [HN.out]; omega])
        have k1 : ¬ (k : Int) < n := by omega
        clear hk hor hm own acc hlt
        go_wp2_with fail
        go_ret2
        exact ⟨B, m, d, by rw [HC.out]; rfl, by rw [HV.out, ← HK.out, HM.out], by rw [HV.out, ← HK.out]; exact HO.out, HACC.out⟩
  · have HC := Lib.hid (chE_no (b := b) (by omega))
    have HV : Hid (allV b = []) := Lib.hid (by rw [allV, if_neg (by omega)])
    clear h hT hn
    go_enter Try.func13, Try.ntmps13
    go_wp2_with fail
    go_ret2
    exact ⟨none, 0, 0, by rw [HC.out]; rfl, by rw [HV.out]; rfl, by rw [HV.out]; exact OwnI.nil _ _ _ _, Below.refl _ _⟩
end Go.Proofs.Ythcpanenjcjgpaa.mkW
