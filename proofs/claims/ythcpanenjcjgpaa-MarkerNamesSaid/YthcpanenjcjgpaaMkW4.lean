/- Markers: Places and All of the reference, next and All of the program, by walks. -/
import Derived.Test.YthcpanenjcjgpaaMkW3
namespace Go.Proofs.Ythcpanenjcjgpaa.mkW
open Go.RowKit Go.Proofs.Ythcpanenjcjgpaa.base Go.Proofs.Ythcpanenjcjgpaa.mkP
set_option linter.unusedVariables false
set_option linter.unusedSimpArgs false
/-- The first cell of a slice, at index k, in a later world. -/
theorem in_at {w wr : World} {b : List Int} {A : Option Addr} {n c : Nat} (h : InR w ⟨A, n, c, b⟩) (hb : Below w.heap.size w wr) {k : Nat} (hk : k < n) : ∃ bb off, A = some ⟨bb, off, none⟩ ∧ wr.cell? ⟨bb, off + k, none⟩ = some (.int .u8 (b.getD k 0)) := by
  have e : b.length = n := h.e
  obtain ⟨bb, off, hA, hlt, hc⟩ := has_some h.h (by show 0 < b.length; omega)
  exact ⟨bb, off, hA, by rw [hb.cell (p := ⟨bb, off + k, none⟩) hlt]; exact hc k (by show k < b.length; omega)⟩
set_option maxHeartbeats 1000000 in
theorem rPlaces (b : List Int) (A : Option Addr) (n c : Nat) (w : World) (h : InR w ⟨A, n, c, b⟩) (hl : n ≤ 50000) :
    Calls Try.prog 29 #[.slice A n c] w fun e w' => ∃ A' n' c', e = .returned (.slice A' n' c') ∧ n' = (pl b).length ∧ OwnI w' w.heap.size 3 .i64 (.slice A' n' c') (pl b) ∧ Below w.heap.size w w' := by
  have HH := Lib.hid h
  have hn : b.length = n := h.e
  have HN := Lib.hid hn
  have n9 : (n : Int) ≤ 50000 := by omega
  clear h hn hl
  go_enter Try.func29, Try.ntmps29
  go_wp2_with fail
  go_loopw [3, 4] (fun v j wr => ∃ (k m : Nat) (B : Option Addr) (d : Nat), k ≤ n ∧ j = .int .i64 k ∧ v = .slice B m d ∧ m = (plK b k).length ∧ OwnI wr w.heap.size 3 .i64 (.slice B m d) (plK b k) ∧ Below w.heap.size w wr) (fun _ j _ => n - (intOf j).toNat)
  case atStart => exact ⟨0, 0, none, 0, Nat.zero_le _, rfl, rfl, rfl, OwnI.nil _ _ _ _, by (repeat' (first | (with_reducible exact Below.refl _ _) | (with_reducible assumption) | (with_reducible refine below_drewN ?_ _) | (with_reducible refine below_new ?_ _) | (with_reducible refine Below.alloc ?_ ?_ _) | (with_reducible refine Below.drew ?_) | (with_reducible refine Below.setCell ?_ ?_ _) | (with_reducible apply below_at; (case k => (with_reducible assumption)); (case hB => omega)) | (with_reducible apply below_on; (with_reducible assumption)) | (go_size; done) | (with_reducible apply size_of)))⟩
  case round =>
    obtain ⟨k, m, B, d, hk, rfl, rfl, hm, own, acc⟩ := hrel
    have HM := Lib.hid hm
    have HO := Lib.hid own
    have HACC := Lib.hid acc
    by_cases hlt : k < n
    · obtain ⟨bb, off, rfl, p1⟩ := in_at HH.out acc hlt
      have HLT := Lib.hid hlt
      have k1 : (k : Int) < n := by omega
      have k0 : 0 < n := by omega
      have k3 : (k : Int) ≤ 9223372036854775807 := by omega
      have k4 : -9223372036854775808 ≤ (k : Int) := by omega
      have eo : occI b k = occ b k := by rw [occI, Int.toNat_natCast, decide_eq_true (by omega), Bool.true_and]
      have HOI := Lib.hid eo
      have HF := Lib.hid (fun (ho : occ b k = true) => occ_first ho)
      generalize b.getD k 0 = x at *
      clear hk hm own acc hlt eo
      by_cases hx : x = 183
      · subst hx
        cases ho : occ b k with
        | true =>
          have HT := Lib.hid ho
          have HS := Lib.hid (plK_hit ho)
          have HLE := Lib.hid (plK_len b k)
          clear ho
          go_wp2_with (first | (go_at_call 26; refine (rStands b _ n c k _ (HH.out.below HACC.out (Nat.le_refl _)) k4 k3).mono ?_; rintro e w1 ⟨rfl, hb1⟩; rw [HOI.out, HT.out]; have HB1 := Lib.hid hb1; clear hb1) | (at_builtin; refine appI rfl _ _ rfl w.heap.size _ (plK b k) rfl ((HO.out.below HB1.out (Nat.le_refl _)).below ((Below.refl _ _).alloc (Nat.le_refl _) _) (Nat.le_refl _)) (some ⟨_, 0, none⟩) 1 1 [(k : Int)] rfl rfl (has_lit (zs := [(k : Int)]) rfl (by simp [maxLen])) (m + 1) (by rw [HM.out]) (by have := HM.out; have := HLE.out; have := HLT.out; omega) (by have := HACC.out.size; have := HB1.out.size; simp; omega) ?_; intro A4 c4 w4 ho4 hg4 hb4))
          go_roundw
          case rel =>
            refine ⟨k + 1, m + 1, A4, c4, HLT.out, by go_num, rfl, by rw [HS.out, List.length_append, ← HM.out]; rfl, by rw [HS.out]; exact ho4, ?_⟩
            have := HACC.out
            have := HB1.out
            (repeat' (first | (with_reducible exact Below.refl _ _) | (with_reducible assumption) | (with_reducible refine below_drewN ?_ _) | (with_reducible refine below_new ?_ _) | (with_reducible refine Below.alloc ?_ ?_ _) | (with_reducible refine Below.drew ?_) | (with_reducible refine Below.setCell ?_ ?_ _) | (with_reducible apply below_at; (case k => (with_reducible assumption)); (case hB => omega)) | (with_reducible apply below_on; (with_reducible assumption)) | (go_size; done) | (with_reducible apply size_of)))
          case measure => simp [intOf]; have := HLT.out; omega
        | false =>
          have HT := Lib.hid ho
          have HS := Lib.hid (plK_miss ho)
          clear ho
          go_wp2_with (first | (go_at_call 26; refine (rStands b _ n c k _ (HH.out.below HACC.out (Nat.le_refl _)) k4 k3).mono ?_; rintro e w1 ⟨rfl, hb1⟩; rw [HOI.out, HT.out]; have HB1 := Lib.hid hb1; clear hb1))
          go_roundw
          case rel =>
            refine ⟨k + 1, m, B, d, HLT.out, by go_num, rfl, by rw [HS.out, HM.out], by rw [HS.out]; exact HO.out.below HB1.out (Nat.le_refl _), ?_⟩
            have := HACC.out
            have := HB1.out
            (repeat' (first | (with_reducible exact Below.refl _ _) | (with_reducible assumption) | (with_reducible refine below_drewN ?_ _) | (with_reducible refine below_new ?_ _) | (with_reducible refine Below.alloc ?_ ?_ _) | (with_reducible refine Below.drew ?_) | (with_reducible refine Below.setCell ?_ ?_ _) | (with_reducible apply below_at; (case k => (with_reducible assumption)); (case hB => omega)) | (with_reducible apply below_on; (with_reducible assumption)) | (go_size; done) | (with_reducible apply size_of)))
          case measure => simp [intOf]; have := HLT.out; omega
      · have HS := Lib.hid (plK_miss (b := b) (k := k) (by cases ho : occ b k with | false => rfl | true => exact absurd (HF.out ho) hx))
        have hx2 : (x == 183) = false := by simpa using hx
        go_wp2_with fail
        go_roundw
        case rel => exact ⟨k + 1, m, B, d, HLT.out, by go_num, rfl, by rw [HS.out, HM.out], by rw [HS.out]; exact HO.out, HACC.out⟩
        case measure => simp [intOf]; have := HLT.out; omega
    · have HK : Hid (plK b k = pl b) := Lib.hid (by rw [pl, show k = b.length by rw [HN.out]; omega])
      have k1 : ¬ (k : Int) < n := by omega
      clear hk hm own acc hlt
      go_wp2_with fail
      go_ret
      exact ⟨B, m, d, rfl, by rw [← HK.out, HM.out], by rw [← HK.out]; exact HO.out, HACC.out⟩
def allV (b : List Int) : List Int := if b.length ≤ 50000 then pl b else []
set_option maxHeartbeats 1000000 in
theorem rAll (b : List Int) (A : Option Addr) (n c : Nat) (w : World) (h : InR w ⟨A, n, c, b⟩) :
    Calls Try.prog 14 #[.slice A n c] w fun e w' => ∃ A' n' c', e = .returned (.tuple #[.slice A' n' c', .int .i64 (chE b)]) ∧ n' = (allV b).length ∧ OwnI w' w.heap.size 3 .i64 (.slice A' n' c') (allV b) ∧ Below w.heap.size w w' := by
  have HH := Lib.hid h
  have hn : b.length = n := h.e
  by_cases c1 : n ≤ 50000
  · have HC := Lib.hid (chE_yes (b := b) (by omega))
    have HV : Hid (allV b = pl b) := Lib.hid (by rw [allV, if_pos (by omega)])
    have HL := Lib.hid c1
    clear h hn c1
    go_enter Try.func14, Try.ntmps14
    go_wp2_with (first | (go_at_call 28; refine (rCheck b A n c _ HH.out).mono ?_; rintro e w' ⟨rfl, rfl⟩; rw [HC.out]) | (go_at_call 29; refine (rPlaces b A n c _ HH.out HL.out).mono ?_; rintro e w1 ⟨B, m, d, rfl, hm, ho, hb⟩; have HM := Lib.hid hm; clear hm))
    go_ret2
    exact ⟨B, m, d, by rw [HC.out]; rfl, by rw [HV.out, HM.out], by rw [HV.out]; exact ho, hb⟩
  · have HC := Lib.hid (chE_no (b := b) (by omega))
    have HV : Hid (allV b = []) := Lib.hid (by rw [allV, if_neg (by omega)])
    clear h hn c1
    go_enter Try.func14, Try.ntmps14
    go_wp2_with (first | (go_at_call 28; refine (rCheck b A n c _ HH.out).mono ?_; rintro e w' ⟨rfl, rfl⟩; rw [HC.out]))
    go_ret2
    exact ⟨none, 0, 0, by rw [HC.out]; rfl, by rw [HV.out]; rfl, by rw [HV.out]; exact OwnI.nil _ _ _ _, Below.refl _ _⟩
end Go.Proofs.Ythcpanenjcjgpaa.mkW
