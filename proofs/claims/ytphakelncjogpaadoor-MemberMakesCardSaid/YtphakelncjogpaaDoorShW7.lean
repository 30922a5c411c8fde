/- The reference's paddings, by a walk. -/
import Derived.Test.YtphakelncjogpaaDoorShW6
namespace Go.Proofs.YtphakelncjogpaaDoor.shW
set_option maxRecDepth 100000
open Go.RowKit Go.Proofs.YtphakelncjogpaaDoor.base Go.Proofs.YtphakelncjogpaaDoor.shP
set_option linter.unusedVariables false
set_option linter.unusedSimpArgs false
theorem own_al {w : World} {B : Nat} {e : TypeId} {k : IntKind} {v : Value} {zs : List Int} (h : OwnI w B e k v zs) (o : Obj) : OwnI (w.alloc o) B e k v zs := h.below ((Below.refl _ _).alloc (Nat.le_refl _) _) (Nat.le_refl _)
theorem qK_len (n k : Nat) (h : k ≤ zerosN n + 9) : (qK n k).length = k := by simp [qK, padL_len]; omega
theorem qK_1 (n : Nat) : qK n 1 = [128] := by simp [qK, padL]
theorem qK_all (n k : Nat) (h : k = zerosN n + 9) : qK n k = padL n := by rw [qK, List.take_of_length_le]; rw [padL_len]; omega
set_option maxRecDepth 100000 in
set_option maxHeartbeats 4000000 in
theorem rPadding (n : Nat) (w : World) (hn : n ≤ 100000) :
    Calls Tryd.prog 45 #[.int .i64 (n : Int)] w fun e w' => ∃ A c, e = .returned (.slice A (zerosN n + 9) c) ∧ OwnI w' w.heap.size 5 .u8 (.slice A (zerosN n + 9) c) (padL n) ∧ Below w.heap.size w w' := by
  have n1 : (n : Int) ≤ 100000 := by omega
  obtain ⟨z, hz⟩ : ∃ z, zerosN n = z := ⟨_, rfl⟩
  have z64 := zerosN_lt n
  have z1 : (z : Int) ≤ 63 := by omega
  have HE : Hid ((119 - n % 64) % 64 = z) := Lib.hid (by rw [← hz]; rfl)
  have HZ := Lib.hid hz
  rw [hz]
  clear hz z64 hn
  go_enter Tryd.func45, Tryd.ntmps45
  go_wp2_with fail
  go_loopw [3] (fun v wr => ∃ (k : Nat) (A : Option Addr) (c : Nat), 1 ≤ k ∧ k ≤ z + 1 ∧ v = .slice A k c ∧ OwnI wr w.heap.size 5 .u8 (.slice A k c) (qK n k) ∧ Below w.heap.size w wr) (fun v _ => match v with | .slice _ k _ => z + 1 - k | _ => 0)
  case atStart =>
    refine ⟨1, _, _, by omega, by omega, rfl, ?_, by (repeat' (first | (with_reducible exact Below.refl _ _) | (with_reducible assumption) | (with_reducible refine below_drewN ?_ _) | (with_reducible refine below_new ?_ _) | (with_reducible refine Below.alloc ?_ ?_ _) | (with_reducible refine Below.drew ?_) | (with_reducible refine Below.setCell ?_ ?_ _) | (with_reducible apply below_at; (case k => (with_reducible assumption)); (case hB => omega)) | (with_reducible apply below_on; (with_reducible assumption)) | (go_size; done) | (with_reducible apply size_of)))⟩
    rw [qK_1]
    exact OwnI.lit w 5 .u8 [128] w.heap.size (Nat.le_refl _) (by simp [maxLen])
  case round =>
    obtain ⟨k, A, c, hk1, hk, rfl, own, acc⟩ := hrel
    have HO := Lib.hid own
    have HACC := Lib.hid acc
    have k1 : (k : Int) ≤ 64 := by omega
    by_cases hlt : k < z + 1
    · have t1 : ¬ ((n : Int) + (k : Int) + 8) % 64 = 0 := by have := HE.out; omega
      have HLT : Hid (1 ≤ k ∧ k < z + 1) := Lib.hid ⟨hk1, hlt⟩
      have HQ : Hid (qK n (k + 1) = qK n k ++ [0]) := Lib.hid (by rw [qK_snoc n k (by rw [HZ.out]; omega), padL_at, if_neg (by omega), if_pos (by rw [HZ.out]; omega)])
      have HQL : Hid ((qK n k).length = k) := Lib.hid (qK_len n k (by rw [HZ.out]; omega))
      clear own acc hk hk1 hlt
      go_wp2_with (at_builtin; go_loud (refine app8 rfl _ _ rfl w.heap.size _ (qK n k) rfl (own_al HO.out _) (some ⟨wr.heap.size, 0, none⟩) 1 1 [0] rfl rfl (has_lit (zs := [0]) rfl (by simp [maxLen])) (k + 1) (by rw [HQL.out]) (by omega) (by have := HACC.out.size; simp; omega) ?_; intro A2 c2 w2 own2 gr2 bel2; have HO2 := Lib.hid own2; have HB2 := Lib.hid bel2; clear own2 gr2 bel2))
      refine ⟨⟨k + 1, A2, c2, by omega, by have := HLT.out; omega, rfl, by rw [HQ.out]; exact HO2.out, ?_⟩, by have := HLT.out; show z + 1 - (k + 1) < z + 1 - k; omega⟩
      have := HACC.out
      have := HB2.out
      (repeat' (first | (with_reducible exact Below.refl _ _) | (with_reducible assumption) | (with_reducible refine below_drewN ?_ _) | (with_reducible refine below_new ?_ _) | (with_reducible refine Below.alloc ?_ ?_ _) | (with_reducible refine Below.drew ?_) | (with_reducible refine Below.setCell ?_ ?_ _) | (with_reducible apply below_at; (case k => (with_reducible assumption)); (case hB => omega)) | (with_reducible apply below_on; (with_reducible assumption)) | (go_size; done) | (with_reducible apply size_of)))
    · have t1 : ((n : Int) + (k : Int) + 8) % 64 = 0 := by have := HE.out; omega
      have HK := Lib.hid (show k = z + 1 by omega)
      clear own acc hk hk1 hlt
      go_wp2_with fail
      go_loopw [3, 4] (fun v i wr => ∃ (q j : Nat) (A : Option Addr) (c : Nat), j ≤ 8 ∧ q = z + 9 - j ∧ i = .int .i64 ((j : Int) - 1) ∧ v = .slice A q c ∧ OwnI wr w.heap.size 5 .u8 (.slice A q c) (qK n q) ∧ Below w.heap.size w wr) (fun _ i _ => (intOf i + 1).toNat)
      case atStart => exact ⟨k, 8, A, c, by omega, by have := HK.out; omega, rfl, rfl, HO.out, HACC.out⟩
      case round =>
        clear HO HACC t1 k1 HK
        obtain ⟨q, j, A2, c2, hj, hq, rfl, rfl, own, acc⟩ := hrel
        have HO := Lib.hid own
        have HACC := Lib.hid acc
        have q1 : (q : Int) ≤ 72 := by omega
        rcases j with _ | j
        · have HQ := Lib.hid (show q = z + 9 by omega)
          clear own acc hj hq
          go_wp2_with fail
          go_ret
          exact ⟨A2, c2, by rw [← HQ.out]; rfl, by rw [← qK_all n q (by rw [HZ.out, HQ.out]), ← HQ.out]; exact HO.out, HACC.out⟩
        · have e1 : ((j + 1 : Nat) : Int) - 1 = (j : Int) := by omega
          rw [e1]
          have HQ : Hid (qK n (q + 1) = qK n q ++ [8 * (n : Int) / 2 ^ (8 * j) % 256]) := Lib.hid (by
            rw [qK_snoc n q (by rw [HZ.out]; omega), padL_at, if_neg (by omega), if_neg (by rw [HZ.out]; omega), if_pos (by rw [HZ.out]; omega), show zerosN n + 8 - q = j by rw [HZ.out]; omega])
          have HQL : Hid ((qK n q).length = q) := Lib.hid (qK_len n q (by rw [HZ.out]; omega))
          have HJ : Hid (j + 1 ≤ 8 ∧ q = z + 9 - (j + 1)) := Lib.hid ⟨hj, hq⟩
          have j8 : (j : Int) < 8 := by omega
          have j0 : 0 ≤ (j : Int) := by omega
          have s1 : 8 * (n : Int) ≤ 800000 := by omega
          have s2 : 0 ≤ 8 * (n : Int) := by omega
          clear own acc hj hq e1
          go_wp2_with (at_builtin; go_loud (refine app8 rfl _ _ rfl w.heap.size _ (qK n q) rfl (own_al HO.out _) (some ⟨wr.heap.size, 0, none⟩) 1 1 [8 * (n : Int) / 2 ^ (8 * j) % 256] rfl rfl (has_lit (zs := [_]) rfl (by simp [maxLen])) (q + 1) (by rw [HQL.out]) (by omega) (by have := HACC.out.size; simp; omega) ?_; intro A3 c3 w2 own2 gr2 bel2; have HO2 := Lib.hid own2; have HB2 := Lib.hid bel2; clear own2 gr2 bel2))
          refine ⟨⟨q + 1, j, A3, c3, by have := HJ.out; omega, by have := HJ.out; omega, rfl, rfl, by rw [HQ.out]; exact HO2.out, ?_⟩, by simp [intOf]; try omega⟩
          have := HACC.out
          have := HB2.out
          (repeat' (first | (with_reducible exact Below.refl _ _) | (with_reducible assumption) | (with_reducible refine below_drewN ?_ _) | (with_reducible refine below_new ?_ _) | (with_reducible refine Below.alloc ?_ ?_ _) | (with_reducible refine Below.drew ?_) | (with_reducible refine Below.setCell ?_ ?_ _) | (with_reducible apply below_at; (case k => (with_reducible assumption)); (case hB => omega)) | (with_reducible apply below_on; (with_reducible assumption)) | (go_size; done) | (with_reducible apply size_of)))
end Go.Proofs.YtphakelncjogpaaDoor.shW
