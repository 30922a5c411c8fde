/- NibbleNames, by a walk. -/
import Derived.Test.YtjhfamoldppclaaNibL
namespace Go.Proofs.Ytjhfamoldppclaa.nibL
open Go.RowKit Go.Proofs.Ytjhfamoldppclaa.base Go.Proofs.Ytjhfamoldppclaa.nibP Go.Proofs.Ytjhfamoldppclaa.nibW
set_option linter.unusedVariables false
set_option linter.unusedSimpArgs false

def bads : List Int := [0, -1, 256]
theorem bads_bad : ∀ k, k < 3 → wOk (bads.getD k 0) = false := by decide
theorem bads_cell : ∀ k, k < 3 → (bads.map (Value.int .i64))[k]? = some (.int .i64 (bads.getD k 0)) := by
  intro k hk
  match k, hk with
  | 0, _ | 1, _ | 2, _ => rfl
set_option maxRecDepth 100000 in
set_option maxHeartbeats 8000000 in
theorem names (w : World) : Calls Try.prog 4 #[] w fun e w' => e = .returned (.bool true) ∧ Below w.heap.size w w' := by
  go_enter Try.func4, Try.ntmps4
  go_wp2_with fail
  go_loopw [2] (fun i wr => ∃ k : Nat, k ≤ 3 ∧ i = .int .i64 k ∧ Lies wr w.heap.size 23 (bads.map (Value.int .i64)) ∧ Below w.heap.size w wr) (fun i _ => 3 - (intOf i).toNat)
  case atStart => exact ⟨0, by omega, rfl, Lies.fresh _ _ _, by (repeat' (first | (with_reducible exact Below.refl _ _) | (with_reducible assumption) | (with_reducible refine below_drewN ?_ _) | (with_reducible refine below_new ?_ _) | (with_reducible refine Below.alloc ?_ ?_ _) | (with_reducible refine Below.drew ?_) | (with_reducible refine Below.setCell ?_ ?_ _) | (with_reducible apply below_on; (with_reducible assumption)) | (go_size; done) | (with_reducible apply size_of)))⟩
  case round =>
    obtain ⟨k, hk, rfl, K, acc⟩ := hrel
    have HK := Lib.hid K
    have HW := Lib.hid acc
    have zk := K.lt
    clear K acc
    by_cases hlt : k < 3
    · obtain ⟨p, hp⟩ : ∃ p, p = bads.getD k 0 := ⟨_, rfl⟩
      have hb := bads_bad k hlt
      have HC : Hid (∀ x : World, Lies x w.heap.size 23 (bads.map (Value.int .i64)) → x.cell? ⟨w.heap.size, k, none⟩ = some (.int .i64 p)) := Lib.hid (fun x h => by rw [hp]; exact (h.cell k).trans (bads_cell k hlt))
      rw [← hp] at hb
      have E : Hid (wE p = 8 ∧ stP p true = 0 ∧ stD p = false ∧ stB p true = 0) := Lib.hid ⟨wE_no hb, by simp [stP, hb], by simp [stD, hb], by simp [stB, hb]⟩
      have p0 := HC.out _ HK.out
      have k0 : (0 : Int) ≤ k := by omega
      have k1 : (k : Int) < 3 := by omega
      clear hp hb
      go_wp2_with fail
      refine (Step_any p true _).mono ?_
      rintro e v1 ⟨rfl, hv1⟩
      rw [E.out.1, E.out.2.1, E.out.2.2.1, E.out.2.2.2]
      have K1 := Lib.hid (HK.out.past hv1)
      have W1 := Lib.hid (HW.out.trans (hv1.mono HW.out.size))
      have zk1 := K1.out.lt
      have p0 := HC.out _ K1.out
      clear hv1 HK HW
      go_wp2_with fail
      refine (Node_any p _).mono ?_
      rintro e v2 ⟨rfl, hv2⟩
      rw [E.out.1]
      have K2 := Lib.hid ((K1.out.alloc _).past hv2)
      have p0 := HC.out _ K2.out
      have W2 := Lib.hid (show Below w.heap.size w v2 by have := W1.out; (repeat' (first | (with_reducible exact Below.refl _ _) | (with_reducible assumption) | (with_reducible refine below_drewN ?_ _) | (with_reducible refine below_new ?_ _) | (with_reducible refine Below.alloc ?_ ?_ _) | (with_reducible refine Below.drew ?_) | (with_reducible refine Below.setCell ?_ ?_ _) | (with_reducible apply below_on; (with_reducible assumption)) | (go_size; done) | (with_reducible apply size_of))))
      clear hv2 K1 W1
      go_wp2_with fail
      refine (Second_any p _).mono ?_
      rintro e v3 ⟨rfl, hv3⟩
      rw [E.out.1]
      have K3 := Lib.hid (K2.out.past hv3)
      have p0 := HC.out _ K3.out
      have W3 := Lib.hid (show Below w.heap.size w v3 by have := W2.out; (repeat' (first | (with_reducible exact Below.refl _ _) | (with_reducible assumption) | (with_reducible refine below_drewN ?_ _) | (with_reducible refine below_new ?_ _) | (with_reducible refine Below.alloc ?_ ?_ _) | (with_reducible refine Below.drew ?_) | (with_reducible refine Below.setCell ?_ ?_ _) | (with_reducible apply below_on; (with_reducible assumption)) | (go_size; done) | (with_reducible apply size_of))))
      clear hv3 K2 W2
      go_wp2_with fail
      refine (Bits_any p _).mono ?_
      rintro e v4 ⟨A, c, rfl, -, -, hv4⟩
      rw [E.out.1]
      have K4 := Lib.hid (K3.out.past hv4)
      have p0 := HC.out _ K4.out
      have W4 := Lib.hid (show Below w.heap.size w v4 by have := W3.out; (repeat' (first | (with_reducible exact Below.refl _ _) | (with_reducible assumption) | (with_reducible refine below_drewN ?_ _) | (with_reducible refine below_new ?_ _) | (with_reducible refine Below.alloc ?_ ?_ _) | (with_reducible refine Below.drew ?_) | (with_reducible refine Below.setCell ?_ ?_ _) | (with_reducible apply below_on; (with_reducible assumption)) | (go_size; done) | (with_reducible apply size_of))))
      clear hv4 K3 W3
      go_wp2_with fail
      refine (Check_any p _).mono ?_
      rintro e v5 ⟨rfl, hv5⟩
      rw [E.out.1]
      have K5 := Lib.hid (K4.out.past hv5)
      have W5 := Lib.hid (show Below w.heap.size w v5 by have := W4.out; (repeat' (first | (with_reducible exact Below.refl _ _) | (with_reducible assumption) | (with_reducible refine below_drewN ?_ _) | (with_reducible refine below_new ?_ _) | (with_reducible refine Below.alloc ?_ ?_ _) | (with_reducible refine Below.drew ?_) | (with_reducible refine Below.setCell ?_ ?_ _) | (with_reducible apply below_on; (with_reducible assumption)) | (go_size; done) | (with_reducible apply size_of))))
      clear hv5 K4 W4
      go_wp2_with fail
      go_roundw
      case rel => exact ⟨k + 1, by omega, by go_num, K5.out, W5.out⟩
      case measure => simp [intOf]; omega
    · have F : Hid (ofV (List.replicate 8 false) = 0 ∧ ofE (List.replicate 8 false) = 4 ∧ ofV (List.replicate 7 false) = 128 ∧ ofE (List.replicate 7 false) = 0 ∧ stP 255 true = 1 ∧ stD 255 = true ∧ stB 255 true = 255 ∧ wE 255 = 0 ∧ wE 1 = 0 ∧ bsV 1 = []) := Lib.hid ⟨by kernel_rfl, by kernel_rfl, by kernel_rfl, by kernel_rfl, by kernel_rfl, by kernel_rfl, by kernel_rfl, by kernel_rfl, by kernel_rfl, by kernel_rfl⟩
      have zw := HW.out.size
      clear HK zk
      go_wp2_with (first | (at_make; refine makeB rfl _ _ rfl _ _ 8 rfl rfl (by omega) _ (Nat.le_refl _) ?_; intro wm own hbm; have hh := own.has; (try simp only [World.size_alloc] at hh); have HH := Lib.hid hh; clear hh; have W1 : Hid (Below w.heap.size w wm) := Lib.hid (by have := HW.out; (repeat' (first | (with_reducible exact Below.refl _ _) | (with_reducible assumption) | (with_reducible refine below_drewN ?_ _) | (with_reducible refine below_new ?_ _) | (with_reducible refine Below.alloc ?_ ?_ _) | (with_reducible refine Below.drew ?_) | (with_reducible refine Below.setCell ?_ ?_ _) | (with_reducible apply below_on; (with_reducible assumption)) | (go_size; done) | (with_reducible apply size_of)))); clear own hbm))
      refine (Of_any _ 8 _ (List.replicate 8 false) _ HH.out (by simp) (by omega)).mono ?_
      rintro e v1 ⟨rfl, hv1⟩
      rw [F.out.1, F.out.2.1]
      have W2 : Hid (Below w.heap.size w v1) := Lib.hid (by have := W1.out; (repeat' (first | (with_reducible exact Below.refl _ _) | (with_reducible assumption) | (with_reducible refine below_drewN ?_ _) | (with_reducible refine below_new ?_ _) | (with_reducible refine Below.alloc ?_ ?_ _) | (with_reducible refine Below.drew ?_) | (with_reducible refine Below.setCell ?_ ?_ _) | (with_reducible apply below_on; (with_reducible assumption)) | (go_size; done) | (with_reducible apply size_of))))
      clear hv1 HH W1 HW
      go_wp2_with (first | (at_make; refine makeB rfl _ _ rfl _ _ 7 rfl rfl (by omega) _ (Nat.le_refl _) ?_; intro wm own hbm; have hh := own.has; (try simp only [World.size_alloc] at hh); have HH := Lib.hid hh; clear hh; have W1 : Hid (Below w.heap.size w wm) := Lib.hid (by have := W2.out; (repeat' (first | (with_reducible exact Below.refl _ _) | (with_reducible assumption) | (with_reducible refine below_drewN ?_ _) | (with_reducible refine below_new ?_ _) | (with_reducible refine Below.alloc ?_ ?_ _) | (with_reducible refine Below.drew ?_) | (with_reducible refine Below.setCell ?_ ?_ _) | (with_reducible apply below_on; (with_reducible assumption)) | (go_size; done) | (with_reducible apply size_of)))); clear own hbm))
      refine (Of_any _ 7 _ (List.replicate 7 false) _ HH.out (by simp) (by omega)).mono ?_
      rintro e v2 ⟨rfl, hv2⟩
      rw [F.out.2.2.1, F.out.2.2.2.1]
      have W3 : Hid (Below w.heap.size w v2) := Lib.hid (by have := W1.out; (repeat' (first | (with_reducible exact Below.refl _ _) | (with_reducible assumption) | (with_reducible refine below_drewN ?_ _) | (with_reducible refine below_new ?_ _) | (with_reducible refine Below.alloc ?_ ?_ _) | (with_reducible refine Below.drew ?_) | (with_reducible refine Below.setCell ?_ ?_ _) | (with_reducible apply below_on; (with_reducible assumption)) | (go_size; done) | (with_reducible apply size_of))))
      clear hv2 HH W1 W2
      go_wp2_with fail
      refine (Step_any 255 true _).mono ?_
      rintro e v3 ⟨rfl, hv3⟩
      rw [F.out.2.2.2.2.1, F.out.2.2.2.2.2.1, F.out.2.2.2.2.2.2.1, F.out.2.2.2.2.2.2.2.1]
      have A3 := Lib.hid (Lies.past (Lies.fresh v2 23 [.int .i64 128]) hv3)
      have W4 : Hid (Below w.heap.size w v3) := Lib.hid (by have := W3.out; (repeat' (first | (with_reducible exact Below.refl _ _) | (with_reducible assumption) | (with_reducible refine below_drewN ?_ _) | (with_reducible refine below_new ?_ _) | (with_reducible refine Below.alloc ?_ ?_ _) | (with_reducible refine Below.drew ?_) | (with_reducible refine Below.setCell ?_ ?_ _) | (with_reducible apply below_on; (with_reducible assumption)) | (go_size; done) | (with_reducible apply size_of))))
      clear hv3 W3
      go_wp2_with fail
      refine (New_any _).mono ?_
      rintro e v4 ⟨rfl, hv4⟩
      have A4 := Lib.hid ((A3.out.alloc _).past hv4)
      have B4 := Lib.hid (Lies.past (Lies.fresh v3 23 [.int .i64 1]) hv4)
      have W5 : Hid (Below w.heap.size w v4) := Lib.hid (by have := W4.out; (repeat' (first | (with_reducible exact Below.refl _ _) | (with_reducible assumption) | (with_reducible refine below_drewN ?_ _) | (with_reducible refine below_new ?_ _) | (with_reducible refine Below.alloc ?_ ?_ _) | (with_reducible refine Below.drew ?_) | (with_reducible refine Below.setCell ?_ ?_ _) | (with_reducible apply below_on; (with_reducible assumption)) | (go_size; done) | (with_reducible apply size_of))))
      clear hv4 W4 A3
      go_wp2_with fail
      refine (Bits_any 1 _).mono ?_
      rintro e v5 ⟨A, c, rfl, -, -, hv5⟩
      rw [F.out.2.2.2.2.2.2.2.2.2, F.out.2.2.2.2.2.2.2.2.1]
      have A5 := Lib.hid (A4.out.past hv5)
      have B5 := Lib.hid (B4.out.past hv5)
      have W6 : Hid (Below w.heap.size w v5) := Lib.hid (by have := W5.out; (repeat' (first | (with_reducible exact Below.refl _ _) | (with_reducible assumption) | (with_reducible refine below_drewN ?_ _) | (with_reducible refine below_new ?_ _) | (with_reducible refine Below.alloc ?_ ?_ _) | (with_reducible refine Below.drew ?_) | (with_reducible refine Below.setCell ?_ ?_ _) | (with_reducible apply below_on; (with_reducible assumption)) | (go_size; done) | (with_reducible apply size_of))))
      clear hv5 W5 A4 B4
      have a0 := A5.out.cell 0
      have b0 := B5.out.cell 0
      go_wp2_with fail
      go_region_held3 (fun x' => x'.cell? ⟨v2.heap.size, 0, none⟩ = some (.int .i64 128) ∧ x'.cell? ⟨v3.heap.size, 0, none⟩ = some (.int .i64 1))
        ((exact ⟨(show Lies _ v2.heap.size 23 [.int .i64 128] from (by have := A5.out; (repeat' (first | (with_reducible assumption) | (with_reducible exact Lies.fresh _ _ _) | (with_reducible apply Lies.fresh_at; (first | (with_reducible rfl) | (simp; done))) | (with_reducible refine Lies.drew ?_) | (with_reducible refine Lies.drewN ?_ _) | (with_reducible refine Lies.alloc ?_ _) | (with_reducible apply Lies.past; case hb => (with_reducible assumption)) | (with_reducible apply Lies.store3) | (with_reducible apply Lies.other; case hp => (first | omega | (simp; done) | (simp; omega))))))).cell 0, (show Lies _ v3.heap.size 23 [.int .i64 1] from (by have := B5.out; (repeat' (first | (with_reducible assumption) | (with_reducible exact Lies.fresh _ _ _) | (with_reducible apply Lies.fresh_at; (first | (with_reducible rfl) | (simp; done))) | (with_reducible refine Lies.drew ?_) | (with_reducible refine Lies.drewN ?_ _) | (with_reducible refine Lies.alloc ?_ _) | (with_reducible apply Lies.past; case hb => (with_reducible assumption)) | (with_reducible apply Lies.store3) | (with_reducible apply Lies.other; case hp => (first | omega | (simp; done) | (simp; omega))))))).cell 0⟩))
        (first | (go_at_call 18; refine (New_any _).mono ?_; rintro e v6 ⟨rfl, hv6⟩) | (go_at_call 24; refine (alive _).mono ?_; rintro e v7 ⟨rfl, hv7⟩))
      all_goals
        go_wp2
        go_ret
        exact ⟨rfl, by have := W6.out; (repeat' (first | (with_reducible exact Below.refl _ _) | (with_reducible assumption) | (with_reducible refine below_drewN ?_ _) | (with_reducible refine below_new ?_ _) | (with_reducible refine Below.alloc ?_ ?_ _) | (with_reducible refine Below.drew ?_) | (with_reducible refine Below.setCell ?_ ?_ _) | (with_reducible apply below_on; (with_reducible assumption)) | (go_size; done) | (with_reducible apply size_of)))⟩
end Go.Proofs.Ytjhfamoldppclaa.nibL
