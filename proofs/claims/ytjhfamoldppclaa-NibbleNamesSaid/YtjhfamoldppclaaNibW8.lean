/- What Path of the reference returns. -/
import Derived.Test.YtjhfamoldppclaaNibW7
namespace Go.Proofs.Ytjhfamoldppclaa.nibW
open Go.RowKit Go.Proofs.Ytjhfamoldppclaa.base Go.Proofs.Ytjhfamoldppclaa.nibP
set_option linter.unusedVariables false
set_option linter.unusedSimpArgs false

set_option maxHeartbeats 400000 in
theorem rByte_any (b : Nat) (w : World) (hb : b < 256) : Calls Try.prog 31 #[.int .u8 b] w (RdRes (256 + b) w) := by
  have R := fun w => rRead_any 10 (256 + b) w (by omega) (by omega) (by omega)
  rw [show ((256 + b : Nat) : Int) = 256 + (b : Int) by omega] at R
  go_enter Try.func31, Try.ntmps31
  go_wp2_with fail
  refine (R w).mono ?_
  rintro e w1 ⟨A, c, rfl, own, hb1⟩
  have HO := Lib.hid own
  clear own
  go_wp2
  go_ret
  exact ⟨A, c, rfl, HO.out, hb1⟩
set_option maxHeartbeats 2000000 in
theorem rPath_any (b : Nat) (w : World) (hb : b < 256) : Calls Try.prog 23 #[.int .u8 b] w fun e w' => e = .returned (pagg b) ∧ Below w.heap.size w w' := by
  have HPB := Lib.hid (part_bd b)
  have h8 := rd_byte b hb
  have H8 := Lib.hid h8
  go_enter Try.func23, Try.ntmps23
  go_wp2_with fail
  refine (rByte_any b _ hb).mono ?_
  rintro e w1 ⟨A, c, rfl, own, hb1⟩
  obtain ⟨A', c', hv, hh, hc, hA9⟩ := own.val
  injection hv with e1 e2 e3
  subst e1 e3
  rw [h8] at hc ⊢
  have HH := Lib.hid hh
  have HA9 : Hid (∀ a, A = some a → w.heap.size + 2 ≤ a.block) := Lib.hid (by intro a ha; have := hA9 a ha; simpa using this)
  have ac1 : Below w.heap.size w w1 := by (repeat' (first | (with_reducible exact Below.refl _ _) | (with_reducible assumption) | (with_reducible refine below_drewN ?_ _) | (with_reducible refine below_new ?_ _) | (with_reducible refine Below.alloc ?_ ?_ _) | (with_reducible refine Below.drew ?_) | (with_reducible refine Below.setCell ?_ ?_ _) | (with_reducible apply below_on; (with_reducible assumption)) | (go_size; done) | (with_reducible apply size_of)))
  have hz1 := hb1.size
  have HR : Hid (Lies w1 w.heap.size 50 (List.replicate 8 (.int .i64 0))) := Lib.hid (((Lies.fresh _ _ _).alloc _).past hb1)
  have HK0 : Hid (Lies w1 (w.heap.size + 1) 50 (List.replicate 8 (.int .i64 0))) := Lib.hid ((Lies.fresh_at (by simp)).past hb1)
  clear own e2 hh hb1 h8 hA9
  go_wp2_with fail
  go_loopw [5] (fun i wr => ∃ k : Nat, k ≤ 8 ∧ i = .int .i64 k ∧ Lies wr (w.heap.size + 1) 50 (fill (.int .i64 0) (pvals b) k) ∧ Lies wr w.heap.size 50 (List.replicate 8 (.int .i64 0)) ∧ HasB wr A (rd (256 + b)) ∧ Below w.heap.size w wr) (fun i _ => 8 - (intOf i).toNat)
  case atStart => exact ⟨0, by omega, rfl, HK0.out, HR.out, HH.out, ac1⟩
  case round =>
    obtain ⟨k, hk, rfl, K, R, hA, acc⟩ := hrel
    have HK := Lib.hid K
    have HR := Lib.hid R
    have HA := Lib.hid hA
    have zk := K.lt
    clear K R hA
    by_cases hlt : k < 8
    · obtain ⟨s1, s2⟩ := HPB.out k hb hlt
      have HFS := Lib.hid (fill_set (z := .int .i64 0) (l := pvals b) (k := k) (by rw [pvals_len]; exact hlt) undef)
      have HPN : Hid (pn b k = nd (prt ((rd (256 + b)).take k))) := Lib.hid rfl
      obtain ⟨old, ho⟩ : ∃ old, (fill (.int .i64 0) (pvals b) k)[k]? = some old := ⟨_, List.getElem?_eq_getElem (by rw [fill_len (by rw [pvals_len]; omega), pvals_len]; exact hlt)⟩
      have HOLD := Lib.hid ho
      have k1 : (k : Int) ≤ c := by omega
      have k2 : (0 : Int) ≤ k := by omega
      clear ho
      go_wp2_with fail
      refine (rPart_any _ _ _ ((rd (256 + b)).take k) _ (HA.out.front k) (by have := H8.out; simp; omega) (by omega)).mono ?_
      rintro e w2 ⟨rfl, rfl⟩
      go_wp2_with fail
      generalize hp : prt ((rd (256 + b)).take k) = p at *
      refine (rAt_any p _ s1 s2).mono ?_
      rintro e w3 ⟨rfl, hb3⟩
      have HK3 := Lib.hid (HK.out.past hb3)
      have HR3 := Lib.hid (HR.out.past hb3)
      have q0 := (HK3.out.cell k).trans HOLD.out
      have q1 := HK3.out.free k
      have ac3 : Below w.heap.size w w3 := by (repeat' (first | (with_reducible exact Below.refl _ _) | (with_reducible assumption) | (with_reducible refine below_drewN ?_ _) | (with_reducible refine below_new ?_ _) | (with_reducible refine Below.alloc ?_ ?_ _) | (with_reducible refine Below.drew ?_) | (with_reducible refine Below.setCell ?_ ?_ _) | (with_reducible apply below_on; (with_reducible assumption)) | (go_size; done) | (with_reducible apply size_of)))
      have zk3 := HK3.out.lt
      have HHA := Lib.hid (HA.out.below hb3 (Nat.le_refl _))
      have HP := Lib.hid hp
      clear hp hb3
      go_wp2_with fail
      go_roundw
      case rel =>
        refine ⟨k + 1, by omega, by go_num, ?_, HR3.out.other (by show w.heap.size + 1 ≠ w.heap.size; omega) _, ?_, by (repeat' (first | (with_reducible exact Below.refl _ _) | (with_reducible assumption) | (with_reducible refine below_drewN ?_ _) | (with_reducible refine below_new ?_ _) | (with_reducible refine Below.alloc ?_ ?_ _) | (with_reducible refine Below.drew ?_) | (with_reducible refine Below.setCell ?_ ?_ _) | (with_reducible apply below_on; (with_reducible assumption)) | (go_size; done) | (with_reducible apply size_of)))⟩
        · have := HK3.out.set k ((pvals b).getD k undef)
          rw [HFS.out, pvals_get b k hlt, HPN.out] at this
          exact this
        · exact HHA.out.set (fun a ha => by have := HA9.out a ha; show a.block ≠ w.heap.size + 1; omega) _
      case measure => simp [intOf]; omega
    · have HF : Hid (fill (.int .i64 0) (pvals b) k = pvals b) := Lib.hid (fill_all (by rw [pvals_len]; omega))
      have HK' := Lib.hid (show Lies wr (w.heap.size + 1) 50 (pvals b) by rw [← HF.out]; exact HK.out)
      clear HK HF HPB
      have hP1 : ∀ v ∈ (pvals b).toArray.toList, v.oneCell' = true := by
        intro v hv
        simp only [pvals, List.mem_map] at hv
        obtain ⟨i, _, rfl⟩ := hv
        rfl
      have HP1 := Lib.hid hP1
      clear hP1
      go_wp2_with (first
        | (show wpList _ _ _ ({ dst := _, op := Op.load _ _, type := _, pos := _, after := _, guard := none } :: _) _ _; go_must (refine wpList_load_row (P := Try.prog) rfl 50 (.tmp 3) rfl (w.heap.size + 1) ?c5 50 (pvals b).toArray (0, 0) _ HK'.out Try.underlying50 rfl info50 ?_); (case c5 => rfl))
        | (show wpList _ _ _ ({ dst := none, op := Op.store _ _ _, type := _, pos := _, after := _, guard := none } :: _) _ _; go_must (refine wpList_store_arr (P := Try.prog) rfl 50 (.tmp 2) (.tmp 20) rfl w.heap.size ?c4 (pvals b).toArray ?c0 50 _ HR.out (by rfl) HP1.out info50 ?_); (case c4 => rfl); (case c0 => rfl); intro w9 hR9 hb9 hz9))
      refine bodyPost_ret (results_cell_row (P := Try.prog) Try.results23 _ _ _ _ _ _ _ rfl hR9 Try.underlying50 rfl info50) rfl ⟨rfl, ?_⟩
      exact acc.trans hb9
end Go.Proofs.Ytjhfamoldppclaa.nibW
