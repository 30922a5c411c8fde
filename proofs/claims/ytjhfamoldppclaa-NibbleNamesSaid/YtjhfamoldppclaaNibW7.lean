/- What Path returns, of the package and of the reference. -/
import Derived.Test.YtjhfamoldppclaaNibW6
import Derived.Test.YtjhfamoldppclaaArr
namespace Go.Proofs.Ytjhfamoldppclaa.nibW
open Go.RowKit Go.Proofs.Ytjhfamoldppclaa.base Go.Proofs.Ytjhfamoldppclaa.nibP
set_option linter.unusedVariables false
set_option linter.unusedSimpArgs false

/-- The node before the k-th bit of a byte. -/
def pn (b k : Nat) : Nat := nd (prt ((rd (256 + b)).take k))
def pvals (b : Nat) : List Value := (List.range 8).map fun k => .int .i64 (pn b k)
def pagg (b : Nat) : Value := .agg (pvals b).toArray
theorem rd_byte : ∀ b, b < 256 → (rd (256 + b)).length = 8 := by decide +kernel
theorem pvals_get (b k : Nat) (h : k < 8) (d : Value) : (pvals b).getD k d = .int .i64 (pn b k) := by
  simp [pvals, List.getD_eq_getElem?_getD, h]
theorem pvals_len (b : Nat) : (pvals b).length = 8 := by simp [pvals]
theorem byte_bit : ∀ b : Nat, b < 256 → ∀ k, k < 8 → (bits .and .u8 ((b : Int) / 2 ^ (7 - k)) 1 == 1) = (rd (256 + b)).getD k false := by decide +kernel
theorem part_bd (b k : Nat) (hb : b < 256) (hk : k < 8) : 1 ≤ prt ((rd (256 + b)).take k) ∧ prt ((rd (256 + b)).take k) < 256 := by
  have h := prt_bd ((rd (256 + b)).take k)
  have hl := rd_byte b hb
  have e : ((rd (256 + b)).take k).length = k := by simp; omega
  rw [e] at h
  have p1 : 2 ^ k ≥ 1 := Nat.one_le_two_pow
  have p2 : 2 ^ (k + 1) ≤ 2 ^ 8 := Nat.pow_le_pow_right (by omega) (by omega)
  omega
theorem _root_.Go.Proofs.Ytjhfamoldppclaa.base.Lies.eight {w : World} {g : Nat} {t : TypeId} {a b c d e f x y : Value} (h : Lies w g t [a, b, c, d, e, f, x, y]) : w.cell? ⟨g, 0, none⟩ = some a ∧ w.cell? ⟨g, 1, none⟩ = some b ∧ w.cell? ⟨g, 2, none⟩ = some c ∧ w.cell? ⟨g, 3, none⟩ = some d ∧ w.cell? ⟨g, 4, none⟩ = some e ∧ w.cell? ⟨g, 5, none⟩ = some f ∧ w.cell? ⟨g, 6, none⟩ = some x ∧ w.cell? ⟨g, 7, none⟩ = some y :=
  ⟨h.cell 0, h.cell 1, h.cell 2, h.cell 3, h.cell 4, h.cell 5, h.cell 6, h.cell 7⟩
theorem info50 : (Try.prog.info? 50).map (·.size) = some 8 := by kernel_rfl
set_option maxHeartbeats 2000000 in
theorem Path_any (b : Nat) (w : World) (hb : b < 256) : Calls Try.prog 22 #[.int .u8 b] w fun e w' => e = .returned (pagg b) ∧ Below w.heap.size w w' := by
  have HPB := Lib.hid (part_bd b)
  have HBB := Lib.hid (byte_bit b hb)
  have HPT : Hid (∀ k, k < 8 → prt ((rd (256 + b)).take (k + 1)) = 2 * prt ((rd (256 + b)).take k) + ((rd (256 + b)).getD k false).toNat) := Lib.hid (fun k hk => prt_take _ k (by rw [rd_byte b hb]; exact hk))
  go_enter Try.func22, Try.ntmps22
  go_wp2_with fail
  go_loopw [4, 6] (fun q i wr => ∃ k : Nat, k ≤ 8 ∧ i = .int .i64 k ∧ (k < 8 → q = .int .i64 ((prt ((rd (256 + b)).take k) : Nat) : Int)) ∧ Lies wr (w.heap.size + 1) 50 (fill (.int .i64 0) (pvals b) k) ∧ Lies wr w.heap.size 50 (List.replicate 8 (.int .i64 0)) ∧ Below w.heap.size w wr) (fun _ i _ => 8 - (intOf i).toNat)
  case atStart => exact ⟨0, by omega, rfl, fun _ => rfl, Lies.fresh_at (by simp), (Lies.fresh _ _ _).alloc _, by (repeat' (first | (with_reducible exact Below.refl _ _) | (with_reducible assumption) | (with_reducible refine below_drewN ?_ _) | (with_reducible refine below_new ?_ _) | (with_reducible refine Below.alloc ?_ ?_ _) | (with_reducible refine Below.drew ?_) | (with_reducible refine Below.setCell ?_ ?_ _) | (with_reducible apply below_on; (with_reducible assumption)) | (go_size; done) | (with_reducible apply size_of)))⟩
  case round =>
    obtain ⟨k, hk, rfl, hq, K, R, acc⟩ := hrel
    have HK := Lib.hid K
    have HR := Lib.hid R
    have zk := K.lt
    clear K R
    by_cases hlt : k < 8
    · obtain rfl := hq hlt
      obtain ⟨s1, s2⟩ := HPB.out k hb hlt
      have HT := Lib.hid (HPT.out k hlt)
      have HBK := Lib.hid (HBB.out k hlt)
      have HFS := Lib.hid (fill_set (z := .int .i64 0) (l := pvals b) (k := k) (by rw [pvals_len]; exact hlt) undef)
      have HPN : Hid (pn b k = nd (prt ((rd (256 + b)).take k))) := Lib.hid rfl
      have q0 := HK.out.cell k
      have q1 := HK.out.free k
      obtain ⟨old, ho⟩ : ∃ old, (fill (.int .i64 0) (pvals b) k)[k]? = some old := ⟨_, List.getElem?_eq_getElem (by rw [fill_len (by rw [pvals_len]; omega), pvals_len]; exact hlt)⟩
      rw [ho] at q0
      clear ho hq
      obtain ⟨j, hj⟩ : ∃ j : Nat, j = 7 - k := ⟨_, rfl⟩
      rw [← hj] at HBK
      have ej : (7 : Int) - k = (j : Int) := by omega
      clear hj
      generalize hp : prt ((rd (256 + b)).take k) = p at *
      clear hp
      generalize (rd (256 + b)).getD k false = x at *
      go_wp2_with (first | (go_at_call 28; refine (node_any _ _ s1 s2).mono ?_; rintro e w' ⟨rfl, rfl⟩) | (go_at_call 26; refine (extended_any _ _ _ (by omega)).mono ?_; rintro e w' ⟨rfl, rfl⟩))
      go_roundw
      case rel =>
        refine ⟨k + 1, by omega, by go_num, fun h => ?_, ?_, HR.out.other (by show w.heap.size + 1 ≠ w.heap.size; omega) _, by (repeat' (first | (with_reducible exact Below.refl _ _) | (with_reducible assumption) | (with_reducible refine below_drewN ?_ _) | (with_reducible refine below_new ?_ _) | (with_reducible refine Below.alloc ?_ ?_ _) | (with_reducible refine Below.drew ?_) | (with_reducible refine Below.setCell ?_ ?_ _) | (with_reducible apply below_on; (with_reducible assumption)) | (go_size; done) | (with_reducible apply size_of)))⟩
        · rw [HT.out, ← HBK.out]; go_num
        · have := HK.out.set k ((pvals b).getD k undef)
          rw [HFS.out, pvals_get b k hlt, HPN.out] at this
          exact this
      case measure => simp [intOf]; omega
    · have e8 : k = 8 := by omega
      have HF : Hid (fill (.int .i64 0) (pvals b) k = pvals b) := Lib.hid (fill_all (by rw [pvals_len]; omega))
      have HK' := Lib.hid (show Lies wr (w.heap.size + 1) 50 (pvals b) by rw [← HF.out]; exact HK.out)
      clear HK HF hq e8 HPB HBB HPT
      have hP1 : ∀ v ∈ (pvals b).toArray.toList, v.oneCell' = true := by
        intro v hv
        simp only [pvals, List.mem_map] at hv
        obtain ⟨i, _, rfl⟩ := hv
        rfl
      have HP1 := Lib.hid hP1
      clear hP1
      go_wp2_with (first
        | (show wpList _ _ _ ({ dst := _, op := Op.load _ _, type := _, pos := _, after := _, guard := none } :: _) _ _; go_must (refine wpList_load_row (P := Try.prog) rfl 50 (.tmp 3) rfl (w.heap.size + 1) ?c5 50 (pvals b).toArray (0, 0) _ HK'.out Try.underlying50 rfl info50 ?_); (case c5 => rfl))
        | (show wpList _ _ _ ({ dst := none, op := Op.store _ _ _, type := _, pos := _, after := _, guard := none } :: _) _ _; go_must (refine wpList_store_arr (P := Try.prog) rfl 50 (.tmp 2) (.tmp 22) rfl w.heap.size ?c4 (pvals b).toArray ?c0 50 _ HR.out (by rfl) HP1.out info50 ?_); (case c4 => rfl); (case c0 => rfl); intro w9 hR9 hb9 hz9))
      refine bodyPost_ret (results_cell_row (P := Try.prog) Try.results22 _ _ _ _ _ _ _ rfl hR9 Try.underlying50 rfl info50) rfl ⟨rfl, ?_⟩
      exact acc.trans hb9
end Go.Proofs.Ytjhfamoldppclaa.nibW
