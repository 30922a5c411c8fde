/- What the functions of package nibble return: Of, Bits; and those of the reference: Read, Part. -/
import Derived.Test.YtjhfamoldppclaaNibW2
import Derived.Deep.LoopGhost
namespace Go.Proofs.Ytjhfamoldppclaa.nibW
open Go.RowKit Go.Proofs.Ytjhfamoldppclaa.base Go.Proofs.Ytjhfamoldppclaa.nibP
set_option linter.unusedVariables false
set_option linter.unusedSimpArgs false

theorem prt_take (l : List Bool) (k : Nat) (h : k < l.length) : prt (l.take (k + 1)) = 2 * prt (l.take k) + (l.getD k false).toNat := by
  rw [take_snoc false l k h, prt_snoc]
theorem prt_small {l : List Bool} (h : l.length ≤ 8) (k : Nat) : 1 ≤ prt (l.take k) ∧ prt (l.take k) < 512 := by
  have b := prt_bd (l.take k)
  have e : (l.take k).length ≤ 8 := by simp; omega
  have p1 : 2 ^ (l.take k).length ≥ 1 := Nat.one_le_two_pow
  have p2 : 2 ^ ((l.take k).length + 1) ≤ 2 ^ 9 := Nat.pow_le_pow_right (by omega) (by omega)
  omega
set_option maxHeartbeats 1000000 in
theorem Of_any (A : Option Addr) (len cap : Nat) (l : List Bool) (w : World) (hA : HasB w A l) (hl : l.length = len) (hm : len ≤ 9223372036854775807) :
    Calls Try.prog 16 #[.slice A len cap] w fun e w' => e = .returned (.tuple #[.agg #[.int .i64 (ofV l)], .int .i64 (ofE l)]) ∧ Below w.heap.size w w' := by
  by_cases h7 : len ≤ 7
  · have g7 : (len : Int) ≤ 7 := by omega
    have HA := Lib.hid hA
    have HL := Lib.hid hl
    have HS := Lib.hid (prt_small (l := l) (by omega))
    clear hA hl
    go_enter Try.func16, Try.ntmps16
    go_wp2_with (first | (go_at_call 18; refine (New_any _).mono ?_; rintro e w2 ⟨rfl, hb2⟩; obtain ⟨cl2, fr2⟩ := bcell hb2; have sz2 := hb2.size; (try simp at sz2); (try have sy2 : w.heap.size + 1 < (w2).heap.size := (by omega)); have sx2 : w.heap.size < (w2).heap.size := (by omega)))
    have ac2 : Below w.heap.size w w2 := by (repeat' (first | (with_reducible exact Below.refl _ _) | (with_reducible assumption) | (with_reducible refine below_drewN ?_ _) | (with_reducible refine below_new ?_ _) | (with_reducible refine Below.alloc ?_ ?_ _) | (with_reducible refine Below.drew ?_) | (with_reducible refine Below.setCell ?_ ?_ _) | (with_reducible apply below_on; (with_reducible assumption)) | (go_size; done) | (with_reducible apply size_of)))
    have K0 : Hid (Lies w2 w.heap.size 23 [.int .i64 0]) := Lib.hid (Lies.past (Lies.fresh _ _ _) hb2)
    clear hb2 cl2 fr2
    go_loopw [14] (fun i wr => ∃ k : Nat, k ≤ len ∧ i = .int .i64 k ∧ Lies wr w2.heap.size 23 [.int .i64 ((prt (l.take k) : Nat) : Int)] ∧ Lies wr w.heap.size 23 [.int .i64 0] ∧ Below w.heap.size w wr) (fun i _ => len - (intOf i).toNat)
    case atStart => exact ⟨0, by omega, rfl, Lies.fresh _ _ _, K0.out.alloc _, by (repeat' (first | (with_reducible exact Below.refl _ _) | (with_reducible assumption) | (with_reducible refine below_drewN ?_ _) | (with_reducible refine below_new ?_ _) | (with_reducible refine Below.alloc ?_ ?_ _) | (with_reducible refine Below.drew ?_) | (with_reducible refine Below.setCell ?_ ?_ _) | (with_reducible apply below_on; (with_reducible assumption)) | (go_size; done) | (with_reducible apply size_of)))⟩
    case round =>
      obtain ⟨k, hk, rfl, K, K1, acc⟩ := hrel
      obtain ⟨p0, f0⟩ := K.one
      obtain ⟨p1, f1⟩ := K1.one
      have lt0 := K.lt
      have HK := Lib.hid K
      have HK1 := Lib.hid K1
      clear K K1
      by_cases hlt : k < len
      · obtain ⟨b, off, rfl, hb, hc⟩ := hasB_some HA.out (by have := HL.out; omega)
        have hcell : wr.cell? ⟨b, off + k, none⟩ = some (.bool (l.getD k false)) := by rw [(bcell acc).1 b _ hb]; exact hc k (by have := HL.out; omega)
        have hs := HS.out k
        have HE := Lib.hid (prt_take l k (by have := HL.out; omega))
        clear hc
        generalize l.getD k false = x at *
        generalize hn : prt (l.take k) = n at *
        have HN := Lib.hid hn
        clear hn
        go_wp2_with (first | (go_at_call 26; refine (extended_any _ _ _ (by omega)).mono ?_; rintro e w' ⟨rfl, rfl⟩))
        go_roundw
        case rel => exact ⟨k + 1, by omega, by go_num, by rw [HE.out]; exact HK.out.set 0 _, HK1.out.other (by show w2.heap.size ≠ w.heap.size; omega) _, by (repeat' (first | (with_reducible exact Below.refl _ _) | (with_reducible assumption) | (with_reducible refine below_drewN ?_ _) | (with_reducible refine below_new ?_ _) | (with_reducible refine Below.alloc ?_ ?_ _) | (with_reducible refine Below.drew ?_) | (with_reducible refine Below.setCell ?_ ?_ _) | (with_reducible apply below_on; (with_reducible assumption)) | (go_size; done) | (with_reducible apply size_of)))⟩
        case measure => simp [intOf]; omega
      · have HX : Hid (prt (l.take k) = prt l) := Lib.hid (by rw [List.take_of_length_le (by have := HL.out; omega)])
        generalize prt (l.take k) = n at *
        have q : (wr.setCell ⟨w.heap.size, 0, none⟩ (.int .i64 (n : Int))).cell? ⟨w.heap.size, 0, none⟩ = some (.int .i64 (n : Int)) := (HK1.out.set 0 _).cell 0
        go_wp2
        refine bodyPost_ret (by simp [results, Try.results16, go_sem, q]; try rfl) rfl ?_
        exact ⟨by have := HL.out; simp [ofV, ofE, HX.out, this, h7], by (repeat' (first | (with_reducible exact Below.refl _ _) | (with_reducible assumption) | (with_reducible refine below_drewN ?_ _) | (with_reducible refine below_new ?_ _) | (with_reducible refine Below.alloc ?_ ?_ _) | (with_reducible refine Below.drew ?_) | (with_reducible refine Below.setCell ?_ ?_ _) | (with_reducible apply below_on; (with_reducible assumption)) | (go_size; done) | (with_reducible apply size_of)))⟩
  · have g7 : ¬ (len : Int) ≤ 7 := by omega
    go_enter Try.func16, Try.ntmps16
    go_wp2
    refine bodyPost_ret (by simp [results, Try.results16, go_sem, ]; try rfl) rfl ?_
    exact ⟨by simp [ofV, ofE, hl, h7], by (repeat' (first | (with_reducible exact Below.refl _ _) | (with_reducible assumption) | (with_reducible refine below_drewN ?_ _) | (with_reducible refine below_new ?_ _) | (with_reducible refine Below.alloc ?_ ?_ _) | (with_reducible refine Below.drew ?_) | (with_reducible refine Below.setCell ?_ ?_ _) | (with_reducible apply below_on; (with_reducible assumption)) | (go_size; done) | (with_reducible apply size_of)))⟩

set_option maxHeartbeats 1000000 in
theorem rPart_any (A : Option Addr) (len cap : Nat) (l : List Bool) (w : World) (hA : HasB w A l) (hl : l.length = len) (hm : len ≤ 8) :
    Calls Try.prog 25 #[.slice A len cap] w fun e w' => e = .returned (.int .i64 ((prt l : Nat) : Int)) ∧ w = w' := by
  have HA := Lib.hid hA
  have HL := Lib.hid hl
  have HS := Lib.hid (prt_small (l := l) (by omega))
  clear hA hl
  go_enter Try.func25, Try.ntmps25
  go_wp2
  go_loop [3, 4] (fun n i => ∃ k : Nat, k ≤ len ∧ i = .int .i64 k ∧ n = .int .i64 ((prt (l.take k) : Nat) : Int)) (fun _ i => len - (intOf i).toNat)
  case atStart => exact ⟨0, by omega, rfl, rfl⟩
  case round =>
    obtain ⟨k, hk, rfl, rfl⟩ := hrel
    by_cases hlt : k < len
    · obtain ⟨b, off, rfl, hb, hc⟩ := hasB_some HA.out (by have := HL.out; omega)
      have hcell : w.cell? ⟨b, off + k, none⟩ = some (.bool (l.getD k false)) := hc k (by have := HL.out; omega)
      have hs := HS.out k
      have HE := Lib.hid (prt_take l k (by have := HL.out; omega))
      clear hc
      generalize l.getD k false = x at *
      generalize hn : prt (l.take k) = n at *
      have HN := Lib.hid hn
      clear hn
      cases x
      all_goals
        go_wp2
        go_round
        case rel => exact ⟨k + 1, by omega, by go_num, by rw [HE.out]; go_num⟩
        case measure => simp [intOf]; omega
    · have HX : Hid (prt (l.take k) = prt l) := Lib.hid (by rw [List.take_of_length_le (by have := HL.out; omega)])
      go_wp2
      go_ret
      exact ⟨ret1 (by rw [HX.out]), rfl⟩
end Go.Proofs.Ytjhfamoldppclaa.nibW
