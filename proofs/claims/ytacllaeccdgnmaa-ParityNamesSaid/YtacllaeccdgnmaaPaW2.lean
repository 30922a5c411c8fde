/- A group without the lost one, by walks. -/
import Derived.Test.YtacllaeccdgnmaaPaW
import Derived.Test.YtacllaeccdgnmaaPaPlain3
import Derived.Test.YtacllaeccdgnmaaRowsV
namespace Go.Proofs.Ytacllaeccdgnmaa.paW
set_option maxRecDepth 100000
open Go.RowKit Go.Proofs.Ytacllaeccdgnmaa.base Go.Proofs.Ytacllaeccdgnmaa.paP
set_option linter.unusedVariables false
set_option linter.unusedSimpArgs false
set_option maxRecDepth 100000
set_option maxHeartbeats 1000000 in
theorem without1 (P A : Option Addr) (m d gl gk n c i B : Nat) (k : Int) (rs os : List R8) (w : World) (hr : RowsB w P m d rs) (hg : Lies w gl 22 [.slice P m d]) (hk : Lies w gk 3 [.int .i64 k]) (hi : i < m)
    (ho : OwnV w B (.slice A n c) os) (hn : os.length = n) (hB : B ≤ w.heap.size) (hm : n ≤ 100000) :
    Calls Try.prog 42 #[.slice A n c, .int .i64 (i : Int), .pointer (some ⟨gk, 0, none⟩), .pointer (some ⟨gl, 0, none⟩)] w fun e w' => ∃ A' c' n', e = .returned (.slice A' n' c') ∧ OwnV w' B (.slice A' n' c') (if (i : Int) = k then os else os ++ [rs.getD i r80]) ∧ Below B w w' := by
  have c0 := hg.one.1
  have k0 := hk.one.1
  have HO := Lib.hid ho
  have HN := Lib.hid hn
  have HB := Lib.hid hB
  have HM := Lib.hid hm
  by_cases e : (i : Int) = k
  · have e2 : ((i : Int) == k) = true := by simpa using e
    rw [if_pos e]
    clear hr hg hk hi ho hn hB hm e
    go_enter Try.func42, Try.ntmps42
    go_wp2_with fail
    go_ret
    exact ⟨_, _, _, rfl, HO.out, Below.refl _ _⟩
  · have e2 : ((i : Int) == k) = false := by simpa using e
    rw [if_neg e]
    obtain ⟨b, off, rfl, hb, hc⟩ := rb_cell hr hi
    have c1 := hc i hi
    obtain ⟨r, hrr⟩ : ∃ r, rs.getD i r80 = r := ⟨_, rfl⟩
    rw [hrr] at c1 ⊢
    obtain ⟨rA, rn, rc, rb⟩ := r
    have i1 : (i : Int) < m := by omega
    have i0 : 0 ≤ (i : Int) := by omega
    clear hr hg hk hi ho hn hB hm e hc hrr
    go_enter Try.func42, Try.ntmps42
    go_wp2_with (at_builtin; go_loud (refine appV rfl _ _ rfl B _ os rfl (HO.out.below ((Below.refl _ _).alloc (Nat.le_refl _) _) (Nat.le_refl _)) (by have := HB.out; simp; omega) w.heap.size 1 rfl ⟨rA, rn, rc, rb⟩ (Lies.fresh w _ [.slice rA rn rc]).one.1 (n + 1) (by rw [HN.out]) (by have := HM.out; omega) ?_); intro A1 c1 w1 ho1 hb1 hg1)
    go_ret
    exact ⟨A1, c1, n + 1, rfl, ho1, ((Below.refl _ _).alloc HB.out _).trans hb1⟩
set_option maxHeartbeats 1000000 in
theorem foldo (P : Option Addr) (m d gl gk : Nat) (k : Int) (rs : List R8) (w : World) (hr : RowsB w P m d rs) (hg : Lies w gl 22 [.slice P m d]) (hk : Lies w gk 3 [.int .i64 k]) (hm : m ≤ 100000) :
    Calls Try.prog 43 #[.int .i64 (m : Int), .slice none 0 0, .func (.func 42) #[] #[.pointer (some ⟨gk, 0, none⟩), .pointer (some ⟨gl, 0, none⟩)]] w fun e w' => ∃ A c n, e = .returned (.slice A n c) ∧ OwnV w' w.heap.size (.slice A n c) (othR rs k) ∧ Below w.heap.size w w' := by
  have HR := Lib.hid hr
  have HG := Lib.hid hg
  have HK := Lib.hid hk
  have HM := Lib.hid hm
  have m1 : (m : Int) ≤ 100000 := by omega
  clear hr hg hk hm
  go_enter Try.func43, Try.ntmps43
  go_wp2_with fail
  go_loopw [7, 11] (fun a i wr => ∃ (q : Nat) (A : Option Addr) (n c : Nat), q ≤ m ∧ i = .int .i64 (q : Int) ∧ a = .slice A n c ∧ OwnV wr w.heap.size (.slice A n c) (othR (rs.take q) k) ∧ Below w.heap.size w wr) (fun _ i _ => m - (intOf i).toNat)
  case atStart => exact ⟨0, none, 0, 0, Nat.zero_le _, rfl, rfl, by rw [List.take_zero, show othR ([] : List R8) k = [] by unfold othR; split <;> simp]; exact OwnV.nil _ _, Below.refl _ _⟩
  case round =>
    obtain ⟨q, A, n, c, hq, rfl, rfl, own, acc⟩ := hrel
    have HO := Lib.hid own
    have HA := Lib.hid acc
    by_cases hlt : q < m
    · have q1 : (q : Int) < m := by omega
      have q0 : 0 ≤ (q : Int) := by omega
      have HQ := Lib.hid hlt
      have HS := Lib.hid (othR_step r80 rs k q (by rw [HR.out.l]; exact hlt))
      have HL : Hid ((othR (rs.take q) k).length = n ∧ n ≤ 100000) := Lib.hid (by
        obtain ⟨A', c', e, _⟩ : ∃ A' c', Value.slice A n c = .slice A' (othR (rs.take q) k).length c' ∧ True := by
          rcases own.2 with ⟨h, h0⟩ | ⟨g, cap, cur, hv, _⟩
          · injection h with h1 h2 h3; exact ⟨A, c, by rw [h0, h2], trivial⟩
          · injection hv with h1 h2 h3; exact ⟨A, c, by rw [h2], trivial⟩
        injection e with _ e2 _
        refine ⟨e2.symm, ?_⟩
        have := othR_len (rs.take q) k
        rw [List.length_take] at this
        have := HM.out; omega)
      clear hlt hq own acc
      go_wp2_with (go_at_call 42; refine (without1 P A m d gl gk n c q w.heap.size k rs _ wr (HR.out.below HA.out (Nat.le_refl _)) (HG.out.past HA.out) (HK.out.past HA.out) HQ.out HO.out HL.out.1 HA.out.size HL.out.2).mono ?_; rintro e w4 ⟨A4, c4, n4, rfl, ho4, hb4⟩)
      go_roundw
      case rel => exact ⟨q + 1, A4, n4, c4, HQ.out, by go_num, rfl, by rw [HS.out]; exact ho4, HA.out.trans hb4⟩
      case measure => simp [intOf]; have := HQ.out; omega
    · obtain rfl : q = m := by omega
      have q1 : ¬ (q : Int) < q := by omega
      have HE : Hid (rs.take q = rs) := Lib.hid (List.take_of_length_le (by rw [HR.out.l]; exact Nat.le_refl _))
      clear hlt hq own acc
      go_wp2_with fail
      go_ret
      exact ⟨A, c, n, rfl, by rw [HE.out] at HO; exact HO.out, HA.out⟩
set_option maxHeartbeats 1000000 in
theorem Without_any (P : Option Addr) (m d : Nat) (k : Int) (rs : List R8) (w : World) (hr : RowsB w P m d rs) (hm : m ≤ 100000) :
    Calls Try.prog 31 #[.slice P m d, .int .i64 k] w fun e w' => ∃ A c n, e = .returned (.slice A n c) ∧ RowsB w' A n c (othR rs k) ∧ Below w.heap.size w w' := by
  have hb : Below w.heap.size w ((w.alloc (.cells #[.slice P m d] 22)).alloc (.cells #[.int .i64 k] 3)) := ((Below.refl _ _).alloc (Nat.le_refl _) _).alloc (by simp) _
  have HR := Lib.hid (hr.below hb (Nat.le_refl _))
  have HG : Hid (Lies ((w.alloc (.cells #[.slice P m d] 22)).alloc (.cells #[.int .i64 k] 3)) w.heap.size 22 [.slice P m d]) := Lib.hid (Lies.alloc (Lies.fresh _ _ _) _)
  have HK : Hid (Lies ((w.alloc (.cells #[.slice P m d] 22)).alloc (.cells #[.int .i64 k] 3)) (w.heap.size + 1) 3 [.int .i64 k]) := Lib.hid (Lies.fresh_at (by simp))
  have HB := Lib.hid hb
  have HM := Lib.hid hm
  have c0 := HG.out.one.1
  clear hr hb hm
  go_enter Try.func31, Try.ntmps31
  go_wp2_with (go_at_call 43; refine (foldo P m d _ _ k rs _ HR.out HG.out HK.out HM.out).mono ?_; rintro e w4 ⟨A4, c4, n4, rfl, ho4, hb4⟩)
  go_ret
  have hb5 : Below w.heap.size w w4 := HB.out.trans (hb4.mono HB.out.size)
  refine ⟨A4, c4, n4, rfl, ho4.rows fun r hr => ?_, hb5⟩
  exact (HR.out.h.all r (othR_mem hr)).below hb4 (Nat.le_refl _)
end Go.Proofs.Ytacllaeccdgnmaa.paW
