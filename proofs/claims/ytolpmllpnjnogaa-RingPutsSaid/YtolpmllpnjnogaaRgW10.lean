/- The last bytes of rings, the reference's, by walks; rings compared. -/
import Derived.Test.YtolpmllpnjnogaaRgW9
namespace Go.Proofs.Ytolpmllpnjnogaa.rgW
open Go.RowKit Go.Proofs.Ytolpmllpnjnogaa.base Go.Proofs.Ytolpmllpnjnogaa.rgP
set_option linter.unusedVariables false
set_option linter.unusedSimpArgs false

theorem last_parts {r : Rg} {A : Option Addr} {n c k : Nat} {w : World} (h : RgIn w A n c r) (hk : lastE r k = 0) : rgOk r = true ∧ 64 ≤ n ∧ n ≤ 8192 ∧ 0 ≤ r.n ∧ r.n ≤ 1073741824 ∧ (k : Int) ≤ n ∧ (k : Int) ≤ r.n := by
  have hok : rgOk r = true := by
    cases x : rgOk r
    · rw [lastE, x] at hk; simp at hk
    · rfl
  obtain ⟨a1, a2, a3, a4⟩ := ok_parts h hok
  have he := h.e
  have c1 : (k : Int) ≤ n := by
    rw [lastE, if_pos hok, he] at hk
    by_cases c : 0 ≤ (k : Int) ∧ (k : Int) ≤ (n : Int)
    · exact c.2
    · rw [if_neg c] at hk; simp at hk
  have c2 : (k : Int) ≤ r.n := by
    rw [lastE, if_pos hok, he, if_pos ⟨by omega, c1⟩] at hk
    by_cases c : r.n < k
    · rw [if_pos c] at hk; simp at hk
    · omega
  exact ⟨hok, a1, a2, a3, a4, c1, c2⟩
theorem lastL_at (r : Rg) (k j : Nat) (hj : j < k) : ago r ((k : Int) - (j : Int)) = (lastL r k).getD j 0 := by
  unfold lastL
  simp [List.getD_eq_getElem?_getD, List.getElem?_range hj]
set_option maxHeartbeats 4000000 in
theorem rLast_ok (r : Rg) (A : Option Addr) (n c k : Nat) (w : World) (h : RgIn w A n c r) (hk : lastE r k = 0) :
    Calls Try.prog 25 #[.agg #[.int .i64 (r).l, .slice A n c, .int .i64 (r).n], .int .i64 (k : Int)] w fun e w' => ∃ (A' : Option Addr) (c' : Nat), e = .returned (.tuple #[.slice A' k c', .int .i64 0]) ∧ Has .u8 w' A' (lastL r k) ∧ Below w.heap.size w w' := by
  have H := Lib.hid h
  obtain ⟨hok, a1, a2, a3, a4, c1, c2⟩ := last_parts h hk
  have e1 : rgE r = 0 := rgE_yes hok
  have HOK := Lib.hid hok
  have HK := Lib.hid (show k ≤ 8192 by omega)
  have k0 : 0 ≤ (k : Int) := by omega
  have k1 : (k : Int) ≤ 8192 := by omega
  have a6 : (n : Int) ≤ 8192 := by omega
  have he := h.e
  have HNL := Lib.hid he
  clear h hok a1 a2 he hk
  go_enter Try.func25, Try.ntmps25
  go_wp2_with (first | (go_at_call 21; refine (rCheck_any r A n c _ (H.out.below (by (repeat' (first | (with_reducible exact Below.refl _ _) | (with_reducible assumption) | (with_reducible refine below_drewN ?_ _) | (with_reducible refine below_new ?_ _) | (with_reducible refine Below.alloc ?_ ?_ _) | (with_reducible refine Below.drew ?_) | (with_reducible refine Below.setCell ?_ ?_ _) | (with_reducible apply below_at; (case k => (with_reducible assumption)); (case hB => omega)) | (with_reducible apply below_on; (with_reducible assumption)) | (go_size; done) | (with_reducible apply size_of)))))).mono ?_; rintro e w1 ⟨rfl, hb1⟩; rw [e1]; have K1 : Lies (w1) (w.heap.size) 24 [.int .i64 (r).l, .slice (A) (n) (c), .int .i64 (r).n] := (by (repeat' (first | (with_reducible assumption) | (with_reducible exact Lies.fresh _ _ _) | (with_reducible apply Lies.fresh_at; (first | (with_reducible rfl) | (simp; done))) | (with_reducible refine Lies.drew ?_) | (with_reducible refine Lies.drewN ?_ _) | (with_reducible refine Lies.alloc ?_ _) | (with_reducible apply Lies.past; case hb => (with_reducible assumption)) | (with_reducible apply Lies.keeps; (case k => (with_reducible assumption)); (case ht => decide)) | (with_reducible apply Lies.store3) | (with_reducible apply Lies.other; case hp => (first | omega | (simp; done) | (simp; omega)))))); obtain ⟨p0, p1, p2, -, -, -⟩ := K1.three))
  have hnk : decide (n < k) = false := by simp; omega
  simp only [hnk, Bool.or_false]
  clear hnk
  obtain ⟨lz, hlz⟩ : ∃ l, lastL r k = l := ⟨_, rfl⟩
  have hll : lz.length = k := by rw [← hlz]; exact lastL_len r k
  have HL := Lib.hid hlz
  have HLL := Lib.hid hll
  have HK2 := Lib.hid K1
  have HW : Hid (Below w.heap.size w w1) := Lib.hid (by (repeat' (first | (with_reducible exact Below.refl _ _) | (with_reducible assumption) | (with_reducible refine below_drewN ?_ _) | (with_reducible refine below_new ?_ _) | (with_reducible refine Below.alloc ?_ ?_ _) | (with_reducible refine Below.drew ?_) | (with_reducible refine Below.setCell ?_ ?_ _) | (with_reducible apply below_at; (case k => (with_reducible assumption)); (case hB => omega)) | (with_reducible apply below_on; (with_reducible assumption)) | (go_size; done) | (with_reducible apply size_of))))
  clear K1 p0 p1 p2 hlz hll a3 a4
  go_loopw [6, 7] (fun o i wr => ∃ (q : Nat) (A' : Option Addr) (c' : Nat), q ≤ k ∧ i = .int .i64 ((k : Int) - (q : Int)) ∧ o = .slice A' q c' ∧ (Lies (wr) (w.heap.size) 24 [.int .i64 (r).l, .slice (A) (n) (c), .int .i64 (r).n]) ∧ OwnI wr (w.heap.size + 1) 5 .u8 (.slice A' q c') (lz.take q) ∧ Below w.heap.size w wr) (fun _ i _ => (intOf i).toNat)
  case atStart => exact ⟨0, none, 0, Nat.zero_le _, by simp, rfl, HK2.out, OwnI.nil _ _ _ _, HW.out⟩
  case round =>
    clear HK2 HW
    obtain ⟨q, A', c', hq, rfl, rfl, K, O, acc⟩ := hrel
    have HK3 := Lib.hid K
    have HO3 := Lib.hid O
    have HW3 := Lib.hid acc
    obtain ⟨p0, p1, p2, -, -, -⟩ := K.three
    by_cases hlt : q < k
    · have hx : ago r ((k : Int) - (q : Int)) = lz.getD q 0 := by rw [← HL.out]; exact lastL_at r k q hlt
      have hsn := take_snoc 0 lz q (by rw [HLL.out]; exact hlt)
      have HX := Lib.hid hx
      have HSN := Lib.hid hsn
      have hq2 : 1 ≤ (k : Int) - (q : Int) := by omega
      have HLT := Lib.hid hlt
      have HTL : Hid ((lz.take q).length = q) := Lib.hid (by rw [List.length_take, HLL.out]; omega)
      clear K O acc hlt hq hx hsn
      obtain ⟨x, hxx⟩ : ∃ x, lz.getD q 0 = x := ⟨_, rfl⟩
      rw [hxx] at HX HSN
      clear hxx
      go_wp2_with (first | (go_at_call 35; refine (rAgo_any r A n c _ _ (H.out.below HW3.out) HOK.out (by omega) (by omega)).mono ?_; rintro e w2 ⟨rfl, hb2⟩; rw [HX.out]; have HK4 := Lib.hid (HK3.out.past hb2); have HO4 := Lib.hid (HO3.out.below hb2 (Nat.le_refl _)); have HW4 := Lib.hid (HW3.out.trans (hb2.mono (Nat.le_of_lt HK3.out.lt))); have HNEW : Hid (Has .u8 (w2.alloc (.cells #[.int .u8 x] 5)) (some ⟨w2.heap.size, 0, none⟩) [x]) := Lib.hid (has_lit rfl (by simp [maxLen])); have HO5 := Lib.hid (HO4.out.below (C := w2.heap.size) ((Below.refl _ _).alloc (Nat.le_refl _) (.cells #[.int .u8 x] 5)) (Nat.le_refl _)); have HK5 := Lib.hid (HK4.out.alloc (.cells #[.int .u8 x] 5)); have HW5 := Lib.hid (HW4.out.alloc (by have := HK4.out.lt; omega) (.cells #[.int .u8 x] 5))) | (at_builtin; refine app8 rfl _ _ rfl (w.heap.size + 1) _ _ rfl HO5.out (some ⟨w2.heap.size, 0, none⟩) 1 1 [x] rfl rfl HNEW.out (q + 1) (by rw [List.length_take, HLL.out]; have := HLT.out; omega) (by have := HLT.out; have := HK.out; omega) (by have := HK5.out.lt; omega) ?_; intro A2 c2 w3 ho3 hg3 hb3))
      go_roundw
      case rel =>
        refine ⟨q + 1, A2, c2, HLT.out, by go_num, rfl, ?_, ?_, ?_⟩
        · exact HK5.out.below hb3 (Nat.lt_succ_self _)
        · rw [HSN.out]; exact ho3
        · exact HW5.out.trans (hb3.mono (Nat.le_succ _))
      case measure => simp [intOf]; omega
    · have he : q = k := by omega
      subst he
      have hz : (q : Int) - (q : Int) = 0 := by omega
      rw [hz]
      clear K O acc hlt hq
      go_wp2
      go_ret2
      refine ⟨A', c', rfl, ?_, HW3.out⟩
      have h := HO3.out.has
      rw [List.take_of_length_le (by rw [HLL.out]; exact Nat.le_refl _)] at h
      rw [HL.out]
      exact h
end Go.Proofs.Ytolpmllpnjnogaa.rgW
