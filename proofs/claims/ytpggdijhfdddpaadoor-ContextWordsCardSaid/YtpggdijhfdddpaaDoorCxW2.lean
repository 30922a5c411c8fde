/- The last bytes of the program and of the reference, the reference's word, by walks. -/
import Derived.Test.YtpggdijhfdddpaaDoorCxW
import Derived.Test.YtpggdijhfdddpaaDoorRgL2
import Derived.Test.YtpggdijhfdddpaaDoorOrd
namespace Go.Proofs.YtpggdijhfdddpaaDoor.cxW
open Go.RowKit Go.Proofs.YtpggdijhfdddpaaDoor.base Go.Proofs.YtpggdijhfdddpaaDoor.rgP Go.Proofs.YtpggdijhfdddpaaDoor.cxP
set_option linter.unusedVariables false
set_option linter.unusedSimpArgs false
theorem last_cons (r : Rg) (i : Nat) : lastL r (i + 1) = ago r ((i : Int) + 1) :: lastL r i := by
  refine getD_ext (by simp [cxP.last_len]) fun j hj => ?_
  rw [cxP.last_len] at hj
  rw [last_at r _ j hj]
  rcases j with _ | j
  · show _ = ago r _
    congr 1
  · show _ = (lastL r i).getD j 0
    rw [last_at r i j (by omega)]
    congr 1
    omega
def lateK (r : Rg) (k i : Nat) : List Int := List.replicate (k - i) 0 ++ lastL r i
theorem late_len (r : Rg) (k i : Nat) (h : i ≤ k) : (lateK r k i).length = k := by simp [lateK, cxP.last_len]; omega
theorem late_set (r : Rg) (k i : Nat) (h : i < k) : (lateK r k i).set (k - 1 - i) (ago r ((i : Int) + 1)) = lateK r k (i + 1) := by
  unfold lateK
  rw [last_cons, show k - i = (k - (i + 1)) + 1 by omega, List.replicate_succ', List.append_assoc, List.set_append_right _ _ (by simp; omega)]
  simp only [List.length_replicate]
  rw [show k - 1 - i - (k - (i + 1)) = 0 by omega]
  rfl
set_option maxHeartbeats 2000000 in
theorem Lately_any (r : Rg) (A : Option Addr) (n c k : Nat) (w : World) (h : RgIn w A n c r) (hok : rgOk r = true) (hk : k ≤ 1000) :
    Calls Tryd.prog 30 #[.agg #[.int .i64 (r).l, .slice A n c, .int .i64 (r).n], .int .i64 (k : Int)] w fun e w' => ∃ A' c', e = .returned (.slice A' k c') ∧ OwnZ w' w.heap.size (.slice A' k c') (lastL r k) ∧ Below w.heap.size w w' := by
  have H := Lib.hid h
  have HOK := Lib.hid hok
  have k9 : (k : Int) ≤ 1000 := by omega
  have k8 : 0 ≤ (k : Int) := by omega
  have LL : Hid (Lies (w.alloc (.cells #[.int .i64 r.l, .slice A n c, .int .i64 r.n] 24)) (w.heap.size) 24 [.int .i64 (r).l, .slice (A) (n) (c), .int .i64 (r).n]) := Lib.hid (Lies.fresh _ _ _)
  have HK := Lib.hid hk
  clear h hok hk
  go_enter Tryd.func30, Tryd.ntmps30
  go_wp2_with (at_make; refine make8 (by rfl) _ _ rfl .i64 .i64 k rfl rfl (by omega) (w.heap.size + 1) (by simp) ?_; intro w1 own1 hb1; rw [show (w.alloc (.cells #[.int .i64 r.l, .slice A n c, .int .i64 r.n] 24)).heap.size = w.heap.size + 1 by simp] at own1; have HO1 := Lib.hid own1; have HB1 := Lib.hid (And.intro (LL.out.past hb1) (((Below.refl _ _).alloc (Nat.le_refl _) _).trans (hb1.mono (by simp)))); clear own1 hb1)
  generalize hg : w.heap.size + 1 = g at *
  have HG : Hid (w.heap.size < g) := Lib.hid (by omega)
  clear hg
  go_loopw [6] (fun i wr => ∃ j : Nat, j ≤ k ∧ i = .int .i64 j ∧ OwnI wr g 5 .u8 (.slice (some ⟨g, 0, none⟩) k k) (lateK r k j) ∧ (Lies (wr) (w.heap.size) 24 [.int .i64 (r).l, .slice (A) (n) (c), .int .i64 (r).n]) ∧ Below w.heap.size w wr) (fun i _ => k - (intOf i).toNat)
  case atStart => exact ⟨0, Nat.zero_le _, rfl, by rw [show lateK r k 0 = List.replicate k 0 by simp [lateK, lastL]]; exact HO1.out, HB1.out.1, HB1.out.2⟩
  case round =>
    clear HO1 HB1 LL
    obtain ⟨j, hj, rfl, own, T, acc⟩ := hrel
    have HO := Lib.hid own
    have HT := Lib.hid T
    have HACC := Lib.hid acc
    by_cases hlt : j < k
    · have hii : ((k : Int) - 1 - j) = ((k - 1 - j : Nat) : Int) := by omega
      obtain ⟨q, hq⟩ : ∃ q, k - 1 - j = q := ⟨_, rfl⟩
      rw [hq] at hii
      have HSET := Lib.hid (late_set r k j hlt)
      rw [hq] at HSET
      have HQ : Hid (q < k ∧ j < k) := Lib.hid ⟨by omega, hlt⟩
      obtain ⟨r0, r1, r2, -, -, -⟩ := T.three
      have k1 : (j : Int) < k := by omega
      have k0 : 0 ≤ (j : Int) := by omega
      have q0 : 0 ≤ (q : Int) := by omega
      have q1 : (q : Int) < k := by omega
      clear hj own T acc hlt hq
      go_wp2_with fail
      refine (rgW.rAgo_any r A n c ((j : Int) + 1) _ (H.out.below HACC.out) HOK.out (by omega) (by omega)).mono ?_
      rintro e w2 ⟨rfl, hb2⟩
      have own2 := HO.out.below hb2 (Nat.le_refl _)
      have HT2 := Lib.hid (HT.out.past hb2)
      have HA2 := Lib.hid (HACC.out.trans (hb2.mono HACC.out.size))
      have p1 := own2.cell q (by rw [late_len r k j (by have := HQ.out; omega)]; exact HQ.out.1)
      have p2 := own2.frozen q
      have HS := Lib.hid (own2.store q (ago r ((j : Int) + 1)))
      rw [HSET.out] at HS
      clear own2 hb2 r0 r1 r2
      generalize ago r ((j : Int) + 1) = x at *
      go_wp2_with fail
      refine ⟨⟨j + 1, by have := HQ.out; omega, by first | rfl | go_num, HS.out, HT2.out.other (by have := HG.out; show g ≠ w.heap.size; omega) _, by have := HA2.out; have : w.heap.size ≤ g := (by have := HG.out; omega); (repeat' (first | (with_reducible exact Below.refl _ _) | (with_reducible assumption) | (with_reducible refine below_drewN ?_ _) | (with_reducible refine below_new ?_ _) | (with_reducible refine Below.alloc ?_ ?_ _) | (with_reducible refine Below.drew ?_) | (with_reducible refine Below.setCell ?_ ?_ _) | (with_reducible apply below_at; (case k => (with_reducible assumption)); (case hB => omega)) | (with_reducible apply below_on; (with_reducible assumption)) | (go_size; done) | (with_reducible apply size_of)))⟩, by simp [intOf]; have := HQ.out; omega⟩
    · have e : j = k := by omega
      subst e
      have HF : Hid (lateK r j j = lastL r j) := Lib.hid (by simp [lateK])
      have k1 : ¬ (j : Int) < j := by omega
      clear hj own T acc hlt
      go_wp2_with fail
      go_ret
      exact ⟨some ⟨g, 0, none⟩, j, rfl, .inl (by rw [← HF.out]; exact HO.out.mono (by have := HG.out; omega)), HACC.out⟩
set_option maxHeartbeats 2000000 in
theorem Spelt_any (l : List Int) (A : Option Addr) (n c : Nat) (w : World) (hA : Has .u8 w A l) (hl : l.length = n) (hn : n ≤ 1000) (hb : ∀ z ∈ l, 0 ≤ z ∧ z ≤ 255) :
    Calls Tryd.prog 23 #[.slice A n c] w fun e w' => ∃ A' m c', e = .returned (.slice A' m c') ∧ m = (speltL l).length ∧ OwnZ w' w.heap.size (.slice A' m c') (speltL l) ∧ Below w.heap.size w w' := by
  have HA := Lib.hid hA
  have HL := Lib.hid hl
  have HB := Lib.hid hb
  have HN := Lib.hid hn
  have n9 : (n : Int) ≤ 1000 := by omega
  clear hA hl hn hb
  go_enter Tryd.func23, Tryd.ntmps23
  go_wp2_with fail
  go_loopw [3, 4] (fun v i wr => ∃ (j t : Nat) (B : Option Addr) (d : Nat), j ≤ n ∧ i = .int .i64 ((j : Int) - 1) ∧ v = .slice B t d ∧ t = n - j ∧ sf l n n = sf l n j ∧ OwnZ wr w.heap.size (.slice B t d) ((l.drop j).map low) ∧ Below w.heap.size w wr) (fun _ i _ => (intOf i + 1).toNat)
  case atStart => exact ⟨n, 0, none, 0, Nat.le_refl _, rfl, rfl, by omega, rfl, by rw [List.drop_of_length_le (by rw [HL.out]; exact Nat.le_refl _)]; exact .inr ⟨rfl, _, rfl⟩, Below.refl _ _⟩
  case round =>
    obtain ⟨j, t, B, d, hj, rfl, rfl, ht, hs, own, acc⟩ := hrel
    have HJ := Lib.hid hj
    have HT := Lib.hid ht
    have HS := Lib.hid hs
    have HO := Lib.hid own
    have HACC := Lib.hid acc
    have t9 : (t : Int) ≤ 1000 := by omega
    rcases j with _ | j
    · have HF : Hid (((l.drop 0).map low) = speltL l) := Lib.hid (by unfold speltL; rw [HL.out, HS.out]; rfl)
      have HTL : Hid (t = (speltL l).length) := Lib.hid (by rw [← HF.out, HT.out]; simp [HL.out])
      have z1 : ((0 : Nat) : Int) - 1 = -1 := rfl
      clear hj ht hs own acc
      rw [z1]
      go_wp2_with fail
      go_ret
      exact ⟨B, t, d, rfl, HTL.out, by rw [← HF.out]; exact HO.out, HACC.out⟩
    · have j1 : ((j + 1 : Nat) : Int) - 1 = j := by omega
      have j0 : 0 ≤ (j : Int) := by omega
      have j2 : (j : Int) < n := by omega
      rw [j1]
      by_cases ht16 : t < 16
      · have t1 : (t : Int) < 16 := by omega
        obtain ⟨b, off, rfl, hbb, hcc⟩ := has_some HA.out (by rw [HL.out]; omega)
        have p1 := hcc j (by rw [HL.out]; omega)
        rw [← acc.cell (p := ⟨b, off + j, none⟩) hbb] at p1
        obtain ⟨x1, x2⟩ := at_bd HB.out j
        have HD : Hid ((l.drop j).map low = low (l.getD j 0) :: (l.drop (j + 1)).map low) := Lib.hid (by
          rw [List.drop_eq_getElem_cons (by rw [HL.out]; omega), List.getD_eq_getElem?_getD, List.getElem?_eq_getElem (by rw [HL.out]; omega)]
          rfl)
        cases hx : letB (l.getD j 0)
        · have HX := Lib.hid hx
          have HF : Hid (((l.drop (j + 1)).map low) = speltL l) := Lib.hid (by unfold speltL; rw [HL.out, HS.out, sf, if_neg (by rw [hx]; simp)])
          have HTL : Hid (t = (speltL l).length) := Lib.hid (by rw [← HF.out, HT.out]; simp [HL.out])
          generalize l.getD j 0 = x at *
          clear hj ht hs own acc hcc hx ht16
          go_wp2_with (go_at_call 22; refine (Letter_no x _ x1 x2 HX.out).mono ?_; rintro e w' ⟨rfl, rfl⟩)
          go_ret
          exact ⟨B, t, d, rfl, HTL.out, by rw [← HF.out]; exact HO.out, HACC.out⟩
        · have HX := Lib.hid hx
          have HNX : Hid (sf l n n = sf l n j) := Lib.hid (by rw [HS.out, sf, if_pos ⟨by omega, hx⟩])
          have HBD := Lib.hid (low_bd ⟨x1, x2⟩)
          generalize l.getD j 0 = x at *
          clear hj ht hs own acc hcc hx ht16
          go_wp2_with fail
          refine (Letter_yes x _ x1 x2 HX.out).mono ?_
          rintro e w' ⟨rfl, rfl⟩
          go_wp2_with (at_builtin; go_loud (refine app8 rfl _ _ rfl wr.heap.size _ [low x] rfl (OwnI.lit wr 5 .u8 [low x] wr.heap.size (Nat.le_refl _) (show 1 ≤ maxLen by decide)) B t d ((l.drop (j + 1)).map low) rfl (by have := HT.out; simp only [List.length_map, List.length_drop, HL.out]; omega) (HO.out.has.below ((Below.refl _ _).alloc (Nat.le_refl _) _) (Nat.le_refl _)) (t + 1) (by simp only [List.length_cons, List.length_nil]; omega) (by omega) (by simp) ?_); intro A4 c4 w4 ho4 hg4 hb4; have HO4 : Hid (OwnI w4 w.heap.size 5 .u8 (.slice A4 (t + 1) c4) ((l.drop j).map low)) := Lib.hid (by rw [HD.out]; exact ho4.mono HACC.out.size); have HB4 : Hid (Below w.heap.size w w4) := Lib.hid (HACC.out.trans ((((Below.refl _ _).alloc (Nat.le_refl _) _).trans hb4).mono HACC.out.size)); clear ho4 hg4 hb4)
          refine ⟨⟨j, t + 1, A4, c4, by have := HJ.out; omega, by first | rfl | go_num, rfl, by have := HT.out; have := HJ.out; omega, HNX.out, .inl HO4.out, HB4.out⟩, by simp [intOf]⟩
      · have t1 : ¬ (t : Int) < 16 := by omega
        have t2 : (16 : Int) ≤ t := by omega
        have HF : Hid (((l.drop (j + 1)).map low) = speltL l) := Lib.hid (by unfold speltL; rw [HL.out, HS.out, sf, if_neg (fun h => by omega)])
        have HTL : Hid (t = (speltL l).length) := Lib.hid (by rw [← HF.out, HT.out]; simp [HL.out])
        clear hj ht hs own acc ht16
        go_wp2_with fail
        go_ret
        exact ⟨B, t, d, rfl, HTL.out, by rw [← HF.out]; exact HO.out, HACC.out⟩
end Go.Proofs.YtpggdijhfdddpaaDoor.cxW
