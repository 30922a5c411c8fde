/- Letters and words of the program and of the reference, by walks. -/
import Derived.Test.YtpggdijhfdddpaaDoorCxPlain
import Derived.Test.YtpggdijhfdddpaaDoorOwnZ
import Derived.Test.YtpggdijhfdddpaaDoorRgW14
import Derived.BigQuiet
import Derived.Handy
import Derived.IntWalk
import Derived.Lib.Hide
namespace Go.Proofs.YtpggdijhfdddpaaDoor.cxW
open Go.RowKit Go.Proofs.YtpggdijhfdddpaaDoor.base Go.Proofs.YtpggdijhfdddpaaDoor.rgP Go.Proofs.YtpggdijhfdddpaaDoor.cxP
set_option linter.unusedVariables false
set_option linter.unusedSimpArgs false
set_option maxHeartbeats 1000000 in
theorem isLetter_any (c : Int) (w : World) (h0 : 0 ≤ c) (h1 : c ≤ 255) : Calls Tryd.prog 41 #[.int .u8 c] w fun e w' => e = .returned (.bool (letB c)) ∧ w = w' := by
  obtain ⟨x, hx⟩ : ∃ x, letB c = x := ⟨_, rfl⟩
  rw [hx]
  have HX := Lib.hid hx
  clear hx
  by_cases a : 65 ≤ c
  · by_cases b : c ≤ 90
    · have HV : Hid (x = true) := Lib.hid (by rw [← HX.out, letB, decide_eq_true a, decide_eq_true b]; rfl)
      go_enter Tryd.func41, Tryd.ntmps41
      go_wp2_with fail
      go_ret
      exact ⟨retb HV.out.symm, rfl⟩
    · have b' : 90 < c := by omega
      have bd : decide (c ≤ 90) = false := decide_eq_false (by omega)
      by_cases d : 97 ≤ c
      · by_cases f : c ≤ 122
        · have HV : Hid (x = true) := Lib.hid (by rw [← HX.out, letB, decide_eq_true d, decide_eq_true f]; simp)
          go_enter Tryd.func41, Tryd.ntmps41
          go_wp2_with fail
          go_ret
          exact ⟨retb HV.out.symm, rfl⟩
        · have f' : 122 < c := by omega
          have fd : decide (c ≤ 122) = false := decide_eq_false (by omega)
          have HV : Hid (x = false) := Lib.hid (by rw [← HX.out, letB, decide_eq_false b, decide_eq_false f]; simp)
          clear b f
          go_enter Tryd.func41, Tryd.ntmps41
          go_wp2_with fail
          go_ret
          exact ⟨retb HV.out.symm, rfl⟩
      · have d' : c < 97 := by omega
        have dd : decide (97 ≤ c) = false := decide_eq_false (by omega)
        have HV : Hid (x = false) := Lib.hid (by rw [← HX.out, letB, decide_eq_false b, decide_eq_false d]; simp)
        clear b d
        go_enter Tryd.func41, Tryd.ntmps41
        go_wp2_with fail
        go_ret
        exact ⟨retb HV.out.symm, rfl⟩
  · have a' : c < 65 := by omega
    have d' : c < 97 := by omega
    have ad : decide (65 ≤ c) = false := decide_eq_false (by omega)
    have dd : decide (97 ≤ c) = false := decide_eq_false (by omega)
    have HV : Hid (x = false) := Lib.hid (by rw [← HX.out, letB, decide_eq_false a, decide_eq_false (show ¬ 97 ≤ c by omega)]; rfl)
    clear a
    go_enter Tryd.func41, Tryd.ntmps41
    go_wp2_with fail
    go_ret
    exact ⟨retb HV.out.symm, rfl⟩
set_option maxHeartbeats 1000000 in
theorem Letter_yes (c : Int) (w : World) (h0 : 0 ≤ c) (h1 : c ≤ 255) (h : letB c = true) : Calls Tryd.prog 22 #[.int .u8 c] w fun e w' => e = .returned (.tuple #[.int .u8 (low c), .bool true]) ∧ w = w' := by
  by_cases b : c ≤ 90
  · have a : 65 ≤ c := by simp [letB] at h; omega
    have HV : Hid (low c = c + 32) := Lib.hid (by rw [low, if_pos b])
    clear h
    go_enter Tryd.func22, Tryd.ntmps22
    go_wp2_with fail
    go_ret2
    exact ⟨by rw [HV.out]; rfl, rfl⟩
  · have d : 97 ≤ c := by simp [letB] at h; omega
    have f : c ≤ 122 := by simp [letB] at h; omega
    have b' : 90 < c := by omega
    have bd : decide (c ≤ 90) = false := decide_eq_false (by omega)
    have a : 65 ≤ c := by omega
    have HV : Hid (low c = c) := Lib.hid (by rw [low, if_neg b])
    clear h b
    go_enter Tryd.func22, Tryd.ntmps22
    go_wp2_with fail
    go_ret2
    exact ⟨by rw [HV.out]; rfl, rfl⟩
set_option maxHeartbeats 1000000 in
theorem Letter_no (c : Int) (w : World) (h0 : 0 ≤ c) (h1 : c ≤ 255) (h : letB c = false) : Calls Tryd.prog 22 #[.int .u8 c] w fun e w' => e = .returned (.tuple #[.int .u8 c, .bool false]) ∧ w = w' := by
  by_cases a : 65 ≤ c
  · have b : 90 < c := by simp [letB] at h; omega
    have bd : decide (c ≤ 90) = false := decide_eq_false (by omega)
    by_cases d : 97 ≤ c
    · have f : 122 < c := by simp [letB] at h; omega
      have fd : decide (c ≤ 122) = false := decide_eq_false (by omega)
      clear h
      go_enter Tryd.func22, Tryd.ntmps22
      go_wp2_with fail
      go_ret2
      exact ⟨rfl, rfl⟩
    · have d' : c < 97 := by omega
      have dd : decide (97 ≤ c) = false := decide_eq_false (by omega)
      clear h d
      go_enter Tryd.func22, Tryd.ntmps22
      go_wp2_with fail
      go_ret2
      exact ⟨rfl, rfl⟩
  · have a' : c < 65 := by omega
    have d' : c < 97 := by omega
    have ad : decide (65 ≤ c) = false := decide_eq_false (by omega)
    have dd : decide (97 ≤ c) = false := decide_eq_false (by omega)
    clear h a
    go_enter Tryd.func22, Tryd.ntmps22
    go_wp2_with fail
    go_ret2
    exact ⟨rfl, rfl⟩
set_option maxHeartbeats 2000000 in
theorem word_any (l : List Int) (A : Option Addr) (n c : Nat) (w : World) (hA : Has .u8 w A l) (hl : l.length = n) (hc : n ≤ c) (hn : n ≤ 1000) (hb : ∀ z ∈ l, 0 ≤ z ∧ z ≤ 255) :
    Calls Tryd.prog 27 #[.slice A n c] w fun e w' => ∃ A' m c', e = .returned (.slice A' m c') ∧ m = (wordL l).length ∧ OwnZ w' w.heap.size (.slice A' m c') (wordL l) ∧ Below w.heap.size w w' := by
  have HA := Lib.hid hA
  have HL := Lib.hid hl
  have HC := Lib.hid (And.intro hc hn)
  have HB := Lib.hid hb
  have n9 : (n : Int) ≤ 1000 := by omega
  clear hA hl hc hn hb
  go_enter Tryd.func27, Tryd.ntmps27
  go_wp2_with fail
  go_loopw [3] (fun i wr => ∃ k : Nat, k ≤ n ∧ i = .int .i64 k ∧ wf l n = wf l k ∧ Below w.heap.size w wr) (fun i _ => (intOf i).toNat)
  case atStart => exact ⟨n, Nat.le_refl _, rfl, rfl, Below.refl _ _⟩
  case round =>
    obtain ⟨k, hk, rfl, hf, acc⟩ := hrel
    have HF := Lib.hid hf
    have HACC := Lib.hid acc
    have k9 : (k : Int) ≤ n := by omega
    have HK := Lib.hid hk
    by_cases hz : k = 0
    · subst hz
      have HW : Hid (wf l n = 0) := Lib.hid (by rw [HF.out]; rfl)
      have HHD : Hid (Has .u8 wr A (l.drop 0)) := Lib.hid (by rw [List.drop_zero]; exact HA.out.below acc (Nat.le_refl _))
      have c0 : (0 : Int) ≤ c := by omega
      have HWL : Hid ((l.drop (0)).map low = wordL l) := Lib.hid (by unfold wordL; rw [HL.out, HW.out])
      have HDL : Hid ((l.drop (0)).length = n - (0)) := Lib.hid (by rw [List.length_drop, HL.out])
      have HYB : Hid (∀ z ∈ l.drop (0), 0 ≤ z ∧ z ≤ 255) := Lib.hid (fun z hz => HB.out z (List.mem_of_mem_drop hz))
      obtain ⟨ys, hys⟩ : ∃ ys, l.drop (0) = ys := ⟨_, rfl⟩
      rw [hys] at HWL HDL HYB HHD
      clear hys
      obtain ⟨m, hm⟩ : ∃ m, n - (0) = m := ⟨_, rfl⟩
      rw [hm] at HDL
      have HM := Lib.hid hm
      have m9 : (m : Int) ≤ 1000 := by omega
      have hm0 : m = n := by omega
      clear hm
      subst hm0
      clear hf acc hk k9
      go_wp2_with fail
      refine (Clone8 HHD.out HDL.out (by have := HC.out; have := HM.out; omega) (by omega)).mono ?_
      rintro e w1 ⟨A1, c1, rfl, -, own1, hb1⟩
      have HO1 := Lib.hid own1
      have HB1 := Lib.hid hb1
      clear own1 hb1
      go_wp2_with fail
      go_loopw [27] (fun i wr => ∃ j : Nat, j ≤ m ∧ i = .int .i64 j ∧ OwnZ wr w.heap.size (.slice A1 m c1) (mixW ys j) ∧ Below w.heap.size w wr) (fun i _ => m - (intOf i).toNat)
      case atStart => exact ⟨0, Nat.zero_le _, rfl, by rw [mixW_0]; exact HO1.out.mono HACC.out.size, HACC.out.trans (HB1.out.mono HACC.out.size)⟩
      case round =>
        clear HO1 HB1 HACC
        obtain ⟨q, hq, rfl, own, acc⟩ := hrel
        have HACC := Lib.hid acc
        have HQ := Lib.hid hq
        by_cases hlt : q < m
        · obtain ⟨g, rfl, hg1, hg2, own'⟩ := rgW.OwnZ.head own (by intro e; have := congrArg List.length e; rw [mixW_len, HDL.out] at this; simp at this; omega)
          have HG : Hid (w.heap.size ≤ g) := Lib.hid hg1
          have hq2 : q < ys.length := by rw [HDL.out]; exact hlt
          have p1 := own'.cell q (by rw [mixW_len]; exact hq2)
          rw [mixW_at ys q hq2] at p1
          have p2 := own'.frozen q
          obtain ⟨x1, x2⟩ := at_bd HYB.out q
          have k1 : (q : Int) < m := by omega
          have k0 : 0 ≤ (q : Int) := by omega
          have HO := Lib.hid own'
          have HLT := Lib.hid hlt
          by_cases hx : ys.getD q 0 ≤ 90
          · have HS : Hid (OwnI (World.setCell _ ⟨g, q, none⟩ (.int .u8 (ys.getD q 0 + 32))) w.heap.size 5 .u8 (.slice (some ⟨g, 0, none⟩) m c1) (mixW ys (q + 1))) := Lib.hid (by
              have := own'.store q (ys.getD q 0 + 32)
              rw [show ys.getD q 0 + 32 = low (ys.getD q 0) by rw [low, if_pos hx]] at this ⊢
              rw [mixW_set ys q hq2] at this
              exact this)
            generalize ys.getD q 0 = x at *
            clear hq own own' acc hlt hq2
            go_wp2_with fail
            refine ⟨⟨q + 1, by have := HLT.out; omega, by first | rfl | go_num, .inl HS.out, by have := HACC.out; have := HG.out; (repeat' (first | (with_reducible exact Below.refl _ _) | (with_reducible assumption) | (with_reducible refine below_drewN ?_ _) | (with_reducible refine below_new ?_ _) | (with_reducible refine Below.alloc ?_ ?_ _) | (with_reducible refine Below.drew ?_) | (with_reducible refine Below.setCell ?_ ?_ _) | (with_reducible apply below_at; (case k => (with_reducible assumption)); (case hB => omega)) | (with_reducible apply below_on; (with_reducible assumption)) | (go_size; done) | (with_reducible apply size_of)))⟩, by simp [intOf]; have := HLT.out; omega⟩
          · have HS := Lib.hid (mixW_same ys q hq2 (by rw [low, if_neg hx]))
            have hx' : 90 < ys.getD q 0 := by omega
            generalize ys.getD q 0 = x at *
            clear hq own own' acc hlt hq2 hx
            go_wp2_with fail
            refine ⟨⟨q + 1, by have := HLT.out; omega, by first | rfl | go_num, by rw [HS.out]; exact .inl HO.out, HACC.out⟩, by simp [intOf]; have := HLT.out; omega⟩
        · have e : q = m := by omega
          subst e
          have HF2 : Hid (mixW ys q = wordL l) := Lib.hid (by rw [mixW_all ys q (by rw [HDL.out]; exact Nat.le_refl _)]; exact HWL.out)
          have HO := Lib.hid own
          have k1 : ¬ (q : Int) < q := by omega
          clear hq own acc hlt
          go_wp2_with fail
          go_ret
          exact ⟨A1, q, c1, rfl, by rw [← HF2.out, mixW_len, HDL.out], by rw [← HF2.out]; exact HO.out, HACC.out⟩
    · obtain ⟨j, rfl⟩ : ∃ j, k = j + 1 := ⟨k - 1, by omega⟩
      clear hz
      obtain ⟨b, off, rfl, hbb, hcc⟩ := has_some HA.out (by rw [HL.out]; omega)
      have p1 := hcc j (by rw [HL.out]; omega)
      rw [← acc.cell (p := ⟨b, off + j, none⟩) hbb] at p1
      obtain ⟨x1, x2⟩ := at_bd HB.out j
      have j1 : ((j + 1 : Nat) : Int) - 1 = j := by omega
      have j2 : 0 < ((j + 1 : Nat) : Int) := by omega
      have j3 : (j : Int) < n := by omega
      have j4 : ((j : Int) + 1) - 1 = j := by omega
      have hhd := (HA.out.below acc (Nat.le_refl _)).dropAt (j + 1)
      have HHD := Lib.hid hhd
      by_cases hx : letB (l.getD j 0) = true
      · have HX := Lib.hid hx
        have HNX : Hid (wf l n = wf l j) := Lib.hid (by rw [HF.out, wf, if_pos hx])
        generalize l.getD j 0 = x at *
        clear hf acc hk k9 hcc hhd hx
        go_wp2_with (go_at_call 41; refine (isLetter_any x _ x1 x2).mono ?_; rintro e w' ⟨rfl, rfl⟩; rw [HX.out])
        refine ⟨⟨j, by have := HK.out; omega, by first | rfl | go_num | (simp), HNX.out, HACC.out⟩, by simp [intOf]⟩
      · have HX : Hid (letB (l.getD j 0) = false) := Lib.hid (by simpa using hx)
        have HW : Hid (wf l n = j + 1) := Lib.hid (by rw [HF.out, wf, if_neg hx])
        generalize l.getD j 0 = x at *
        have q1 : ((j : Int) + 1) ≤ c := by have := HC.out; have := HK.out; omega
        have q2 : ((j : Int) + 1) ≤ n := by have := HK.out; omega
        obtain ⟨D, hD⟩ : ∃ D : Option Addr, (if c = j + 1 then some (⟨b, off, none⟩ : Addr) else some ⟨b, off + (j + 1), none⟩) = D := ⟨_, rfl⟩
        have HHD : Hid (Has .u8 wr D (l.drop (j + 1))) := Lib.hid (by
          rw [← hD]
          split
          · exact has_gone (by rw [HL.out]; have := HC.out; omega)
          · exact HHD.out)
        have HWL : Hid ((l.drop (j + 1)).map low = wordL l) := Lib.hid (by unfold wordL; rw [HL.out, HW.out])
        have HDL : Hid ((l.drop (j + 1)).length = n - (j + 1)) := Lib.hid (by rw [List.length_drop, HL.out])
        have HYB : Hid (∀ z ∈ l.drop (j + 1), 0 ≤ z ∧ z ≤ 255) := Lib.hid (fun z hz => HB.out z (List.mem_of_mem_drop hz))
        obtain ⟨ys, hys⟩ : ∃ ys, l.drop (j + 1) = ys := ⟨_, rfl⟩
        rw [hys] at HWL HDL HYB HHD
        clear hys
        obtain ⟨m, hm⟩ : ∃ m, n - (j + 1) = m := ⟨_, rfl⟩
        rw [hm] at HDL
        have HM := Lib.hid hm
        have m9 : (m : Int) ≤ 1000 := by omega
        clear hf acc hk k9 hcc hhd hx
        go_wp2_with (go_at_call 41; refine (isLetter_any x _ x1 x2).mono ?_; rintro e w' ⟨rfl, rfl⟩; rw [HX.out])
        refine (Clone8 HHD.out HDL.out (by have := HC.out; have := HM.out; omega) (by omega)).mono ?_
        rintro e w1 ⟨A1, c1, rfl, -, own1, hb1⟩
        have HO1 := Lib.hid own1
        have HB1 := Lib.hid hb1
        clear own1 hb1
        go_wp2_with fail
        go_loopw [27] (fun i wr => ∃ j : Nat, j ≤ m ∧ i = .int .i64 j ∧ OwnZ wr w.heap.size (.slice A1 m c1) (mixW ys j) ∧ Below w.heap.size w wr) (fun i _ => m - (intOf i).toNat)
        case atStart => exact ⟨0, Nat.zero_le _, rfl, by rw [mixW_0]; exact HO1.out.mono HACC.out.size, HACC.out.trans (HB1.out.mono HACC.out.size)⟩
        case round =>
          clear HO1 HB1 HACC
          obtain ⟨q, hq, rfl, own, acc⟩ := hrel
          have HACC := Lib.hid acc
          have HQ := Lib.hid hq
          by_cases hlt : q < m
          · obtain ⟨g, rfl, hg1, hg2, own'⟩ := rgW.OwnZ.head own (by intro e; have := congrArg List.length e; rw [mixW_len, HDL.out] at this; simp at this; omega)
            have HG : Hid (w.heap.size ≤ g) := Lib.hid hg1
            have hq2 : q < ys.length := by rw [HDL.out]; exact hlt
            have p1 := own'.cell q (by rw [mixW_len]; exact hq2)
            rw [mixW_at ys q hq2] at p1
            have p2 := own'.frozen q
            obtain ⟨x1, x2⟩ := at_bd HYB.out q
            have k1 : (q : Int) < m := by omega
            have k0 : 0 ≤ (q : Int) := by omega
            have HO := Lib.hid own'
            have HLT := Lib.hid hlt
            by_cases hx : ys.getD q 0 ≤ 90
            · have HS : Hid (OwnI (World.setCell _ ⟨g, q, none⟩ (.int .u8 (ys.getD q 0 + 32))) w.heap.size 5 .u8 (.slice (some ⟨g, 0, none⟩) m c1) (mixW ys (q + 1))) := Lib.hid (by
                have := own'.store q (ys.getD q 0 + 32)
                rw [show ys.getD q 0 + 32 = low (ys.getD q 0) by rw [low, if_pos hx]] at this ⊢
                rw [mixW_set ys q hq2] at this
                exact this)
              generalize ys.getD q 0 = x at *
              clear hq own own' acc hlt hq2
              go_wp2_with fail
              refine ⟨⟨q + 1, by have := HLT.out; omega, by first | rfl | go_num, .inl HS.out, by have := HACC.out; have := HG.out; (repeat' (first | (with_reducible exact Below.refl _ _) | (with_reducible assumption) | (with_reducible refine below_drewN ?_ _) | (with_reducible refine below_new ?_ _) | (with_reducible refine Below.alloc ?_ ?_ _) | (with_reducible refine Below.drew ?_) | (with_reducible refine Below.setCell ?_ ?_ _) | (with_reducible apply below_at; (case k => (with_reducible assumption)); (case hB => omega)) | (with_reducible apply below_on; (with_reducible assumption)) | (go_size; done) | (with_reducible apply size_of)))⟩, by simp [intOf]; have := HLT.out; omega⟩
            · have HS := Lib.hid (mixW_same ys q hq2 (by rw [low, if_neg hx]))
              have hx' : 90 < ys.getD q 0 := by omega
              generalize ys.getD q 0 = x at *
              clear hq own own' acc hlt hq2 hx
              go_wp2_with fail
              refine ⟨⟨q + 1, by have := HLT.out; omega, by first | rfl | go_num, by rw [HS.out]; exact .inl HO.out, HACC.out⟩, by simp [intOf]; have := HLT.out; omega⟩
          · have e : q = m := by omega
            subst e
            have HF2 : Hid (mixW ys q = wordL l) := Lib.hid (by rw [mixW_all ys q (by rw [HDL.out]; exact Nat.le_refl _)]; exact HWL.out)
            have HO := Lib.hid own
            have k1 : ¬ (q : Int) < q := by omega
            clear hq own acc hlt
            go_wp2_with fail
            go_ret
            exact ⟨A1, q, c1, rfl, by rw [← HF2.out, mixW_len, HDL.out], by rw [← HF2.out]; exact HO.out, HACC.out⟩
end Go.Proofs.YtpggdijhfdddpaaDoor.cxW
