/- Members checked: the program's. -/
import Derived.Test.YthckpenindchlaaMbW2
namespace Go.Proofs.Ythckpenindchlaa.mbW
set_option maxRecDepth 100000
open Go.RowKit Go.Proofs.Ythckpenindchlaa.base
set_option linter.unusedVariables false
set_option linter.unusedSimpArgs false
set_option maxRecDepth 100000
theorem mb_new (w : World) (o : Obj) : Below w.heap.size w (w.alloc o) := (Below.refl _ _).alloc (Nat.le_refl _) _
theorem mb_bb {a b c : World} (h : Below a.heap.size a b) (k : Below b.heap.size b c) : Below a.heap.size a c := h.trans (k.mono h.size)
set_option maxHeartbeats 3200000 in
theorem Check_any (ms : List Mb) (P : Option Addr) (m d : Nat) (w : World) (hR : MemB w P m d ms) :
    Calls Try.prog 23 #[.slice P m d] w fun e w' => e = .returned (.int .i64 (ckE ms)) ∧ Below w.heap.size w w' := by
  have m9 : (m : Int) ≤ 9223372036854775807 := by have := hR.c1; have := hR.c2; omega
  have HR := Lib.hid hR
  have HL := Lib.hid hR.l
  clear hR
  by_cases c1 : 16 < m
  · have HV := Lib.hid (ck_long (ms := ms) (by rw [HL.out]; exact c1))
    have c2 : (16 : Int) < m := by omega
    clear c1
    go_enter Try.func23, Try.ntmps23
    go_wp2_with fail
    go_ret
    exact ⟨by rw [HV.out]; rfl, Below.refl _ _⟩
  have HM : Hid (m ≤ 16) := Lib.hid (by omega)
  have c2 : ¬ (16 : Int) < m := by omega
  have m16 : (m : Int) ≤ 16 := by omega
  have H16 : Hid (¬ 16 < ms.length) := Lib.hid (by rw [HL.out]; exact c1)
  clear c1
  have kt := mkT m (by have := HM.out; omega)
  go_enter Try.func23, Try.ntmps23
  go_wp2_with fail
  go_loopw [3, 14] (fun sv iv wr => ∃ (k s : Nat), k ≤ m ∧ iv = .int .i64 (k : Int) ∧ sv = .int .i64 (s : Int) ∧ s = sumD (ms.take k) ∧ s ≤ 8192 ∧ Below w.heap.size w wr) (fun _ iv _ => m - (intOf iv).toNat)
  case atStart => exact ⟨0, 0, Nat.zero_le _, rfl, rfl, by simp [sumD], by omega, Below.refl _ _⟩
  case round =>
    obtain ⟨k, s, hk, rfl, rfl, hs, hs2, acc⟩ := hrel
    have HS := Lib.hid hs
    have HACC := Lib.hid acc
    have s0 : 0 ≤ (s : Int) := by omega
    have s9 : (s : Int) ≤ 8192 := by omega
    by_cases hlt : k < m
    · obtain ⟨b, off, rfl, hb⟩ := HR.out.h.some (by rw [HL.out]; omega)
      obtain ⟨x1, x2⟩ := memCell HR.out hlt acc
      have hin := memIn HR.out hlt
      have HK := Lib.hid hlt
      have HSN := Lib.hid (sumD_snoc ms k (by rw [HL.out]; exact hlt))
      have HTK := Lib.hid (sumD_take ms (k + 1))
      have k1 : (k : Int) < m := by omega
      have k0 : 0 ≤ (k : Int) := by omega
      generalize ms.getD k mb0 = q at *
      obtain ⟨nm, rA, rn, rc, rb⟩ := q
      have r9 : (rn : Int) ≤ 9223372036854775807 := by have h1 := hin.c1; have h2 := hin.c2; dsimp only at h1 h2; omega
      have r0 : 0 ≤ (rn : Int) := by omega
      dsimp only at x1 x2 HSN
      clear hin hk hs hs2 hlt acc hb
      have HMS : Hid (s + rn = sumD (ms.take (k + 1))) := Lib.hid (by rw [HSN.out, HS.out])
      by_cases cs : 8192 < s + rn
      · have d1 : 8192 - (s : Int) < rn := by omega
        have HV := Lib.hid (ck_sum (ms := ms) H16.out (by have := HMS.out; have := HTK.out; omega))
        clear cs
        go_wp2_with fail
        go_ret
        exact ⟨by rw [HV.out]; rfl, mb_bb HACC.out (mb_new _ _)⟩
      · have d1 : ¬ 8192 - (s : Int) < rn := by omega
        have HCS := Lib.hid cs
        clear cs
        go_wp2_with fail
        go_roundw
        case rel => exact ⟨k + 1, s + rn, HK.out, by go_num, by go_num, HMS.out, by have := HCS.out; omega, mb_bb HACC.out (mb_new _ _)⟩
        case measure => simp [intOf]; have := HK.out; omega
    · have k1 : ¬ (k : Int) < m := by omega
      have H8 : Hid (¬ 8192 < sumD ms) := Lib.hid (by rw [List.take_of_length_le (by rw [HL.out]; omega)] at hs; omega)
      clear hk hs hs2 hlt acc HS
      go_wp2_with fail
      have BT := Lib.hid (mb_bb HACC.out (mb_new wr (.cells (tCells m) 9)))
      have OT := Lib.hid (own_t wr m (by have := HM.out; omega) (Nat.le_refl _) rfl)
      have HG := Lib.hid HACC.out.size
      generalize (wr.alloc (.cells (tCells m) 9)) = w1 at *
      obtain ⟨g, hg⟩ : ∃ g, wr.heap.size = g := ⟨_, rfl⟩
      rw [hg] at OT HG ⊢
      clear kt hg
      have HSM : Hid (fillT (nms ms) 0 = List.replicate m .empty) := Lib.hid (by rw [fillT_zero, nms_len, HL.out])
      go_loopw [35] (fun iv wq => ∃ k : Nat, k ≤ m ∧ iv = .int .i64 (k : Int) ∧ (∀ j, j < k → nmB (ms.getD j mb0).nm = true) ∧ OwnT wq g (.slice (some ⟨g, 0, none⟩) m m) (fillT (nms ms) k) ∧ Below w.heap.size w wq) (fun iv _ => m - (intOf iv).toNat)
      case atStart => exact ⟨0, Nat.zero_le _, rfl, by intro j hj; omega, by rw [HSM.out]; exact OT.out, BT.out⟩
      case round =>
        clear OT BT HSM
        obtain ⟨k, hk, rfl, hs, own, acc⟩ := hrel
        rename World => wq
        have HS := Lib.hid hs
        have HO := Lib.hid own
        have HACC := Lib.hid acc
        by_cases hlt : k < m
        · obtain ⟨b, off, rfl, hb⟩ := HR.out.h.some (by rw [HL.out]; omega)
          obtain ⟨x1, x2⟩ := memCell HR.out hlt acc
          have HK := Lib.hid hlt
          have HBD := Lib.hid (fun h => ck_bad (ms := ms) (k := k) H16.out H8.out (by rw [HL.out]; exact hlt) h)
          have HFS := Lib.hid (fillT_set (ss := nms ms) (k := k) (by rw [nms_len, HL.out]; exact hlt))
          rw [nms_get ms (by rw [HL.out]; exact hlt)] at HFS
          have k1 : (k : Int) < m := by omega
          have k0 : 0 ≤ (k : Int) := by omega
          generalize hq : ms.getD k mb0 = q at *
          obtain ⟨nm, rA, rn, rc, rb⟩ := q
          have HQ := Lib.hid hq
          dsimp only at x1 x2 HBD HFS
          clear hk hs hlt own acc hb hq
          go_wp2_with fail
          refine (isName_any nm _).mono ?_
          rintro e _ ⟨rfl, rfl⟩
          cases hn : nmB nm
          · have HV := Lib.hid (HBD.out hn)
            clear hn
            go_wp2_with fail
            go_ret
            exact ⟨by rw [HV.out]; rfl, mb_bb HACC.out (mb_new _ _)⟩
          · have HNM := Lib.hid hn
            clear hn x1 x2
            have G := mb_new wq (.cells #[.string nm, .slice rA rn rc] 53)
            have L := Lies.fresh wq 53 [.string nm, .slice rA rn rc]
            have O1 := Lib.hid (HO.out.past G)
            have B1 := Lib.hid (mb_bb HACC.out G)
            have x3 := L.cell 0
            generalize (wq.alloc (.cells #[.string nm, .slice rA rn rc] 53)) = wz at *
            obtain ⟨b2, off2, e2, -, hc2⟩ := O1.out.has.some (by rw [fillT_len (by rw [nms_len, HL.out]; have := HK.out; omega), nms_len, HL.out]; have := HK.out; omega)
            injection e2 with e2
            injection e2 with e2 e3
            subst e2 e3
            have f1 := O1.out.frozen k
            have c1 := hc2 k (by rw [fillT_len (by rw [nms_len, HL.out]; have := HK.out; omega), nms_len, HL.out]; exact HK.out)
            rw [Nat.zero_add] at c1
            generalize (fillT (nms ms) k).getD k .empty = old at *
            clear G L hc2 HO HACC
            go_wp2_with fail
            go_roundw
            case rel =>
              refine ⟨k + 1, HK.out, by go_num, fun j hj => ?_, by rw [← HFS.out]; exact O1.out.store k nm, B1.out.setCell (p := ⟨g, k, none⟩) HG.out _⟩
              rcases Nat.lt_or_ge j k with h | h
              · exact HS.out j h
              · have : j = k := by omega
                subst this; rw [HQ.out]; exact HNM.out
            case measure => simp [intOf]; have := HK.out; omega
        · have k1 : ¬ (k : Int) < m := by omega
          have HT2 : Hid (HasT wq (some ⟨g, 0, none⟩) (nms ms)) := Lib.hid (by have := own.has; rw [fillT_all (by rw [nms_len, HL.out]; omega)] at this; exact this)
          have HV := Lib.hid (ck_ok (ms := ms) H16.out H8.out (fun j hj => hs j (by rw [HL.out] at hj; omega)))
          clear hk hs hlt own acc
          go_wp2_with fail
          refine (twice_any (nms ms) (some ⟨g, 0, none⟩) m m _ HT2.out (by rw [nms_len, HL.out]) (Nat.le_refl _) (by have := HM.out; omega)).mono ?_
          rintro e _ ⟨rfl, rfl⟩
          go_wp2_with fail
          go_ret
          exact ⟨by rw [HV.out]; rfl, HACC.out⟩
end Go.Proofs.Ythckpenindchlaa.mbW
