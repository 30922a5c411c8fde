/- Members checked: the reference's. -/
import Derived.Test.YthckpenindchlaaMbW3
namespace Go.Proofs.Ythckpenindchlaa.mbW
set_option maxRecDepth 100000
open Go.RowKit Go.Proofs.Ythckpenindchlaa.base
set_option linter.unusedVariables false
set_option linter.unusedSimpArgs false
set_option maxRecDepth 100000
set_option maxHeartbeats 6400000 in
theorem rCheck_any (ms : List Mb) (P : Option Addr) (m d : Nat) (w : World) (hR : MemB w P m d ms) (hN : ∀ k, k < m → (ms.getD k mb0).r.n ≤ 10000) :
    Calls Try.prog 25 #[.slice P m d] w fun e w' => e = .returned (.int .i64 (ckE ms)) ∧ Below w.heap.size w w' := by
  have m9 : (m : Int) ≤ 9223372036854775807 := by have := hR.c1; have := hR.c2; omega
  have HR := Lib.hid hR
  have HL := Lib.hid hR.l
  have HN := Lib.hid hN
  clear hR hN
  by_cases c1 : 16 < m
  · have HV := Lib.hid (ck_long (ms := ms) (by rw [HL.out]; exact c1))
    have c2 : (16 : Int) < m := by omega
    clear c1
    go_enter Try.func25, Try.ntmps25
    go_wp2_with fail
    go_ret
    exact ⟨by rw [HV.out]; rfl, Below.refl _ _⟩
  have HM : Hid (m ≤ 16) := Lib.hid (by omega)
  have c2 : ¬ (16 : Int) < m := by omega
  have m16 : (m : Int) ≤ 16 := by omega
  have H16 : Hid (¬ 16 < ms.length) := Lib.hid (by rw [HL.out]; exact c1)
  clear c1
  go_enter Try.func25, Try.ntmps25
  go_wp2_with fail
  go_loopw [3, 4] (fun sv iv wr => ∃ (k s : Nat), k ≤ m ∧ iv = .int .i64 (k : Int) ∧ sv = .int .i64 (s : Int) ∧ s = sumD (ms.take k) ∧ s ≤ 10000 * k ∧ wr = w) (fun _ iv _ => m - (intOf iv).toNat)
  case atStart => exact ⟨0, 0, Nat.zero_le _, rfl, rfl, by simp [sumD], by omega, rfl⟩
  case round =>
    obtain ⟨k, s, hk, rfl, rfl, hs, hs2, hw⟩ := hrel
    subst hw
    have HS := Lib.hid hs
    have HS2 := Lib.hid hs2
    have s0 : 0 ≤ (s : Int) := by omega
    have s9 : (s : Int) ≤ 160000 := by have := HM.out; omega
    by_cases hlt : k < m
    · obtain ⟨b, off, rfl, hb⟩ := HR.out.h.some (by rw [HL.out]; omega)
      obtain ⟨x1, x2⟩ := memCell HR.out hlt (Below.refl _ _)
      have hn := HN.out k hlt
      have HK := Lib.hid hlt
      have HSN := Lib.hid (sumD_snoc ms k (by rw [HL.out]; exact hlt))
      have k1 : (k : Int) < m := by omega
      have k0 : 0 ≤ (k : Int) := by omega
      generalize ms.getD k mb0 = q at *
      obtain ⟨nm, rA, rn, rc, rb⟩ := q
      dsimp only at x1 x2 HSN hn
      have r9 : (rn : Int) ≤ 10000 := by omega
      have r0 : 0 ≤ (rn : Int) := by omega
      have HRN := Lib.hid hn
      clear hk hs hs2 hlt hb hn
      have HMS : Hid (s + rn = sumD (ms.take (k + 1))) := Lib.hid (by rw [HSN.out, HS.out])
      go_wp2_with fail
      go_roundw
      case rel => exact ⟨k + 1, s + rn, HK.out, by go_num, by go_num, HMS.out, by have := HS2.out; have := HRN.out; omega, by trivial⟩
      case measure => simp [intOf]; have := HK.out; omega
    · have k1 : ¬ (k : Int) < m := by omega
      have HSD : Hid (s = sumD ms) := Lib.hid (by rw [hs, List.take_of_length_le (by rw [HL.out]; omega)])
      clear hk hs hs2 hlt HS HS2
      by_cases cs : 8192 < s
      · have d1 : (8192 : Int) < s := by omega
        have HV := Lib.hid (ck_sum (ms := ms) H16.out (by rw [← HSD.out]; exact cs))
        clear cs
        go_wp2_with fail
        go_ret
        exact ⟨by rw [HV.out]; rfl, Below.refl _ _⟩
      have d1 : ¬ (8192 : Int) < s := by omega
      have H8 : Hid (¬ 8192 < sumD ms) := Lib.hid (by rw [← HSD.out]; exact cs)
      clear cs HSD
      go_wp2_with fail
      go_loopw [5] (fun iv wq => ∃ k : Nat, k ≤ m ∧ iv = .int .i64 (k : Int) ∧ (∀ j, j < k → nmB (ms.getD j mb0).nm = true) ∧ wq = wr) (fun iv _ => m - (intOf iv).toNat)
      case atStart => exact ⟨0, Nat.zero_le _, rfl, by intro j hj; omega, rfl⟩
      case round =>
        clear k1
        obtain ⟨k, hk, rfl, hs, hwq⟩ := hrel
        subst hwq
        have HS := Lib.hid hs
        by_cases hlt : k < m
        · obtain ⟨b, off, rfl, hb⟩ := HR.out.h.some (by rw [HL.out]; omega)
          obtain ⟨x1, x2⟩ := memCell HR.out hlt (Below.refl _ _)
          have HK := Lib.hid hlt
          have HBD := Lib.hid (fun h => ck_bad (ms := ms) (k := k) H16.out H8.out (by rw [HL.out]; exact hlt) h)
          have k1 : (k : Int) < m := by omega
          have k0 : 0 ≤ (k : Int) := by omega
          generalize hq : ms.getD k mb0 = q at *
          obtain ⟨nm, rA, rn, rc, rb⟩ := q
          have HQ := Lib.hid hq
          dsimp only at x1 x2 HBD
          clear hk hs hlt hb hq
          go_wp2_with fail
          refine (Name_any nm _).mono ?_
          rintro e _ ⟨rfl, rfl⟩
          cases hn : nmB nm
          · have HV := Lib.hid (HBD.out hn)
            clear hn
            go_wp2_with fail
            go_ret
            exact ⟨by rw [HV.out]; rfl, Below.refl _ _⟩
          · have HNM := Lib.hid hn
            clear hn x1 x2
            go_wp2_with fail
            go_roundw
            case rel =>
              refine ⟨k + 1, HK.out, by go_num, fun j hj => ?_, by trivial⟩
              rcases Nat.lt_or_ge j k with h | h
              · exact HS.out j h
              · have : j = k := by omega
                subst this; rw [HQ.out]; exact HNM.out
            case measure => simp [intOf]; have := HK.out; omega
        · have k1 : ¬ (k : Int) < m := by omega
          have HV := Lib.hid (ck_ok (ms := ms) H16.out H8.out (fun j hj => hs j (by rw [HL.out] at hj; omega)))
          clear hk hs hlt
          go_wp2_with fail
          rename World => wz
          go_loopw [6] (fun iv wq => ∃ i : Nat, i ≤ m ∧ iv = .int .i64 (i : Int) ∧ (∀ j, j < i → ∀ k, k < j → (ms.getD j mb0).nm ≠ (ms.getD k mb0).nm) ∧ Below wz.heap.size wz wq) (fun iv _ => m - (intOf iv).toNat)
          case atStart => exact ⟨0, Nat.zero_le _, rfl, by intro j hj; omega, Below.refl _ _⟩
          case round =>
            clear k1
            obtain ⟨i, hi, rfl, hs, acc⟩ := hrel
            rename World => wi
            have HS := Lib.hid hs
            have HACC := Lib.hid acc
            by_cases hlt : i < m
            · obtain ⟨b, off, rfl, hb⟩ := HR.out.h.some (by rw [HL.out]; omega)
              have HI := Lib.hid hlt
              have HC := Lib.hid (fun (w' : World) (hw : Below wz.heap.size wz w') => (memCell HR.out hlt hw).1)
              have i1 : (i : Int) < m := by omega
              have i0 : 0 ≤ (i : Int) := by omega
              obtain ⟨si, hsi⟩ : ∃ si, (ms.getD i mb0).nm = si := ⟨_, rfl⟩
              rw [hsi] at HC
              have HSI := Lib.hid hsi
              clear hi hs hlt acc hb hsi
              go_wp2_with fail
              go_loopw [7] (fun kv wk => ∃ k : Nat, k ≤ i ∧ kv = .int .i64 (k : Int) ∧ (∀ j, j < k → si ≠ (ms.getD j mb0).nm) ∧ Below wz.heap.size wz wk) (fun kv _ => i - (intOf kv).toNat)
              case atStart => exact ⟨0, Nat.zero_le _, rfl, by intro j hj; omega, HACC.out⟩
              case round =>
                obtain ⟨k, hk, rfl, hks, acc⟩ := hrel
                rename World => wk
                have HKS := Lib.hid hks
                have HA2 := Lib.hid acc
                by_cases hlt : k < i
                · have k1 : (k : Int) < i := by omega
                  have k0 : 0 ≤ (k : Int) := by omega
                  have k2 : (k : Int) < m := by omega
                  have HK := Lib.hid hlt
                  have x1 := HC.out _ acc
                  have x2 := (memCell HR.out (k := k) (by have := HI.out; omega) acc).1
                  obtain ⟨sk, hsk⟩ : ∃ sk, (ms.getD k mb0).nm = sk := ⟨_, rfl⟩
                  rw [hsk] at x2
                  have HSK := Lib.hid hsk
                  have HEQ := Lib.hid (str_eq sk si)
                  clear hk hks hlt hsk acc
                  by_cases ce : sk = si
                  · have he : (sk.toList == si.toList) = true := by rw [HEQ.out]; exact decide_eq_true ce
                    have HV2 := Lib.hid (tw_at (ss := nms ms) (i := i) (k := k) (by rw [nms_len, HL.out]; exact HI.out) HK.out (by rw [nms_get ms (by rw [HL.out]; exact HI.out), nms_get ms (by rw [HL.out]; have := HI.out; have := HK.out; omega), HSI.out, HSK.out]; exact ce.symm))
                    clear ce
                    go_wp2_with (go_quiet (fail))
                    go_ret
                    exact ⟨by rw [HV.out, HV2.out]; rfl, by first | exact below_drewN HA2.out _ | exact HA2.out⟩
                  · have he : (sk.toList == si.toList) = false := by rw [HEQ.out]; exact decide_eq_false ce
                    have HNE := Lib.hid ce
                    clear ce
                    go_wp2_with (go_quiet (fail))
                    go_roundw
                    case rel =>
                      refine ⟨k + 1, HK.out, by go_num, fun j hj => ?_, by first | exact below_drewN HA2.out _ | exact HA2.out⟩
                      rcases Nat.lt_or_ge j k with h | h
                      · exact HKS.out j h
                      · have : j = k := by omega
                        subst this; rw [HSK.out]; exact fun e => HNE.out e.symm
                    case measure => simp [intOf]; have := HK.out; omega
                · have k1 : ¬ (k : Int) < i := by omega
                  have HKE : Hid (k = i) := Lib.hid (by omega)
                  clear hk hks hlt acc
                  go_wp2_with fail
                  go_roundw
                  case rel =>
                    refine ⟨i + 1, HI.out, by go_num, fun j hj q hq => ?_, HA2.out⟩
                    rcases Nat.lt_or_ge j i with h | h
                    · exact HS.out j h q hq
                    · have : j = i := by omega
                      subst this; rw [HSI.out]; exact HKS.out q (by rw [HKE.out]; exact hq)
                  case measure => simp [intOf]; have := HI.out; omega
            · have i1 : ¬ (i : Int) < m := by omega
              have HV2 := Lib.hid (tw_all (ss := nms ms) (fun j hj q hq => by
                rw [nms_len, HL.out] at hj
                rw [nms_get ms (by rw [HL.out]; exact hj), nms_get ms (by rw [HL.out]; omega)]
                exact hs j (by omega) q hq))
              clear hi hs hlt acc
              go_wp2_with fail
              go_ret
              exact ⟨by rw [HV.out, HV2.out]; rfl, HACC.out⟩
end Go.Proofs.Ythckpenindchlaa.mbW
