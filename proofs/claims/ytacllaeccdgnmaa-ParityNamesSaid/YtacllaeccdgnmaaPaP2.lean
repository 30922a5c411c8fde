/- The reference's parities of all groups; lists of strings compared; Right, by walks. -/
import Derived.Test.YtacllaeccdgnmaaPaP
import Derived.Test.YtacllaeccdgnmaaStr
namespace Go.Proofs.Ytacllaeccdgnmaa.paW
set_option maxRecDepth 100000
open Go.RowKit Go.Proofs.Ytacllaeccdgnmaa.base Go.Proofs.Ytacllaeccdgnmaa.paP
set_option linter.unusedVariables false
set_option linter.unusedSimpArgs false
set_option maxRecDepth 100000
set_option maxHeartbeats 4000000 in
theorem rProtect_any (P : Option Addr) (m d : Nat) (rs : List R8) (g : Int) (w : World) (hr : RowsB w P m d rs) (hg1 : -9223372036854775808 ≤ g) (hg2 : g ≤ 9223372036854775807) :
    Calls Try.prog 19 #[.slice P m d, .int .i64 g] w fun e w' => PR w' w.heap.size e (bs rs) g ∧ Below w.heap.size w w' := by
  have HR := Lib.hid hr
  have HBL := Lib.hid (bs_len hr)
  have m1 : (m : Int) ≤ 9223372036854775807 := by have := hr.c1; have := hr.c2; omega
  clear hr
  by_cases hg : g < 1 ∨ 16 < g
  · have HE : Hid (protE (bs rs) g = 2) := Lib.hid (by unfold protE; rw [if_pos hg])
    by_cases hg0 : g < 1
    · clear hg
      go_enter Try.func19, Try.ntmps19
      go_wp2_with fail
      go_ret2
      exact ⟨pr_no HE.out (by omega), Below.refl _ _⟩
    · have hg3 : 16 < g := by omega
      clear hg
      go_enter Try.func19, Try.ntmps19
      go_wp2_with fail
      go_ret2
      exact ⟨pr_no HE.out (by omega), Below.refl _ _⟩
  · have gA : ¬ g < 1 := by omega
    have gB : ¬ 16 < g := by omega
    by_cases h100 : 100 < m
    · have HE : Hid (protE (bs rs) g = 4) := Lib.hid (by unfold protE; rw [if_neg hg, if_pos (by rw [HBL.out]; omega)])
      have c1 : (100 : Int) < m := by omega
      clear hg h100
      go_enter Try.func19, Try.ntmps19
      go_wp2_with fail
      go_ret2
      exact ⟨pr_no HE.out (by omega), Below.refl _ _⟩
    have c1 : ¬ (100 : Int) < m := by omega
    obtain ⟨v, hv⟩ : ∃ v, wd (bs rs) = v := ⟨_, rfl⟩
    have HV := Lib.hid hv
    by_cases h5 : 5000 < v
    · have HE : Hid (protE (bs rs) g = 4) := Lib.hid (by unfold protE; rw [if_neg hg, if_pos (by omega)])
      have HLG : Hid (decide (5000 < wd (oth (bs rs) (-1))) = true) := Lib.hid (by rw [show oth (bs rs) (-1) = bs rs from rfl, hv]; exact decide_eq_true h5)
      clear hg h5 h100 hv
      go_enter Try.func19, Try.ntmps19
      go_wp2_with (go_at_call 34; refine (long_any P m d (-1) rs _ HR.out).mono ?_; rw [HLG.out]; rintro e w2 ⟨rfl, rfl⟩)
      go_ret2
      exact ⟨pr_no HE.out (by omega), Below.refl _ _⟩
    have HLG : Hid (decide (5000 < wd (oth (bs rs) (-1))) = false) := Lib.hid (by rw [show oth (bs rs) (-1) = bs rs from rfl, hv]; exact decide_eq_false h5)
    obtain ⟨G, rfl⟩ := Int.eq_ofNat_of_zero_le (by omega : 0 ≤ g)
    have HG : Hid (1 ≤ G ∧ G ≤ 16 ∧ m ≤ 100 ∧ v ≤ 5000) := Lib.hid (by omega)
    have HE : Hid (protE (bs rs) (G : Int) = 0 ∧ protV (bs rs) (G : Int) = protP (bs rs) G (groups m G)) := Lib.hid (by
      have e : protE (bs rs) (G : Int) = 0 := by unfold protE; rw [if_neg hg, if_neg (by rw [HBL.out]; omega)]
      refine ⟨e, ?_⟩
      unfold protV
      rw [if_pos e, Int.toNat_natCast, HBL.out])
    have g1 : (G : Int) ≤ 16 := by omega
    have g0 : (1 : Int) ≤ G := by omega
    clear hg h5 h100 hv
    go_enter Try.func19, Try.ntmps19
    go_wp2_with (go_at_call 34; refine (long_any P m d (-1) rs _ HR.out).mono ?_; rw [HLG.out]; rintro e w2 ⟨rfl, rfl⟩)
    go_loopw [6, 7] (fun a i wr => ∃ (q J c : Nat) (A : Option Addr) (qs : List R8), J = q * G ∧ q ≤ groups m G ∧ i = .int .i64 (J : Int) ∧ a = .slice A qs.length c ∧ bs qs = protP (bs rs) G q ∧ qs.length = q ∧ OwnP wr w2.heap.size (.slice A qs.length c) qs ∧ Below w2.heap.size w2 wr) (fun _ i _ => m + 16 - (intOf i).toNat)
    case atStart => exact ⟨0, 0, 0, none, [], by omega, Nat.zero_le _, rfl, rfl, rfl, rfl, OwnP.nil _ _, Below.refl _ _⟩
    case round =>
      obtain ⟨q, J, c, A, qs, hJ, hq, rfl, rfl, hbq, hql, own, acc⟩ := hrel
      have HO := Lib.hid own
      have HA := Lib.hid acc
      have HQ := Lib.hid (And.intro hbq (And.intro hql hJ))
      have hgi := groups_iff (n := m) (g := G) (j := q) (by have := HG.out; omega)
      rw [← hJ] at hgi
      by_cases hlt : J < m
      · have hq1 : q < groups m G := hgi.2 hlt
        obtain ⟨t, ht⟩ : ∃ t, J + G = t := ⟨_, rfl⟩
        have HT : Hid (J + G = t ∧ t = (q + 1) * G ∧ q + 1 ≤ groups m G ∧ J < m ∧ q < 100) := Lib.hid ⟨ht, by rw [Nat.succ_mul, ← hJ]; exact ht.symm, hq1, hlt, by have h1 := groups_le (n := m) (g := G) (by have := HG.out; omega); have := HG.out; omega⟩
        have tw : IntKind.i64.wrap ((J : Int) + G) = (t : Int) := by
          rw [show (J : Int) + G = t by omega]; exact IntWalk.i64_in _ (by have := HG.out; omega)
        have hRw : RowsB wr P m d rs := (HR.out.below HA.out (Nat.le_refl _))
        obtain ⟨b, off, rfl, hb, hc⟩ := rb_cell hRw hlt
        have hd : m ≤ d := hRw.c1
        have nd : ¬ d = J := by omega
        have J0 : (J : Int) < m := by omega
        have J1 : 0 ≤ (J : Int) := by omega
        have HCE : Hid (gE (chunk (bs rs) G q) = 0 ∧ ofV (chunk (bs rs) G q) = parP (chunk (bs rs) G q)) := Lib.hid (by
          have e := gE_chunk (l := bs rs) (g := G) (j := q) HG.out.2.1 (by rw [HV.out]; exact HG.out.2.2.2)
          exact ⟨e, by unfold ofV; rw [if_pos e]⟩)
        have HWD : Hid (wd (bs (chunk rs G q)) ≤ 5000) := Lib.hid (by rw [bs_chunk]; exact wd_most fun u hu => by have h1 := wd_le (chunk_mem hu); have h2 := HV.out; have h3 := HG.out; omega)
        obtain ⟨Z, hZ⟩ : ∃ Z, parP (chunk (bs rs) G q) = Z := ⟨_, rfl⟩
        obtain ⟨zn, hzn⟩ : ∃ zn, Z.length = zn := ⟨_, rfl⟩
        have HZ : Hid (parP (chunk (bs rs) G q) = Z ∧ Z.length = zn ∧ Byt Z) := Lib.hid ⟨hZ, hzn, by rw [← hZ]; exact parP_byt fun u hu => ⟨bs_byt HR.out u (chunk_mem hu), by have h1 := wd_le (chunk_mem hu); have h2 := HV.out; have h3 := HG.out; omega⟩⟩
        have hsub : ∀ k, k = min G (m - J) → RowsB wr (some ⟨b, off + J, none⟩) k (d - J) (chunk rs G q) := fun k hk => by
          rw [chunk_cut (k := k) rs hJ (by rw [HR.out.l]; exact hk)]
          exact rows_sub hRw (by omega) hb hc
        have HD := Lib.hid hd
        clear hgi hq1 hlt hq hZ hzn own acc hbq hql hJ hRw hb hc
        obtain ⟨E, hE⟩ : ∃ E, min t m = E := ⟨_, rfl⟩
        have mn : min (t : Int) (m : Int) = (E : Int) := by omega
        have HEE := Lib.hid hE
        (obtain ⟨k, hk⟩ : ∃ k, E - J = k := ⟨_, rfl⟩)
        have HSUB := Lib.hid (hsub k (by have := HT.out; omega))
        have F1 : (E : Int) ≤ d := by omega
        have F2 : (J : Int) ≤ E := by have := HT.out; omega
        have F3 : E ≤ d := by omega
        have F4 : J ≤ E := by have := HT.out; omega
        clear hsub hd hE
        go_wp2_with (first
          | (go_at_call 35; go_loud (refine (parity_any (some ⟨b, off + J, none⟩) k (d - J) _ wr HSUB.out HWD.out).mono ?_); rw [bs_chunk, HZ.out.1, HZ.out.2.1]; rintro e w4 ⟨A4, c4, rfl, ho4', hb4⟩; have ho4 : OwnZ w4 wr.heap.size (.slice A4 zn c4) Z := .inl ho4'; have HO4 := Lib.hid ((ho4.mono HA.out.size).alloc (.cells #[.slice A4 zn c4] 36)); have HP4 := Lib.hid ((HO.out.past hb4).past ((Below.refl _ _).alloc (Nat.le_refl _) (.cells #[.slice A4 zn c4] 36))); have HB4 := Lib.hid (HA.out.trans (hb4.mono HA.out.size)); clear ho4 ho4' hb4)
          | (at_builtin; go_loud (refine appP rfl _ _ rfl w2.heap.size _ qs rfl HP4.out (by have := HB4.out.size; simp; omega) w4.heap.size 1 rfl ⟨A4, zn, c4, Z⟩ (Lies.fresh w4 _ [.slice A4 zn c4]).one.1 HO4.out HZ.out.2.2 (q + 1) (by rw [HQ.out.2.1]) (by have := HT.out; omega) ?_); intro A5 c5 w5 ho5 hb5))
        go_roundw
        case rel => exact ⟨q + 1, t, c5, A5, qs ++ [⟨A4, zn, c4, Z⟩], HT.out.2.1, HT.out.2.2.1, rfl, by rw [List.length_append, HQ.out.2.1]; rfl, by rw [protP_step, ← HQ.out.1, HZ.out.1]; unfold bs; rw [List.map_append]; rfl, by rw [List.length_append, HQ.out.2.1]; rfl, by rw [List.length_append, HQ.out.2.1]; exact ho5, (HB4.out.alloc HB4.out.size _).trans hb5⟩
        case measure => simp [intOf]; have := HT.out; have := HG.out; omega
      · have hq2 : q = groups m G := by
          rcases Nat.lt_or_ge q (groups m G) with h | h
          · exact absurd (hgi.1 h) hlt
          · omega
        have J0 : ¬ (J : Int) < m := by omega
        have HQ2 := Lib.hid hq2
        clear hgi hlt hq own acc hbq hJ hq2
        go_wp2_with fail
        go_ret2
        exact ⟨⟨A, c, qs, by rw [HE.out.1, HQ.out.2.1]; rfl, HO.out, by rw [HE.out.2, HQ.out.1, HQ2.out]⟩, HA.out⟩
end Go.Proofs.Ytacllaeccdgnmaa.paW
