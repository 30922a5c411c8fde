/- The reference's Recover, by walks. -/
import Derived.Test.YtacllaeccdgnmaaPaRc2
namespace Go.Proofs.Ytacllaeccdgnmaa.paW
set_option maxRecDepth 100000
open Go.RowKit Go.Proofs.Ytacllaeccdgnmaa.base Go.Proofs.Ytacllaeccdgnmaa.paP
set_option linter.unusedVariables false
set_option linter.unusedSimpArgs false
set_option maxRecDepth 100000
theorem gone_uniq {lost : List Bool} {a k i j : Nat} (h : (goneP lost a k).length ≤ 1) (i1 : a ≤ i) (i2 : i < a + k) (hi : lost.getD i false = true) (j1 : a ≤ j) (j2 : j < a + k) (hj : lost.getD j false = true) : i = j := by
  have h1 := goneP_has i1 i2 hi
  have h2 := goneP_has j1 j2 hj
  match hg : goneP lost a k with
  | [] => rw [hg] at h1; simp at h1
  | [x] =>
    rw [hg] at h1 h2
    simp at h1 h2
    omega
  | x :: y :: r => rw [hg] at h; simp at h
theorem gone_head {lost : List Bool} {a k i : Nat} (h : (goneP lost a k).length ≤ 1) (i1 : a ≤ i) (i2 : i < a + k) :
    (lost.getD i false = true ∧ (goneP lost a k).length = 1 ∧ (goneP lost a k).getD 0 0 = (i : Int)) ∨ (lost.getD i false = false ∧ ((goneP lost a k).length = 0 ∨ (0 < (goneP lost a k).length ∧ (goneP lost a k).getD 0 0 ≠ (i : Int)))) := by
  have hm := fun z => goneP_mem (lost := lost) (a := a) (k := k) (z := z)
  cases e : lost.getD i false
  · right
    refine ⟨rfl, ?_⟩
    match hg : goneP lost a k with
    | [] => exact .inl rfl
    | x :: r =>
      right
      refine ⟨by simp, ?_⟩
      obtain ⟨j, h1, _, _, h4⟩ := hm x (by rw [hg]; simp)
      intro h5
      have h6 : x = (i : Int) := h5
      have : j = i := by omega
      rw [this, e] at h4; cases h4
  · left
    have h1 := goneP_has i1 i2 e
    match hg : goneP lost a k with
    | [] => rw [hg] at h1; simp at h1
    | [x] =>
      rw [hg] at h1
      simp at h1
      exact ⟨rfl, rfl, h1.symm⟩
    | x :: y :: r => rw [hg] at h; simp at h
set_option maxHeartbeats 8000000 in
theorem rRecover_any (P A Q : Option Addr) (m d n c x y : Nat) (rs ps : List R8) (lost : List Bool) (g : Int) (w : World) (hr : RowsB w P m d rs) (hl : HasB w A lost) (hn : lost.length = n) (hn2 : n ≤ 9223372036854775807) (hg1 : -9223372036854775808 ≤ g) (hg2 : g ≤ 9223372036854775807) (hq : RowsB w Q x y ps) (hbig : ∀ r ∈ rs, r.n ≤ 140737488355328) :
    Calls Try.prog 12 #[.slice P m d, .slice A n c, .int .i64 g, .slice Q x y] w fun e w' => RR w' e (bs rs) lost g (bs ps) ∧ Below w.heap.size w w' := by
  have HR := Lib.hid hr
  have HP := Lib.hid hq
  have HL := Lib.hid hl
  have HN := Lib.hid hn
  have HBL := Lib.hid (bs_len hr)
  have HPL := Lib.hid (bs_len hq)
  have HBIG := Lib.hid hbig
  have m1 : (m : Int) ≤ 9223372036854775807 := by have := hr.c1; have := hr.c2; omega
  have x1 : (x : Int) ≤ 9223372036854775807 := by have := hq.c1; have := hq.c2; omega
  have n1 : (n : Int) ≤ 9223372036854775807 := by omega
  clear hr hl hn hq hn2 hbig
  by_cases hg : g < 1 ∨ 16 < g
  · have HE : Hid (recE (bs rs) lost g (bs ps) = 2) := Lib.hid (by unfold recE; rw [if_pos (.inl hg)])
    by_cases hg0 : g < 1
    · clear hg
      go_enter Try.func12, Try.ntmps12
      go_wp2_with fail
      go_ret2
      exact ⟨rr_no HE.out (by omega), Below.refl _ _⟩
    · have hg3 : 16 < g := by omega
      clear hg
      go_enter Try.func12, Try.ntmps12
      go_wp2_with fail
      go_ret2
      exact ⟨rr_no HE.out (by omega), Below.refl _ _⟩
  have gA : ¬ g < 1 := by omega
  have gB : ¬ 16 < g := by omega
  by_cases hnm : n ≠ m
  · have HE : Hid (recE (bs rs) lost g (bs ps) = 2) := Lib.hid (by unfold recE; rw [if_pos (.inr (by rw [HN.out, HBL.out]; exact hnm))])
    have e1 : ((n : Int) == m) = false := by simp; omega
    clear hg hnm
    go_enter Try.func12, Try.ntmps12
    go_wp2_with fail
    go_ret2
    exact ⟨rr_no HE.out (by omega), Below.refl _ _⟩
  obtain rfl : n = m := by omega
  by_cases h100 : 100 < n
  · have HE : Hid (recE (bs rs) lost g (bs ps) = 4) := Lib.hid (by unfold recE; rw [if_neg (by rw [HN.out, HBL.out]; omega), if_pos (by rw [HBL.out]; exact h100)])
    have c1 : (100 : Int) < n := by omega
    clear hg hnm h100
    go_enter Try.func12, Try.ntmps12
    go_wp2_with fail
    go_ret2
    exact ⟨rr_no HE.out (by omega), Below.refl _ _⟩
  have c1 : ¬ (100 : Int) < n := by omega
  obtain ⟨G, rfl⟩ := Int.eq_ofNat_of_zero_le (by omega : 0 ≤ g)
  have HG : Hid (1 ≤ G ∧ G ≤ 16 ∧ n ≤ 100) := Lib.hid (by omega)
  have HE1 : Hid (∀ z, (if badB (bs rs) lost = true then (4 : Int) else if x ≠ groups n G ∨ twoB lost G n = true then 40 else fE (bs rs) lost G (bs ps) n) = z → recE (bs rs) lost (G : Int) (bs ps) = z) := Lib.hid (fun z h => by
    unfold recE
    rw [if_neg (by rw [HN.out, HBL.out]; omega), if_neg (by rw [HBL.out]; omega), Int.toNat_natCast, HBL.out, HPL.out]
    exact h)
  have g1 : (G : Int) ≤ 16 := by omega
  have g0 : (1 : Int) ≤ G := by omega
  clear hg hnm h100
  go_enter Try.func12, Try.ntmps12
  go_wp2_with fail
  go_loopw [10] (fun i wr => ∃ q : Nat, q ≤ n ∧ i = .int .i64 (q : Int) ∧ (∀ i, i < q → lost.getD i false = false → ((bs rs).getD i []).length ≤ 5000) ∧ wr = w) (fun i _ => n - (intOf i).toNat)
  case atStart => exact ⟨0, Nat.zero_le _, rfl, fun i hi => by omega, rfl⟩
  case round =>
    obtain ⟨q, hq, rfl, hall, rfl⟩ := hrel
    have HAL := Lib.hid hall
    by_cases hlt : q < n
    · have q1 : (q : Int) < n := by omega
      have q0 : 0 ≤ (q : Int) := by omega
      have HQ := Lib.hid hlt
      obtain ⟨b, off, rfl, hb, hc⟩ : ∃ b off, A = some ⟨b, off, none⟩ ∧ b < wr.heap.size ∧ ∀ i, i < lost.length → wr.cell? ⟨b, off + i, none⟩ = some (.bool (lost.getD i false)) := by
        rcases HL.out with h | h
        · have := HN.out; rw [h] at this; simp at this; omega
        · exact h
      have d1 := hc q (by rw [HN.out]; exact hlt)
      obtain ⟨b2, off2, rfl, hb2, hc2⟩ := rb_cell HR.out hlt
      have d2 := hc2 q hlt
      have hbn := rb_n HR.out hlt
      have hbg := bs_get' rs q
      obtain ⟨r, hrr⟩ : ∃ r, rs.getD q r80 = r := ⟨_, rfl⟩
      rw [hrr] at d2 hbn hbg
      obtain ⟨rA, rn, rc, rb⟩ := r
      dsimp only at d2 hbn hbg
      obtain ⟨t, ht⟩ : ∃ t, lost.getD q false = t := ⟨_, rfl⟩
      rw [ht] at d1
      have HT := Lib.hid (And.intro ht (And.intro hbg hbn))
      clear hlt hq hall hb hc hb2 hc2 hrr ht hbn hbg
      cases t
      · by_cases h5 : 5000 < rn
        · have e5 : (5000 : Int) < rn := by omega
          have HE := Lib.hid (HE1.out 4 (by rw [if_pos (badB_yes (by rw [HBL.out]; exact HQ.out) HT.out.1 (by rw [HT.out.2.1, HT.out.2.2]; exact h5))]))
          clear h5
          go_wp2_with fail
          go_ret2
          exact ⟨rr_no HE.out (by omega), Below.refl _ _⟩
        · have e5 : ¬ (5000 : Int) < rn := by omega
          have HT5 : Hid (rn ≤ 5000) := Lib.hid (by omega)
          clear h5
          go_wp2_with fail
          go_roundw
          case rel => exact ⟨q + 1, HQ.out, by go_num, fun i h1 h2 => by
            rcases Nat.lt_or_ge i q with a | a
            · exact HAL.out i a h2
            · obtain rfl : i = q := by omega
              rw [HT.out.2.1, HT.out.2.2]; exact HT5.out, by trivial⟩
          case measure => simp [intOf]; have := HQ.out; omega
      · go_wp2_with fail
        go_roundw
        case rel => exact ⟨q + 1, HQ.out, by go_num, fun i h1 h2 => by
          rcases Nat.lt_or_ge i q with a | a
          · exact HAL.out i a h2
          · obtain rfl : i = q := by omega
            rw [HT.out.1] at h2; exact Bool.noConfusion h2, by trivial⟩
        case measure => simp [intOf]; have := HQ.out; omega
    · obtain rfl : q = n := by omega
      have q1 : ¬ (q : Int) < q := by omega
      have hbad : badB (bs rs) lost = false := badB_no.2 fun i hi h => hall i (by rw [HBL.out] at hi; exact hi) h
      have HE2 : Hid (∀ z, (if x ≠ groups q G ∨ twoB lost G q = true then (40 : Int) else fE (bs rs) lost G (bs ps) q) = z → recE (bs rs) lost (G : Int) (bs ps) = z) := Lib.hid (fun z h => HE1.out z (by rw [if_neg (by rw [hbad]; simp)]; exact h))
      have HALL := Lib.hid hall
      obtain ⟨K, hK⟩ : ∃ K, groups q G = K := ⟨_, rfl⟩
      have hKq := groups_le (n := q) (g := G) HG.out.1
      rw [hK] at hKq HE2
      have HKK : Hid (groups q G = K ∧ K ≤ q) := Lib.hid ⟨hK, hKq⟩
      have K1 : (K : Int) ≤ 100 := by have := HG.out; omega
      clear hlt hq hall hbad HE1 hK hKq
      by_cases hxK : x ≠ K
      · have e1 : ((x : Int) == K) = false := by simp; omega
        have HE := Lib.hid (HE2.out 40 (by rw [if_pos (.inl hxK)]))
        clear hxK
        go_wp2_with (go_at_call 25; refine (Groups_any q G _ (by have := HG.out; omega) HG.out.1 HG.out.2.1).mono ?_; rw [HKK.out.1]; rintro e w2 ⟨rfl, rfl⟩)
        go_ret2
        exact ⟨rr_no HE.out (by omega), Below.refl _ _⟩
      obtain rfl : x = K := by omega
      clear hxK
      go_wp2_with (go_at_call 25; refine (Groups_any q G _ (by have := HG.out; omega) HG.out.1 HG.out.2.1).mono ?_; rw [HKK.out.1]; rintro e w2 ⟨rfl, rfl⟩)
      go_loopw [11] (fun i w5 => ∃ (j J : Nat), J = j * G ∧ j ≤ x ∧ i = .int .i64 (J : Int) ∧ (∀ a b, a < q → b < q → a / G = b / G → a / G < j → lost.getD a false = true → lost.getD b false = true → a = b) ∧ Below w2.heap.size w2 w5) (fun i _ => q + 16 - (intOf i).toNat)
      case atStart => exact ⟨0, 0, by omega, Nat.zero_le _, rfl, fun a b _ _ _ h => absurd h (Nat.not_lt_zero _), Below.refl _ _⟩
      case round =>
        rename World => w5
        obtain ⟨j, J, hJ, hj, rfl, huni, acc⟩ := hrel
        have HA := Lib.hid acc
        have HU := Lib.hid (And.intro huni (And.intro hJ hj))
        have hgi := groups_iff (n := q) (g := G) (j := j) HG.out.1
        rw [HKK.out.1, ← hJ] at hgi
        by_cases hlt : J < q
        · have hj1 : j < x := hgi.2 hlt
          obtain ⟨t, ht⟩ : ∃ t, J + G = t := ⟨_, rfl⟩
          have HT : Hid (J + G = t ∧ t = (j + 1) * G ∧ j + 1 ≤ x ∧ J < q) := Lib.hid ⟨ht, by rw [Nat.succ_mul, ← hJ]; exact ht.symm, hj1, hlt⟩
          have tw : IntKind.i64.wrap ((J : Int) + G) = (t : Int) := by rw [show (J : Int) + G = t by omega]; exact IntWalk.i64_in _ (by have := HG.out; omega)
          obtain ⟨E, hE⟩ : ∃ E, min t q = E := ⟨_, rfl⟩
          have mn : min (t : Int) (q : Int) = (E : Int) := by omega
          have HEE : Hid (min t q = E ∧ J ≤ E ∧ E ≤ q ∧ E - J ≤ G) := Lib.hid ⟨hE, by omega, by omega, by omega⟩
          have J0 : (J : Int) < q := by omega
          have J1 : 0 ≤ (J : Int) := by omega
          obtain ⟨gl, hgl⟩ : ∃ gl, (goneP lost J (E - J)).length = gl := ⟨_, rfl⟩
          have HGL := Lib.hid hgl
          have hgle := goneP_len (lost := lost) (a := J) (k := E - J)
          have gl1 : (gl : Int) ≤ 16 := by have := HG.out; omega
          clear hlt hgi hj1 huni hJ hj acc hE hgl hgle
          by_cases h2 : 1 < gl
          · have e2 : (1 : Int) < gl := by omega
            have HE := Lib.hid (HE2.out 40 (by
              rw [if_pos]
              right
              obtain ⟨a, b, a1, a2, b1, b2, hne, ha, hb⟩ := goneP_two (lost := lost) (a := J) (k := E - J) (by rw [HGL.out]; exact h2)
              have h3 := HEE.out
              have hJ := HU.out.2.1
              have e3 : a / G = j := (in_group HG.out.1).2 (by have := HT.out; omega)
              have e4 : b / G = j := (in_group HG.out.1).2 (by have := HT.out; omega)
              exact twoB_yes (by omega) (by omega) hne (by rw [e3, e4]) ha hb))
            clear h2
            go_wp2_with (go_at_call 26; go_loud (refine (gone_any A q c J E lost w5 (HL.out.below HA.out (Nat.le_refl _)) HN.out HEE.out.2.1 HEE.out.2.2.1 HG.out.2.2).mono ?_); rw [HGL.out]; rintro e w6 ⟨A6, c6, rfl, ho6, hb6⟩; have HB6 := Lib.hid (HA.out.trans (hb6.mono HA.out.size)); clear ho6 hb6)
            go_ret2
            exact ⟨rr_no HE.out (by omega), HB6.out⟩
          · have e2 : ¬ (1 : Int) < gl := by omega
            have HNEW : Hid (∀ a b, a < q → b < q → a / G = b / G → a / G < j + 1 → lost.getD a false = true → lost.getD b false = true → a = b) := Lib.hid fun a b ha hb hab haj h3 h4 => by
              rcases Nat.lt_or_ge (a / G) j with h5 | h5
              · exact HU.out.1 a b ha hb hab h5 h3 h4
              · have e5 : a / G = j := by omega
                have a5 := (in_group HG.out.1).1 e5
                have b5 := (in_group HG.out.1).1 (hab.symm.trans e5)
                have h6 := HEE.out
                have hJ := HU.out.2.1
                have hT := HT.out
                exact gone_uniq (lost := lost) (a := J) (k := E - J) (by rw [HGL.out]; omega) (by omega) (by omega) h3 (by omega) (by omega) h4
            clear h2
            go_wp2_with (go_at_call 26; go_loud (refine (gone_any A q c J E lost w5 (HL.out.below HA.out (Nat.le_refl _)) HN.out HEE.out.2.1 HEE.out.2.2.1 HG.out.2.2).mono ?_); rw [HGL.out]; rintro e w6 ⟨A6, c6, rfl, ho6, hb6⟩; have HB6 := Lib.hid (HA.out.trans (hb6.mono HA.out.size)); clear ho6 hb6)
            go_roundw
            case rel => exact ⟨j + 1, t, HT.out.2.1, HT.out.2.2.1, rfl, HNEW.out, HB6.out⟩
            case measure => simp [intOf]; have := HT.out; have := HG.out; omega
        · have hjx : j = x := by
            rcases Nat.lt_or_ge j x with h | h
            · exact absurd (hgi.1 h) hlt
            · omega
          have J0 : ¬ (J : Int) < q := by omega
          have htw : twoB lost G q = false := twoB_no fun a b ha hb hab h3 h4 => huni a b ha hb hab (by
            rw [hjx, ← HKK.out.1, groups_iff HG.out.1]
            have h1 := Nat.div_mul_le_self a G
            omega) h3 h4
          have HE3 : Hid (∀ z, fE (bs rs) lost G (bs ps) q = z → recE (bs rs) lost (G : Int) (bs ps) = z) := Lib.hid (fun z h => HE2.out z (by rw [if_neg (by rw [htw]; simp)]; exact h))
          have HTW := Lib.hid htw
          clear hlt hgi huni hJ hj acc htw hjx HE2 HU
          go_wp2_with fail
          have HA5 := Lib.hid (HA.out)
          go_loopw [12, 13, 14, 15, 16, 17, 18, 19] (fun o i _ _ _ _ _ _ w6 => ∃ (j J c6 : Nat) (A6 : Option Addr) (us : List R8), J = j * G ∧ j ≤ x ∧ i = .int .i64 (J : Int) ∧ o = .slice A6 us.length c6 ∧ us.length = min J q ∧ bs us = (List.range (min J q)).map (rvi (bs rs) lost G (bs ps)) ∧ (∀ i, i < q → i < J → gi (bs rs) lost G (bs ps) i = 0) ∧ OwnP w6 w2.heap.size (.slice A6 us.length c6) us ∧ Below w2.heap.size w2 w6) (fun _ i _ _ _ _ _ _ _ => q + 16 - (intOf i).toNat)
          case atStart => exact ⟨0, 0, 0, none, [], by omega, Nat.zero_le _, rfl, rfl, by simp, by simp [bs], fun i _ h => by omega, OwnP.nil _ _, HA5.out⟩
          case round =>
            rename World => w6
            obtain ⟨j, J, c6, A6, us, hJ, hj, rfl, rfl, hul, hub, hgz, own, acc⟩ := hrel
            have HO6 := Lib.hid own
            have HA6 := Lib.hid acc
            have HUS := Lib.hid (And.intro hul (And.intro hub hgz))
            have HJJ := Lib.hid (And.intro hJ hj)
            have hgi := groups_iff (n := q) (g := G) (j := j) HG.out.1
            rw [HKK.out.1, ← hJ] at hgi
            by_cases hlt : J < q
            · have hj1 : j < x := hgi.2 hlt
              obtain ⟨t, ht⟩ : ∃ t, J + G = t := ⟨_, rfl⟩
              have HT : Hid (J + G = t ∧ t = (j + 1) * G ∧ j + 1 ≤ x ∧ J < q) := Lib.hid ⟨ht, by rw [Nat.succ_mul, ← hJ]; exact ht.symm, hj1, hlt⟩
              have tw : IntKind.i64.wrap ((J : Int) + G) = (t : Int) := by rw [show (J : Int) + G = t by omega]; exact IntWalk.i64_in _ (by have := HG.out; omega)
              obtain ⟨E, hE⟩ : ∃ E, min t q = E := ⟨_, rfl⟩
              have mn : min (t : Int) (q : Int) = (E : Int) := by omega
              have HEE : Hid (min t q = E ∧ J ≤ E ∧ E ≤ q ∧ E - J ≤ G) := Lib.hid ⟨hE, by omega, by omega, by omega⟩
              have J0 : (J : Int) < q := by omega
              have J1 : 0 ≤ (J : Int) := by omega
              have E1 : (E : Int) ≤ q := by omega
              have hg1 : (goneP lost J (E - J)).length ≤ 1 := by
                rcases Nat.lt_or_ge 1 (goneP lost J (E - J)).length with h | h
                · obtain ⟨a, b, a1, a2, b1, b2, hne, ha, hb⟩ := goneP_two h
                  have e3 : a / G = j := (in_group HG.out.1).2 (by omega)
                  have e4 : b / G = j := (in_group HG.out.1).2 (by omega)
                  have h5 := twoB_yes (n := q) (by omega) (by omega) hne (by rw [e3, e4]) ha hb
                  rw [HTW.out] at h5; cases h5
                · exact h
              obtain ⟨gs, hgs⟩ : ∃ gs, goneP lost J (E - J) = gs := ⟨_, rfl⟩
              obtain ⟨gl, hgl⟩ : ∃ gl, gs.length = gl := ⟨_, rfl⟩
              have HGS : Hid (goneP lost J (E - J) = gs ∧ gs.length = gl ∧ gl ≤ 1) := Lib.hid ⟨hgs, hgl, by rw [← hgl, ← hgs]; exact hg1⟩
              have hum : us.length = J := by omega
              have hub2 : bs us = (List.range J).map (rvi (bs rs) lost G (bs ps)) := by rw [hub, show min J q = J by omega]
              have HUS2 := Lib.hid (And.intro hum hub2)
              have gl1 : (gl : Int) ≤ 1 := by have := HGS.out.2.2; omega
              clear hlt hgi hj1 hJ hj acc hE hgl hgs hg1 hul hub hgz own hum hub2
              go_wp2_with (go_at_call 26; go_loud (refine (gone_any A q c J E lost w6 (HL.out.below HA6.out (Nat.le_refl _)) HN.out HEE.out.2.1 HEE.out.2.2.1 HG.out.2.2).mono ?_); rw [HGS.out.1, HGS.out.2.1]; rintro e w7 ⟨A7, c7, rfl, ho7, hb7⟩; have HB7 := Lib.hid (HA6.out.trans (hb7.mono HA6.out.size)); have HO7 := Lib.hid (HO6.out.past hb7); have HW7 := Lib.hid (OwnI.mono ho7 HA6.out.size); clear ho7 hb7)
              go_loopw [12, 16, 17, 18, 19] (fun o i _ _ _ w8 => ∃ (z c8 : Nat) (A8 : Option Addr) (vs : List R8), J ≤ z ∧ z ≤ E ∧ i = .int .i64 (z : Int) ∧ o = .slice A8 vs.length c8 ∧ vs.length = z ∧ bs vs = (List.range z).map (rvi (bs rs) lost G (bs ps)) ∧ (∀ i, i < z → gi (bs rs) lost G (bs ps) i = 0) ∧ OwnP w8 w2.heap.size (.slice A8 vs.length c8) vs ∧ OwnI w8 w2.heap.size 3 .i64 (.slice A7 gl c7) gs ∧ Below w2.heap.size w2 w8) (fun _ i _ _ _ _ => E - (intOf i).toNat)
              case atStart => exact ⟨J, c6, A6, us, Nat.le_refl _, HEE.out.2.1, rfl, rfl, HUS2.out.1, HUS2.out.2, fun i h => HUS.out.2.2 i (by have := HT.out; omega) h, HO7.out, HW7.out, HB7.out⟩
              case round =>
                rename World => w8
                obtain ⟨z, c8, A8, vs, hz1, hz2, rfl, rfl, hvl, hvb, hgz, own8, hw8, acc8⟩ := hrel
                have HO8 := Lib.hid own8
                have HA8 := Lib.hid acc8
                have HV := Lib.hid (And.intro hvl (And.intro hvb hgz))
                have HZ := Lib.hid (And.intro hz1 hz2)
                have HW8 := Lib.hid hw8
                by_cases hlt : z < E
                · have z1 : (z : Int) < E := by omega
                  have z0 : 0 ≤ (z : Int) := by omega
                  have z2 : (z : Int) < q := by omega
                  have hzq : z < q := by have := HEE.out; omega
                  have HL2 := Lib.hid (And.intro hlt hzq)
                  obtain ⟨b, off, rfl, hb, hc⟩ := rb_cell HR.out hzq
                  have c1 : w8.cell? ⟨b, off + z, none⟩ = some (.slice (rs.getD z r80).A (rs.getD z r80).n (rs.getD z r80).c) := by rw [acc8.cell (p := ⟨b, off + z, none⟩) hb]; exact hc z hzq
                  have hin := (HR.out.h.get z (by rw [HR.out.l]; exact hzq)).below acc8 (Nat.le_refl _)
                  have hbg := bs_get' rs z
                  obtain ⟨r, hrr⟩ : ∃ r, rs.getD z r80 = r := ⟨_, rfl⟩
                  rw [hrr] at c1 hin hbg
                  obtain ⟨rA, rn, rc, rb⟩ := r
                  dsimp only at c1 hbg
                  have HIN := Lib.hid hin
                  have HRN : Hid (rb.length = rn) := Lib.hid hin.e
                  have HBG := Lib.hid hbg
                  have HRN5 : Hid (rn ≤ 140737488355328) := Lib.hid (HBIG.out ⟨rA, rn, rc, rb⟩ (by
                    rw [← hrr, List.getD_eq_getElem?_getD, List.getElem?_eq_getElem (by rw [HR.out.l]; exact hzq)]
                    exact List.getElem_mem _))
                  have hhd := gone_head (lost := lost) (a := J) (k := E - J) (i := z) (by rw [HGS.out.1, HGS.out.2.1]; exact HGS.out.2.2) hz1 (by omega)
                  rw [HGS.out.1, HGS.out.2.1] at hhd
                  have HBC := Lib.hid (And.intro hb hc)
                  have hblt : b < w8.heap.size := Nat.lt_of_lt_of_le hb acc8.size
                  have HE8 : Hid (Below w8.heap.size w8 (w8.alloc (.cells #[] 5))) := Lib.hid ((Below.refl _ _).alloc (Nat.le_refl _) _)
                  rcases hhd with ⟨hl1, hg1, hh1⟩ | ⟨hl0, hgh⟩
                  · have hJm := (in_group (g := G) (j := j) (i := z) HG.out.1).2 (by have h1 := HEE.out; have h2 := HJJ.out.1; have h3 := HT.out; omega)
                    obtain ⟨o, ho⟩ : ∃ o, z - J = o := ⟨_, rfl⟩
                    have ow : IntKind.i64.wrap ((z : Int) - (J : Int)) = (o : Int) := by rw [show (z : Int) - J = o by omega]; exact IntWalk.i64_in _ (by have := HG.out; omega)
                    obtain ⟨e, he⟩ : ∃ e, E - J = e := ⟨_, rfl⟩
                    have hdq : q ≤ d := HR.out.c1
                    have nd : ¬ d = J := by have := HT.out; omega
                    have F1 : (E : Int) ≤ d := by have := HEE.out; omega
                    have F2 : (J : Int) ≤ E := by have := HEE.out; omega
                    have F3 : E ≤ d := by have := HEE.out; omega
                    have F4 : J ≤ E := by have := HEE.out; omega
                    have hJj := HJJ.out.1
                    have td : Int.tdiv (J : Int) (G : Int) = (j : Int) := by
                      have h1 : J / G = j := by rw [hJj]; exact Nat.mul_div_cancel _ (by have := HG.out; omega)
                      rw [← h1]; exact (Int.ofNat_tdiv _ _).symm
                    have hjx : j < x := by have := HT.out; omega
                    have tw9 : IntKind.i64.wrap (Int.tdiv (J : Int) (G : Int)) = (j : Int) := by rw [td]; exact IntWalk.i64_in _ (by omega)
                    have jw2 : IntKind.i64.wrap (j : Int) = (j : Int) := IntWalk.i64_in _ (by omega)
                    have g3 : ¬ (G : Int) = 0 := by omega
                    have g4 : ((G : Int) == 0) = false := by simpa using g3
                    have g5 : ¬ G = 0 := by omega
                    have g6 : (G == 0) = false := by simpa using g5
                    have j1 : (j : Int) < x := by omega
                    have j0 : 0 ≤ (j : Int) := by omega
                    obtain ⟨b3, off3, rfl, hb3, hc3⟩ := rb_cell HP.out hjx
                    have hd3 := hc3 j hjx
                    have hinp := HP.out.h.get j (by rw [HP.out.l]; exact hjx)
                    have hpk := bs_get' ps j
                    obtain ⟨r3, hr3⟩ : ∃ r, ps.getD j r80 = r := ⟨_, rfl⟩
                    rw [hr3] at hd3 hinp hpk
                    obtain ⟨pA, pn, pc, pb⟩ := r3
                    dsimp only at hd3 hpk
                    have HIP := Lib.hid hinp
                    have HD3 := Lib.hid (And.intro hb3 hd3)
                    have hsub : RowsB w2 (some ⟨b, off + J, none⟩) e (d - J) (chunk rs G j) := by
                      rw [chunk_cut (k := e) rs hJj (by rw [HR.out.l]; have := HEE.out; have := HT.out; omega)]
                      exact rows_sub HR.out (by have := HEE.out; omega) hb hc
                    have HSUB := Lib.hid hsub
                    obtain ⟨er, her⟩ : ∃ er, gi (bs rs) lost G (bs ps) z = er := ⟨_, rfl⟩
                    obtain ⟨rv, hrv⟩ : ∃ rv, rvi (bs rs) lost G (bs ps) z = rv := ⟨_, rfl⟩
                    have hoj : (o : Int) = (z : Int) - ((j * G : Nat) : Int) := by rw [← hJj]; omega
                    have hE1 : repE (chunk (bs rs) G j) (o : Int) pb = er := by rw [← her, gi_lost hJm hl1, hpk, hoj]
                    have hV1 : repV (chunk (bs rs) G j) (o : Int) pb = rv := by rw [← hrv, rvi_lost hJm hl1, hpk, hoj]
                    obtain ⟨rl, hrl⟩ : ∃ rl, rv.length = rl := ⟨_, rfl⟩
                    have HREP : Hid (bs (chunk rs G j) = chunk (bs rs) G j ∧ repE (chunk (bs rs) G j) (o : Int) pb = er ∧ repV (chunk (bs rs) G j) (o : Int) pb = rv ∧ rv.length = rl) := Lib.hid ⟨bs_chunk rs G j, hE1, hV1, hrl⟩
                    have HRB : Hid (∀ z ∈ rv, 0 ≤ z ∧ z ≤ 255) := Lib.hid (by rw [← hV1]; exact repV_byt hinp.b fun s hs => bs_byt HR.out s (chunk_mem hs))
                    have HER := Lib.hid (And.intro her hrv)
                    have HOE : Hid (e ≤ 16 ∧ 0 ≤ (o : Int) ∧ (o : Int) ≤ 100) := Lib.hid (by have := HEE.out; have := HG.out; omega)
                    have HH1 := Lib.hid (And.intro hg1 hh1)
                    clear hlt hz1 hz2 hvl hvb hgz own8 hw8 acc8 hb hc hrr hin hbg hzq hl1 hg1 hh1 hJm ho hdq hJj hjx hb3 hc3 hd3 hinp hpk hr3 hsub her hrv hoj hE1 hV1 hrl
                    go_upto_region 27 with (at_builtin; go_loud (refine clone8 rfl _ _ rfl (some ⟨w8.heap.size, 0, none⟩) rfl rA _ _ rb rfl HRN.out (HIN.out.h.below HE8.out (Nat.le_refl _)) HRN5.out ?_); intro A9 c9 w9 hh9 hb9 ho9)
                    (have HC9 : Hid (OwnZ w9 w8.heap.size (.slice A9 rn c9) rb) := Lib.hid (by rcases ho9 with ⟨h1, rfl, rfl, rfl⟩ | h1; (exact .inr ⟨h1, _, by rw [← HRN.out, h1]; rfl⟩); (exact .inl (h1.mono HE8.out.size)))); have HB9 := Lib.hid (HE8.out.trans (hb9.mono HE8.out.size)); clear hh9 hb9 ho9; have HO9 := Lib.hid (HO8.out.past HB9.out); have HW9 := Lib.hid (HW8.out.below HB9.out (Nat.le_refl _)); have HA9 := Lib.hid (HA8.out.trans (HB9.out.mono HA8.out.size))
                    obtain ⟨b7, o7, rfl, hb7, hc7⟩ := has_some HW9.out.has (by rw [HGS.out.2.1, HH1.out.1]; omega)
                    have d7 := hc7 0 (by rw [HGS.out.2.1, HH1.out.1]; omega)
                    rw [Nat.add_zero, HH1.out.2] at d7
                    have gl0 : (0 : Int) < gl := by have := HH1.out.1; omega
                    clear hb7 hc7
                    go_upto_region 28 with fail
                    clear d7
                    (have RD := grows_roads (S := fun x' => Below w9.heap.size w9 x') (fun a b h1 h2 => h2.trans (h1.mono h2.size))); refine region_ord _ Grows RD (Below.drew (Below.refl w9.heap.size w9)) (by kernel_rfl) ?_; intro ops Q' hops hPQ hN; (have HNS : Hid (Region.noSelect ops = true) := Lib.hid (by rw [hops]; kernel_rfl)); (have hsz : ops.size = 19 := (by rw [hops]; rfl)); have HOP := Lib.hid hops; have HPQ := Lib.hid hPQ; have HN := Lib.hid hN; rw [hsz]; clear hops hsz hPQ hN
                    refine ord_take RD 0 (at_list (by rw [HOP.out]; rfl)) HNS.out HPQ.out (by rw [HOP.out]; kernel_rfl) (by rw [HOP.out]; kernel_rfl) (by rw [HOP.out]; rfl) (fun K hK => ?_); apply Exists.intro; refine ⟨fun W hSW => ?_, hK _ ?_⟩; (focus ((try dsimp only at hSW); go_simp; try with_reducible rfl)); clear hK K; (try simp only [Act.put, List.setIfInBounds_toArray, List.set_cons_zero, List.set_cons_succ])
                    refine ord_take RD 1 (at_list (by rw [HOP.out]; rfl)) HNS.out HPQ.out (by rw [HOP.out]; kernel_rfl) (by rw [HOP.out]; kernel_rfl) (by rw [HOP.out]; rfl) (fun K hK => ?_); apply Exists.intro; refine ⟨fun W hSW => ?_, hK _ ?_⟩; (focus ((try dsimp only at hSW); go_simp; try with_reducible rfl)); clear hK K; (try simp only [Act.put, List.setIfInBounds_toArray, List.set_cons_zero, List.set_cons_succ])
                    refine ord_take RD 2 (at_list (by rw [HOP.out]; rfl)) HNS.out HPQ.out (by rw [HOP.out]; kernel_rfl) (by rw [HOP.out]; kernel_rfl) (by rw [HOP.out]; rfl) (fun K hK => ?_); apply Exists.intro; refine ⟨fun W hSW => ?_, hK _ ?_⟩; (focus ((try dsimp only at hSW); go_simp; try with_reducible rfl)); clear hK K; (try simp only [Act.put, List.setIfInBounds_toArray, List.set_cons_zero, List.set_cons_succ])
                    refine ord_take RD 3 (at_list (by rw [HOP.out]; rfl)) HNS.out HPQ.out (by rw [HOP.out]; kernel_rfl) (by rw [HOP.out]; kernel_rfl) (by rw [HOP.out]; rfl) (fun K hK => ?_); apply Exists.intro; refine ⟨fun W hSW => ?_, hK _ ?_⟩; (focus ((try dsimp only at hSW); go_simp; try with_reducible rfl)); clear hK K; (try simp only [Act.put, List.setIfInBounds_toArray, List.set_cons_zero, List.set_cons_succ])
                    refine ord_take RD 4 (at_list (by rw [HOP.out]; rfl)) HNS.out HPQ.out (by rw [HOP.out]; kernel_rfl) (by rw [HOP.out]; kernel_rfl) (by rw [HOP.out]; rfl) (fun K hK => ?_); apply Exists.intro; refine ⟨fun W hSW => ?_, hK _ ?_⟩; (focus ((try dsimp only at hSW); go_simp; try with_reducible rfl)); clear hK K; (try simp only [Act.put, List.setIfInBounds_toArray, List.set_cons_zero, List.set_cons_succ])
                    refine ord_take RD 5 (at_list (by rw [HOP.out]; rfl)) HNS.out HPQ.out (by rw [HOP.out]; kernel_rfl) (by rw [HOP.out]; kernel_rfl) (by rw [HOP.out]; rfl) (fun K hK => ?_); apply Exists.intro; refine ⟨fun W hSW => ?_, hK _ ?_⟩; (focus ((try dsimp only at hSW); go_simp; try with_reducible rfl)); clear hK K; (try simp only [Act.put, List.setIfInBounds_toArray, List.set_cons_zero, List.set_cons_succ])
                    refine ord_take RD 6 (at_list (by rw [HOP.out]; rfl)) HNS.out HPQ.out (by rw [HOP.out]; kernel_rfl) (by rw [HOP.out]; kernel_rfl) (by rw [HOP.out]; rfl) (fun K hK => ?_); apply Exists.intro; refine ⟨fun W hSW => ?_, hK _ ?_⟩; (focus ((try dsimp only at hSW); go_simp; try with_reducible rfl)); clear hK K; (try simp only [Act.put, List.setIfInBounds_toArray, List.set_cons_zero, List.set_cons_succ])
                    refine ord_take RD 7 (at_list (by rw [HOP.out]; rfl)) HNS.out HPQ.out (by rw [HOP.out]; kernel_rfl) (by rw [HOP.out]; kernel_rfl) (by rw [HOP.out]; rfl) (fun K hK => ?_); apply Exists.intro; refine ⟨fun W hSW => ?_, hK _ ?_⟩; (focus ((try dsimp only at hSW); go_simp; try with_reducible rfl)); clear hK K; (try simp only [Act.put, List.setIfInBounds_toArray, List.set_cons_zero, List.set_cons_succ])
                    refine ord_take RD 8 (at_list (by rw [HOP.out]; rfl)) HNS.out HPQ.out (by rw [HOP.out]; kernel_rfl) (by rw [HOP.out]; kernel_rfl) (by rw [HOP.out]; rfl) (fun K hK => ?_); apply Exists.intro; refine ⟨fun W hSW => ?_, hK _ ?_⟩; (focus ((try dsimp only at hSW); go_simp; try with_reducible rfl)); clear hK K; (try simp only [Act.put, List.setIfInBounds_toArray, List.set_cons_zero, List.set_cons_succ])
                    refine ord_take RD 9 (at_list (by rw [HOP.out]; rfl)) HNS.out HPQ.out (by rw [HOP.out]; kernel_rfl) (by rw [HOP.out]; kernel_rfl) (by rw [HOP.out]; rfl) (fun K hK => ?_); apply Exists.intro; refine ⟨fun W hSW => ?_, hK _ ?_⟩; (focus ((try dsimp only at hSW); go_simp; try with_reducible rfl)); clear hK K; (try simp only [Act.put, List.setIfInBounds_toArray, List.set_cons_zero, List.set_cons_succ])
                    refine ord_take RD 10 (at_list (by rw [HOP.out]; rfl)) HNS.out HPQ.out (by rw [HOP.out]; kernel_rfl) (by rw [HOP.out]; kernel_rfl) (by rw [HOP.out]; rfl) (fun K hK => ?_); apply Exists.intro; refine ⟨fun W hSW => ?_, hK _ ?_⟩; (focus ((try dsimp only at hSW); go_simp; try with_reducible rfl)); clear hK K; (try simp only [Act.put, List.setIfInBounds_toArray, List.set_cons_zero, List.set_cons_succ])
                    refine ord_take RD 11 (at_list (by rw [HOP.out]; rfl)) HNS.out HPQ.out (by rw [HOP.out]; kernel_rfl) (by rw [HOP.out]; kernel_rfl) (by rw [HOP.out]; rfl) (fun K hK => ?_); apply Exists.intro; refine ⟨fun W hSW => ?_, hK _ ?_⟩; (focus ((try dsimp only at hSW); go_simp; try with_reducible rfl)); clear hK K; (try simp only [Act.put, List.setIfInBounds_toArray, List.set_cons_zero, List.set_cons_succ])
                    refine ord_take RD 12 (at_list (by rw [HOP.out]; rfl)) HNS.out HPQ.out (by rw [HOP.out]; kernel_rfl) (by rw [HOP.out]; kernel_rfl) (by rw [HOP.out]; rfl) (fun K hK => ?_); apply Exists.intro; refine ⟨fun W hSW => ?_, hK _ ?_⟩; (focus ((try dsimp only at hSW); (have z9 := ((HA9.out.trans (hSW.mono HA9.out.size)).cell (p := ⟨b3, off3 + j, none⟩) HD3.out.1).trans HD3.out.2); go_simp; try with_reducible rfl)); clear hK K; (try simp only [Act.put, List.setIfInBounds_toArray, List.set_cons_zero, List.set_cons_succ])
                    refine ord_one RD 13 (by rw [HOP.out]; kernel_rfl) (at_list (by rw [HOP.out]; rfl)) (by rw [HOP.out]; rfl) (fun W7 hWW hSW K hK => ?_); (try dsimp only at hSW)
                    go_simp
                    refine (rRepair_any (some ⟨b, off + J, none⟩) pA e (d - J) pn pc (o : Int) (chunk rs G j) pb W7 (HSUB.out.below (HA9.out.trans (hSW.mono HA9.out.size)) (Nat.le_refl _)) HOE.out.1 (by have := HOE.out; omega) (HIP.out.h.below (HA9.out.trans (hSW.mono HA9.out.size)) (Nat.le_refl _)) HIP.out.e HIP.out.c1 HIP.out.c2 HIP.out.b).mono ?_
                    rw [HREP.out.1, HREP.out.2.1, HREP.out.2.2.1, HREP.out.2.2.2]
                    rintro e' w10 ⟨A10, c10, rfl, ho10, hb10⟩
                    refine hK _ _ (RD.keep hb10 hSW) ?_
                    have H10 : Hid (OwnZ w10 w9.heap.size (.slice A10 rl c10) rv ∧ Below w9.heap.size w9 w10) := Lib.hid ⟨ho10.mono hSW.size, hSW.trans (hb10.mono hSW.size)⟩
                    clear ho10 hb10 hSW hWW
                    clear hK K; (try simp only [Act.put, List.setIfInBounds_toArray, List.set_cons_zero, List.set_cons_succ])
                    refine ord_take RD 14 (at_list (by rw [HOP.out]; rfl)) HNS.out HPQ.out (by rw [HOP.out]; kernel_rfl) (by rw [HOP.out]; kernel_rfl) (by rw [HOP.out]; rfl) (fun K hK => ?_); apply Exists.intro; refine ⟨fun W hSW => ?_, hK _ ?_⟩; (focus ((try dsimp only at hSW); go_simp; try with_reducible rfl)); clear hK K; (try simp only [Act.put, List.setIfInBounds_toArray, List.set_cons_zero, List.set_cons_succ])
                    refine ord_take RD 15 (at_list (by rw [HOP.out]; rfl)) HNS.out HPQ.out (by rw [HOP.out]; kernel_rfl) (by rw [HOP.out]; kernel_rfl) (by rw [HOP.out]; rfl) (fun K hK => ?_); apply Exists.intro; refine ⟨fun W hSW => ?_, hK _ ?_⟩; (focus ((try dsimp only at hSW); go_simp; try with_reducible rfl)); clear hK K; (try simp only [Act.put, List.setIfInBounds_toArray, List.set_cons_zero, List.set_cons_succ])
                    refine ord_take RD 16 (at_list (by rw [HOP.out]; rfl)) HNS.out HPQ.out (by rw [HOP.out]; kernel_rfl) (by rw [HOP.out]; kernel_rfl) (by rw [HOP.out]; rfl) (fun K hK => ?_); apply Exists.intro; refine ⟨fun W hSW => ?_, hK _ ?_⟩; (focus ((try dsimp only at hSW); go_simp; try with_reducible rfl)); clear hK K; (try simp only [Act.put, List.setIfInBounds_toArray, List.set_cons_zero, List.set_cons_succ])
                    refine ord_take RD 17 (at_list (by rw [HOP.out]; rfl)) HNS.out HPQ.out (by rw [HOP.out]; kernel_rfl) (by rw [HOP.out]; kernel_rfl) (by rw [HOP.out]; rfl) (fun K hK => ?_); apply Exists.intro; refine ⟨fun W hSW => ?_, hK _ ?_⟩; (focus ((try dsimp only at hSW); go_simp; try with_reducible rfl)); clear hK K; (try simp only [Act.put, List.setIfInBounds_toArray, List.set_cons_zero, List.set_cons_succ])
                    refine ord_take RD 18 (at_list (by rw [HOP.out]; rfl)) HNS.out HPQ.out (by rw [HOP.out]; kernel_rfl) (by rw [HOP.out]; kernel_rfl) (by rw [HOP.out]; rfl) (fun K hK => ?_); apply Exists.intro; refine ⟨fun W hSW => ?_, hK _ ?_⟩; (focus ((try dsimp only at hSW); go_simp; try with_reducible rfl)); clear hK K; (try simp only [Act.put, List.setIfInBounds_toArray, List.set_cons_zero, List.set_cons_succ])
                    refine ord_done (by rw [HOP.out]; kernel_rfl) (fun W8 hWW hSW => HN.out _ _ ?_); clear HOP HNS HPQ HN RD; (try dsimp only at hSW)
                    have H8 : Hid (OwnZ W8 w9.heap.size (.slice A10 rl c10) rv ∧ Below w9.heap.size w9 W8) := Lib.hid ⟨H10.out.1.past hWW, hSW⟩
                    clear hWW hSW
                    have HO11 := Lib.hid (HO9.out.past H8.out.2)
                    have HW11 := Lib.hid (HW9.out.below H8.out.2 (Nat.le_refl _))
                    have HA11 := Lib.hid (HA9.out.trans (H8.out.2.mono HA9.out.size))
                    have HC11 := Lib.hid (H8.out.1.mono HA9.out.size)
                    clear HO9 HW9 HC9 H10 H8
                    by_cases her0 : er = 0
                    · subst her0
                      have HRVI : Hid (rvi (bs rs) lost G (bs ps) z = rv ∧ gi (bs rs) lost G (bs ps) z = 0) := Lib.hid ⟨HER.out.2, HER.out.1⟩
                      clear HA9
                      have HO9 := HO11
                      have HW9 := HW11
                      have HA9 := HA11
                      (go_wp2_with (at_builtin; go_loud (refine appPI rfl _ _ rfl w2.heap.size _ vs rfl (HO9.out.past ((Below.refl _ _).alloc (Nat.le_refl _) (.cells #[.slice A10 rl c10] 36))) (by have := HA9.out.size; simp; omega) (W8).heap.size 1 rfl ⟨A10, rl, c10, rv⟩ (Lies.fresh W8 _ [.slice A10 rl c10]).one.1 (HC11.out.alloc _) HRB.out (z + 1) (by rw [HV.out.1]) (by have := HL2.out; have := HG.out; omega) w2.heap.size _ gs (HW9.out.below ((Below.refl _ _).alloc (Nat.le_refl _) (.cells #[.slice A10 rl c10] 36)) (Nat.le_refl _)) ?_); intro A5 c5 w5b ho5 hb5 hw5)); go_roundw; (case rel => exact ⟨z + 1, c5, A5, vs ++ [⟨A10, rl, c10, rv⟩], by have := HZ.out; omega, by have := HL2.out; omega, by go_num, by rw [List.length_append, HV.out.1]; rfl, by rw [List.length_append, HV.out.1]; rfl, by rw [List.range_succ, List.map_append, ← HV.out.2.1]; unfold bs; rw [List.map_append]; simp only [List.map_cons, List.map_nil]; rw [show rvi (List.map R8.b rs) lost G (List.map R8.b ps) z = rv from HRVI.out.1], fun i hi => (by rcases Nat.lt_or_ge i z with a | a; (exact HV.out.2.2 i a); (obtain rfl : i = z := (by omega)); exact HRVI.out.2), by rw [List.length_append, HV.out.1]; exact ho5, hw5, (HA9.out.alloc HA9.out.size _).trans hb5⟩); (case measure => simp [intOf]; have := HL2.out; omega)
                    · have e1 : (er == 0) = false := by simpa using her0
                      have e2 : (er != 0) = true := by simp [bne, e1]
                      have HX := Lib.hid (HE3.out er (by rw [fE_first HV.out.2.2 (by rw [HER.out.1]; exact her0) HL2.out.2]; exact HER.out.1))
                      have HNZ := Lib.hid her0
                      clear her0
                      go_wp2_with fail
                      go_ret2
                      exact ⟨rr_no HX.out HNZ.out, HA11.out⟩
                  · have HRVI : Hid (rvi (bs rs) lost G (bs ps) z = rb ∧ gi (bs rs) lost G (bs ps) z = 0) := Lib.hid ⟨by rw [rvi_kept hl0, hbg], gi_kept hl0⟩
                    have HH : Hid ((gl = 0) ∨ (0 < gl ∧ gs.getD 0 0 ≠ (z : Int))) := Lib.hid hgh
                    clear hlt hz1 hz2 hvl hvb hgz own8 hw8 acc8 hb hc hrr hin hbg hzq hl0 hgh
                    go_upto_region 27 with (at_builtin; go_loud (refine clone8 rfl _ _ rfl (some ⟨w8.heap.size, 0, none⟩) rfl rA _ _ rb rfl HRN.out (HIN.out.h.below HE8.out (Nat.le_refl _)) HRN5.out ?_); intro A9 c9 w9 hh9 hb9 ho9)
                    (have HC9 : Hid (OwnZ w9 w8.heap.size (.slice A9 rn c9) rb) := Lib.hid (by rcases ho9 with ⟨h1, rfl, rfl, rfl⟩ | h1; (exact .inr ⟨h1, _, by rw [← HRN.out, h1]; rfl⟩); (exact .inl (h1.mono HE8.out.size)))); have HB9 := Lib.hid (HE8.out.trans (hb9.mono HE8.out.size)); clear hh9 hb9 ho9; have HO9 := Lib.hid (HO8.out.past HB9.out); have HW9 := Lib.hid (HW8.out.below HB9.out (Nat.le_refl _)); have HA9 := Lib.hid (HA8.out.trans (HB9.out.mono HA8.out.size))
                    have HRB : Hid (∀ z ∈ rb, 0 ≤ z ∧ z ≤ 255) := Lib.hid HIN.out.b
                    rcases HH.out with h0 | ⟨h0, hne⟩
                    · subst h0
                      (go_wp2_with (at_builtin; go_loud (refine appPI rfl _ _ rfl w2.heap.size _ vs rfl (HO9.out.past ((Below.refl _ _).alloc (Nat.le_refl _) (.cells #[.slice A9 rn c9] 36))) (by have := HA9.out.size; simp; omega) (w9).heap.size 1 rfl ⟨A9, rn, c9, rb⟩ (Lies.fresh w9 _ [.slice A9 rn c9]).one.1 ((HC9.out.mono HA8.out.size).alloc _) HRB.out (z + 1) (by rw [HV.out.1]) (by have := HL2.out; have := HG.out; omega) w2.heap.size _ gs (HW9.out.below ((Below.refl _ _).alloc (Nat.le_refl _) (.cells #[.slice A9 rn c9] 36)) (Nat.le_refl _)) ?_); intro A5 c5 w5b ho5 hb5 hw5)); go_roundw; (case rel => exact ⟨z + 1, c5, A5, vs ++ [⟨A9, rn, c9, rb⟩], by have := HZ.out; omega, by have := HL2.out; omega, by go_num, by rw [List.length_append, HV.out.1]; rfl, by rw [List.length_append, HV.out.1]; rfl, by rw [List.range_succ, List.map_append, ← HV.out.2.1]; unfold bs; rw [List.map_append]; simp only [List.map_cons, List.map_nil]; rw [show rvi (List.map R8.b rs) lost G (List.map R8.b ps) z = rb from HRVI.out.1], fun i hi => (by rcases Nat.lt_or_ge i z with a | a; (exact HV.out.2.2 i a); (obtain rfl : i = z := (by omega)); exact HRVI.out.2), by rw [List.length_append, HV.out.1]; exact ho5, hw5, (HA9.out.alloc HA9.out.size _).trans hb5⟩); (case measure => simp [intOf]; have := HL2.out; omega)
                    · obtain ⟨b7, o7, rfl, hb7, hc7⟩ := has_some HW9.out.has (by rw [HGS.out.2.1]; exact h0)
                      have d7 := hc7 0 (by rw [HGS.out.2.1]; exact h0)
                      rw [Nat.add_zero] at d7
                      obtain ⟨v7, hv7⟩ : ∃ v, gs.getD 0 0 = v := ⟨_, rfl⟩
                      rw [hv7] at d7 hne
                      have e7 : ((z : Int) == v7) = false := by simpa using fun e => hne e.symm
                      have gl0 : (0 : Int) < gl := by omega
                      clear hb7 hc7 hv7 hne h0
                      (go_wp2_with (at_builtin; go_loud (refine appPI rfl _ _ rfl w2.heap.size _ vs rfl (HO9.out.past ((Below.refl _ _).alloc (Nat.le_refl _) (.cells #[.slice A9 rn c9] 36))) (by have := HA9.out.size; simp; omega) (w9).heap.size 1 rfl ⟨A9, rn, c9, rb⟩ (Lies.fresh w9 _ [.slice A9 rn c9]).one.1 ((HC9.out.mono HA8.out.size).alloc _) HRB.out (z + 1) (by rw [HV.out.1]) (by have := HL2.out; have := HG.out; omega) w2.heap.size _ gs (HW9.out.below ((Below.refl _ _).alloc (Nat.le_refl _) (.cells #[.slice A9 rn c9] 36)) (Nat.le_refl _)) ?_); intro A5 c5 w5b ho5 hb5 hw5)); go_roundw; (case rel => exact ⟨z + 1, c5, A5, vs ++ [⟨A9, rn, c9, rb⟩], by have := HZ.out; omega, by have := HL2.out; omega, by go_num, by rw [List.length_append, HV.out.1]; rfl, by rw [List.length_append, HV.out.1]; rfl, by rw [List.range_succ, List.map_append, ← HV.out.2.1]; unfold bs; rw [List.map_append]; simp only [List.map_cons, List.map_nil]; rw [show rvi (List.map R8.b rs) lost G (List.map R8.b ps) z = rb from HRVI.out.1], fun i hi => (by rcases Nat.lt_or_ge i z with a | a; (exact HV.out.2.2 i a); (obtain rfl : i = z := (by omega)); exact HRVI.out.2), by rw [List.length_append, HV.out.1]; exact ho5, hw5, (HA9.out.alloc HA9.out.size _).trans hb5⟩); (case measure => simp [intOf]; have := HL2.out; omega)
                · obtain rfl : z = E := by omega
                  have z1 : ¬ (z : Int) < z := by omega
                  have HMZ : Hid (vs.length = min t q ∧ z = min t q) := Lib.hid ⟨by rw [hvl]; exact HEE.out.1.symm, HEE.out.1.symm⟩
                  clear hlt hz1 hz2 hvl hvb hgz own8 hw8 acc8
                  go_wp2_with fail
                  go_roundw
                  case rel => exact ⟨j + 1, t, c8, A8, vs, HT.out.2.1, HT.out.2.2.1, rfl, rfl, HMZ.out.1, by rw [← HMZ.out.2]; exact HV.out.2.1, fun i h1 h2 => HV.out.2.2 i (by have := HMZ.out.2; omega), HO8.out, HA8.out⟩
                  case measure => simp [intOf]; have := HT.out; have := HG.out; omega
            · have J0 : ¬ (J : Int) < q := by omega
              have hmq : min J q = q := by omega
              rw [hmq] at hul hub
              have HX := Lib.hid (HE3.out 0 (fE_zero fun i hi => hgz i hi (by omega)))
              have HRV : Hid (recV (bs rs) lost (G : Int) (bs ps) = bs us) := Lib.hid (by unfold recV; rw [if_pos HX.out, hub, Int.toNat_natCast, HBL.out])
              have HUL := Lib.hid hul
              clear hlt hgi hJ hj acc hul hub hgz own hmq
              go_wp2_with fail
              go_ret2
              exact ⟨⟨A6, c6, us, by rw [HX.out, HUL.out]; rfl, HO6.out.rows, HRV.out.symm⟩, HA6.out⟩
end Go.Proofs.Ytacllaeccdgnmaa.paW
