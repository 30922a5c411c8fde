/- ParityRecovers, by a walk. -/
import Derived.Test.YtacllaeccdgnmaaPaRc
import Derived.Test.YtacllaeccdgnmaaPaA
import Derived.Test.YtacllaeccdgnmaaPaPlain8
import Derived.Test.YtacllaeccdgnmaaRowsM
namespace Go.Proofs.Ytacllaeccdgnmaa.paL
set_option maxRecDepth 100000
open Go.RowKit Go.Proofs.Ytacllaeccdgnmaa.base Go.Proofs.Ytacllaeccdgnmaa.paP Go.Proofs.Ytacllaeccdgnmaa.paW
set_option linter.unusedVariables false
set_option linter.unusedSimpArgs false
set_option maxRecDepth 100000
theorem cs_set {cs : List Int} {lost : List Bool} {G K z : Nat} (hl : cs.length = K) (h : ∀ j, j < K → cs.getD j 0 = (cntP lost G j z : Int)) (hz : lost.getD z false = true) (hk : z / G < K) : ∀ j, j < K → (cs.set (z / G) ((cntP lost G (z / G) z : Int) + 1)).getD j 0 = (cntP lost G j (z + 1) : Int) := by
  intro j hj
  rw [getD_set _ _ _ _ (by omega)]
  by_cases e : z / G = j
  · rw [if_pos e]
    have : cntP lost G j (z + 1) = cntP lost G j z + 1 := by
      show cntP lost G j z + (if lost.getD z false = true ∧ z / G = j then 1 else 0) = _
      rw [if_pos ⟨hz, e⟩]
    rw [this, e]; simp
  · rw [if_neg e, h j hj]
    have : cntP lost G j (z + 1) = cntP lost G j z := by
      show cntP lost G j z + (if lost.getD z false = true ∧ z / G = j then 1 else 0) = _
      rw [if_neg (fun h => e h.2)]; omega
    rw [this]
theorem cs_keep {cs : List Int} {lost : List Bool} {G K z : Nat} (h : ∀ j, j < K → cs.getD j 0 = (cntP lost G j z : Int)) (hz : lost.getD z false = false) : ∀ j, j < K → cs.getD j 0 = (cntP lost G j (z + 1) : Int) := by
  intro j hj
  rw [h j hj]
  have : cntP lost G j (z + 1) = cntP lost G j z := by
    show cntP lost G j z + (if lost.getD z false = true ∧ z / G = j then 1 else 0) = _
    rw [if_neg (fun h => by rw [hz] at h; exact Bool.noConfusion h.1)]; omega
  rw [this]
theorem us_more {us rs : List R8} {lost : List Bool} {z : Nat} {r : R8} (hl : us.length = z) (h : ∀ j, j < z → lost.getD j false = false → (us.getD j r80).b = (rs.getD j r80).b) (hr : lost.getD z false = false → r.b = (rs.getD z r80).b) : ∀ j, j < z + 1 → lost.getD j false = false → ((us ++ [r]).getD j r80).b = (rs.getD j r80).b := by
  intro j hj hlo
  rcases Nat.lt_or_ge j z with a | a
  · rw [List.getD_eq_getElem?_getD, List.getElem?_append_left (by omega), ← List.getD_eq_getElem?_getD]
    exact h j a hlo
  · obtain rfl : j = z := by omega
    rw [List.getD_eq_getElem?_getD, List.getElem?_append_right (by omega), hl, Nat.sub_self]
    exact hr hlo
set_option maxHeartbeats 8000000 in
theorem recovers (P : Option Addr) (m d : Nat) (rs : List R8) (A : Option Addr) (n c : Nat) (lost : List Bool) (g : Int) (w : World) (hr : RowsB w P m d rs) (hl : IsRowB w A n c lost) (hg1 : -9223372036854775808 ≤ g) (hg2 : g ≤ 9223372036854775807) :
    Calls Try.prog 6 #[.slice P m d, .slice A n c, .int .i64 g] w fun e w' => e = .returned (.bool true) ∧ Below w.heap.size w w' := by
  obtain ⟨l1, l2, l3, l4, l5⟩ := hl
  have HR := Lib.hid hr
  have HL := Lib.hid (And.intro l1 (And.intro l2 l4))
  have HG := Lib.hid (And.intro hg1 hg2)
  have m1 : (m : Int) ≤ 9223372036854775807 := by have := hr.c1; have := hr.c2; omega
  have n1 : (n : Int) ≤ 9223372036854775807 := by omega
  have HBL := Lib.hid (bs_len hr)
  clear hr l1 l2 l3 l4 l5
  go_enter Try.func6, Try.ntmps6
  go_wp2_with (go_at_call 17; refine (alive_yes _).mono ?_; rintro e w1 ⟨rfl, hb1⟩; have HB1 := Lib.hid hb1; clear hb1)
  refine (rProtect_any P m d rs g w1 (HR.out.below HB1.out (Nat.le_refl _)) HG.out.1 HG.out.2).mono ?_
  obtain ⟨pe, hpe⟩ : ∃ pe, protE (bs rs) g = pe := ⟨_, rfl⟩
  have HPE := Lib.hid hpe
  rintro e w2 ⟨⟨A2, c2, ws, rfl, ho2, hv2⟩, hb2⟩
  rw [hpe]
  have HB2 := Lib.hid (HB1.out.trans (hb2.mono HB1.out.size))
  have HWS := Lib.hid hv2
  clear hb2 ho2 hpe hv2
  go_wp2_with fail
  refine (great_any P m d rs w2 (HR.out.below HB2.out (Nat.le_refl _))).mono ?_
  rintro e w3 ⟨⟨b1, rfl, -⟩, rfl⟩
  rcases b1 with _ | _
  rotate_left
  · go_wp2_with fail
    go_ret
    exact ⟨rfl, HB2.out⟩
  by_cases hp0 : pe = 0
  rotate_left
  · have e1 : (pe == 0) = false := by simpa using hp0
    have e2 : (pe != 0) = true := by simp [bne, e1]
    go_wp2_with fail
    go_ret
    exact ⟨rfl, HB2.out⟩
  subst hp0
  by_cases hnm : n = m
  rotate_left
  · have e1 : ((n : Int) == m) = false := by simp; omega
    have e2 : ((n : Int) != m) = true := by simp [bne]; omega
    go_wp2_with fail
    go_ret
    exact ⟨rfl, HB2.out⟩
  subst hnm
  obtain ⟨G, rfl⟩ : ∃ G : Nat, g = (G : Int) := ⟨g.toNat, by
    have h := HPE.out
    unfold protE at h
    split at h
    · omega
    · omega⟩
  obtain ⟨K, hK⟩ : ∃ K, groups n G = K := ⟨_, rfl⟩
  have hok := protE_ok HPE.out
  rw [HBL.out] at hok
  have hKn := groups_le (n := n) (g := G) hok.1
  rw [hK] at hKn
  have HOK : Hid ((1 ≤ G ∧ G ≤ 16 ∧ n ≤ 100 ∧ wd (bs rs) ≤ 5000) ∧ groups n G = K ∧ K ≤ n) := Lib.hid ⟨hok, hK, hKn⟩
  have HV : Hid (protV (bs rs) (G : Int) = protP (bs rs) G K) := Lib.hid (by unfold protV; rw [if_pos HPE.out, Int.toNat_natCast, HBL.out, hK])
  have HWL : Hid (ws.length = K) := Lib.hid (by
    have h1 := congrArg List.length HWS.out
    rw [HV.out, protP_len] at h1
    unfold bs at h1
    simpa using h1)
  have g1 : (G : Int) ≤ 16 := by omega
  have g0 : (1 : Int) ≤ G := by omega
  have K1 : (K : Int) ≤ 100 := by omega
  have n2 : (n : Int) ≤ 100 := by omega
  clear hok hK hKn
  rw [HWL.out]
  go_wp2_with fail
  refine (Protect_any P n d rs (G : Int) w3 (HR.out.below HB2.out (Nat.le_refl _)) HG.out.1 HG.out.2).mono ?_
  rintro e w4 ⟨⟨A4, c4, qs, rfl, ho4, hv4⟩, hb4⟩
  rw [HPE.out]
  have HB4 := Lib.hid (HB2.out.trans (hb4.mono HB2.out.size))
  have hql : qs.length = K := by
    have h1 := congrArg List.length hv4
    rw [HV.out, protP_len] at h1
    unfold bs at h1
    simpa using h1
  rw [hql] at ho4 ⊢
  have HQ := Lib.hid (And.intro ho4.rows (And.intro hv4 hql))
  clear hb4 ho4 hv4 hql
  go_wp2_with fail
  refine (Right_any P A4 n d K c4 rs qs (G : Int) w4 (HR.out.below HB4.out (Nat.le_refl _)) HG.out.1 HG.out.2 HQ.out.1).mono ?_
  rw [HPE.out, show rightB (bs rs) (G : Int) (bs qs) = true by unfold rightB; rw [HPE.out, HQ.out.2.1]; simp]
  rintro e w5 ⟨rfl, hb5⟩
  have HB5 := Lib.hid (HB4.out.trans (hb5.mono HB4.out.size))
  have HQ5 := Lib.hid (HQ.out.1.below hb5 (Nat.le_refl _))
  clear hb5
  have HR5 := Lib.hid (HR.out.below HB5.out (Nat.le_refl _))
  have HL5 := Lib.hid (HL.out.1.below HB5.out (Nat.le_refl _))
  go_wp2_with (at_make; go_loud (refine makeI rfl _ _ rfl _ _ K rfl rfl (by have := HOK.out; omega) w5.heap.size (Nat.le_refl _) ?_); intro w6 own6 hb6)
  have HC6 := Lib.hid own6
  have HB6 := Lib.hid hb6
  clear own6 hb6
  obtain ⟨gb, hgb⟩ : ∃ gb, w5.heap.size = gb := ⟨_, rfl⟩
  have HGB := Lib.hid hgb
  rw [hgb] at HC6 ⊢
  clear hgb
  go_loopw [14, 16] (fun o i wr => ∃ (z c' : Nat) (A' : Option Addr) (us : List R8) (cs : List Int), z ≤ n ∧ i = .int .i64 (z : Int) ∧ o = .slice A' z c' ∧ us.length = z ∧ (∀ j, j < z → lost.getD j false = false → (us.getD j r80).b = (rs.getD j r80).b) ∧ OwnM wr gb (.slice A' z c') us ∧ cs.length = K ∧ (∀ j, j < K → cs.getD j 0 = (cntP lost G j z : Int)) ∧ OwnI wr gb 3 .i64 (.slice (some ⟨gb, 0, none⟩) K K) cs ∧ Below gb w5 wr) (fun _ i _ => n - (intOf i).toNat)
  case atStart => exact ⟨0, 0, none, [], _, Nat.zero_le _, rfl, rfl, rfl, fun j hj => by omega, OwnM.nil _ _, by simp, fun j hj => by simp [List.getD_eq_getElem?_getD, hj, cntP], HC6.out, by rw [← HGB.out]; exact HB6.out⟩
  case round =>
    obtain ⟨z, c', A', us, cs, hz, rfl, rfl, hul, hub, ownm, hcl, hcs, owni, acc⟩ := hrel
    have HO := Lib.hid ownm
    have HI := Lib.hid owni
    have HA := Lib.hid acc
    have HU := Lib.hid (And.intro hul (And.intro hub (And.intro hcl hcs)))
    have hsz : gb ≤ wr.heap.size := by have := acc.size; rw [← HGB.out]; exact this
    have HSZ := Lib.hid hsz
    by_cases hlt : z < n
    · have z1 : (z : Int) < n := by omega
      have z0 : 0 ≤ (z : Int) := by omega
      have HZ := Lib.hid hlt
      obtain ⟨b, off, rfl, hb, hc⟩ : ∃ b off, A = some ⟨b, off, none⟩ ∧ b < w5.heap.size ∧ ∀ i, i < lost.length → w5.cell? ⟨b, off + i, none⟩ = some (.bool (lost.getD i false)) := by
        rcases HL5.out with h | h
        · have := HL.out.2.1; rw [h] at this; simp at this; omega
        · exact h
      have d1 : wr.cell? ⟨b, off + z, none⟩ = some (.bool (lost.getD z false)) := by rw [acc.cell (p := ⟨b, off + z, none⟩) (by rw [← HGB.out]; exact hb)]; exact hc z (by rw [HL.out.2.1]; exact hlt)
      obtain ⟨t, ht⟩ : ∃ t, lost.getD z false = t := ⟨_, rfl⟩
      rw [ht] at d1
      have HT := Lib.hid ht
      obtain ⟨z2, hz2⟩ : ∃ z2, z + 1 = z2 := ⟨_, rfl⟩
      have HZ2 := Lib.hid hz2
      cases t
      · obtain ⟨b2, off2, rfl, hb2, hc2⟩ := rb_cell HR5.out hlt
        have d2 : wr.cell? ⟨b2, off2 + z, none⟩ = some (.slice (rs.getD z r80).A (rs.getD z r80).n (rs.getD z r80).c) := by rw [acc.cell (p := ⟨b2, off2 + z, none⟩) (by rw [← HGB.out]; exact hb2)]; exact hc2 z hlt
        have hin := HR5.out.h.get z (by rw [HR5.out.l]; exact hlt)
        obtain ⟨r, hrr⟩ : ∃ r, rs.getD z r80 = r := ⟨_, rfl⟩
        rw [hrr] at d2 hin
        obtain ⟨rA, rn, rc, rb⟩ := r
        dsimp only at d2
        have HPC : Hid (Pc (wr.alloc (.cells #[.slice rA rn rc] 36)) gb ⟨rA, rn, rc, rb⟩) := Lib.hid (.inr ⟨w5, by rw [HGB.out]; exact Nat.le_refl _, acc.alloc hsz _, hin⟩)
        have HOA : Hid (OwnM (wr.alloc (.cells #[.slice rA rn rc] 36)) gb (.slice A' z c') us ∧ OwnI (wr.alloc (.cells #[.slice rA rn rc] 36)) gb 3 .i64 (.slice (some ⟨gb, 0, none⟩) K K) cs) := Lib.hid ⟨ownm.past ((Below.refl _ _).alloc (Nat.le_refl _) _) hsz, owni.below ((Below.refl _ _).alloc (Nat.le_refl _) _) (Nat.le_refl _)⟩
        have HUM := Lib.hid (us_more (r := ⟨rA, rn, rc, rb⟩) hul hub fun _ => by rw [hrr])
        clear hlt hz hul hub ownm hcl hcs owni acc hsz hb hc ht hz2 hb2 hc2 hin hrr
        go_wp2_with (at_builtin; go_loud (refine appM rfl _ _ rfl gb _ us rfl HOA.out.1 (by have := HSZ.out; simp; omega) wr.heap.size 1 rfl ⟨rA, rn, rc, rb⟩ (Lies.fresh wr _ [.slice rA rn rc]).one.1 HPC.out z2 (by rw [HU.out.1]; exact HZ2.out) (by have := HZ2.out; have := HZ.out; have := HOK.out; omega) gb _ cs HOA.out.2 ?_); intro A9 c9 w9 ho9 hb9 hi9)
        go_roundw
        case rel => exact ⟨z2, c9, A9, us ++ [⟨rA, rn, rc, rb⟩], cs, by have := HZ.out; have := HZ2.out; omega, by rw [← HZ2.out]; go_num, rfl, by rw [List.length_append, HU.out.1, ← HZ2.out]; rfl, by rw [← HZ2.out]; exact HUM.out, ho9, HU.out.2.2.1, by rw [← HZ2.out]; exact cs_keep HU.out.2.2.2 HT.out, hi9, (HA.out.alloc HSZ.out _).trans hb9⟩
        case measure => simp [intOf]; have := HZ.out; have := HZ2.out; omega
      · obtain ⟨j, hj⟩ : ∃ j, z / G = j := ⟨_, rfl⟩
        have hjK : j < K := by
          rw [← HOK.out.2.1, ← hj, groups_iff HOK.out.1.1]
          have h1 := Nat.div_mul_le_self z G
          omega
        have HJ := Lib.hid (And.intro hj hjK)
        have j1 : (j : Int) < K := by omega
        have j0 : 0 ≤ (j : Int) := by omega
        have w8 : Int.tdiv (z : Int) (G : Int) = (j : Int) := by rw [← hj]; exact (Int.ofNat_tdiv _ _).symm
        have w8b : IntKind.i64.wrap (j : Int) = (j : Int) := IntWalk.i64_in _ (by omega)
        have w9 : IntKind.i64.wrap (Int.tdiv (z : Int) (G : Int)) = (j : Int) := by rw [w8]; exact w8b
        have g3 : ¬ (G : Int) = 0 := by omega
        have g4 : ((G : Int) == 0) = false := by simpa using g3
        have g5 : ¬ G = 0 := by omega
        have g6 : (G == 0) = false := by simpa using g5
        have zb : IntKind.u8.wrap (z : Int) = (z : Int) := IntWalk.u8_in _ (by omega)
        obtain ⟨k, hk⟩ : ∃ k, cntP lost G j z = k := ⟨_, rfl⟩
        have hkz := cnt_le lost G j z
        have hcj := hcs j hjK
        rw [hk] at hcj hkz
        have kw : IntKind.i64.wrap ((k : Int) + 1) = (k : Int) + 1 := IntWalk.i64_in _ (by omega)
        have HKC := Lib.hid (And.intro hcj hk)
        have hin : InR (wr.alloc (.cells #[.int .u8 (z : Int)] 5)) ⟨some ⟨wr.heap.size, 0, none⟩, 1, 1, [(z : Int)]⟩ := inr_lit wr [(z : Int)] (by simp) (by intro y hy; rw [List.mem_singleton.1 hy]; omega) rfl rfl
        have hown : OwnI (wr.alloc (.cells #[.int .u8 (z : Int)] 5)) gb 5 .u8 (.slice (some ⟨wr.heap.size, 0, none⟩) 1 1) [(z : Int)] := (OwnI.lit wr 5 .u8 [(z : Int)] gb hsz (by unfold maxLen; simp))
        have hb0 : Below wr.heap.size wr ((wr.alloc (.cells #[.int .u8 (z : Int)] 5)).alloc (.cells #[.slice (some ⟨wr.heap.size, 0, none⟩) 1 1] 36)) := ((Below.refl _ _).alloc (Nat.le_refl _) _).alloc (by simp) _
        have HPC : Hid (Pc ((wr.alloc (.cells #[.int .u8 (z : Int)] 5)).alloc (.cells #[.slice (some ⟨wr.heap.size, 0, none⟩) 1 1] 36)) gb ⟨some ⟨wr.heap.size, 0, none⟩, 1, 1, [(z : Int)]⟩) := Lib.hid (.inl ⟨(show OwnZ _ gb (.slice (some ⟨wr.heap.size, 0, none⟩) 1 1) [(z : Int)] from .inl (hown.below ((Below.refl _ _).alloc (Nat.le_refl _) _) (Nat.le_refl _))), by intro y hy; rw [List.mem_singleton.1 hy]; omega⟩)
        have HOA : Hid (OwnM ((wr.alloc (.cells #[.int .u8 (z : Int)] 5)).alloc (.cells #[.slice (some ⟨wr.heap.size, 0, none⟩) 1 1] 36)) gb (.slice A' z c') us ∧ OwnI ((wr.alloc (.cells #[.int .u8 (z : Int)] 5)).alloc (.cells #[.slice (some ⟨wr.heap.size, 0, none⟩) 1 1] 36)) gb 3 .i64 (.slice (some ⟨gb, 0, none⟩) K K) cs ∧ Below gb w5 ((wr.alloc (.cells #[.int .u8 (z : Int)] 5)).alloc (.cells #[.slice (some ⟨wr.heap.size, 0, none⟩) 1 1] 36))) := Lib.hid ⟨ownm.past hb0 hsz, owni.below hb0 (Nat.le_refl _), acc.trans (hb0.mono hsz)⟩
        have hcell : ((wr.alloc (.cells #[.int .u8 (z : Int)] 5)).alloc (.cells #[.slice (some ⟨wr.heap.size, 0, none⟩) 1 1] 36)).cell? ⟨wr.heap.size + 1, 0, none⟩ = some (.slice (some ⟨wr.heap.size, 0, none⟩) 1 1) := (Lies.fresh_at (w := wr.alloc (.cells #[.int .u8 (z : Int)] 5)) (t := 36) (cs := [.slice (some ⟨wr.heap.size, 0, none⟩) 1 1]) (by simp)).one.1
        have HCELL := Lib.hid hcell
        have HUM := Lib.hid (us_more (r := ⟨some ⟨wr.heap.size, 0, none⟩, 1, 1, [(z : Int)]⟩) hul hub fun h => by rw [ht] at h; exact Bool.noConfusion h)
        clear hlt hz hul hub ownm hcl hcs owni acc hsz hb hc ht hz2 hj hjK hk hkz hcj hin hown hb0 hcell
        go_upto_region 17 with (at_builtin; go_loud (refine appM rfl _ _ rfl gb _ us rfl HOA.out.1 (by have := HSZ.out; simp; omega) (wr.heap.size + 1) 1 rfl ⟨some ⟨wr.heap.size, 0, none⟩, 1, 1, [(z : Int)]⟩ HCELL.out HPC.out z2 (by rw [HU.out.1]; exact HZ2.out) (by have := HZ2.out; have := HZ.out; have := HOK.out; omega) gb _ cs HOA.out.2.1 ?_); intro A9 c9 w9b ho9 hb9 hi9)
        have HO9 := Lib.hid ho9
        have HI9 := Lib.hid hi9
        have HA9 := Lib.hid (HOA.out.2.2.trans hb9)
        have p1 := hi9.cell j (by rw [HU.out.2.2.1]; exact HJ.out.2)
        have p2 := hi9.frozen j
        rw [HKC.out.1] at p1
        clear ho9 hb9 hi9
        go_wp2_with fail
        go_roundw
        case rel =>
          refine ⟨z2, c9, A9, us ++ [⟨some ⟨wr.heap.size, 0, none⟩, 1, 1, [(z : Int)]⟩], cs.set j ((k : Int) + 1), by have := HZ.out; have := HZ2.out; omega, by rw [← HZ2.out]; go_num, rfl, by rw [List.length_append, HU.out.1, ← HZ2.out]; rfl, by rw [← HZ2.out]; exact HUM.out, ?_, by rw [List.length_set]; exact HU.out.2.2.1, ?_, HI9.out.store j _, Below.setCell HA9.out (Nat.le_refl _) _⟩
          · exact HO9.out.setI (Nat.le_refl _) HI9.out j _
          · have h := cs_set HU.out.2.2.1 HU.out.2.2.2 HT.out (by rw [HJ.out.1]; exact HJ.out.2)
            rw [HJ.out.1, HKC.out.2, HZ2.out] at h
            exact h
        case measure => simp [intOf]; have := HZ.out; have := HZ2.out; omega
    · obtain rfl : z = n := by omega
      have z1 : ¬ (z : Int) < z := by omega
      have hrows := ownm.rows
      have HROW := Lib.hid hrows
      have hbu : (bs us).length = (bs rs).length := by rw [HBL.out]; unfold bs; simp [hul]
      have hD : ∀ j, j < (bs rs).length → lost.getD j false = false → (bs us).getD j [] = (bs rs).getD j [] := fun j h1 h2 => by
        rw [HBL.out] at h1
        rw [bs_get', bs_get']; exact hub j h1 h2
      have hNL : lost.length = (bs rs).length := by rw [HBL.out]; exact HL.out.2.1
      have HTWO : Hid (twoB lost G z = true → recE (bs us) lost (G : Int) (bs qs) = 40) := Lib.hid fun h => lost_two HPE.out hbu hNL (by rw [HBL.out]; exact h) hD
      have HNONE : Hid (twoB lost G z = false → recE (bs us) lost (G : Int) (bs qs) = 0 ∧ recV (bs us) lost (G : Int) (bs qs) = bs rs) := Lib.hid fun h => by
        rw [HQ.out.2.1, HV.out]
        exact recovered HPE.out hbu hNL (bs_byt HR.out) (by rw [HBL.out]; exact h) hD (by rw [HBL.out]; exact HOK.out.2.1)
      have HB9 : Hid (Below w.heap.size w wr) := Lib.hid (HB5.out.trans (acc.mono (by rw [← HGB.out]; exact HB5.out.size)))
      have HQ9 := Lib.hid (HQ5.out.below acc (by rw [← HGB.out]; exact Nat.le_refl _))
      have HL9 := Lib.hid (HL5.out.below acc (by rw [← HGB.out]; exact Nat.le_refl _))
      have HR9 := Lib.hid (HR.out.below HB9.out (Nat.le_refl _))
      clear hlt hz hul hub ownm hcl hcs owni acc hsz hrows hbu hD hNL
      go_wp2_with fail
      go_loopw [17] (fun i w8 => ∃ j : Nat, j ≤ K ∧ i = .int .i64 (j : Int) ∧ (∀ y, y < j → cntP lost G y z ≤ 1) ∧ w8 = wr) (fun i _ => K - (intOf i).toNat)
      case atStart => exact ⟨0, Nat.zero_le _, rfl, fun y hy => by omega, rfl⟩
      case round =>
        obtain ⟨j, hj, rfl, hno, hw8⟩ := hrel
        rename World => w8
        subst hw8
        have HNO := Lib.hid hno
        by_cases hlt : j < K
        · have j1 : (j : Int) < K := by omega
          have j0 : 0 ≤ (j : Int) := by omega
          have HJ := Lib.hid hlt
          have p1 := HI.out.cell j (by rw [HU.out.2.2.1]; exact hlt)
          rw [HU.out.2.2.2 j hlt] at p1
          obtain ⟨k, hk⟩ : ∃ k, cntP lost G j z = k := ⟨_, rfl⟩
          rw [hk] at p1
          have HK := Lib.hid hk
          clear hlt hj hno hk
          by_cases h1 : 1 < k
          · have k1 : (1 : Int) < k := by omega
            have HE := Lib.hid (HTWO.out (cnt_twoB (j := j) (by rw [HK.out]; exact h1)))
            clear h1
            go_wp2_with (go_at_call 11; go_loud (refine (Recover_any A' A A4 z c' z c K c4 us qs lost (G : Int) w8 HROW.out HL9.out HL.out.2.1 HL.out.2.2 HG.out.1 HG.out.2 HQ9.out).mono ?_); rintro e w10 ⟨⟨A10, c10, vs, rfl, hr10, hv10⟩, hb10⟩; rw [HE.out]; have HB10 := Lib.hid (HB9.out.trans (hb10.mono HB9.out.size)); clear hr10 hv10 hb10)
            go_ret
            exact ⟨rfl, HB10.out⟩
          · have k1 : ¬ (1 : Int) < k := by omega
            have HK1 : Hid (k ≤ 1) := Lib.hid (by omega)
            clear h1
            go_wp2_with fail
            go_roundw
            case rel => exact ⟨j + 1, HJ.out, by go_num, fun y hy => by
              rcases Nat.lt_or_ge y j with a | a
              · exact HNO.out y a
              · obtain rfl : y = j := by omega
                rw [HK.out]; exact HK1.out, by trivial⟩
            case measure => simp [intOf]; have := HJ.out; omega
        · obtain rfl : j = K := by omega
          have j1 : ¬ (j : Int) < j := by omega
          have htw := cnt_no (lost := lost) (g := G) (n := z) HOK.out.1.1 HOK.out.2.1 hno
          have HE := Lib.hid (HNONE.out htw)
          clear hlt hj hno htw
          go_wp2_with fail
          refine (Recover_any A' A A4 z c' z c j c4 us qs lost (G : Int) w8 HROW.out HL9.out HL.out.2.1 HL.out.2.2 HG.out.1 HG.out.2 HQ9.out).mono ?_
          rintro e w10 ⟨⟨A10, c10, vs, rfl, hr10, hv10⟩, hb10⟩
          rw [HE.out.1]
          have HB10 := Lib.hid (HB9.out.trans (hb10.mono HB9.out.size))
          have HR10 := Lib.hid (HR9.out.below hb10 (Nat.le_refl _))
          have HV10 := Lib.hid (And.intro hr10 hv10)
          have HSAME : Hid (decide (bs vs = bs rs) = true) := Lib.hid (decide_eq_true (by rw [hv10]; exact HE.out.2))
          clear hr10 hv10 hb10
          go_wp2_with (go_at_call 13; go_loud (refine (Same_any A10 P _ c10 z d vs rs _ HV10.out.1 HR10.out).mono ?_); rw [HSAME.out]; rintro e w11 ⟨rfl, hb11⟩; have HB11 := Lib.hid (HB10.out.trans (hb11.mono HB10.out.size)))
          go_ret
          exact ⟨rfl, HB11.out⟩
end Go.Proofs.Ytacllaeccdgnmaa.paL
