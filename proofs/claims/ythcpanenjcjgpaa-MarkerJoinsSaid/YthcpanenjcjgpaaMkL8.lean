/- MarkerJoins, by a walk (the examples' walk is handed in as a premise). -/
import Derived.Test.YthcpanenjcjgpaaMkL4
import Derived.Test.YthcpanenjcjgpaaMkWB
namespace Go.Proofs.Ythcpanenjcjgpaa.mkL
open Go.RowKit Go.Proofs.Ythcpanenjcjgpaa.base Go.Proofs.Ythcpanenjcjgpaa.mkP Go.Proofs.Ythcpanenjcjgpaa.mkW
set_option linter.unusedVariables false
set_option linter.unusedSimpArgs false
def midL (a b : List Int) : List Int := if midB a b then [(a.length : Int) - par a] else []
theorem joinL_eq (a b : List Int) : pl (a ++ b) = pl a ++ midL a b ++ (pl b).map fun z => (a.length : Int) + z := pl_join a b
theorem pl_mem_bd {b : List Int} {k : Nat} (h : k < (pl b).length) : ∃ v : Nat, (pl b).getD k 0 = v ∧ v ≤ b.length := by
  obtain ⟨i, e, h1, _⟩ := plK_mem (b := b) (k := b.length) (z := (pl b).getD k 0) (by
    rw [List.getD_eq_getElem?_getD, List.getElem?_eq_getElem h]; exact List.getElem_mem h)
  exact ⟨i, e, by omega⟩
def wantK (a b : List Int) (k : Nat) : List Int := pl a ++ midL a b ++ ((pl b).take k).map fun z => (a.length : Int) + z
theorem wantK_0 (a b : List Int) : wantK a b 0 = pl a ++ midL a b := by simp [wantK]
theorem wantK_snoc {a b : List Int} {k : Nat} (h : k < (pl b).length) : wantK a b (k + 1) = wantK a b k ++ [(a.length : Int) + (pl b).getD k 0] := by
  rw [wantK, take_snoc 0 (pl b) k h, List.map_append, ← List.append_assoc]; rfl
theorem wantK_all (a b : List Int) : wantK a b (pl b).length = pl (a ++ b) := by rw [wantK, List.take_length, joinL_eq]
theorem midL_len (a b : List Int) : (midL a b).length ≤ 1 := by unfold midL; split <;> simp
theorem wantK_len (a b : List Int) (k : Nat) : (wantK a b k).length ≤ (pl a).length + 1 + (pl b).length := by
  have := midL_len a b
  rw [wantK, List.length_append, List.length_append, List.length_map, List.length_take]; omega
set_option maxRecDepth 100000 in
set_option maxHeartbeats 4000000 in
theorem joins_of (AL : Alive) (A : Option Addr) (n c : Nat) (z : List Int) (B : Option Addr) (m d : Nat) (y : List Int) (w : World) (hr : IsRow .u8 w A n c z) (hr2 : IsRow .u8 w B m d y) (hT : Tab w) :
    Calls Try.prog 8 #[.slice A n c, .slice B m d] w fun e w' => e = .returned (.bool true) ∧ Below w.heap.size w w' := by
  have hi := ib_of hr
  obtain ⟨a, ha⟩ : ∃ a, z.take n = a := ⟨_, rfl⟩
  rw [ha] at hi
  have hi2 := ib_of hr2
  obtain ⟨b, hb⟩ : ∃ b, y.take m = b := ⟨_, rfl⟩
  rw [hb] at hi2
  have HAL := Lib.hid (show ∀ w : World, Tab w → Calls Try.prog 22 #[] w fun e w' => e = .returned (.bool true) ∧ Below w.heap.size w w' from AL)
  have HA := Lib.hid hi
  have HB := Lib.hid hi2
  have HTT := Lib.hid hT
  have n9 : (n : Int) ≤ 9223372036854775807 := by have h1 : n ≤ c := hi.h.c1; have h2 : c ≤ 9223372036854775807 := hi.h.c2; omega
  have m9 : (m : Int) ≤ 9223372036854775807 := by have h1 : m ≤ d := hi2.h.c1; have h2 : d ≤ 9223372036854775807 := hi2.h.c2; omega
  have md : m ≤ d := hi2.h.c1
  have d9 : (d : Int) ≤ 9223372036854775807 := by have h2 : d ≤ 9223372036854775807 := hi2.h.c2; omega
  clear hr hr2 ha hb hT AL
  by_cases c1 : (500 : Int) < n ∨ (500 : Int) < m
  · have key : (500 : Int) < n ∨ ((n : Int) ≤ 500 ∧ (500 : Int) < m) := by omega
    clear hi hi2 c1
    rcases key with k1 | ⟨k1, k2⟩
    all_goals
      go_enter Try.func8, Try.ntmps8
      go_wp2_with fail
      refine (HAL.out _ HTT.out).mono ?_
      rintro e w1 ⟨rfl, hb1⟩
      go_wp2_with fail
      go_ret
      exact ⟨rfl, hb1⟩
  · have k1 : (n : Int) ≤ 500 := by omega
    have k2 : (m : Int) ≤ 500 := by omega
    have HNA : Hid (a.length = n ∧ n ≤ 500) := Lib.hid ⟨hi.e, by omega⟩
    have HNB : Hid (b.length = m ∧ m ≤ 500) := Lib.hid ⟨hi2.e, by omega⟩
    have HMD := Lib.hid md
    have HAB : Hid ((a ++ b).length = n + m ∧ ∀ z ∈ a ++ b, 0 ≤ z ∧ z ≤ 255) := Lib.hid ⟨by rw [List.length_append, hi.e, hi2.e], fun z hz => by
      rcases List.mem_append.1 hz with h | h
      · exact hi.bd z h
      · exact hi2.bd z h⟩
    have HCE : Hid (chE a = 0 ∧ chE b = 0 ∧ chE (a ++ b) = 0) := Lib.hid ⟨chE_yes (by rw [hi.e]; omega), chE_yes (by rw [hi2.e]; omega), chE_yes (by rw [HAB.out.1]; omega)⟩
    have HAV : Hid (allV a = pl a ∧ allV b = pl b ∧ allV (a ++ b) = pl (a ++ b)) := Lib.hid ⟨by rw [allV, if_pos (by rw [hi.e]; omega)], by rw [allV, if_pos (by rw [hi2.e]; omega)], by rw [allV, if_pos (by rw [HAB.out.1]; omega)]⟩
    have HPV : Hid (paV a = par a) := Lib.hid (by rw [paV, if_pos (by rw [hi.e]; omega)])
    obtain ⟨p, hp⟩ : ∃ p, par a = p := ⟨_, rfl⟩
    have HP : Hid (par a = p ∧ p ≤ 12 ∧ p ≤ n) := Lib.hid ⟨hp, by rw [← hp]; exact (par_le a).1, by rw [← hp, ← hi.e]; exact (par_le a).2⟩
    have HPLA : Hid ((pl a).length ≤ 500 ∧ (pl b).length ≤ 500 ∧ (pl (a ++ b)).length ≤ 1000) := Lib.hid (by
      have h1 : (pl a).length ≤ a.length := plK_len a a.length
      have h2 : (pl b).length ≤ b.length := plK_len b b.length
      have h3 : (pl (a ++ b)).length ≤ (a ++ b).length := plK_len (a ++ b) (a ++ b).length
      have := HAB.out.1; have := hi.e; have := hi2.e; omega)
    have p0 : (p : Int) ≤ 12 := by have := HP.out; omega
    have p1 : (p : Int) ≤ n := by have := HP.out; omega
    have p2 : 0 ≤ (p : Int) := by omega
    clear hi hi2 c1 hp md
    go_enter Try.func8, Try.ntmps8
    go_wp2_with fail
    refine (HAL.out _ HTT.out).mono ?_
    rintro e w1 ⟨rfl, hb1⟩
    have HB1 := Lib.hid hb1
    clear hb1
    go_wp2_with (first | (at_builtin; refine app8z rfl _ _ rfl w1.heap.size _ [] rfl (.inr ⟨rfl, some ⟨w1.heap.size, 0, none⟩, rfl⟩) A n c a rfl HNA.out.1 ((HA.out.below HB1.out).h.h.below ((Below.refl _ _).alloc (Nat.le_refl _) _) (Nat.le_refl _)) n (by simp) (by have := HNA.out.2; omega) (by simp) ?_; intro A2 c2 w2 ho2 hk2 hb2; have HO2 := Lib.hid ho2; have HB2 : Hid (Below w1.heap.size w1 w2) := Lib.hid (Below.trans ((Below.refl _ _).alloc (Nat.le_refl _) _) hb2); clear ho2 hk2 hb2) | (at_builtin; refine app8z rfl _ _ rfl w1.heap.size (.slice A2 n c2) ([] ++ a) rfl HO2.out B m d b rfl HNB.out.1 ((HB.out.below HB1.out).h.h.below HB2.out (Nat.le_refl _)) (n + m) (by rw [List.nil_append, HNA.out.1]) (by have := HNA.out.2; have := HNB.out.2; omega) HB2.out.size ?_; intro A3 c3 w3 ho3 hk3 hb3; have HO3 : Hid (OwnZ w3 w1.heap.size (.slice A3 (n + m) c3) (a ++ b)) := Lib.hid ho3; have HB3 : Hid (Below w.heap.size w w3) := Lib.hid (HB1.out.trans ((HB2.out.trans hb3).mono HB1.out.size)); clear ho3 hk3 hb3))
    refine (All_any (a ++ b) A3 (n + m) c3 _ (HTT.out.below HB3.out) (ib_own HO3.out HAB.out.2)).mono ?_
    rintro e w4 ⟨A4, n4, d4, rfl, hn4, ho4, hb4⟩
    rw [HCE.out.2.2]
    rw [HAV.out.2.2] at hn4 ho4
    have HO4 := Lib.hid (And.intro hn4 ho4)
    have HB4 : Hid (Below w.heap.size w w4) := Lib.hid (HB3.out.trans (hb4.mono HB3.out.size))
    clear hn4 ho4 hb4
    go_wp2_with fail
    refine (All_any a A n c _ (HTT.out.below HB4.out) (HA.out.below HB4.out)).mono ?_
    rintro e w5 ⟨A5, n5, d5, rfl, hn5, ho5, hb5⟩
    rw [HCE.out.1]
    rw [HAV.out.1] at hn5 ho5
    have HO5 := Lib.hid (And.intro hn5 ho5)
    have HL5 := Lib.hid (HO4.out.2.below hb5 (Nat.le_refl _))
    have HB5 : Hid (Below w.heap.size w w5) := Lib.hid (HB4.out.trans (hb5.mono HB4.out.size))
    clear hn5 ho5 hb5
    go_wp2_with fail
    refine (All_any b B m d _ (HTT.out.below HB5.out) (HB.out.below HB5.out)).mono ?_
    rintro e w6 ⟨A6, n6, d6, rfl, hn6, ho6, hb6⟩
    rw [HCE.out.2.1]
    rw [HAV.out.2.1] at hn6 ho6
    have HO6 := Lib.hid (And.intro hn6 ho6)
    have HL6 := Lib.hid (HL5.out.below hb6 (Nat.le_refl _))
    have HX6 := Lib.hid (HO5.out.2.below hb6 (Nat.le_refl _))
    have HB6 : Hid (Below w.heap.size w w6) := Lib.hid (HB5.out.trans (hb6.mono HB5.out.size))
    clear hn6 ho6 hb6
    go_wp2_with fail
    refine (Partial_any a A n c _ (HA.out.below HB6.out).h).mono ?_
    rintro e w7 ⟨rfl, hb7⟩
    rw [HCE.out.1, HPV.out, HP.out.1]
    have HL7 := Lib.hid (HL6.out.below hb7 (Nat.le_refl _))
    have HX7 := Lib.hid (HX6.out.below hb7 (Nat.le_refl _))
    have HY7 := Lib.hid (HO6.out.2.below hb7 (Nat.le_refl _))
    have HB7 : Hid (Below w.heap.size w w7) := Lib.hid (HB6.out.trans (hb7.mono HB6.out.size))
    have n59 : (n5 : Int) ≤ 500 := by have := HO5.out.1; have := HPLA.out.1; omega
    have n69 : (n6 : Int) ≤ 500 := by have := HO6.out.1; have := HPLA.out.2.1; omega
    clear hb7
    go_wp2_with (at_builtin; refine appIz rfl _ _ rfl w7.heap.size _ [] rfl (.inr ⟨rfl, some ⟨w7.heap.size, 0, none⟩, rfl⟩) A5 n5 d5 (pl a) rfl HO5.out.1.symm (HX7.out.has.below ((Below.refl _ _).alloc (Nat.le_refl _) _) (Nat.le_refl _)) n5 (by simp) (by omega) (by simp) ?_; intro A8 d8 w8 ho8 hk8 hb8; have HO8 := Lib.hid ho8; have HB8' : Hid (Below w7.heap.size w7 w8) := Lib.hid (Below.trans ((Below.refl _ _).alloc (Nat.le_refl _) _) hb8); clear ho8 hk8 hb8)
    refine (rBytes _).mono ?_
    rintro e w9 ⟨rfl, ho9, hb9⟩
    have HM9 := Lib.hid ho9
    have HO9 : Hid (OwnV w9 w7.heap.size (.slice A8 n5 d8) (pl a)) := Lib.hid (HO8.out.past hb9)
    have HB9' : Hid (Below w7.heap.size w7 w9) := Lib.hid (HB8'.out.trans (hb9.mono HB8'.out.size))
    have HB9 : Hid (Below w.heap.size w w9) := Lib.hid (HB7.out.trans (HB9'.out.mono HB7.out.size))
    have HL9 := Lib.hid (HL7.out.below HB9'.out (Nat.le_refl _))
    have HY9 := Lib.hid (HY7.out.below HB9'.out (Nat.le_refl _))
    clear ho9 hb9
    go_wp2_with fail
    by_cases hp0 : p = 0
    · have HMID : Hid (midL a b = []) := Lib.hid (by simp [midL, midB, HP.out.1, hp0])
      have g1 : decide (0 < p) = false := decide_eq_false (by omega)
      have g2 : decide (0 < (p : Int)) = false := decide_eq_false (by omega)
      clear hp0
      go_quiet (fail)
      have HX0 : Hid (n5 = (pl a ++ midL a b).length ∧ OwnV (w9.drewN nq) w7.heap.size (.slice A8 n5 d8) (pl a ++ midL a b) ∧ Below w7.heap.size w7 (w9.drewN nq)) := Lib.hid (by rw [HMID.out, List.append_nil]; exact ⟨HO5.out.1, HO9.out.drewN nq, below_drewN HB9'.out nq⟩)
      go_wp2_with fail
      go_loopw [14, 16] (fun v i wr => ∃ (k t : Nat) (Aw : Option Addr) (dw : Nat), k ≤ n6 ∧ i = .int .i64 k ∧ v = .slice Aw t dw ∧ t = (wantK a b k).length ∧ OwnV wr w7.heap.size (.slice Aw t dw) (wantK a b k) ∧ Below w7.heap.size w7 wr) (fun _ i _ => n6 - (intOf i).toNat)
      case atStart => exact ⟨0, n5, A8, d8, Nat.zero_le _, rfl, rfl, by rw [wantK_0]; exact HX0.out.1, by rw [wantK_0]; exact HX0.out.2.1, HX0.out.2.2⟩
      case round =>
        obtain ⟨k, t, Aw, dw, hk, rfl, rfl, ht, own, acc⟩ := hrel
        have HT := Lib.hid ht
        have HO := Lib.hid own
        have HACC := Lib.hid acc
        have HTL : Hid (t ≤ 1001) := Lib.hid (by have h1 := wantK_len a b k; have := HPLA.out; omega)
        by_cases hlt : k < n6
        · have hkl : k < (pl b).length := by rw [← HO6.out.1]; exact hlt
          obtain ⟨g6, rfl, -, hg6, -⟩ := HY7.out.form (by intro e; rw [e] at hkl; simp at hkl)
          obtain ⟨v, hv, hvm⟩ := pl_mem_bd hkl
          have p1 : wr.cell? ⟨g6, k, none⟩ = some (.int .i64 (v : Int)) := by
            rw [acc.cell (p := ⟨g6, k, none⟩) hg6, ← hv]; exact HY7.out.cell k hkl
          have lt6 : g6 < wr.heap.size := Nat.lt_of_lt_of_le hg6 acc.size
          have HS : Hid (wantK a b (k + 1) = wantK a b k ++ [(n : Int) + (v : Int)]) := Lib.hid (by rw [wantK_snoc hkl, hv, HNA.out.1])
          have HLT := Lib.hid hlt
          have k1 : (k : Int) < n6 := by omega
          have k2 : (n : Int) + v ≤ 9223372036854775807 := by have := HNB.out; omega
          have k3 : 0 ≤ (n : Int) + v := by omega
          clear hk ht own acc hlt hkl hg6 hv hvm
          go_wp2_with (at_builtin; refine appIz rfl _ _ rfl w7.heap.size _ (wantK a b k) rfl (HO.out.alloc _) (some ⟨_, 0, none⟩) 1 1 [(n : Int) + (v : Int)] rfl rfl (has_lit (zs := [(n : Int) + (v : Int)]) rfl (by simp [maxLen])) (t + 1) (by rw [HT.out]) (by have := HTL.out; omega) (by have := HACC.out.size; simp; omega) ?_; intro A4' c4' w4' ho4 hk4 hb4; have HA4 : Hid (Below w7.heap.size w7 w4') := Lib.hid ((Below.alloc HACC.out HACC.out.size _).trans hb4))
          go_roundw
          case rel => exact ⟨k + 1, t + 1, A4', c4', HLT.out, by go_num, rfl, by rw [HS.out, List.length_append, ← HT.out]; rfl, by rw [HS.out]; exact ho4, HA4.out⟩
          case measure => simp [intOf]; have := HLT.out; omega
        · obtain rfl : k = n6 := by omega
          have HE : Hid (wantK a b k = pl (a ++ b)) := Lib.hid (by rw [HO6.out.1, wantK_all])
          have k1 : ¬ (k : Int) < k := by omega
          clear hk ht own acc hlt
          go_wp2_with fail
          refine (sameI_any A4 Aw n4 t d4 dw (pl (a ++ b)) (wantK a b k) _ (HL7.out.has.below HACC.out (Nat.le_refl _)) HO4.out.1.symm HO.out.has HT.out.symm (by have := HO4.out.1; have := HPLA.out; omega) (by have := HTL.out; omega)).mono ?_
          rintro e w20 ⟨rfl, hb20⟩
          rw [decide_eq_true HE.out.symm]
          go_wp2_with fail
          go_ret
          exact ⟨rfl, HB7.out.trans ((HACC.out.trans (hb20.mono HACC.out.size)).mono HB7.out.size)⟩
    · obtain ⟨q, hq⟩ : ∃ q, q = 13 - p := ⟨_, rfl⟩
      have hsub : 13 - p = q := hq.symm
      have HQ : Hid (q + p = 13) := Lib.hid (by have := HP.out; omega)
      have g1 : decide (0 < p) = true := decide_eq_true (by omega)
      have g2 : decide (0 < (p : Int)) = true := decide_eq_true (by omega)
      have g3 : 0 < (p : Int) := by omega
      have eq1 : IntKind.i64.wrap (13 - (p : Int)) = (q : Int) := by
        have : 13 - (p : Int) = q := by have := HQ.out; omega
        rw [this]; exact IntWalk.i64_in _ (by have := HQ.out; omega)
      by_cases hqm : q ≤ m
      · have g4 : decide (q ≤ m) = true := decide_eq_true hqm
        have g5 : (q : Int) ≤ m := by omega
        have g6 : (q : Int) ≤ d := by have := HMD.out; omega
        have g7 : (p : Int) ≤ 13 := by omega
        have g8 : ¬ 13 = p := by have := HP.out; omega
        have hcv1 : ∀ t, (convert 22 9 (.slice B q d)).run Try.prog (w9.drewN t) = .ok (.string (bstr (b.take q))) (w9.drewN t) := fun t =>
          conv8 (((HB.out.below HB9.out).h.h.front q).below (below_drewN (Below.refl w9.heap.size w9) t) (Nat.le_refl _)) (by rw [List.length_take, HNB.out.1]; omega)
        have hcv2 : ∀ t, (convert 22 9 (.slice (some ⟨w8.heap.size, p, none⟩) q q)).run Try.prog (w9.drewN t) = .ok (.string (bstr (mk.drop p))) (w9.drewN t) := fun t => by
          have h1 := (HM9.out.has.dropAt p).below (below_drewN (Below.refl w9.heap.size w9) t) (Nat.le_refl _)
          rw [Nat.zero_add] at h1
          refine conv8 h1 ?_
          have hm : mk.length = 13 := rfl
          rw [List.length_drop, hm]; exact hsub
        have bd1 : ∀ z ∈ b.take q, 0 ≤ z ∧ z ≤ 255 := fun z hz => HB.out.bd z (List.mem_of_mem_take hz)
        have bd2 : ∀ z ∈ mk.drop p, 0 ≤ z ∧ z ≤ 255 := fun z hz => mk_bd z (List.mem_of_mem_drop hz)
        have HMB : Hid (midB a b = decide (b.take q = mk.drop p)) := Lib.hid (by
          rw [midB, HP.out.1, hsub, decide_eq_true (show 0 < p by omega), decide_eq_true (show q ≤ b.length by rw [HNB.out.1]; exact hqm), Bool.true_and, Bool.true_and])
        by_cases heq : b.take q = mk.drop p
        · have HMID : Hid (midL a b = [(n : Int) - p]) := Lib.hid (by rw [midL, HMB.out, decide_eq_true heq, if_pos rfl, HNA.out.1, HP.out.1])
          rw [← heq] at hcv2
          have hbb : ((bstr (b.take q)).toList == (bstr (b.take q)).toList) = true := by simp
          have HC1 := Lib.hid hcv1
          generalize bstr (b.take q) = sx at *
          have g9 : 0 ≤ (n : Int) - p := by omega
          have g10 : (n : Int) - p ≤ 500 := by omega
          clear hp0 hq hqm bd1 bd2 heq
          go_quiet (fail)
          clear hcv1 hcv2 hsub eq1
          go_wp2_with (at_builtin; refine appIz rfl _ _ rfl w7.heap.size _ (pl a) rfl ((HO9.out.drewN nq).alloc _) (some ⟨_, 0, none⟩) 1 1 [(n : Int) - (p : Int)] rfl rfl (has_lit (zs := [(n : Int) - (p : Int)]) rfl (by simp [maxLen])) (n5 + 1) (by rw [HO5.out.1]) (by omega) (by have := HB9'.out.size; simp; omega) ?_; intro Ax dx wx ho4 hk4 hb4; have HX0 : Hid (n5 + 1 = (pl a ++ midL a b).length ∧ OwnV wx w7.heap.size (.slice Ax (n5 + 1) dx) (pl a ++ midL a b) ∧ Below w7.heap.size w7 wx) := Lib.hid ⟨by rw [HMID.out, List.length_append, ← HO5.out.1]; rfl, by rw [HMID.out]; exact ho4, Below.trans (show Below w7.heap.size w7 ((w9.drewN nq).alloc _) from by have := HB9'.out; (repeat' (first | (with_reducible exact Below.refl _ _) | (with_reducible assumption) | (with_reducible refine below_drewN ?_ _) | (with_reducible refine below_new ?_ _) | (with_reducible refine Below.alloc ?_ ?_ _) | (with_reducible refine Below.drew ?_) | (with_reducible refine Below.setCell ?_ ?_ _) | (with_reducible apply below_at; (case k => (with_reducible assumption)); (case hB => omega)) | (with_reducible apply below_on; (with_reducible assumption)) | (go_size; done) | (with_reducible apply size_of)))) hb4⟩; clear ho4 hk4 hb4)
          go_loopw [14, 16] (fun v i wr => ∃ (k t : Nat) (Aw : Option Addr) (dw : Nat), k ≤ n6 ∧ i = .int .i64 k ∧ v = .slice Aw t dw ∧ t = (wantK a b k).length ∧ OwnV wr w7.heap.size (.slice Aw t dw) (wantK a b k) ∧ Below w7.heap.size w7 wr) (fun _ i _ => n6 - (intOf i).toNat)
          case atStart => exact ⟨0, n5 + 1, Ax, dx, Nat.zero_le _, rfl, rfl, by rw [wantK_0]; exact HX0.out.1, by rw [wantK_0]; exact HX0.out.2.1, HX0.out.2.2⟩
          case round =>
            obtain ⟨k, t, Aw, dw, hk, rfl, rfl, ht, own, acc⟩ := hrel
            have HT := Lib.hid ht
            have HO := Lib.hid own
            have HACC := Lib.hid acc
            have HTL : Hid (t ≤ 1001) := Lib.hid (by have h1 := wantK_len a b k; have := HPLA.out; omega)
            by_cases hlt : k < n6
            · have hkl : k < (pl b).length := by rw [← HO6.out.1]; exact hlt
              obtain ⟨g6, rfl, -, hg6, -⟩ := HY7.out.form (by intro e; rw [e] at hkl; simp at hkl)
              obtain ⟨v, hv, hvm⟩ := pl_mem_bd hkl
              have p1 : wr.cell? ⟨g6, k, none⟩ = some (.int .i64 (v : Int)) := by
                rw [acc.cell (p := ⟨g6, k, none⟩) hg6, ← hv]; exact HY7.out.cell k hkl
              have lt6 : g6 < wr.heap.size := Nat.lt_of_lt_of_le hg6 acc.size
              have HS : Hid (wantK a b (k + 1) = wantK a b k ++ [(n : Int) + (v : Int)]) := Lib.hid (by rw [wantK_snoc hkl, hv, HNA.out.1])
              have HLT := Lib.hid hlt
              have k1 : (k : Int) < n6 := by omega
              have k2 : (n : Int) + v ≤ 9223372036854775807 := by have := HNB.out; omega
              have k3 : 0 ≤ (n : Int) + v := by omega
              clear hk ht own acc hlt hkl hg6 hv hvm
              go_wp2_with (at_builtin; refine appIz rfl _ _ rfl w7.heap.size _ (wantK a b k) rfl (HO.out.alloc _) (some ⟨_, 0, none⟩) 1 1 [(n : Int) + (v : Int)] rfl rfl (has_lit (zs := [(n : Int) + (v : Int)]) rfl (by simp [maxLen])) (t + 1) (by rw [HT.out]) (by have := HTL.out; omega) (by have := HACC.out.size; simp; omega) ?_; intro A4' c4' w4' ho4 hk4 hb4; have HA4 : Hid (Below w7.heap.size w7 w4') := Lib.hid ((Below.alloc HACC.out HACC.out.size _).trans hb4))
              go_roundw
              case rel => exact ⟨k + 1, t + 1, A4', c4', HLT.out, by go_num, rfl, by rw [HS.out, List.length_append, ← HT.out]; rfl, by rw [HS.out]; exact ho4, HA4.out⟩
              case measure => simp [intOf]; have := HLT.out; omega
            · obtain rfl : k = n6 := by omega
              have HE : Hid (wantK a b k = pl (a ++ b)) := Lib.hid (by rw [HO6.out.1, wantK_all])
              have k1 : ¬ (k : Int) < k := by omega
              clear hk ht own acc hlt
              go_wp2_with fail
              refine (sameI_any A4 Aw n4 t d4 dw (pl (a ++ b)) (wantK a b k) _ (HL7.out.has.below HACC.out (Nat.le_refl _)) HO4.out.1.symm HO.out.has HT.out.symm (by have := HO4.out.1; have := HPLA.out; omega) (by have := HTL.out; omega)).mono ?_
              rintro e w20 ⟨rfl, hb20⟩
              rw [decide_eq_true HE.out.symm]
              go_wp2_with fail
              go_ret
              exact ⟨rfl, HB7.out.trans ((HACC.out.trans (hb20.mono HACC.out.size)).mono HB7.out.size)⟩
        · have HMID : Hid (midL a b = []) := Lib.hid (by rw [midL, HMB.out, decide_eq_false heq]; rfl)
          have hbb := bstr_ne bd1 bd2 heq
          generalize bstr (b.take q) = sx at *
          generalize bstr (mk.drop p) = sy at *
          clear hp0 hq hqm bd1 bd2 heq
          go_quiet (fail)
          clear hcv1 hcv2 hsub eq1
          have HX0 : Hid (n5 = (pl a ++ midL a b).length ∧ OwnV (w9.drewN nq) w7.heap.size (.slice A8 n5 d8) (pl a ++ midL a b) ∧ Below w7.heap.size w7 (w9.drewN nq)) := Lib.hid (by rw [HMID.out, List.append_nil]; exact ⟨HO5.out.1, HO9.out.drewN nq, below_drewN HB9'.out nq⟩)
          go_wp2_with fail
          go_loopw [14, 16] (fun v i wr => ∃ (k t : Nat) (Aw : Option Addr) (dw : Nat), k ≤ n6 ∧ i = .int .i64 k ∧ v = .slice Aw t dw ∧ t = (wantK a b k).length ∧ OwnV wr w7.heap.size (.slice Aw t dw) (wantK a b k) ∧ Below w7.heap.size w7 wr) (fun _ i _ => n6 - (intOf i).toNat)
          case atStart => exact ⟨0, n5, A8, d8, Nat.zero_le _, rfl, rfl, by rw [wantK_0]; exact HX0.out.1, by rw [wantK_0]; exact HX0.out.2.1, HX0.out.2.2⟩
          case round =>
            obtain ⟨k, t, Aw, dw, hk, rfl, rfl, ht, own, acc⟩ := hrel
            have HT := Lib.hid ht
            have HO := Lib.hid own
            have HACC := Lib.hid acc
            have HTL : Hid (t ≤ 1001) := Lib.hid (by have h1 := wantK_len a b k; have := HPLA.out; omega)
            by_cases hlt : k < n6
            · have hkl : k < (pl b).length := by rw [← HO6.out.1]; exact hlt
              obtain ⟨g6, rfl, -, hg6, -⟩ := HY7.out.form (by intro e; rw [e] at hkl; simp at hkl)
              obtain ⟨v, hv, hvm⟩ := pl_mem_bd hkl
              have p1 : wr.cell? ⟨g6, k, none⟩ = some (.int .i64 (v : Int)) := by
                rw [acc.cell (p := ⟨g6, k, none⟩) hg6, ← hv]; exact HY7.out.cell k hkl
              have lt6 : g6 < wr.heap.size := Nat.lt_of_lt_of_le hg6 acc.size
              have HS : Hid (wantK a b (k + 1) = wantK a b k ++ [(n : Int) + (v : Int)]) := Lib.hid (by rw [wantK_snoc hkl, hv, HNA.out.1])
              have HLT := Lib.hid hlt
              have k1 : (k : Int) < n6 := by omega
              have k2 : (n : Int) + v ≤ 9223372036854775807 := by have := HNB.out; omega
              have k3 : 0 ≤ (n : Int) + v := by omega
              clear hk ht own acc hlt hkl hg6 hv hvm
              go_wp2_with (at_builtin; refine appIz rfl _ _ rfl w7.heap.size _ (wantK a b k) rfl (HO.out.alloc _) (some ⟨_, 0, none⟩) 1 1 [(n : Int) + (v : Int)] rfl rfl (has_lit (zs := [(n : Int) + (v : Int)]) rfl (by simp [maxLen])) (t + 1) (by rw [HT.out]) (by have := HTL.out; omega) (by have := HACC.out.size; simp; omega) ?_; intro A4' c4' w4' ho4 hk4 hb4; have HA4 : Hid (Below w7.heap.size w7 w4') := Lib.hid ((Below.alloc HACC.out HACC.out.size _).trans hb4))
              go_roundw
              case rel => exact ⟨k + 1, t + 1, A4', c4', HLT.out, by go_num, rfl, by rw [HS.out, List.length_append, ← HT.out]; rfl, by rw [HS.out]; exact ho4, HA4.out⟩
              case measure => simp [intOf]; have := HLT.out; omega
            · obtain rfl : k = n6 := by omega
              have HE : Hid (wantK a b k = pl (a ++ b)) := Lib.hid (by rw [HO6.out.1, wantK_all])
              have k1 : ¬ (k : Int) < k := by omega
              clear hk ht own acc hlt
              go_wp2_with fail
              refine (sameI_any A4 Aw n4 t d4 dw (pl (a ++ b)) (wantK a b k) _ (HL7.out.has.below HACC.out (Nat.le_refl _)) HO4.out.1.symm HO.out.has HT.out.symm (by have := HO4.out.1; have := HPLA.out; omega) (by have := HTL.out; omega)).mono ?_
              rintro e w20 ⟨rfl, hb20⟩
              rw [decide_eq_true HE.out.symm]
              go_wp2_with fail
              go_ret
              exact ⟨rfl, HB7.out.trans ((HACC.out.trans (hb20.mono HACC.out.size)).mono HB7.out.size)⟩
      · have HMID : Hid (midL a b = []) := Lib.hid (by
          have h1 : ¬ q ≤ b.length := by rw [HNB.out.1]; exact hqm
          rw [midL, midB, HP.out.1, hsub, decide_eq_false h1]; simp)
        have g4 : decide (q ≤ m) = false := decide_eq_false hqm
        have g5 : (m : Int) < q := by omega
        clear hp0 hq hqm
        go_quiet (fail)
        clear hsub eq1
        have HX0 : Hid (n5 = (pl a ++ midL a b).length ∧ OwnV (w9.drewN nq) w7.heap.size (.slice A8 n5 d8) (pl a ++ midL a b) ∧ Below w7.heap.size w7 (w9.drewN nq)) := Lib.hid (by rw [HMID.out, List.append_nil]; exact ⟨HO5.out.1, HO9.out.drewN nq, below_drewN HB9'.out nq⟩)
        go_wp2_with fail
        go_loopw [14, 16] (fun v i wr => ∃ (k t : Nat) (Aw : Option Addr) (dw : Nat), k ≤ n6 ∧ i = .int .i64 k ∧ v = .slice Aw t dw ∧ t = (wantK a b k).length ∧ OwnV wr w7.heap.size (.slice Aw t dw) (wantK a b k) ∧ Below w7.heap.size w7 wr) (fun _ i _ => n6 - (intOf i).toNat)
        case atStart => exact ⟨0, n5, A8, d8, Nat.zero_le _, rfl, rfl, by rw [wantK_0]; exact HX0.out.1, by rw [wantK_0]; exact HX0.out.2.1, HX0.out.2.2⟩
        case round =>
          obtain ⟨k, t, Aw, dw, hk, rfl, rfl, ht, own, acc⟩ := hrel
          have HT := Lib.hid ht
          have HO := Lib.hid own
          have HACC := Lib.hid acc
          have HTL : Hid (t ≤ 1001) := Lib.hid (by have h1 := wantK_len a b k; have := HPLA.out; omega)
          by_cases hlt : k < n6
          · have hkl : k < (pl b).length := by rw [← HO6.out.1]; exact hlt
            obtain ⟨g6, rfl, -, hg6, -⟩ := HY7.out.form (by intro e; rw [e] at hkl; simp at hkl)
            obtain ⟨v, hv, hvm⟩ := pl_mem_bd hkl
            have p1 : wr.cell? ⟨g6, k, none⟩ = some (.int .i64 (v : Int)) := by
              rw [acc.cell (p := ⟨g6, k, none⟩) hg6, ← hv]; exact HY7.out.cell k hkl
            have lt6 : g6 < wr.heap.size := Nat.lt_of_lt_of_le hg6 acc.size
            have HS : Hid (wantK a b (k + 1) = wantK a b k ++ [(n : Int) + (v : Int)]) := Lib.hid (by rw [wantK_snoc hkl, hv, HNA.out.1])
            have HLT := Lib.hid hlt
            have k1 : (k : Int) < n6 := by omega
            have k2 : (n : Int) + v ≤ 9223372036854775807 := by have := HNB.out; omega
            have k3 : 0 ≤ (n : Int) + v := by omega
            clear hk ht own acc hlt hkl hg6 hv hvm
            go_wp2_with (at_builtin; refine appIz rfl _ _ rfl w7.heap.size _ (wantK a b k) rfl (HO.out.alloc _) (some ⟨_, 0, none⟩) 1 1 [(n : Int) + (v : Int)] rfl rfl (has_lit (zs := [(n : Int) + (v : Int)]) rfl (by simp [maxLen])) (t + 1) (by rw [HT.out]) (by have := HTL.out; omega) (by have := HACC.out.size; simp; omega) ?_; intro A4' c4' w4' ho4 hk4 hb4; have HA4 : Hid (Below w7.heap.size w7 w4') := Lib.hid ((Below.alloc HACC.out HACC.out.size _).trans hb4))
            go_roundw
            case rel => exact ⟨k + 1, t + 1, A4', c4', HLT.out, by go_num, rfl, by rw [HS.out, List.length_append, ← HT.out]; rfl, by rw [HS.out]; exact ho4, HA4.out⟩
            case measure => simp [intOf]; have := HLT.out; omega
          · obtain rfl : k = n6 := by omega
            have HE : Hid (wantK a b k = pl (a ++ b)) := Lib.hid (by rw [HO6.out.1, wantK_all])
            have k1 : ¬ (k : Int) < k := by omega
            clear hk ht own acc hlt
            go_wp2_with fail
            refine (sameI_any A4 Aw n4 t d4 dw (pl (a ++ b)) (wantK a b k) _ (HL7.out.has.below HACC.out (Nat.le_refl _)) HO4.out.1.symm HO.out.has HT.out.symm (by have := HO4.out.1; have := HPLA.out; omega) (by have := HTL.out; omega)).mono ?_
            rintro e w20 ⟨rfl, hb20⟩
            rw [decide_eq_true HE.out.symm]
            go_wp2_with fail
            go_ret
            exact ⟨rfl, HB7.out.trans ((HACC.out.trans (hb20.mono HACC.out.size)).mono HB7.out.size)⟩
end Go.Proofs.Ythcpanenjcjgpaa.mkL
