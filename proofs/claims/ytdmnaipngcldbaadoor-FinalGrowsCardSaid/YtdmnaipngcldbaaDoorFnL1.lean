/- FinalGrows, by a walk. -/
import Derived.Test.YtdmnaipngcldbaaDoorFnA1
namespace Go.Proofs.YtdmnaipngcldbaaDoor.fnL
set_option maxRecDepth 100000
open Go.RowKit Go.Proofs.YtdmnaipngcldbaaDoor.base Go.Proofs.YtdmnaipngcldbaaDoor.rfP Go.Proofs.YtdmnaipngcldbaaDoor.rfW Go.Proofs.YtdmnaipngcldbaaDoor.fnP Go.Proofs.YtdmnaipngcldbaaDoor.fnW Go.Proofs.YtdmnaipngcldbaaDoor.sqP Go.Proofs.YtdmnaipngcldbaaDoor.sqW
set_option linter.unusedVariables false
set_option linter.unusedSimpArgs false
theorem join_up {p a b q c d : Int} (h1 : p ≤ q) (h2 : a ≤ c) (h3 : b ≤ d) : joinN p a b ≤ joinN q c d := by unfold joinN; omega
theorem join_in {p a b : Int} (h : joinB p a b = true) : min (min p a) b - 1 ≤ joinN p a b ∧ joinN p a b ≤ max (max (max p a) b) 1 + 1 := by
  obtain ⟨⟨p0, p1⟩, ⟨a0, a1⟩, b0, b1⟩ := (joinB_iff p a b).1 h
  unfold joinN
  omega
theorem pr_of {p : Int} (h : prB p = true) : 0 ≤ p ∧ p ≤ 4095 := (prB_iff p).1 h
theorem run_max4 (x y z u v : Int) (h : (if (if (if x < y then y else x) < z then z else (if x < y then y else x)) < u then u else (if (if x < y then y else x) < z then z else (if x < y then y else x))) = v) (w : World) (ts : Array TypeId) (t : TypeId) : (Builtin.max_ ts t #[.int .i32 x, .int .i32 y, .int .i32 z, .int .i32 u]).run Tryd.prog w = .ok (.int .i32 v) w := by
  rw [← h]
  simp [Builtin.max_, Builtin.max2]
set_option maxHeartbeats 1500000 in
theorem grows (p a b q c d : Int) (w : World) (hT : Tab w) :
    Calls Tryd.prog 6 #[.int .i32 p, .int .i32 a, .int .i32 b, .int .i32 q, .int .i32 c, .int .i32 d] w fun e w' => e = .returned (.bool true) ∧ Below w.heap.size w w' := by
  have HT := Lib.hid hT
  clear hT
  go_enter Tryd.func6, Tryd.ntmps6
  go_wp2_with fail
  refine (alive w HT.out).mono ?_
  rintro e w1 ⟨rfl, b1⟩
  have HB := Lib.hid b1
  clear b1
  go_wp2_with fail
  refine (rProb_any p _).mono ?_
  rintro e wx ⟨rfl, rfl⟩
  cases hp : prB p
  · clear hp
    go_wp2_with fail
    go_ret
    exact ⟨rfl, HB.out⟩
  have Hp := Lib.hid (pr_of hp)
  clear hp
  go_wp2_with fail
  refine (rProb_any a _).mono ?_
  rintro e wx ⟨rfl, rfl⟩
  cases ha : prB a
  · clear ha
    go_wp2_with fail
    go_ret
    exact ⟨rfl, HB.out⟩
  have Ha := Lib.hid (pr_of ha)
  clear ha
  go_wp2_with fail
  refine (rProb_any b _).mono ?_
  rintro e wx ⟨rfl, rfl⟩
  cases hb : prB b
  · clear hb
    go_wp2_with fail
    go_ret
    exact ⟨rfl, HB.out⟩
  have Hb := Lib.hid (pr_of hb)
  clear hb
  go_wp2_with fail
  refine (rProb_any q _).mono ?_
  rintro e wx ⟨rfl, rfl⟩
  cases hq : prB q
  · clear hq
    go_wp2_with fail
    go_ret
    exact ⟨rfl, HB.out⟩
  have Hq := Lib.hid (pr_of hq)
  clear hq
  go_wp2_with fail
  refine (rProb_any c _).mono ?_
  rintro e wx ⟨rfl, rfl⟩
  cases hc : prB c
  · clear hc
    go_wp2_with fail
    go_ret
    exact ⟨rfl, HB.out⟩
  have Hc := Lib.hid (pr_of hc)
  clear hc
  go_wp2_with fail
  refine (rProb_any d _).mono ?_
  rintro e wx ⟨rfl, rfl⟩
  cases hd : prB d
  · clear hd
    go_wp2_with fail
    go_ret
    exact ⟨rfl, HB.out⟩
  have Hd := Lib.hid (pr_of hd)
  clear hd
  go_upto_region 4 with fail
  obtain ⟨u1, hu1⟩ : ∃ u, min p q = u := ⟨_, rfl⟩
  obtain ⟨v1, hv1⟩ : ∃ v, max p q = v := ⟨_, rfl⟩
  have mu1 : (if q < p then q else p) = u1 := by rw [← hu1]; split <;> omega
  have mv1 : (if p < q then q else p) = v1 := by rw [← hv1]; split <;> omega
  have ku1 : 0 ≤ u1 ∧ u1 ≤ 4095 ∧ u1 ≤ p ∧ u1 ≤ v1 := by have h1 := Hp.out; have h2 := Hq.out; omega
  have kv1 : 0 ≤ v1 ∧ v1 ≤ 4095 ∧ p ≤ v1 := by have h1 := Hp.out; have h2 := Hq.out; omega
  clear hu1 hv1
  obtain ⟨u2, hu2⟩ : ∃ u, min a c = u := ⟨_, rfl⟩
  obtain ⟨v2, hv2⟩ : ∃ v, max a c = v := ⟨_, rfl⟩
  have mu2 : (if c < a then c else a) = u2 := by rw [← hu2]; split <;> omega
  have mv2 : (if a < c then c else a) = v2 := by rw [← hv2]; split <;> omega
  have ku2 : 0 ≤ u2 ∧ u2 ≤ 4095 ∧ u2 ≤ a ∧ u2 ≤ v2 := by have h1 := Ha.out; have h2 := Hc.out; omega
  have kv2 : 0 ≤ v2 ∧ v2 ≤ 4095 ∧ a ≤ v2 := by have h1 := Ha.out; have h2 := Hc.out; omega
  clear hu2 hv2
  obtain ⟨u3, hu3⟩ : ∃ u, min b d = u := ⟨_, rfl⟩
  obtain ⟨v3, hv3⟩ : ∃ v, max b d = v := ⟨_, rfl⟩
  have mu3 : (if d < b then d else b) = u3 := by rw [← hu3]; split <;> omega
  have mv3 : (if b < d then d else b) = v3 := by rw [← hv3]; split <;> omega
  have ku3 : 0 ≤ u3 ∧ u3 ≤ 4095 ∧ u3 ≤ b ∧ u3 ≤ v3 := by have h1 := Hb.out; have h2 := Hd.out; omega
  have kv3 : 0 ≤ v3 ∧ v3 ≤ 4095 ∧ b ≤ v3 := by have h1 := Hb.out; have h2 := Hd.out; omega
  clear hu3 hv3
  have hj1 : joinB u1 u2 u3 = true := (joinB_iff _ _ _).2 ⟨⟨ku1.1, ku1.2.1⟩, ⟨ku2.1, ku2.2.1⟩, ku3.1, ku3.2.1⟩
  have hj2 : joinB v1 v2 v3 = true := (joinB_iff _ _ _).2 ⟨⟨kv1.1, kv1.2.1⟩, ⟨kv2.1, kv2.2.1⟩, kv3.1, kv3.2.1⟩
  have hj3 : joinB p a b = true := (joinB_iff _ _ _).2 ⟨Hp.out, Ha.out, Hb.out⟩
  have HN : Hid (joinN u1 u2 u3 ≤ joinN v1 v2 v3 ∧ joinN u1 u2 u3 ≤ joinN p a b ∧ joinN p a b ≤ joinN v1 v2 v3 ∧ 1 ≤ joinN p a b ∧ joinN p a b ≤ 4095 ∧ min (min p a) b - 1 ≤ joinN p a b ∧ joinN p a b ≤ max (max (max p a) b) 1 + 1) := Lib.hid ⟨join_up ku1.2.2.2 ku2.2.2.2 ku3.2.2.2, join_up ku1.2.2.1 ku2.2.2.1 ku3.2.2.1, join_up kv1.2.2 kv2.2.2 kv3.2.2, (join_bd _ _ _).1, (join_bd _ _ _).2, (join_in hj3).1, (join_in hj3).2⟩
  have HE := Lib.hid (And.intro (join_yes hj1) (And.intro (join_yes hj2) (join_yes hj3)))
  clear hj1 hj2 hj3 ku1 ku2 ku3 kv1 kv2 kv3
  go_wp2_with fail
  refine (Join_any u1 u2 u3 wx).mono ?_
  rintro e wy ⟨rfl, rfl⟩
  rw [HE.out.1.1, HE.out.1.2]
  go_wp2_with fail
  refine (Join_any v1 v2 v3 _).mono ?_
  rintro e wx ⟨rfl, rfl⟩
  rw [HE.out.2.1.1, HE.out.2.1.2]
  go_wp2_with fail
  refine (Join_any p a b _).mono ?_
  rintro e wy ⟨rfl, rfl⟩
  rw [HE.out.2.2.1, HE.out.2.2.2]
  clear HE mu1 mu2 mu3 mv1 mv2 mv3
  generalize joinN u1 u2 u3 = jn at *
  generalize joinN v1 v2 v3 = jm at *
  generalize joinN p a b = jx at *
  obtain ⟨x1, x2, x3, x4, x5, x6, x7⟩ := HN.out
  obtain ⟨s1, hs1⟩ : ∃ u, min p a = u := ⟨_, rfl⟩
  rw [hs1] at x6
  obtain ⟨s2, hs2⟩ : ∃ u, min s1 b = u := ⟨_, rfl⟩
  rw [hs2] at x6
  obtain ⟨t1, ht1⟩ : ∃ u, max p a = u := ⟨_, rfl⟩
  rw [ht1] at x7
  obtain ⟨t2, ht2⟩ : ∃ u, max t1 b = u := ⟨_, rfl⟩
  rw [ht2] at x7
  obtain ⟨t3, ht3⟩ : ∃ u, max t2 1 = u := ⟨_, rfl⟩
  rw [ht3] at x7
  have l1 : (if a < p then a else p) = s1 := by rw [← hs1]; split <;> omega
  have l2 : (if b < s1 then b else s1) = s2 := by rw [← hs2]; split <;> omega
  have l3 : (if p < a then a else p) = t1 := by rw [← ht1]; split <;> omega
  have l4 : (if t1 < b then b else t1) = t2 := by rw [← ht2]; split <;> omega
  have l5 : (if t2 < 1 then 1 else t2) = t3 := by rw [← ht3]; split <;> omega
  have bs : 0 ≤ s2 ∧ s2 ≤ 4095 := by have h1 := Hp.out; have h2 := Ha.out; have h3 := Hb.out; omega
  have bt : 0 ≤ t3 ∧ t3 ≤ 4095 := by have h1 := Hp.out; have h2 := Ha.out; have h3 := Hb.out; omega
  obtain ⟨bs1, bs2⟩ := bs
  obtain ⟨bt1, bt2⟩ := bt
  clear hs1 hs2 ht1 ht2 ht3 HN Hp Ha Hb Hq Hc Hd
  have hmx := run_max4 p a b 1 t3 (by rw [l3, l4, l5])
  go_wp2_with fail
  go_ret
  exact ⟨rfl, HB.out⟩
theorem grows_law (p a b q c d : Int) (w : World) (_ : -2147483648 ≤ p) (_ : p ≤ 2147483647) (_ : -2147483648 ≤ a) (_ : a ≤ 2147483647) (_ : -2147483648 ≤ b) (_ : b ≤ 2147483647) (_ : -2147483648 ≤ q) (_ : q ≤ 2147483647) (_ : -2147483648 ≤ c) (_ : c ≤ 2147483647) (_ : -2147483648 ≤ d) (_ : d ≤ 2147483647) (hT : Tab w) :
    Calls Tryd.prog 6 #[.int .i32 p, .int .i32 a, .int .i32 b, .int .i32 q, .int .i32 c, .int .i32 d] w fun e w' => e = .returned (.bool true) ∧ Below w.heap.size w w' :=
  grows p a b q c d w hT
end Go.Proofs.YtdmnaipngcldbaaDoor.fnL
