/- Context numbers of the program and of the reference, by walks. -/
import Derived.Test.YtpggdijhfdddpaaDoorCxW3
import Derived.Test.YtpggdijhfdddpaaDoorHashLawsB
namespace Go.Proofs.YtpggdijhfdddpaaDoor.cxW
open Go.RowKit Go.Proofs.YtpggdijhfdddpaaDoor.base Go.Proofs.YtpggdijhfdddpaaDoor.rgP Go.Proofs.YtpggdijhfdddpaaDoor.cxP Go.Proofs.YtpggdijhfdddpaaDoor.hashP Go.Proofs.YtpggdijhfdddpaaDoor.hashW
set_option linter.unusedVariables false
set_option linter.unusedSimpArgs false
/-- The variable's cells hold the orders. -/
def Tab (w : World) : Prop := 0 < w.heap.size ∧ ∀ i, i < 5 → w.cell? ⟨0, i, none⟩ = some (.int .i64 (ordL.getD i 0))
theorem Tab.below {w w' : World} {B : Nat} (h : Tab w) (hb : Below B w w') (hB : w.heap.size ≤ B) : Tab w' :=
  ⟨Nat.lt_of_lt_of_le h.1 hb.size, fun i hi => by rw [hb.cell (p := ⟨0, i, none⟩) (Nat.lt_of_lt_of_le h.1 hB)]; exact h.2 i hi⟩
theorem mk_eq (r : Rg) (k : Nat) (h : k < 8) : hSteps (kStart (k : Int)) (byK r k) = mk r k := by
  unfold mk kStart
  rw [if_pos h, if_pos ((kOk_iff _).2 (by omega))]
theorem byK_bd {r : Rg} (h : ∀ z ∈ r.b, 0 ≤ z ∧ z ≤ 255) (k : Nat) : ∀ z ∈ byK r k, 0 ≤ z ∧ z ≤ 255 := by
  unfold byK
  split
  · exact last_bd h _
  · exact word_bd (last_bd h 16)
theorem mk_bd {r : Rg} (h : ∀ z ∈ r.b, 0 ≤ z ∧ z ≤ 255) (k : Nat) (hk : k < 8) : 0 ≤ mk r k ∧ mk r k ≤ 4294967295 := by
  rw [← mk_eq r k hk]
  exact hSteps_bd _ (kStart_bd _).1 (kStart_bd _).2 (byK_bd h k)
def mkV (r : Rg) (k : Nat) : Int := if rgOk r then mk r k else 0
def cK (r : Rg) (k : Nat) : List Value := fill (.int .u32 0) ((mkL r).map (Value.int .u32)) k
theorem cK_len (r : Rg) (k : Nat) (h : k ≤ 6) : (cK r k).length = 6 := by rw [cK, fill_len (by simp [mk_len]; omega)]; simp [mk_len]
theorem cK_0 (r : Rg) : cK r 0 = [.int .u32 0, .int .u32 0, .int .u32 0, .int .u32 0, .int .u32 0, .int .u32 0] := by rw [cK, fill_zero]; simp [mk_len, List.replicate]
theorem cK_set (r : Rg) (k : Nat) (h : k < 6) : (cK r k).set k (.int .u32 (mk r k)) = cK r (k + 1) := by
  have := fill_set (z := Value.int .u32 0) (l := (mkL r).map (Value.int .u32)) (k := k) (by simp [mk_len]; exact h) (.int .u32 0)
  have e : ((mkL r).map (Value.int .u32)).getD k (.int .u32 0) = .int .u32 (mk r k) := by
    rw [List.getD_eq_getElem?_getD, List.getElem?_map, ← mk_at r k h, List.getD_eq_getElem?_getD, List.getElem?_eq_getElem (by rw [mk_len]; exact h)]
    rfl
  rw [e] at this
  exact this
theorem cK_6 (r : Rg) : cK r 6 = [.int .u32 (mk r 0), .int .u32 (mk r 1), .int .u32 (mk r 2), .int .u32 (mk r 3), .int .u32 (mk r 4), .int .u32 (mk r 5)] := by
  rw [cK, fill_all (by simp [mk_len])]
  rfl
theorem six {w : World} {g : Nat} {t : TypeId} {a b c d e f : Value} (h : Lies w g t [a, b, c, d, e, f]) : w.cell? ⟨g, 0, none⟩ = some a ∧ w.cell? ⟨g, 1, none⟩ = some b ∧ w.cell? ⟨g, 2, none⟩ = some c ∧ w.cell? ⟨g, 3, none⟩ = some d ∧ w.cell? ⟨g, 4, none⟩ = some e ∧ w.cell? ⟨g, 5, none⟩ = some f :=
  ⟨h.cell 0, h.cell 1, h.cell 2, h.cell 3, h.cell 4, h.cell 5⟩
theorem free6 {w : World} {g : Nat} {t : TypeId} {l : List Value} (h : Lies w g t l) : w.frozen? ⟨g, 0, none⟩ = false ∧ w.frozen? ⟨g, 1, none⟩ = false ∧ w.frozen? ⟨g, 2, none⟩ = false ∧ w.frozen? ⟨g, 3, none⟩ = false ∧ w.frozen? ⟨g, 4, none⟩ = false ∧ w.frozen? ⟨g, 5, none⟩ = false :=
  ⟨h.free 0, h.free 1, h.free 2, h.free 3, h.free 4, h.free 5⟩
theorem lies_set6 {w : World} {g : Nat} {t : TypeId} {x0 x1 x2 x3 x4 x5 : Value} (h : Lies w g t [x0, x1, x2, x3, x4, x5]) (a b c d e f : Value) : Lies ((((((w.setCell ⟨g, 0, none⟩ a).setCell ⟨g, 1, none⟩ b).setCell ⟨g, 2, none⟩ c).setCell ⟨g, 3, none⟩ d).setCell ⟨g, 4, none⟩ e).setCell ⟨g, 5, none⟩ f) g t [a, b, c, d, e, f] :=
  (((((h.set 0 a).set 1 b).set 2 c).set 3 d).set 4 e).set 5 f
set_option maxRecDepth 100000 in
set_option maxHeartbeats 2000000 in
theorem Of_any (r : Rg) (A : Option Addr) (n c : Nat) (w : World) (h : RgIn w A n c r) (hT : Tab w) :
    Calls Tryd.prog 10 #[.agg #[.int .i64 (r).l, .slice A n c, .int .i64 (r).n]] w fun e w' => e = .returned (.tuple #[.agg #[.int .u32 (mkV r 0), .int .u32 (mkV r 1), .int .u32 (mkV r 2), .int .u32 (mkV r 3), .int .u32 (mkV r 4), .int .u32 (mkV r 5)], .int .i64 (rgE r)]) ∧ Below w.heap.size w w' := by
  have H := Lib.hid h
  have HTT := Lib.hid hT
  have B0 : Hid (Below w.heap.size w ((w.alloc (.cells #[.int .i64 r.l, .slice A n c, .int .i64 r.n] 24)).alloc (.cells #[.int .u32 0, .int .u32 0, .int .u32 0, .int .u32 0, .int .u32 0, .int .u32 0] 28)) ∧ Lies (((w.alloc (.cells #[.int .i64 r.l, .slice A n c, .int .i64 r.n] 24)).alloc (.cells #[.int .u32 0, .int .u32 0, .int .u32 0, .int .u32 0, .int .u32 0, .int .u32 0] 28))) (w.heap.size + 1) 28 [.int .u32 0, .int .u32 0, .int .u32 0, .int .u32 0, .int .u32 0, .int .u32 0]) := Lib.hid ⟨by (repeat' (first | (with_reducible exact Below.refl _ _) | (with_reducible assumption) | (with_reducible refine below_drewN ?_ _) | (with_reducible refine below_new ?_ _) | (with_reducible refine Below.alloc ?_ ?_ _) | (with_reducible refine Below.drew ?_) | (with_reducible refine Below.setCell ?_ ?_ _) | (with_reducible apply below_at; (case k => (with_reducible assumption)); (case hB => omega)) | (with_reducible apply below_on; (with_reducible assumption)) | (go_size; done) | (with_reducible apply size_of))), Lies.fresh_at (cs := [.int .u32 0, .int .u32 0, .int .u32 0, .int .u32 0, .int .u32 0, .int .u32 0]) (by simp)⟩
  cases hok : rgOk r
  · have HE := Lib.hid (E_no hok)
    have HV : Hid (∀ k, mkV r k = 0) := Lib.hid (fun k => by simp [mkV, hok])
    have HOK := Lib.hid hok
    clear h hok hT
    go_enter Tryd.func10, Tryd.ntmps10
    go_wp2_with fail
    refine (lastBytes_no r A n c _ (H.out.below B0.out.1) HOK.out).mono ?_
    rintro e w1 ⟨rfl, hb1⟩
    have HB1 : Hid (Below w.heap.size w w1 ∧ Lies (w1) (w.heap.size + 1) 28 [.int .u32 0, .int .u32 0, .int .u32 0, .int .u32 0, .int .u32 0, .int .u32 0]) := Lib.hid ⟨B0.out.1.trans (hb1.mono B0.out.1.size), B0.out.2.past hb1⟩
    obtain ⟨f0, f1, f2, f3, f4, f5⟩ := free6 HB1.out.2
    obtain ⟨z0, z1, z2, z3, z4, z5⟩ := six HB1.out.2
    have zl := HB1.out.2.lt
    clear hb1
    go_wp2_with fail
    obtain ⟨t0, t1, t2, t3, t4, t5⟩ := six (lies_set6 HB1.out.2 (.int .u32 0) (.int .u32 0) (.int .u32 0) (.int .u32 0) (.int .u32 0) (.int .u32 0))
    clear f0 f1 f2 f3 f4 f5 z0 z1 z2 z3 z4 z5
    refine bodyPost_ret (by simp [results, Tryd.results10, go_sem, t0, t1, t2, t3, t4, t5]; try rfl) rfl ?_
    exact ⟨by rw [HV.out, HV.out, HV.out, HV.out, HV.out, HV.out, HE.out], by have := HB1.out.1; (repeat' (first | (with_reducible exact Below.refl _ _) | (with_reducible assumption) | (with_reducible refine below_drewN ?_ _) | (with_reducible refine below_new ?_ _) | (with_reducible refine Below.alloc ?_ ?_ _) | (with_reducible refine Below.drew ?_) | (with_reducible refine Below.setCell ?_ ?_ _) | (with_reducible apply below_at; (case k => (with_reducible assumption)); (case hB => omega)) | (with_reducible apply below_on; (with_reducible assumption)) | (go_size; done) | (with_reducible apply size_of)))⟩
  · have HE := Lib.hid (E_ok hok)
    have HV : Hid (∀ k, mkV r k = mk r k) := Lib.hid (fun k => by simp [mkV, hok])
    have HOK := Lib.hid hok
    clear h hok hT
    go_enter Tryd.func10, Tryd.ntmps10
    go_wp2_with fail
    refine (lastBytes_ok r A n c _ (H.out.below B0.out.1) HOK.out).mono ?_
    rintro e w1 ⟨A1, c1, rfl, own1, hb1⟩
    have HB1 : Hid (Below w.heap.size w w1 ∧ Lies (w1) (w.heap.size + 1) 28 [.int .u32 0, .int .u32 0, .int .u32 0, .int .u32 0, .int .u32 0, .int .u32 0]) := Lib.hid ⟨B0.out.1.trans (hb1.mono B0.out.1.size), B0.out.2.past hb1⟩
    have HCAP : Hid (16 ≤ c1) := Lib.hid (by obtain ⟨A', cap, e, h1, h2⟩ := own1.val; injection e with e1 e2 e3; subst e3; rw [cxP.last_len] at h2; exact h2)
    obtain ⟨g1, rfl, hg1, hg2, own'⟩ := rgW.OwnZ.head own1 (by intro e; have := congrArg List.length e; simp [cxP.last_len] at this)
    have HO1 := Lib.hid own1
    have HBL := Lib.hid (last_bd H.out.b 16)
    clear hb1 own1 own' hg1 hg2
    go_wp2_with fail
    generalize hg6 : w1.heap.size = g6 at *
    have HG6 := Lib.hid hg6
    have HN6 : Hid (w.heap.size + 1 < g6) := Lib.hid (by rw [← hg6]; exact HB1.out.2.lt)
    clear hg6
    go_loopw [20] (fun i wr => ∃ k : Nat, k ≤ 6 ∧ i = .int .i64 k ∧ Lies wr g6 28 (cK r k) ∧ OwnZ wr (w.heap.size + 1) (.slice (some ⟨g1, 0, none⟩) 16 c1) (lastL r 16) ∧ (Lies (wr) (w.heap.size + 1) 28 [.int .u32 0, .int .u32 0, .int .u32 0, .int .u32 0, .int .u32 0, .int .u32 0]) ∧ Below w.heap.size w wr) (fun i _ => 6 - (intOf i).toNat)
    case atStart => exact ⟨0, by omega, rfl, by rw [cK_0]; exact Lies.fresh_at (cs := [.int .u32 0, .int .u32 0, .int .u32 0, .int .u32 0, .int .u32 0, .int .u32 0]) HG6.out, (HO1.out.mono (by simp)).alloc _, HB1.out.2.alloc _, by have := HB1.out.1; (repeat' (first | (with_reducible exact Below.refl _ _) | (with_reducible assumption) | (with_reducible refine below_drewN ?_ _) | (with_reducible refine below_new ?_ _) | (with_reducible refine Below.alloc ?_ ?_ _) | (with_reducible refine Below.drew ?_) | (with_reducible refine Below.setCell ?_ ?_ _) | (with_reducible apply below_at; (case k => (with_reducible assumption)); (case hB => omega)) | (with_reducible apply below_on; (with_reducible assumption)) | (go_size; done) | (with_reducible apply size_of)))⟩
    case round =>
      clear HB1 HO1
      obtain ⟨k, hk, rfl, K, own, Z, acc⟩ := hrel
      have HK := Lib.hid K
      have HO := Lib.hid own
      have HZ := Lib.hid Z
      have HACC := Lib.hid acc
      by_cases hlt : k < 6
      · have k1 : (k : Int) < 6 := by omega
        have k0 : 0 ≤ (k : Int) := by omega
        have HLT := Lib.hid hlt
        have HMK := Lib.hid (mk_eq r k (by omega))
        have HMB := Lib.hid (mk_bd H.out.b k (by omega))
        have HCS := Lib.hid (cK_set r k hlt)
        clear hk K own Z acc hlt
        go_wp2_with fail
        refine (word_any (lastL r 16) (some ⟨g1, 0, none⟩) 16 c1 _ HO.out.has (cxP.last_len r 16) HCAP.out (by omega) HBL.out).mono ?_
        rintro e w2 ⟨A2, m2, c2, rfl, hm2, own2, hb2⟩
        have HO2 := Lib.hid own2
        have HM2 := Lib.hid hm2
        have HK2 := Lib.hid (HK.out.past hb2)
        have HOL := Lib.hid (HO.out.past hb2)
        have HZ2 := Lib.hid (HZ.out.past hb2)
        have HA2 := Lib.hid (HACC.out.trans (hb2.mono HACC.out.size))
        clear own2 hm2 hb2
        by_cases h5 : k < 5
        · have k5 : (k : Int) < 5 := by omega
          obtain ⟨o1, o2, o3⟩ := ord_k k h5
          have HB5 : Hid (byK r k = lastL r (ordK k)) := Lib.hid (by unfold byK; rw [if_pos h5])
          have p1 := (HTT.out.below HA2.out (Nat.le_refl _)).2 k h5
          have pl := (HTT.out.below HA2.out (Nat.le_refl _)).1
          rw [o1] at p1
          generalize ordK k = o at *
          have HO3 := Lib.hid (And.intro o2 o3)
          obtain ⟨s, hs⟩ : ∃ s, 16 - o = s := ⟨_, rfl⟩
          have s1 : 16 - (o : Int) = (s : Int) := by omega
          have HS : Hid (s + o = 16) := Lib.hid (by omega)
          have s2 : 0 ≤ (s : Int) := by omega
          have s3 : (s : Int) ≤ 16 := by omega
          have s4 : (s : Int) ≤ c1 := by have := HCAP.out; omega
          have s5 : ¬ c1 = s := by have := HCAP.out; omega
          have s6 : 16 - s = o := by omega
          have s7 : (o : Int) ≤ 6 := by omega
          have s8 : 1 ≤ (o : Int) := by omega
          have HH : Hid (Has .u8 w2 (some ⟨g1, s, none⟩) (lastL r o)) := Lib.hid (by
            have := HOL.out.has.dropAt s
            rw [last_drop r 16 s (by omega), s6, Nat.zero_add] at this
            exact this)
          clear o1 o2 o3 h5 hs
          go_wp2_with fail
          refine (of_ok (k : Int) (some ⟨g1, s, none⟩) o (c1 - s) (lastL r o) _ (by omega) (by omega) (last_bd H.out.b o) HH.out (cxP.last_len r o) (by have := HO3.out; omega)).mono ?_
          rintro e w3 ⟨rfl, hb3⟩
          rw [← HB5.out, HMK.out]
          have HK3 := Lib.hid (HK2.out.past hb3)
          have HOL3 := Lib.hid (HOL.out.past hb3)
          have HZ3 := Lib.hid (HZ2.out.past hb3)
          have HA3 := Lib.hid (HA2.out.trans (hb3.mono HA2.out.size))
          have p2 := HK3.out.free k
          obtain ⟨old, p3⟩ : ∃ old, w3.cell? ⟨g6, k, none⟩ = some old := ⟨_, (HK3.out.cell k).trans (List.getElem?_eq_getElem (by rw [cK_len r k (by have := HLT.out; omega)]; exact HLT.out))⟩
          have zl := HK3.out.lt
          clear hb3 p1 pl
          generalize mk r k = x at *
          go_wp2_with fail
          refine ⟨⟨k + 1, by have := HLT.out; omega, by first | rfl | go_num, by rw [← HCS.out]; exact HK3.out.set k _, HOL3.out.other HK3.out (by decide) k _, HZ3.out.other (by have := HN6.out; show g6 ≠ w.heap.size + 1; omega) _, by have := HA3.out; have : w.heap.size ≤ g6 := (by have := HN6.out; omega); (repeat' (first | (with_reducible exact Below.refl _ _) | (with_reducible assumption) | (with_reducible refine below_drewN ?_ _) | (with_reducible refine below_new ?_ _) | (with_reducible refine Below.alloc ?_ ?_ _) | (with_reducible refine Below.drew ?_) | (with_reducible refine Below.setCell ?_ ?_ _) | (with_reducible apply below_at; (case k => (with_reducible assumption)); (case hB => omega)) | (with_reducible apply below_on; (with_reducible assumption)) | (go_size; done) | (with_reducible apply size_of)))⟩, by simp [intOf]; have := HLT.out; omega⟩
        · have e5 : k = 5 := by omega
          subst e5
          have HB5 : Hid (byK r 5 = wordL (lastL r 16)) := Lib.hid rfl
          have HWB : Hid ((wordL (lastL r 16)).length ≤ 16) := Lib.hid (by rw [word_len, cxP.last_len]; omega)
          clear h5
          go_wp2_with fail
          refine (of_ok 5 A2 m2 c2 (wordL (lastL r 16)) _ (by omega) (by omega) (word_bd HBL.out) HO2.out.has HM2.out.symm (by have := HWB.out; have := HM2.out; omega)).mono ?_
          rintro e w3 ⟨rfl, hb3⟩
          have HMK' : Hid (hSteps (kStart 5) (byK r 5) = mk r 5) := HMK
          rw [← HB5.out, HMK'.out]
          have HK3 := Lib.hid (HK2.out.past hb3)
          have HOL3 := Lib.hid (HOL.out.past hb3)
          have HZ3 := Lib.hid (HZ2.out.past hb3)
          have HA3 := Lib.hid (HA2.out.trans (hb3.mono HA2.out.size))
          have p2 := HK3.out.free 5
          obtain ⟨old, p3⟩ : ∃ old, w3.cell? ⟨g6, 5, none⟩ = some old := ⟨_, (HK3.out.cell 5).trans (List.getElem?_eq_getElem (by rw [cK_len r 5 (by omega)]; omega))⟩
          have zl := HK3.out.lt
          clear hb3
          generalize mk r 5 = x at *
          go_wp2_with fail
          refine ⟨⟨6, by omega, by first | rfl | go_num, by rw [← HCS.out]; exact HK3.out.set 5 _, HOL3.out.other HK3.out (by decide) 5 _, HZ3.out.other (by have := HN6.out; show g6 ≠ w.heap.size + 1; omega) _, by have := HA3.out; have : w.heap.size ≤ g6 := (by have := HN6.out; omega); (repeat' (first | (with_reducible exact Below.refl _ _) | (with_reducible assumption) | (with_reducible refine below_drewN ?_ _) | (with_reducible refine below_new ?_ _) | (with_reducible refine Below.alloc ?_ ?_ _) | (with_reducible refine Below.drew ?_) | (with_reducible refine Below.setCell ?_ ?_ _) | (with_reducible apply below_at; (case k => (with_reducible assumption)); (case hB => omega)) | (with_reducible apply below_on; (with_reducible assumption)) | (go_size; done) | (with_reducible apply size_of)))⟩, by simp [intOf]⟩
      · have e6 : k = 6 := by omega
        subst e6
        rw [cK_6] at K
        have HK' := Lib.hid K
        have k1 : ¬ ((6 : Nat) : Int) < 6 := by omega
        obtain ⟨p0, p1, p2, p3, p4, p5⟩ := six K
        obtain ⟨f0, f1, f2, f3, f4, f5⟩ := free6 Z
        obtain ⟨z0, z1, z2, z3, z4, z5⟩ := six Z
        have zl := K.lt
        have zz := Z.lt
        clear hk K own Z acc hlt HK
        generalize hm0 : mk r 0 = m0 at *
        generalize hm1 : mk r 1 = m1 at *
        generalize hm2 : mk r 2 = m2 at *
        generalize hm3 : mk r 3 = m3 at *
        generalize hm4 : mk r 4 = m4 at *
        generalize hm5 : mk r 5 = m5 at *
        have HMM := Lib.hid (And.intro hm0 (And.intro hm1 (And.intro hm2 (And.intro hm3 (And.intro hm4 hm5)))))
        clear hm0 hm1 hm2 hm3 hm4 hm5
        go_wp2_with fail
        obtain ⟨t0, t1, t2, t3, t4, t5⟩ := six (lies_set6 HZ.out (.int .u32 m0) (.int .u32 m1) (.int .u32 m2) (.int .u32 m3) (.int .u32 m4) (.int .u32 m5))
        clear p0 p1 p2 p3 p4 p5 f0 f1 f2 f3 f4 f5 z0 z1 z2 z3 z4 z5
        refine bodyPost_ret (by simp [results, Tryd.results10, go_sem, t0, t1, t2, t3, t4, t5]; try rfl) rfl ?_
        obtain ⟨q0, q1, q2, q3, q4, q5⟩ := HMM.out
        exact ⟨by rw [HV.out, HV.out, HV.out, HV.out, HV.out, HV.out, HE.out, q0, q1, q2, q3, q4, q5], by have := HACC.out; (repeat' (first | (with_reducible exact Below.refl _ _) | (with_reducible assumption) | (with_reducible refine below_drewN ?_ _) | (with_reducible refine below_new ?_ _) | (with_reducible refine Below.alloc ?_ ?_ _) | (with_reducible refine Below.drew ?_) | (with_reducible refine Below.setCell ?_ ?_ _) | (with_reducible apply below_at; (case k => (with_reducible assumption)); (case hB => omega)) | (with_reducible apply below_on; (with_reducible assumption)) | (go_size; done) | (with_reducible apply size_of)))⟩
end Go.Proofs.YtpggdijhfdddpaaDoor.cxW
