/- New refiners of the reference, by walks. -/
import Derived.Test.YtdmnaipngcldbaaDoorRfWA
import Derived.Test.YtdmnaipngcldbaaDoorAppY
namespace Go.Proofs.YtdmnaipngcldbaaDoor.rfW
set_option maxRecDepth 100000
open Go.RowKit Go.Proofs.YtdmnaipngcldbaaDoor.base Go.Proofs.YtdmnaipngcldbaaDoor.rfP Go.Proofs.YtdmnaipngcldbaaDoor.sqP Go.Proofs.YtdmnaipngcldbaaDoor.sqW
set_option linter.unusedVariables false
set_option linter.unusedSimpArgs false
set_option maxHeartbeats 400000 in
theorem rNew_bad (n : Int) (w : World) (h : n < 1 ∨ 256 < n) :
    Calls Tryd.prog 36 #[.int .i64 n] w fun e w' => e = .returned (.tuple #[.agg #[.slice none 0 0], .int .i64 2]) ∧ Below w.heap.size w w' := by
  by_cases c1 : n < 1
  · clear h
    go_enter Tryd.func36, Tryd.ntmps36
    go_wp2
    refine bodyPost_ret (by simp [results, Tryd.results36, go_sem, ]; try rfl) rfl ?_
    exact ⟨rfl, by (repeat' (first | (with_reducible exact Below.refl _ _) | (with_reducible assumption) | (with_reducible refine below_drewN ?_ _) | (with_reducible refine below_new ?_ _) | (with_reducible refine Below.alloc ?_ ?_ _) | (with_reducible refine Below.drew ?_) | (with_reducible refine Below.setCell ?_ ?_ _) | (with_reducible apply below_at; (case k => (with_reducible assumption)); (case hB => omega)) | (with_reducible apply below_on; (with_reducible assumption)) | (go_size; done) | (with_reducible apply size_of)))⟩
  · have c2 : 256 < n := by omega
    have c3 : decide (n < 1) = false := decide_eq_false c1
    have c4 : 0 ≤ n := by omega
    clear h c1
    go_enter Tryd.func36, Tryd.ntmps36
    go_wp2
    refine bodyPost_ret (by simp [results, Tryd.results36, go_sem, ]; try rfl) rfl ?_
    exact ⟨rfl, by (repeat' (first | (with_reducible exact Below.refl _ _) | (with_reducible assumption) | (with_reducible refine below_drewN ?_ _) | (with_reducible refine below_new ?_ _) | (with_reducible refine Below.alloc ?_ ?_ _) | (with_reducible refine Below.drew ?_) | (with_reducible refine Below.setCell ?_ ?_ _) | (with_reducible apply below_at; (case k => (with_reducible assumption)); (case hB => omega)) | (with_reducible apply below_on; (with_reducible assumption)) | (go_size; done) | (with_reducible apply size_of)))⟩
set_option maxHeartbeats 800000 in
theorem rNew_ok (m : Nat) (w : World) (h1 : 1 ≤ m) (h2 : m ≤ 256) :
    Calls Tryd.prog 36 #[.int .i64 m] w fun e w' => ∃ A c rs, e = .returned (.tuple #[.agg #[.slice A m c], .int .i64 0]) ∧ OwnR w' w.heap.size (.slice A m c) rs ∧ rs.length = m ∧ numsY rs = List.replicate m sqRow ∧ Below w.heap.size w w' := by
  have HM := Lib.hid (And.intro h1 h2)
  have i1 : ¬ (m : Int) < 1 := by omega
  have i2 : (m : Int) ≤ 256 := by omega
  have i3 : 1 ≤ (m : Int) := by omega
  clear h1 h2
  go_enter Tryd.func36, Tryd.ntmps36
  go_wp2_with fail
  have HX : Hid (Lies ((w.alloc (.cells #[.slice none 0 0] 24)).alloc (.cells #[.slice none 0 0] 24)) (w.heap.size + 1) 24 [.slice none 0 0] ∧ Lies ((w.alloc (.cells #[.slice none 0 0] 24)).alloc (.cells #[.slice none 0 0] 24)) w.heap.size 24 [.slice none 0 0] ∧ Below w.heap.size w ((w.alloc (.cells #[.slice none 0 0] 24)).alloc (.cells #[.slice none 0 0] 24)) ∧ w.heap.size < w.heap.size + 1) := Lib.hid ⟨Lies.fresh_at (cs := [.slice none 0 0]) (by simp), (Lies.fresh w 24 [.slice none 0 0]).alloc _, by (repeat' (first | (with_reducible exact Below.refl _ _) | (with_reducible assumption) | (with_reducible refine below_drewN ?_ _) | (with_reducible refine below_new ?_ _) | (with_reducible refine Below.alloc ?_ ?_ _) | (with_reducible refine Below.drew ?_) | (with_reducible refine Below.setCell ?_ ?_ _) | (with_reducible apply below_at; (case k => (with_reducible assumption)); (case hB => omega)) | (with_reducible apply below_on; (with_reducible assumption)) | (go_size; done) | (with_reducible apply size_of))), by omega⟩
  generalize ((w.alloc (.cells #[.slice none 0 0] 24)).alloc (.cells #[.slice none 0 0] 24)) = W0 at *
  generalize w.heap.size + 1 = g4 at *
  refine (rRow_any W0).mono ?_
  rintro e w2 ⟨Al, cl, rfl, ho2, hb2⟩
  have HX2 : Hid (Lies w2 g4 24 [.slice none 0 0] ∧ Lies w2 w.heap.size 24 [.slice none 0 0] ∧ OwnI w2 w.heap.size 21 .i32 (.slice Al 33 cl) sqRow ∧ Below w.heap.size w w2 ∧ w.heap.size < g4) := Lib.hid ⟨HX.out.1.past hb2, HX.out.2.1.past hb2, ho2.mono HX.out.2.2.1.size, HX.out.2.2.1.trans (hb2.mono HX.out.2.2.1.size), HX.out.2.2.2⟩
  clear ho2 hb2 HX
  go_wp2_with fail
  go_loopw [6] (fun iv wr => ∃ (k : Nat) (A : Option Addr) (c : Nat) (rs : List RY), k ≤ m ∧ iv = .int .i64 k ∧ rs.length = k ∧ FullTo rs k ∧ OwnR wr w.heap.size (.slice A k c) rs ∧ Lies wr g4 24 [.slice A k c] ∧ Lies wr w.heap.size 24 [.slice none 0 0] ∧ OwnI wr w.heap.size 21 .i32 (.slice Al 33 cl) sqRow ∧ Below w.heap.size w wr) (fun iv _ => m - (intOf iv).toNat)
  case atStart => exact ⟨0, none, 0, [], by omega, rfl, rfl, full_zero _, OwnR.nil _ _, HX2.out.1, HX2.out.2.1, HX2.out.2.2.1, HX2.out.2.2.2.1⟩
  case round =>
    obtain ⟨k, A, c, rs, hk, rfl, hl, hf, hor, hl4, hl0, hof, hb⟩ := hrel
    have HL := Lib.hid (And.intro hl hf)
    have HR := Lib.hid (And.intro hor (And.intro hl4 (And.intro hl0 (And.intro hof hb))))
    clear hl hf hor hl4 hl0 hof hb
    by_cases hlt : k < m
    · have HLT := Lib.hid hlt
      have k1 : (k : Int) < m := by omega
      have k0 : 0 ≤ (k : Int) := by omega
      clear hlt hk
      go_upto_region 8 with fail
      (have RD := grows_roads (S := fun x' => OwnR x' w.heap.size (.slice A k c) rs ∧ Lies x' g4 24 [.slice A k c] ∧ Lies x' w.heap.size 24 [.slice none 0 0] ∧ OwnI x' w.heap.size 21 .i32 (.slice Al 33 cl) sqRow ∧ Below w.heap.size w x') (fun a b h1 h2 => ⟨h2.1.past h1, h2.2.1.past h1, h2.2.2.1.past h1, h2.2.2.2.1.below h1 (Nat.le_refl _), h2.2.2.2.2.trans (h1.mono h2.2.2.2.2.size)⟩)); refine region_ordT 6 _ Grows RD (by have d0 := Below.drew (Below.refl wr.heap.size wr); exact ⟨HR.out.1.past d0, HR.out.2.1.past d0, HR.out.2.2.1.past d0, HR.out.2.2.2.1.below d0 (Nat.le_refl _), HR.out.2.2.2.2.trans (d0.mono HR.out.2.2.2.2.size)⟩) (by kernel_rfl) (by decide) ?_; intro ops Q' hops hPQ hN; (have HNS : Hid (Region.noSelect ops = true ∧ Region.sinkB .any ops 6 = true ∧ Region.chainB .any ops 6 = true ∧ 6 < ops.size) := Lib.hid (by rw [hops]; exact ⟨by kernel_rfl, by kernel_rfl, by kernel_rfl, by decide⟩)); (have hsz : ops.size = 9 := (by rw [hops]; rfl)); have HOP := Lib.hid hops; have HPQ := Lib.hid hPQ; have HN := Lib.hid hN; rw [hsz]; clear hops hsz hPQ hN
      refine ordT_take RD 0 (at_list (by rw [HOP.out]; rfl)) HNS.out HPQ.out (by rw [HOP.out]; kernel_rfl) (by rw [HOP.out]; kernel_rfl) (by rw [HOP.out]; rfl) (fun K hK => ?_); apply Exists.intro; refine ⟨fun W hSW => ?_, hK _ ?_⟩; (focus ((try dsimp only at hSW); go_simp; try with_reducible rfl)); clear hK K; (try simp only [Act.put, List.setIfInBounds_toArray, List.set_cons_zero, List.set_cons_succ])
      refine ordT_take RD 1 (at_list (by rw [HOP.out]; rfl)) HNS.out HPQ.out (by rw [HOP.out]; kernel_rfl) (by rw [HOP.out]; kernel_rfl) (by rw [HOP.out]; rfl) (fun K hK => ?_); apply Exists.intro; refine ⟨fun W hSW => ?_, hK _ ?_⟩; (focus ((try dsimp only at hSW); (obtain ⟨z1, z2⟩ := hSW.2.1.one); go_simp; try with_reducible rfl)); clear hK K; (try simp only [Act.put, List.setIfInBounds_toArray, List.set_cons_zero, List.set_cons_succ])
      refine ordT_take RD 3 (at_list (by rw [HOP.out]; rfl)) HNS.out HPQ.out (by rw [HOP.out]; kernel_rfl) (by rw [HOP.out]; kernel_rfl) (by rw [HOP.out]; rfl) (fun K hK => ?_); apply Exists.intro; refine ⟨fun W hSW => ?_, hK _ ?_⟩; (focus ((try dsimp only at hSW); go_simp; try with_reducible rfl)); clear hK K; (try simp only [Act.put, List.setIfInBounds_toArray, List.set_cons_zero, List.set_cons_succ])
      refine ordT_one RD 2 (by rw [HOP.out]; kernel_rfl) (at_list (by rw [HOP.out]; rfl)) (by rw [HOP.out]; rfl) (fun W1 hWW hSW K hK => ?_); (try dsimp only at hSW)
      go_simp
      refine hK _ _ ?s1 ?_
      case s1 => exact RD.keep (grows_alloc W1 _) hSW
      clear hSW hWW
      clear hK K; (try simp only [Act.put, List.setIfInBounds_toArray, List.set_cons_zero, List.set_cons_succ])
      refine ordT_one RD 4 (by rw [HOP.out]; kernel_rfl) (at_list (by rw [HOP.out]; rfl)) (by rw [HOP.out]; rfl) (fun W2 hWW hSW K hK => ?_); (try dsimp only at hSW)
      refine wp_cloneY _ _ rfl _ rfl Al 33 cl sqRow rfl sqRow_len hSW.2.2.2.1.has sqRow_bd (by decide) ?_
      intro A4 c4 w4 o4 b4
      refine hK _ _ (RD.keep b4 hSW) ?_
      have H4 := Lib.hid (And.intro o4 (And.intro hSW.1 hSW.2.2.2.2.size))
      clear o4 b4 hSW hWW
      clear hK K; (try simp only [Act.put, List.setIfInBounds_toArray, List.set_cons_zero, List.set_cons_succ])
      refine ordT_one RD 5 (by rw [HOP.out]; kernel_rfl) (at_list (by rw [HOP.out]; rfl)) (by rw [HOP.out]; rfl) (fun W3 hWW hSW K hK => ?_); (try dsimp only at hSW)
      go_simp
      refine hK _ _ ?s2 ?_
      case s2 => exact RD.keep (grows_alloc W3 _) hSW
      have H5 : Hid (Grows w4 W3) := Lib.hid hWW
      clear hSW hWW
      clear hK K; (try simp only [Act.put, List.setIfInBounds_toArray, List.set_cons_zero, List.set_cons_succ])
      refine ordT_end (by rw [HOP.out]; kernel_rfl) (fun W5 hWW hSW => ?_); rw [HOP.out]; simp only [List.drop_succ_cons, List.drop_zero]; have hN := HN.out; clear HOP HNS HPQ HN RD; (try dsimp only at hSW)
      have HN := Lib.hid hSW
      have HG : Hid (Grows w4 W5) := Lib.hid ((H5.out.alloc H5.out.size _).trans (hWW.mono (H5.out.alloc H5.out.size _).size))
      have hA : Hid (OneR W5 w.heap.size ⟨A4, 33, c4, sqRow⟩ ∧ (∀ j, j < rs.length → RApart (rs.getD j ry0) ⟨A4, 33, c4, sqRow⟩ ∧ RApart ⟨A4, 33, c4, sqRow⟩ (rs.getD j ry0)) ∧ Lies W5 W3.heap.size 50 [.slice A4 33 c4]) := Lib.hid ⟨(H4.out.1.below HG.out (Nat.le_refl _)).mono H4.out.2.2, fun j hj => apart_new (H4.out.2.1.one j hj) H4.out.1 (Nat.le_refl _), (Lies.fresh W3 50 [.slice A4 33 c4]).past hWW⟩
      clear hSW hWW
      go_wp2_with (at_builtin; refine appRY rfl _ _ rfl w.heap.size _ rs rfl HN.out.1 HN.out.2.2.2.2.size W3.heap.size 1 rfl ⟨A4, 33, c4, sqRow⟩ (hA.out.2.2.cell 0) hA.out.1 hA.out.2.1 (k + 1) (by rw [HL.out.1]) (by have := HLT.out; have := HM.out; omega) ?_; intro A6 c6 w6 o6 g6 b6; have K6 := HN.out.1.keeps HN.out.2.1 (by decide) g6; obtain ⟨z1, z2⟩ := K6.one; have H6 := Lib.hid (And.intro o6 (And.intro K6 (And.intro (HN.out.1.keeps HN.out.2.2.1 (by decide) g6) (And.intro (HN.out.1.keeps_own HN.out.2.2.2.1 g6) (HN.out.2.2.2.2.trans b6))))); clear o6 g6 b6 K6)
      have hn : (⟨g4, 0, none⟩ : Addr).block ≠ w.heap.size := by have := HX2.out.2.2.2.2; exact fun e => absurd this (by rw [show w.heap.size = g4 from e.symm]; exact Nat.lt_irrefl _)
      refine ⟨⟨k + 1, A6, c6, rs ++ [⟨A4, 33, c4, sqRow⟩], by have := HLT.out; omega, by go_num, by rw [List.length_append, HL.out.1]; rfl, by have h0 := HL.out.2; have h1 := HL.out.1; subst h1; exact full_snoc h0 _ _ _, H6.out.1.other H6.out.2.1 (by decide) (by decide) _ _, H6.out.2.1.set 0 _, H6.out.2.2.1.other hn _, owni_other H6.out.2.2.2.1 H6.out.2.1 (by decide) _ _, H6.out.2.2.2.2.setCell (Nat.le_of_lt HX2.out.2.2.2.2) _⟩, by simp [intOf]; have := HLT.out; omega⟩
    · obtain rfl : k = m := by omega
      clear hlt hk
      have y1 : wr.cell? ⟨g4, 0, none⟩ = some (.slice A k c) := HR.out.2.1.cell 0
      have y2 : wr.cell? ⟨w.heap.size, 0, none⟩ = some (.slice none 0 0) := HR.out.2.2.1.cell 0
      have y3 : wr.frozen? ⟨w.heap.size, 0, none⟩ = false := HR.out.2.2.1.free 0
      go_wp2_with fail
      have K := HR.out.2.2.1.set 0 (.slice A k c)
      have k1 : (wr.setCell ⟨w.heap.size, 0, none⟩ (.slice A k c)).cell? ⟨w.heap.size, 0, none⟩ = some (.slice A k c) := K.cell 0
      refine bodyPost_ret (by simp [results, Tryd.results36, go_sem, k1]; try rfl) rfl ?_
      exact ⟨A, c, rs, rfl, HR.out.1.other HR.out.2.2.1 (by decide) (by decide) 0 _, HL.out.1, full_all HL.out.1 HL.out.2, HR.out.2.2.2.2.setCell (Nat.le_refl _) _⟩
end Go.Proofs.YtdmnaipngcldbaaDoor.rfW
