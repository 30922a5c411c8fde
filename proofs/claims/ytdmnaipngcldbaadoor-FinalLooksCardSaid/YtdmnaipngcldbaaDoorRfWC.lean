/- Rows compared, copied, and whether they are too many, by walks. -/
import Derived.Test.YtdmnaipngcldbaaDoorRows32
import Derived.Test.YtdmnaipngcldbaaDoorSame32
import Derived.Test.YtdmnaipngcldbaaDoorAppY
import Derived.Test.YtdmnaipngcldbaaDoorRfBase
import Derived.Test.YtdmnaipngcldbaaDoorOrd
import Derived.Deep.LoopGhost
import Derived.Deep.DeepCutAuto
namespace Go.Proofs.YtdmnaipngcldbaaDoor.rfP
set_option maxRecDepth 100000
open Go.Proofs.YtdmnaipngcldbaaDoor.base
def greatB (l : List (List Int)) : Bool := decide (300 < l.length) || l.any fun z => decide (100 < z.length)
theorem great_no {l : List (List Int)} (h : greatB l = false) : l.length ≤ 300 ∧ ∀ z ∈ l, z.length ≤ 100 := by
  unfold greatB at h
  rw [Bool.or_eq_false_iff, decide_eq_false_iff_not, List.any_eq_false] at h
  exact ⟨by omega, fun z hz => by have := h.2 z hz; simpa using this⟩
theorem great_row {l : List (List Int)} (i : Nat) (hi : i < l.length) (h : 100 < (l.getD i []).length) : greatB l = true := by
  unfold greatB
  rw [Bool.or_eq_true, List.any_eq_true]
  right
  rw [List.getD_eq_getElem?_getD, List.getElem?_eq_getElem hi] at h
  exact ⟨_, List.getElem_mem hi, by simpa using h⟩
theorem great_len {l : List (List Int)} (h : 300 < l.length) : greatB l = true := by
  unfold greatB; rw [decide_eq_true h]; rfl
theorem great_none {l : List (List Int)} (h0 : l.length ≤ 300) (h : ∀ i, i < l.length → (l.getD i []).length ≤ 100) : greatB l = false := by
  unfold greatB
  rw [Bool.or_eq_false_iff, decide_eq_false_iff_not, List.any_eq_false]
  refine ⟨by omega, fun z hz => ?_⟩
  obtain ⟨i, hi, rfl⟩ := List.getElem_of_mem hz
  have := h i hi
  rw [List.getD_eq_getElem?_getD, List.getElem?_eq_getElem hi] at this
  simpa using this
end Go.Proofs.YtdmnaipngcldbaaDoor.rfP
namespace Go.Proofs.YtdmnaipngcldbaaDoor.rfW
set_option maxRecDepth 100000
open Go.RowKit Go.Proofs.YtdmnaipngcldbaaDoor.base Go.Proofs.YtdmnaipngcldbaaDoor.rfP
set_option linter.unusedVariables false
set_option linter.unusedSimpArgs false
set_option maxHeartbeats 400000 in
theorem Great_any (P : Option Addr) (m c : Nat) (rs : List RY) (w : World) (h : RowsY w P m c rs) :
    Calls Tryd.prog 29 #[.slice P m c] w fun e w' => e = .returned (.bool (greatB (numsY rs))) ∧ w' = w := by
  have H := Lib.hid h
  have HLN : Hid (rs.length = m ∧ (numsY rs).length = m) := Lib.hid ⟨h.l, by rw [nums_len]; exact h.l⟩
  have m9 : (m : Int) ≤ 9223372036854775807 := by have := h.c1; have := h.c2; omega
  clear h
  go_enter Tryd.func29, Tryd.ntmps29
  go_wp2_with fail
  go_loopw [3] (fun iv wr => ∃ k : Nat, k ≤ m ∧ k ≤ 301 ∧ iv = .int .i64 k ∧ (∀ i, i < k → ((numsY rs).getD i []).length ≤ 100) ∧ wr = w) (fun iv _ => m - (intOf iv).toNat)
  case atStart => exact ⟨0, by omega, by omega, rfl, fun x hx => absurd hx (by omega), rfl⟩
  case round =>
    obtain ⟨k, hk, hk2, rfl, hro, rfl⟩ := hrel
    have HRO := Lib.hid hro
    clear hro
    by_cases hlt : k < m
    · have k1 : (k : Int) < m := by omega
      have k0 : 0 ≤ (k : Int) := by omega
      by_cases h3 : k < 301
      · have k3 : (k : Int) ≤ 300 := by omega
        have HLT := Lib.hid (And.intro hlt h3)
        obtain ⟨b, off, rfl, hb, hc⟩ := H.out.h.some (by rw [HLN.out.1]; omega)
        have z1 := hc k (by rw [HLN.out.1]; exact hlt)
        have HIK := Lib.hid (H.out.h.get k (by rw [HLN.out.1]; exact hlt))
        have HNA := Lib.hid (nums_at rs k (by rw [HLN.out.1]; exact hlt))
        clear hc hlt h3 hk hk2
        generalize rs.getD k ry0 = r at *
        obtain ⟨A, n, d, z⟩ := r
        have n9 : (n : Int) ≤ 9223372036854775807 := by have := HIK.out.c1; have := HIK.out.c2; exact Int.ofNat_le.2 (Nat.le_trans HIK.out.c1 HIK.out.c2)
        have HZ : Hid (z.length = n) := Lib.hid HIK.out.e
        by_cases hn : (100 : Int) < n
        · have HG := Lib.hid (great_row (l := numsY rs) k (by rw [HLN.out.2]; exact HLT.out.1) (by rw [HNA.out]; show 100 < z.length; rw [HZ.out]; omega))
          go_wp2_with fail
          refine bodyPost_ret (by simp [results, Tryd.results29, go_sem, ]; try rfl) rfl ?_
          exact ⟨by rw [HG.out], by trivial⟩
        · have HG : Hid (∀ i, i < k + 1 → ((numsY rs).getD i []).length ≤ 100) := Lib.hid (fun i hi => by
            by_cases e : i < k
            · exact HRO.out i e
            · obtain rfl : i = k := by omega
              rw [HNA.out]; show z.length ≤ 100; rw [HZ.out]; omega)
          go_wp2_with fail
          exact ⟨⟨k + 1, HLT.out.1, by have := HLT.out.2; omega, by go_num, HG.out, by trivial⟩, by simp [intOf]; have := HLT.out.1; omega⟩
      · have k3 : ¬ (k : Int) ≤ 300 := by omega
        have k4 : (300 : Int) < m := by omega
        have HG := Lib.hid (great_len (l := numsY rs) (by rw [HLN.out.2]; omega))
        clear hk hk2 h3 hlt
        go_wp2_with fail
        refine bodyPost_ret (by simp [results, Tryd.results29, go_sem, ]; try rfl) rfl ?_
        exact ⟨by rw [HG.out], rfl⟩
    · have k1 : ¬ (k : Int) < m := by omega
      by_cases h3 : (300 : Int) < m
      · have HG := Lib.hid (great_len (l := numsY rs) (by rw [HLN.out.2]; omega))
        clear hk hk2 hlt
        go_wp2_with fail
        refine bodyPost_ret (by simp [results, Tryd.results29, go_sem, ]; try rfl) rfl ?_
        exact ⟨by rw [HG.out], rfl⟩
      · have HG := Lib.hid (great_none (l := numsY rs) (by rw [HLN.out.2]; omega) (fun i hi => HRO.out i (by rw [HLN.out.2] at hi; omega)))
        clear hk hk2 hlt
        go_wp2_with fail
        refine bodyPost_ret (by simp [results, Tryd.results29, go_sem, ]; try rfl) rfl ?_
        exact ⟨by rw [HG.out], rfl⟩
set_option maxHeartbeats 800000 in
theorem same16_any (P Q : Option Addr) (m c n d : Nat) (rs qs : List RY) (w : World) (h : RowsY w P m c rs) (h' : RowsY w Q n d qs) :
    Calls Tryd.prog 47 #[.agg #[.slice P m c], .agg #[.slice Q n d]] w fun e w' => e = .returned (.bool (decide (numsY rs = numsY qs))) ∧ Below w.heap.size w w' := by
  have m9 : (m : Int) ≤ 9223372036854775807 := by have := h.c1; have := h.c2; omega
  have n9 : (n : Int) ≤ 9223372036854775807 := by have := h'.c1; have := h'.c2; omega
  by_cases hmn : m = n
  · subst hmn
    have H := Lib.hid (And.intro h h')
    have HL : Hid ((numsY rs).length = m ∧ (numsY qs).length = m) := Lib.hid ⟨by rw [nums_len]; exact h.l, by rw [nums_len]; exact h'.l⟩
    have LL : Hid (Lies ((w.alloc (.cells #[.slice P m c] 96)).alloc (.cells #[.slice Q m d] 96)) w.heap.size 96 [.slice P m c] ∧ Lies ((w.alloc (.cells #[.slice P m c] 96)).alloc (.cells #[.slice Q m d] 96)) (w.heap.size + 1) 96 [.slice Q m d]) := Lib.hid ⟨(Lies.fresh w 96 [.slice P m c]).alloc _, Lies.fresh_at (cs := [.slice Q m d]) (by simp)⟩
    clear h h' n9
    go_enter Tryd.func47, Tryd.ntmps47
    go_wp2_with fail
    go_loopw [5] (fun i wr => ∃ k : Nat, k ≤ m ∧ i = .int .i64 k ∧ (numsY rs).take k = (numsY qs).take k ∧ Lies wr w.heap.size 96 [.slice P m c] ∧ Lies wr (w.heap.size + 1) 96 [.slice Q m d] ∧ Below w.heap.size w wr) (fun i _ => m - (intOf i).toNat)
    case atStart => exact ⟨0, Nat.zero_le _, rfl, rfl, LL.out.1, LL.out.2, by (repeat' (first | (with_reducible exact Below.refl _ _) | (with_reducible assumption) | (with_reducible refine below_drewN ?_ _) | (with_reducible refine below_new ?_ _) | (with_reducible refine Below.alloc ?_ ?_ _) | (with_reducible refine Below.drew ?_) | (with_reducible refine Below.setCell ?_ ?_ _) | (with_reducible apply below_at; (case k => (with_reducible assumption)); (case hB => omega)) | (with_reducible apply below_on; (with_reducible assumption)) | (go_size; done) | (with_reducible apply size_of)))⟩
    case round =>
      obtain ⟨k, hk, rfl, hall, K, M, acc⟩ := hrel
      have HS := Lib.hid hall
      have HK := Lib.hid (And.intro K (And.intro M acc))
      obtain ⟨p0, -⟩ := K.one
      obtain ⟨q0, -⟩ := M.one
      by_cases hlt : k < m
      · obtain ⟨b1, o1, rfl, hb1, hc1⟩ := H.out.1.h.some (by rw [H.out.1.l]; omega)
        obtain ⟨b2, o2, rfl, hb2, hc2⟩ := H.out.2.h.some (by rw [H.out.2.l]; omega)
        have hca : wr.cell? ⟨b1, o1 + k, none⟩ = _ := ((bcell acc).1 b1 _ hb1).trans (hc1 k (by rw [H.out.1.l]; exact hlt))
        have hcb : wr.cell? ⟨b2, o2 + k, none⟩ = _ := ((bcell acc).1 b2 _ hb2).trans (hc2 k (by rw [H.out.2.l]; exact hlt))
        have HI0 := Lib.hid (And.intro (H.out.1.h.get k (by rw [H.out.1.l]; exact hlt)) (H.out.2.h.get k (by rw [H.out.2.l]; exact hlt)))
        have I1 := Lib.hid ((H.out.1.h.get k (by rw [H.out.1.l]; exact hlt)).below acc (Nat.le_refl _))
        have I2 := Lib.hid ((H.out.2.h.get k (by rw [H.out.2.l]; exact hlt)).below acc (Nat.le_refl _))
        have G1 := Lib.hid (take_snoc [] (numsY rs) k (by rw [HL.out.1]; exact hlt))
        have G2 := Lib.hid (take_snoc [] (numsY qs) k (by rw [HL.out.2]; exact hlt))
        have E1 := Lib.hid (nums_at rs k (by rw [H.out.1.l]; exact hlt))
        have E2 := Lib.hid (nums_at qs k (by rw [H.out.2.l]; exact hlt))
        have k1 : (k : Int) < m := by omega
        have k0 : (0 : Int) ≤ k := by omega
        have HLT := Lib.hid hlt
        clear K M acc hall hlt hk hc1 hc2
        generalize rs.getD k ry0 = r at *
        generalize qs.getD k ry0 = q at *
        obtain ⟨A1, n1, d1, y1⟩ := r
        obtain ⟨A2, n2, d2, y2⟩ := q
        have HCA : Hid (∀ x', Below w.heap.size w x' → x'.cell? ⟨b1, o1 + k, none⟩ = some (.slice A1 n1 d1)) := Lib.hid (fun x' hx => ((bcell hx).1 b1 _ hb1).trans (((bcell HK.out.2.2).1 b1 _ hb1).symm.trans hca))
        have HCB : Hid (∀ x', Below w.heap.size w x' → x'.cell? ⟨b2, o2 + k, none⟩ = some (.slice A2 n2 d2)) := Lib.hid (fun x' hx => ((bcell hx).1 b2 _ hb2).trans (((bcell HK.out.2.2).1 b2 _ hb2).symm.trans hcb))
        have J1 : Hid (∀ x', Below w.heap.size w x' → InY x' ⟨A1, n1, d1, y1⟩) := Lib.hid (fun x' hx => by have := HI0.out.1; exact this.below hx (Nat.le_refl _))
        have J2 : Hid (∀ x', Below w.heap.size w x' → InY x' ⟨A2, n2, d2, y2⟩) := Lib.hid (fun x' hx => by have := HI0.out.2; exact this.below hx (Nat.le_refl _))
        have HNE : Hid (y1 ≠ y2 → numsY rs ≠ numsY qs) := Lib.hid (fun h e => h (by have e1 := E1.out; have e2 := E2.out; rw [e] at e1; exact e1.symm.trans e2))
        clear hca hcb I1 I2
        go_upto_region 6 with fail
        obtain ⟨v, hv⟩ : ∃ v, decide (y1 = y2) = v := ⟨_, rfl⟩
        have HV := Lib.hid hv
        clear hv
        (have RD := grows_roads (S := fun x' => Lies x' w.heap.size 96 [.slice (some ⟨b1, o1, none⟩) m c] ∧ Lies x' (w.heap.size + 1) 96 [.slice (some ⟨b2, o2, none⟩) m d] ∧ Below w.heap.size w x') (fun a b h1 h2 => ⟨h2.1.past h1, h2.2.1.past h1, h2.2.2.trans (h1.mono h2.2.2.size)⟩)); refine region_ord _ Grows RD (by have d0 := Below.drew (Below.refl wr.heap.size wr); exact ⟨HK.out.1.past d0, HK.out.2.1.past d0, HK.out.2.2.trans (d0.mono HK.out.2.2.size)⟩) (by kernel_rfl) ?_; intro ops Q' hops hPQ hN; (have HNS : Hid (Region.noSelect ops = true) := Lib.hid (by rw [hops]; kernel_rfl)); (have hsz : ops.size = 12 := (by rw [hops]; rfl)); have HOP := Lib.hid hops; have HPQ := Lib.hid hPQ; have HN := Lib.hid hN; rw [hsz]; clear hops hsz hPQ hN
        refine ord_take RD 0 (at_list (by rw [HOP.out]; rfl)) HNS.out HPQ.out (by rw [HOP.out]; kernel_rfl) (by rw [HOP.out]; kernel_rfl) (by rw [HOP.out]; rfl) (fun K hK => ?_); apply Exists.intro; refine ⟨fun W hSW => ?_, hK _ ?_⟩; (focus ((try dsimp only at hSW); go_simp; try with_reducible rfl)); clear hK K; (try simp only [Act.put, List.setIfInBounds_toArray, List.set_cons_zero, List.set_cons_succ])
        refine ord_take RD 1 (at_list (by rw [HOP.out]; rfl)) HNS.out HPQ.out (by rw [HOP.out]; kernel_rfl) (by rw [HOP.out]; kernel_rfl) (by rw [HOP.out]; rfl) (fun K hK => ?_); apply Exists.intro; refine ⟨fun W hSW => ?_, hK _ ?_⟩; (focus ((try dsimp only at hSW); (obtain ⟨z1, -⟩ := hSW.1.one); go_simp; try with_reducible rfl)); clear hK K; (try simp only [Act.put, List.setIfInBounds_toArray, List.set_cons_zero, List.set_cons_succ])
        refine ord_take RD 2 (at_list (by rw [HOP.out]; rfl)) HNS.out HPQ.out (by rw [HOP.out]; kernel_rfl) (by rw [HOP.out]; kernel_rfl) (by rw [HOP.out]; rfl) (fun K hK => ?_); apply Exists.intro; refine ⟨fun W hSW => ?_, hK _ ?_⟩; (focus ((try dsimp only at hSW); go_simp; try with_reducible rfl)); clear hK K; (try simp only [Act.put, List.setIfInBounds_toArray, List.set_cons_zero, List.set_cons_succ])
        refine ord_take RD 3 (at_list (by rw [HOP.out]; rfl)) HNS.out HPQ.out (by rw [HOP.out]; kernel_rfl) (by rw [HOP.out]; kernel_rfl) (by rw [HOP.out]; rfl) (fun K hK => ?_); apply Exists.intro; refine ⟨fun W hSW => ?_, hK _ ?_⟩; (focus ((try dsimp only at hSW); go_simp; try with_reducible rfl)); clear hK K; (try simp only [Act.put, List.setIfInBounds_toArray, List.set_cons_zero, List.set_cons_succ])
        refine ord_take RD 4 (at_list (by rw [HOP.out]; rfl)) HNS.out HPQ.out (by rw [HOP.out]; kernel_rfl) (by rw [HOP.out]; kernel_rfl) (by rw [HOP.out]; rfl) (fun K hK => ?_); apply Exists.intro; refine ⟨fun W hSW => ?_, hK _ ?_⟩; (focus ((try dsimp only at hSW); (have z1 := HCA.out _ hSW.2.2); go_simp; try with_reducible rfl)); clear hK K; (try simp only [Act.put, List.setIfInBounds_toArray, List.set_cons_zero, List.set_cons_succ])
        refine ord_take RD 5 (at_list (by rw [HOP.out]; rfl)) HNS.out HPQ.out (by rw [HOP.out]; kernel_rfl) (by rw [HOP.out]; kernel_rfl) (by rw [HOP.out]; rfl) (fun K hK => ?_); apply Exists.intro; refine ⟨fun W hSW => ?_, hK _ ?_⟩; (focus ((try dsimp only at hSW); go_simp; try with_reducible rfl)); clear hK K; (try simp only [Act.put, List.setIfInBounds_toArray, List.set_cons_zero, List.set_cons_succ])
        refine ord_take RD 6 (at_list (by rw [HOP.out]; rfl)) HNS.out HPQ.out (by rw [HOP.out]; kernel_rfl) (by rw [HOP.out]; kernel_rfl) (by rw [HOP.out]; rfl) (fun K hK => ?_); apply Exists.intro; refine ⟨fun W hSW => ?_, hK _ ?_⟩; (focus ((try dsimp only at hSW); (obtain ⟨z1, -⟩ := hSW.2.1.one); go_simp; try with_reducible rfl)); clear hK K; (try simp only [Act.put, List.setIfInBounds_toArray, List.set_cons_zero, List.set_cons_succ])
        refine ord_take RD 7 (at_list (by rw [HOP.out]; rfl)) HNS.out HPQ.out (by rw [HOP.out]; kernel_rfl) (by rw [HOP.out]; kernel_rfl) (by rw [HOP.out]; rfl) (fun K hK => ?_); apply Exists.intro; refine ⟨fun W hSW => ?_, hK _ ?_⟩; (focus ((try dsimp only at hSW); go_simp; try with_reducible rfl)); clear hK K; (try simp only [Act.put, List.setIfInBounds_toArray, List.set_cons_zero, List.set_cons_succ])
        refine ord_take RD 8 (at_list (by rw [HOP.out]; rfl)) HNS.out HPQ.out (by rw [HOP.out]; kernel_rfl) (by rw [HOP.out]; kernel_rfl) (by rw [HOP.out]; rfl) (fun K hK => ?_); apply Exists.intro; refine ⟨fun W hSW => ?_, hK _ ?_⟩; (focus ((try dsimp only at hSW); go_simp; try with_reducible rfl)); clear hK K; (try simp only [Act.put, List.setIfInBounds_toArray, List.set_cons_zero, List.set_cons_succ])
        refine ord_take RD 9 (at_list (by rw [HOP.out]; rfl)) HNS.out HPQ.out (by rw [HOP.out]; kernel_rfl) (by rw [HOP.out]; kernel_rfl) (by rw [HOP.out]; rfl) (fun K hK => ?_); apply Exists.intro; refine ⟨fun W hSW => ?_, hK _ ?_⟩; (focus ((try dsimp only at hSW); (have z1 := HCB.out _ hSW.2.2); go_simp; try with_reducible rfl)); clear hK K; (try simp only [Act.put, List.setIfInBounds_toArray, List.set_cons_zero, List.set_cons_succ])
        refine ord_take RD 10 (at_list (by rw [HOP.out]; rfl)) HNS.out HPQ.out (by rw [HOP.out]; kernel_rfl) (by rw [HOP.out]; kernel_rfl) (by rw [HOP.out]; rfl) (fun K hK => ?_); apply Exists.intro; refine ⟨fun W hSW => ?_, hK _ ?_⟩; (focus ((try dsimp only at hSW); go_simp; exact (same32_any A1 A2 n1 n2 d1 d2 y1 y2 W (J1.out W hSW.2.2).h (J1.out W hSW.2.2).e (J2.out W hSW.2.2).h (J2.out W hSW.2.2).e (Nat.le_trans (J1.out W hSW.2.2).c1 (J1.out W hSW.2.2).c2) (Nat.le_trans (J2.out W hSW.2.2).c1 (J2.out W hSW.2.2).c2)))); clear hK K; (try simp only [Act.put, List.setIfInBounds_toArray, List.set_cons_zero, List.set_cons_succ])
        rw [HV.out]
        refine ord_take RD 11 (at_list (by rw [HOP.out]; rfl)) HNS.out HPQ.out (by rw [HOP.out]; kernel_rfl) (by rw [HOP.out]; kernel_rfl) (by rw [HOP.out]; rfl) (fun K hK => ?_); apply Exists.intro; refine ⟨fun W hSW => ?_, hK _ ?_⟩; (focus ((try dsimp only at hSW); go_simp; try with_reducible rfl)); clear hK K; (try simp only [Act.put, List.setIfInBounds_toArray, List.set_cons_zero, List.set_cons_succ])
        refine ord_done (by rw [HOP.out]; kernel_rfl) (fun W4 hWW hSW => HN.out _ _ ?_); clear HOP HNS HPQ HN RD; (try dsimp only at hSW)
        have HW := Lib.hid hSW
        clear hSW hWW p0 q0
        cases v
        · have HX : Hid (decide (numsY rs = numsY qs) = false) := Lib.hid (decide_eq_false (HNE.out (of_decide_eq_false HV.out)))
          go_wp2_with fail
          refine bodyPost_ret (by simp [results, Tryd.results47, go_sem, ]; try rfl) rfl ?_
          exact ⟨retb HX.out.symm, HW.out.2.2⟩
        · have HX : Hid (y1 = y2) := Lib.hid (of_decide_eq_true HV.out)
          go_wp2_with fail
          exact ⟨⟨k + 1, HLT.out, by go_num, by rw [G1.out, G2.out, HS.out, E1.out, E2.out]; show _ ++ [y1] = _ ++ [y2]; rw [HX.out], HW.out.1, HW.out.2.1, HW.out.2.2⟩, by simp [intOf]; have := HLT.out; omega⟩
      · have HEQ : Hid (numsY rs = numsY qs) := Lib.hid (by
          have := HS.out
          rwa [List.take_of_length_le (by rw [HL.out.1]; omega), List.take_of_length_le (by rw [HL.out.2]; omega)] at this)
        have k1 : ¬ (k : Int) < m := by omega
        clear K M acc hall hlt hk
        go_wp2_with fail
        refine bodyPost_ret (by simp [results, Tryd.results47, go_sem, ]; try rfl) rfl ?_
        exact ⟨retb (by rw [decide_eq_true HEQ.out]), HK.out.2.2⟩
  · have hne : ¬ (m : Int) = n := by omega
    have hn2 : ((m : Int) == (n : Int)) = false := by simpa using hne
    have HE : Hid (decide (numsY rs = numsY qs) = false) := Lib.hid (decide_eq_false (fun e => hmn (by have := congrArg List.length e; rw [nums_len, nums_len, h.l, h'.l] at this; exact this)))
    clear h h' hmn
    go_enter Tryd.func47, Tryd.ntmps47
    go_wp2_with fail
    refine bodyPost_ret (by simp [results, Tryd.results47, go_sem, ]; try rfl) rfl ?_
    exact ⟨retb HE.out.symm, by (repeat' (first | (with_reducible exact Below.refl _ _) | (with_reducible assumption) | (with_reducible refine below_drewN ?_ _) | (with_reducible refine below_new ?_ _) | (with_reducible refine Below.alloc ?_ ?_ _) | (with_reducible refine Below.drew ?_) | (with_reducible refine Below.setCell ?_ ?_ _) | (with_reducible apply below_at; (case k => (with_reducible assumption)); (case hB => omega)) | (with_reducible apply below_on; (with_reducible assumption)) | (go_size; done) | (with_reducible apply size_of)))⟩
end Go.Proofs.YtdmnaipngcldbaaDoor.rfW
