/- Copies of rows, by walks. -/
import Derived.Test.YtdmnaipngcldbaaDoorRfWC
namespace Go.Proofs.YtdmnaipngcldbaaDoor.rfW
set_option maxRecDepth 100000
open Go.RowKit Go.Proofs.YtdmnaipngcldbaaDoor.base Go.Proofs.YtdmnaipngcldbaaDoor.rfP
set_option linter.unusedVariables false
set_option linter.unusedSimpArgs false
theorem nums_snoc (rs : List RY) (r : RY) : numsY (rs ++ [r]) = numsY rs ++ [r.b] := by simp [numsY]
set_option maxHeartbeats 800000 in
theorem twin16_any (P : Option Addr) (m c : Nat) (rs : List RY) (w : World) (h : RowsY w P m c rs) (hg : greatB (numsY rs) = false) :
    Calls Tryd.prog 51 #[.agg #[.slice P m c]] w fun e w' => ∃ A d qs, e = .returned (.agg #[.slice A m d]) ∧ OwnR w' w.heap.size (.slice A m d) qs ∧ numsY qs = numsY rs ∧ Below w.heap.size w w' := by
  have m9 : (m : Int) ≤ 9223372036854775807 := by have := h.c1; have := h.c2; omega
  have HLN : Hid (rs.length = m ∧ (numsY rs).length = m) := Lib.hid ⟨h.l, by rw [nums_len]; exact h.l⟩
  have HG0 : Hid (m ≤ 300 ∧ ∀ z ∈ numsY rs, z.length ≤ 100) := Lib.hid ⟨by have := (great_no hg).1; rw [HLN.out.2] at this; exact this, (great_no hg).2⟩
  have H := Lib.hid h
  clear h hg
  go_enter Tryd.func51, Tryd.ntmps51
  go_wp2_with fail
  have HX : Hid (Lies (((w.alloc (.cells #[.slice P m c] 96)).alloc (.cells #[.slice none 0 0] 96)).alloc (.cells #[.slice none 0 0] 96)) (w.heap.size + 2) 96 [.slice none 0 0] ∧ Lies (((w.alloc (.cells #[.slice P m c] 96)).alloc (.cells #[.slice none 0 0] 96)).alloc (.cells #[.slice none 0 0] 96)) (w.heap.size + 1) 96 [.slice none 0 0] ∧ Lies (((w.alloc (.cells #[.slice P m c] 96)).alloc (.cells #[.slice none 0 0] 96)).alloc (.cells #[.slice none 0 0] 96)) w.heap.size 96 [.slice P m c] ∧ Below w.heap.size w (((w.alloc (.cells #[.slice P m c] 96)).alloc (.cells #[.slice none 0 0] 96)).alloc (.cells #[.slice none 0 0] 96)) ∧ w.heap.size < w.heap.size + 1 ∧ w.heap.size + 1 < w.heap.size + 2) := Lib.hid ⟨Lies.fresh_at (cs := [.slice none 0 0]) (by simp), (Lies.fresh_at (cs := [.slice none 0 0]) (by simp)).alloc _, ((Lies.fresh w 96 [.slice P m c]).alloc _).alloc _, by (repeat' (first | (with_reducible exact Below.refl _ _) | (with_reducible assumption) | (with_reducible refine below_drewN ?_ _) | (with_reducible refine below_new ?_ _) | (with_reducible refine Below.alloc ?_ ?_ _) | (with_reducible refine Below.drew ?_) | (with_reducible refine Below.setCell ?_ ?_ _) | (with_reducible apply below_at; (case k => (with_reducible assumption)); (case hB => omega)) | (with_reducible apply below_on; (with_reducible assumption)) | (go_size; done) | (with_reducible apply size_of))), by omega, by omega⟩
  generalize (((w.alloc (.cells #[.slice P m c] 96)).alloc (.cells #[.slice none 0 0] 96)).alloc (.cells #[.slice none 0 0] 96)) = W0 at *
  generalize w.heap.size + 2 = g3 at *
  generalize w.heap.size + 1 = g2 at *
  go_loopw [4] (fun iv wr => ∃ (k : Nat) (A : Option Addr) (d : Nat) (qs : List RY), k ≤ m ∧ iv = .int .i64 k ∧ qs.length = k ∧ numsY qs = (numsY rs).take k ∧ OwnR wr w.heap.size (.slice A k d) qs ∧ Lies wr g3 96 [.slice A k d] ∧ Lies wr g2 96 [.slice none 0 0] ∧ Lies wr w.heap.size 96 [.slice P m c] ∧ Below w.heap.size w wr) (fun iv _ => m - (intOf iv).toNat)
  case atStart => exact ⟨0, none, 0, [], by omega, rfl, rfl, rfl, OwnR.nil _ _, HX.out.1, HX.out.2.1, HX.out.2.2.1, HX.out.2.2.2.1⟩
  case round =>
    obtain ⟨k, A, d, qs, hk, rfl, hl, hf, hor, hl3, hl2, hl1, hb⟩ := hrel
    have HL := Lib.hid (And.intro hl hf)
    have HR := Lib.hid (And.intro hor (And.intro hl3 (And.intro hl2 (And.intro hl1 hb))))
    have x1 : wr.cell? ⟨w.heap.size, 0, none⟩ = some (.slice P m c) := hl1.cell 0
    clear hl hf hor hl3 hl2 hl1 hb
    by_cases hlt : k < m
    · have HLT := Lib.hid hlt
      have k1 : (k : Int) < m := by omega
      have k0 : 0 ≤ (k : Int) := by omega
      obtain ⟨b, off, rfl, hb, hc⟩ := H.out.h.some (by rw [HLN.out.1]; omega)
      have I1 := Lib.hid (H.out.h.get k (by rw [HLN.out.1]; exact hlt))
      have E1 := Lib.hid (nums_at rs k (by rw [HLN.out.1]; exact hlt))
      have HCA : Hid (∀ x', Below w.heap.size w x' → x'.cell? ⟨b, off + k, none⟩ = some (.slice (rs.getD k ry0).A (rs.getD k ry0).n (rs.getD k ry0).c)) := Lib.hid (fun x' hx => ((bcell hx).1 b _ hb).trans (hc k (by rw [HLN.out.1]; exact hlt)))
      have HG1 : Hid ((rs.getD k ry0).b.length ≤ 100) := Lib.hid (HG0.out.2 _ (by rw [← E1.out, List.getD_eq_getElem?_getD, List.getElem?_eq_getElem (by rw [HLN.out.2]; exact hlt)]; exact List.getElem_mem _))
      clear hlt hk hc
      generalize rs.getD k ry0 = r at *
      obtain ⟨A1, n1, d1, y1⟩ := r
      have HN1 : Hid (y1.length = n1 ∧ n1 ≤ 1073741824) := Lib.hid ⟨I1.out.e, by have h1 : y1.length ≤ 100 := HG1.out; have h2 : y1.length = n1 := I1.out.e; omega⟩
      go_upto_region 5 with fail
      clear x1
      (have RD := grows_roads (S := fun x' => OwnR x' w.heap.size (.slice A k d) qs ∧ Lies x' g3 96 [.slice A k d] ∧ Lies x' g2 96 [.slice none 0 0] ∧ Lies x' w.heap.size 96 [.slice (some ⟨b, off, none⟩) m c] ∧ Below w.heap.size w x') (fun a b h1 h2 => ⟨h2.1.past h1, h2.2.1.past h1, h2.2.2.1.past h1, h2.2.2.2.1.past h1, h2.2.2.2.2.trans (h1.mono h2.2.2.2.2.size)⟩)); refine region_ordT 10 _ Grows RD (by have d0 := Below.drew (Below.refl wr.heap.size wr); exact ⟨HR.out.1.past d0, HR.out.2.1.past d0, HR.out.2.2.1.past d0, HR.out.2.2.2.1.past d0, HR.out.2.2.2.2.trans (d0.mono HR.out.2.2.2.2.size)⟩) (by kernel_rfl) (by decide) ?_; intro ops Q' hops hPQ hN; (have HNS : Hid (Region.noSelect ops = true ∧ Region.sinkB .any ops 10 = true ∧ Region.chainB .any ops 10 = true ∧ 10 < ops.size) := Lib.hid (by rw [hops]; exact ⟨by kernel_rfl, by kernel_rfl, by kernel_rfl, by decide⟩)); (have hsz : ops.size = 13 := (by rw [hops]; rfl)); have HOP := Lib.hid hops; have HPQ := Lib.hid hPQ; have HN := Lib.hid hN; rw [hsz]; clear hops hsz hPQ hN
      refine ordT_take RD 0 (at_list (by rw [HOP.out]; rfl)) HNS.out HPQ.out (by rw [HOP.out]; kernel_rfl) (by rw [HOP.out]; kernel_rfl) (by rw [HOP.out]; rfl) (fun K hK => ?_); apply Exists.intro; refine ⟨fun W hSW => ?_, hK _ ?_⟩; (focus ((try dsimp only at hSW); go_simp; try with_reducible rfl)); clear hK K; (try simp only [Act.put, List.setIfInBounds_toArray, List.set_cons_zero, List.set_cons_succ])
      refine ordT_take RD 1 (at_list (by rw [HOP.out]; rfl)) HNS.out HPQ.out (by rw [HOP.out]; kernel_rfl) (by rw [HOP.out]; kernel_rfl) (by rw [HOP.out]; rfl) (fun K hK => ?_); apply Exists.intro; refine ⟨fun W hSW => ?_, hK _ ?_⟩; (focus ((try dsimp only at hSW); (obtain ⟨z1, -⟩ := hSW.2.1.one); go_simp; try with_reducible rfl)); clear hK K; (try simp only [Act.put, List.setIfInBounds_toArray, List.set_cons_zero, List.set_cons_succ])
      refine ordT_take RD 3 (at_list (by rw [HOP.out]; rfl)) HNS.out HPQ.out (by rw [HOP.out]; kernel_rfl) (by rw [HOP.out]; kernel_rfl) (by rw [HOP.out]; rfl) (fun K hK => ?_); apply Exists.intro; refine ⟨fun W hSW => ?_, hK _ ?_⟩; (focus ((try dsimp only at hSW); go_simp; try with_reducible rfl)); clear hK K; (try simp only [Act.put, List.setIfInBounds_toArray, List.set_cons_zero, List.set_cons_succ])
      refine ordT_take RD 4 (at_list (by rw [HOP.out]; rfl)) HNS.out HPQ.out (by rw [HOP.out]; kernel_rfl) (by rw [HOP.out]; kernel_rfl) (by rw [HOP.out]; rfl) (fun K hK => ?_); apply Exists.intro; refine ⟨fun W hSW => ?_, hK _ ?_⟩; (focus ((try dsimp only at hSW); (obtain ⟨z1, -⟩ := hSW.2.2.2.1.one); go_simp; try with_reducible rfl)); clear hK K; (try simp only [Act.put, List.setIfInBounds_toArray, List.set_cons_zero, List.set_cons_succ])
      refine ordT_take RD 5 (at_list (by rw [HOP.out]; rfl)) HNS.out HPQ.out (by rw [HOP.out]; kernel_rfl) (by rw [HOP.out]; kernel_rfl) (by rw [HOP.out]; rfl) (fun K hK => ?_); apply Exists.intro; refine ⟨fun W hSW => ?_, hK _ ?_⟩; (focus ((try dsimp only at hSW); go_simp; try with_reducible rfl)); clear hK K; (try simp only [Act.put, List.setIfInBounds_toArray, List.set_cons_zero, List.set_cons_succ])
      refine ordT_take RD 6 (at_list (by rw [HOP.out]; rfl)) HNS.out HPQ.out (by rw [HOP.out]; kernel_rfl) (by rw [HOP.out]; kernel_rfl) (by rw [HOP.out]; rfl) (fun K hK => ?_); apply Exists.intro; refine ⟨fun W hSW => ?_, hK _ ?_⟩; (focus ((try dsimp only at hSW); go_simp; try with_reducible rfl)); clear hK K; (try simp only [Act.put, List.setIfInBounds_toArray, List.set_cons_zero, List.set_cons_succ])
      refine ordT_take RD 7 (at_list (by rw [HOP.out]; rfl)) HNS.out HPQ.out (by rw [HOP.out]; kernel_rfl) (by rw [HOP.out]; kernel_rfl) (by rw [HOP.out]; rfl) (fun K hK => ?_); apply Exists.intro; refine ⟨fun W hSW => ?_, hK _ ?_⟩; (focus ((try dsimp only at hSW); (have z1 := HCA.out _ hSW.2.2.2.2); go_simp; try with_reducible rfl)); clear hK K; (try simp only [Act.put, List.setIfInBounds_toArray, List.set_cons_zero, List.set_cons_succ])
      refine ordT_one RD 2 (by rw [HOP.out]; kernel_rfl) (at_list (by rw [HOP.out]; rfl)) (by rw [HOP.out]; rfl) (fun W1 hWW hSW K hK => ?_); (try dsimp only at hSW)
      go_simp
      refine hK _ _ ?s1 ?_
      case s1 => exact RD.keep (grows_alloc W1 _) hSW
      clear hSW hWW
      clear hK K; (try simp only [Act.put, List.setIfInBounds_toArray, List.set_cons_zero, List.set_cons_succ])
      refine ordT_one RD 8 (by rw [HOP.out]; kernel_rfl) (at_list (by rw [HOP.out]; rfl)) (by rw [HOP.out]; rfl) (fun W2 hWW hSW K hK => ?_); (try dsimp only at hSW)
      refine wp_cloneY _ _ rfl _ rfl A1 n1 d1 y1 rfl HN1.out.1 (I1.out.below hSW.2.2.2.2 (Nat.le_refl _)).h I1.out.b HN1.out.2 ?_
      intro A4 c4 w4 o4 b4
      refine hK _ _ (RD.keep b4 hSW) ?_
      have H4 := Lib.hid (And.intro o4 (And.intro hSW.1 hSW.2.2.2.2.size))
      clear o4 b4 hSW hWW
      clear hK K; (try simp only [Act.put, List.setIfInBounds_toArray, List.set_cons_zero, List.set_cons_succ])
      refine ordT_one RD 9 (by rw [HOP.out]; kernel_rfl) (at_list (by rw [HOP.out]; rfl)) (by rw [HOP.out]; rfl) (fun W3 hWW hSW K hK => ?_); (try dsimp only at hSW)
      go_simp
      refine hK _ _ ?s2 ?_
      case s2 => exact RD.keep (grows_alloc W3 _) hSW
      have H5 : Hid (Grows w4 W3) := Lib.hid hWW
      clear hSW hWW
      clear hK K; (try simp only [Act.put, List.setIfInBounds_toArray, List.set_cons_zero, List.set_cons_succ])
      refine ordT_end (by rw [HOP.out]; kernel_rfl) (fun W5 hWW hSW => ?_); rw [HOP.out]; simp only [List.drop_succ_cons, List.drop_zero]; have hN := HN.out; clear HOP HNS HPQ HN RD; (try dsimp only at hSW)
      have HN := Lib.hid hSW
      have HG : Hid (Grows w4 W5) := Lib.hid ((H5.out.alloc H5.out.size _).trans (hWW.mono (H5.out.alloc H5.out.size _).size))
      have hA : Hid (OneR W5 w.heap.size ⟨A4, n1, c4, y1⟩ ∧ (∀ j, j < qs.length → RApart (qs.getD j ry0) ⟨A4, n1, c4, y1⟩ ∧ RApart ⟨A4, n1, c4, y1⟩ (qs.getD j ry0)) ∧ Lies W5 W3.heap.size 50 [.slice A4 n1 c4]) := Lib.hid ⟨(H4.out.1.below HG.out (Nat.le_refl _)).mono H4.out.2.2, fun j hj => apart_new (H4.out.2.1.one j hj) H4.out.1 (Nat.le_refl _), (Lies.fresh W3 50 [.slice A4 n1 c4]).past hWW⟩
      have hm3 := Lib.hid (show k + 1 ≤ 1000000 by have := HLT.out; have := HG0.out.1; omega)
      clear hSW hWW
      go_wp2_with (at_builtin; refine appRY rfl _ _ rfl w.heap.size _ qs rfl HN.out.1 HN.out.2.2.2.2.size W3.heap.size 1 rfl ⟨A4, n1, c4, y1⟩ (hA.out.2.2.cell 0) hA.out.1 hA.out.2.1 (k + 1) (by rw [HL.out.1]) hm3.out ?_; intro A6 c6 w6 o6 g6 b6; have K6 := HN.out.1.keeps HN.out.2.1 (by decide) g6; obtain ⟨z1, z2⟩ := K6.one; have H6 := Lib.hid (And.intro o6 (And.intro K6 (And.intro (HN.out.1.keeps HN.out.2.2.1 (by decide) g6) (And.intro (HN.out.1.keeps HN.out.2.2.2.1 (by decide) g6) (HN.out.2.2.2.2.trans b6))))); clear o6 g6 b6 K6)
      have hn2 : (⟨g3, 0, none⟩ : Addr).block ≠ g2 := by have h1 := HX.out.2.2.2.2.2; show g3 ≠ g2; omega
      have hn1 : (⟨g3, 0, none⟩ : Addr).block ≠ w.heap.size := by have h1 := HX.out.2.2.2.2; show g3 ≠ w.heap.size; omega
      refine ⟨⟨k + 1, A6, c6, qs ++ [⟨A4, n1, c4, y1⟩], by have := HLT.out; omega, by go_num, by rw [List.length_append, HL.out.1]; rfl, by rw [nums_snoc, HL.out.2, take_snoc [] (numsY rs) k (by rw [HLN.out.2]; exact HLT.out), E1.out], H6.out.1.other H6.out.2.1 (by decide) (by decide) _ _, H6.out.2.1.set 0 _, H6.out.2.2.1.other hn2 _, H6.out.2.2.2.1.other hn1 _, H6.out.2.2.2.2.setCell (by have h1 := HX.out.2.2.2.2; show w.heap.size ≤ g3; omega) _⟩, by simp [intOf]; have := HLT.out; omega⟩
    · obtain rfl : k = m := by omega
      clear hlt hk
      have y1 : wr.cell? ⟨g3, 0, none⟩ = some (.slice A k d) := HR.out.2.1.cell 0
      have y2 : wr.cell? ⟨g2, 0, none⟩ = some (.slice none 0 0) := HR.out.2.2.1.cell 0
      have y3 : wr.frozen? ⟨g2, 0, none⟩ = false := HR.out.2.2.1.free 0
      go_wp2_with fail
      have K := HR.out.2.2.1.set 0 (.slice A k d)
      have k1 : (wr.setCell ⟨g2, 0, none⟩ (.slice A k d)).cell? ⟨g2, 0, none⟩ = some (.slice A k d) := K.cell 0
      refine bodyPost_ret (by simp [results, Tryd.results51, go_sem, k1]; try rfl) rfl ?_
      exact ⟨A, d, qs, rfl, HR.out.1.other HR.out.2.2.1 (by decide) (by decide) 0 _, by rw [HL.out.2, List.take_of_length_le (by rw [HLN.out.2]; exact Nat.le_refl _)], HR.out.2.2.2.2.setCell (by have h1 := HX.out.2.2.2.2; show w.heap.size ≤ g2; omega) _⟩
end Go.Proofs.YtdmnaipngcldbaaDoor.rfW
