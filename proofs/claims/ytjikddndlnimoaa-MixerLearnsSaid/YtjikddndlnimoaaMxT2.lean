/- Learning of the reference: all answers. -/
import Derived.Test.YtjikddndlnimoaaMxT
namespace Go.Proofs.Ytjikddndlnimoaa.mxW
set_option maxRecDepth 100000
open Go.RowKit Go.Proofs.Ytjikddndlnimoaa.base Go.Proofs.Ytjikddndlnimoaa.rfP Go.Proofs.Ytjikddndlnimoaa.mxP Go.Proofs.Ytjikddndlnimoaa.fixP
set_option linter.unusedVariables false
set_option linter.unusedSimpArgs false
set_option maxHeartbeats 800000 in
theorem rLearn_bad (P : Option Addr) (m c : Nat) (rs : List RY) (set : Int) (B : Option Addr) (n d : Nat) (ys : List Int) (p : Int) (bit : Bool) (w : World) (h : RowsY w P m c rs) (hi : In8 w B n d ys) (hb : learnME (numsY rs) set ys p ≠ 0) :
    Calls Try.prog 7 #[.agg #[.slice P m c], .int .i64 set, .slice B n d, .int .i32 p, .bool bit] w fun e w' => e = .returned (.tuple #[.agg #[.slice none 0 0], .int .i64 (learnME (numsY rs) set ys p)]) ∧ Below w.heap.size w w' := by
  have H := Lib.hid (And.intro h hi)
  have B0 : Hid (Below w.heap.size w ((w.alloc (.cells #[.slice P m c] 24)).alloc (.cells #[.slice none 0 0] 24)) ∧ Lies ((w.alloc (.cells #[.slice P m c] 24)).alloc (.cells #[.slice none 0 0] 24)) (w.heap.size + 1) 24 [.slice none 0 0] ∧ Lies ((w.alloc (.cells #[.slice P m c] 24)).alloc (.cells #[.slice none 0 0] 24)) w.heap.size 24 [.slice P m c]) := Lib.hid ⟨by (repeat' (first | (with_reducible exact Below.refl _ _) | (with_reducible assumption) | (with_reducible refine below_drewN ?_ _) | (with_reducible refine below_new ?_ _) | (with_reducible refine Below.alloc ?_ ?_ _) | (with_reducible refine Below.drew ?_) | (with_reducible refine Below.setCell ?_ ?_ _) | (with_reducible apply below_at; (case k => (with_reducible assumption)); (case hB => omega)) | (with_reducible apply below_on; (with_reducible assumption)) | (go_size; done) | (with_reducible apply size_of))), Lies.fresh_at (cs := [.slice none 0 0]) (by simp), (Lies.fresh w 24 [.slice P m c]).alloc _⟩
  clear h hi
  by_cases ha : mAskE (numsY rs) set ys = 0
  · have e1 : learnME (numsY rs) set ys p = wrongE p := by unfold learnME; rw [if_pos ha]
    have hp : p < 0 ∨ 4095 < p := by
      unfold wrongE at e1
      split at e1
      · assumption
      · exact absurd e1 hb
    have e2 : wrongE p = 2 := by unfold wrongE; rw [if_pos hp]
    rw [e1, e2]
    have HV := Lib.hid ha
    clear e1 e2 hb ha
    go_enter Try.func7, Try.ntmps7
    go_wp2_with fail
    generalize ((w.alloc (.cells #[.slice P m c] 24)).alloc (.cells #[.slice none 0 0] 24)) = W0 at *
    generalize hg2 : w.heap.size + 1 = g2 at *
    have HG2 := Lib.hid hg2
    clear hg2
    refine (rAsked_any P m c rs set B n d ys W0 (H.out.1.past B0.out.1) (H.out.2.past B0.out.1)).mono ?_
    rintro e w1 ⟨rfl, hb1⟩
    rw [HV.out]
    have H1 := Lib.hid (And.intro (B0.out.2.1.past hb1) (below_bs B0.out.1 hb1))
    clear hb1
    obtain ⟨z1, z2⟩ := H1.out.1.one
    by_cases c1 : p < 0
    · clear hp
      go_wp2_with fail
      have K := H1.out.1.set 0 (.slice none 0 0)
      have k1 : (w1.setCell ⟨g2, 0, none⟩ (.slice none 0 0)).cell? ⟨g2, 0, none⟩ = some (.slice none 0 0) := K.cell 0
      refine bodyPost_ret (by simp [results, Try.results7, go_sem, k1]; try rfl) rfl ?_
      exact ⟨rfl, H1.out.2.setCell (by have := HG2.out; show w.heap.size ≤ g2; omega) _⟩
    · have c2 : 4095 < p := by omega
      have c3 : decide (p < 0) = false := decide_eq_false c1
      clear hp c1
      go_wp2_with fail
      have K := H1.out.1.set 0 (.slice none 0 0)
      have k1 : (w1.setCell ⟨g2, 0, none⟩ (.slice none 0 0)).cell? ⟨g2, 0, none⟩ = some (.slice none 0 0) := K.cell 0
      refine bodyPost_ret (by simp [results, Try.results7, go_sem, k1]; try rfl) rfl ?_
      exact ⟨rfl, H1.out.2.setCell (by have := HG2.out; show w.heap.size ≤ g2; omega) _⟩
  · have e1 : learnME (numsY rs) set ys p = mAskE (numsY rs) set ys := by unfold learnME; rw [if_neg ha]
    rw [e1]
    clear e1 hb
    obtain ⟨v, hv⟩ : ∃ v, mAskE (numsY rs) set ys = v := ⟨_, rfl⟩
    have HV := Lib.hid hv
    rw [hv] at ha ⊢
    clear hv
    go_enter Try.func7, Try.ntmps7
    go_wp2_with fail
    generalize ((w.alloc (.cells #[.slice P m c] 24)).alloc (.cells #[.slice none 0 0] 24)) = W0 at *
    generalize hg2 : w.heap.size + 1 = g2 at *
    have HG2 := Lib.hid hg2
    clear hg2
    refine (rAsked_any P m c rs set B n d ys W0 (H.out.1.past B0.out.1) (H.out.2.past B0.out.1)).mono ?_
    rintro e w1 ⟨rfl, hb1⟩
    rw [HV.out]
    have H1 := Lib.hid (And.intro (B0.out.2.1.past hb1) (And.intro (B0.out.2.2.past hb1) (below_bs B0.out.1 hb1)))
    have x1 : w1.cell? ⟨w.heap.size, 0, none⟩ = some (.slice P m c) := H1.out.2.1.cell 0
    clear hb1
    go_wp2_with fail
    refine (rAsked_any P m c rs set B n d ys w1 (H.out.1.past H1.out.2.2) (H.out.2.past H1.out.2.2)).mono ?_
    rintro e w2 ⟨rfl, hb2⟩
    rw [HV.out]
    have H2 := Lib.hid (And.intro (H1.out.1.past hb2) (below_bs H1.out.2.2 hb2))
    clear hb2 x1
    obtain ⟨z1, z2⟩ := H2.out.1.one
    go_wp2_with fail
    have K := H2.out.1.set 0 (.slice none 0 0)
    have k1 : (w2.setCell ⟨g2, 0, none⟩ (.slice none 0 0)).cell? ⟨g2, 0, none⟩ = some (.slice none 0 0) := K.cell 0
    refine bodyPost_ret (by simp [results, Try.results7, go_sem, k1]; try rfl) rfl ?_
    exact ⟨rfl, H2.out.2.setCell (by have := HG2.out; show w.heap.size ≤ g2; omega) _⟩
set_option maxHeartbeats 800000 in
theorem rLearn_ok (P : Option Addr) (m c : Nat) (rs : List RY) (k : Nat) (B : Option Addr) (d : Nat) (ys : List Int) (p : Int) (bit : Bool) (w : World) (h : RowsY w P m c rs) (hi : In8 w B 8 d ys) (hr : mxB (numsY rs) = true) (hk : k < m) (hin : inB ys = true) (p0 : 0 ≤ p) (p1 : p ≤ 4095) :
    Calls Try.prog 7 #[.agg #[.slice P m c], .int .i64 k, .slice B 8 d, .int .i32 p, .bool bit] w fun e w' => ∃ A d qs, e = .returned (.tuple #[.agg #[.slice A m d], .int .i64 0]) ∧ OwnR w' w.heap.size (.slice A m d) qs ∧ numsY qs = learnM (numsY rs) k ys (offP p bit) ∧ Below w.heap.size w w' := by
  have H := Lib.hid (And.intro h hi)
  have HL : Hid (rs.length = m ∧ (numsY rs).length = m) := Lib.hid ⟨h.l, by rw [nums_len]; exact h.l⟩
  have m9 : (m : Int) ≤ 9223372036854775807 := by have := h.c1; have := h.c2; omega
  have HA := Lib.hid (mAsk_ok (set := (k : Int)) (ins := ys) hr (by omega) (by rw [HL.out.2]; omega) hin)
  have HR := Lib.hid hr
  have HK := Lib.hid hk
  have HIN := Lib.hid hin
  have HYL := Lib.hid ((inB_iff _).1 hin).1
  have HPP := Lib.hid (And.intro p0 p1)
  have q0 : decide (p < 0) = false := decide_eq_false (by omega)
  have q1 : decide (4095 < p) = false := decide_eq_false (by omega)
  have k1 : (k : Int) < m := by omega
  have k0 : 0 ≤ (k : Int) := by omega
  have B0 : Hid (Below w.heap.size w ((w.alloc (.cells #[.slice P m c] 24)).alloc (.cells #[.slice none 0 0] 24)) ∧ Lies ((w.alloc (.cells #[.slice P m c] 24)).alloc (.cells #[.slice none 0 0] 24)) (w.heap.size + 1) 24 [.slice none 0 0] ∧ MxAt ((w.alloc (.cells #[.slice P m c] 24)).alloc (.cells #[.slice none 0 0] 24)) w.heap.size P m c rs ∧ w.heap.size < w.heap.size + 1) := Lib.hid ⟨by (repeat' (first | (with_reducible exact Below.refl _ _) | (with_reducible assumption) | (with_reducible refine below_drewN ?_ _) | (with_reducible refine below_new ?_ _) | (with_reducible refine Below.alloc ?_ ?_ _) | (with_reducible refine Below.drew ?_) | (with_reducible refine Below.setCell ?_ ?_ _) | (with_reducible apply below_at; (case k => (with_reducible assumption)); (case hB => omega)) | (with_reducible apply below_on; (with_reducible assumption)) | (go_size; done) | (with_reducible apply size_of))), Lies.fresh_at (cs := [.slice none 0 0]) (by simp), (mxAt_new h).alloc _, by omega⟩
  clear h hi hr hk hin
  go_enter Try.func7, Try.ntmps7
  go_wp2_with fail
  generalize ((w.alloc (.cells #[.slice P m c] 24)).alloc (.cells #[.slice none 0 0] 24)) = w0 at *
  generalize w.heap.size + 1 = g2 at *
  refine (rAsked_any P m c rs k B 8 d ys w0 (H.out.1.past B0.out.1) (H.out.2.past B0.out.1)).mono ?_
  rintro e w1 ⟨rfl, hb1⟩
  rw [HA.out]
  have H1 : Hid (Lies w1 g2 24 [.slice none 0 0] ∧ MxAt w1 w.heap.size P m c rs ∧ Below w.heap.size w w1) := Lib.hid ⟨B0.out.2.1.past hb1, B0.out.2.2.1.past hb1, below_bs B0.out.1 hb1⟩
  clear hb1
  have x1 := H1.out.2.1.cell
  go_wp2_with fail
  clear x1
  refine (rfW.twin16_any P m c rs w1 H1.out.2.1.rows (mx_great HR.out)).mono ?_
  rintro e w2 ⟨A, c2, qs, rfl, ho, hq, hb2⟩
  have H2 : Hid (Lies w2 g2 24 [.slice none 0 0] ∧ MxAt w2 w.heap.size P m c rs ∧ OwnR w2 w.heap.size (.slice A m c2) qs ∧ Below w.heap.size w w2) := Lib.hid ⟨H1.out.1.past hb2, H1.out.2.1.past hb2, ho.mono H1.out.2.2.size, below_bs H1.out.2.2 hb2⟩
  have HQ : Hid (qs.length = m ∧ numsY qs = numsY rs) := Lib.hid ⟨ho.rows.l, hq⟩
  clear ho hq hb2
  obtain ⟨gr, rfl, -, -, -⟩ := H2.out.2.2.1.form (by rw [HQ.out.1]; have := HK.out; omega)
  go_upto_region 6 with fail
  have HG4 : Hid (Lies (w2.alloc (.cells #[.slice (some ⟨gr, 0, none⟩) m c2] 24)) w2.heap.size 24 [.slice (some ⟨gr, 0, none⟩) m c2] ∧ OwnR (w2.alloc (.cells #[.slice (some ⟨gr, 0, none⟩) m c2] 24)) w.heap.size (.slice (some ⟨gr, 0, none⟩) m c2) qs ∧ Lies (w2.alloc (.cells #[.slice (some ⟨gr, 0, none⟩) m c2] 24)) g2 24 [.slice none 0 0] ∧ MxAt (w2.alloc (.cells #[.slice (some ⟨gr, 0, none⟩) m c2] 24)) w.heap.size P m c rs ∧ Below w.heap.size w (w2.alloc (.cells #[.slice (some ⟨gr, 0, none⟩) m c2] 24))) := Lib.hid ⟨Lies.fresh _ _ _, H2.out.2.2.1.alloc _, H2.out.1.alloc _, H2.out.2.1.alloc _, below_al H2.out.2.2.2 _⟩
  generalize (w2.alloc (.cells #[.slice (some ⟨gr, 0, none⟩) m c2] 24)) = W4 at *
  generalize w2.heap.size = g4 at *
  clear H1 H2
  obtain ⟨b, off, rfl, hb, hc⟩ := H.out.1.h.some (by rw [HL.out.1]; have := HK.out; omega)
  have HN := Lib.hid (nums_at rs k (by rw [HL.out.1]; exact HK.out))
  have HWL := Lib.hid (mx_row HR.out k (by rw [HL.out.2]; exact HK.out))
  have I1 := Lib.hid (H.out.1.h.get k (by rw [HL.out.1]; exact HK.out))
  have HCA : Hid (∀ x', Below w.heap.size w x' → x'.cell? ⟨b, off + k, none⟩ = some (.slice (rs.getD k ry0).A (rs.getD k ry0).n (rs.getD k ry0).c)) := Lib.hid (fun x' hx => ((bcell hx).1 b _ hb).trans (hc k (by rw [HL.out.1]; exact HK.out)))
  have HLM : Hid (learnM (numsY rs) k ys (offP p bit) = (numsY rs).set k (tauL ((numsY rs).getD k []) ys (offP p bit))) := Lib.hid rfl
  rw [HN.out] at HWL HLM
  clear hc HN
  generalize rs.getD k ry0 = r at *
  obtain ⟨A1, n1, d1, y1⟩ := r
  have HY : Hid (y1.length = 8) := HWL
  obtain rfl : n1 = 8 := by have e1 : y1.length = n1 := I1.out.e; have e2 := HY.out; omega
  have HTB : Hid (∀ z ∈ tauL y1 ys (offP p bit), -2147483648 ≤ z ∧ z ≤ 2147483647) := Lib.hid (fun z hz => by
    obtain ⟨i, hi, rfl⟩ := List.getElem_of_mem hz
    rw [tauL_len HY.out HYL.out] at hi
    have e := tauL_at (off := offP p bit) HY.out HYL.out i hi
    rw [List.getD_eq_getElem?_getD, List.getElem?_eq_getElem (by rw [tauL_len HY.out HYL.out]; exact hi)] at e
    have e : (tauL y1 ys (offP p bit))[i]'(by rw [tauL_len HY.out HYL.out]; exact hi) = tau (y1.getD i 0) (ys.getD i 0) (offP p bit) := e
    rw [e]
    exact tau_bd _ _ _)
  have HLM2 : Hid (learnM (numsY rs) k ys (offP p bit) = (numsY rs).set k (tauL y1 ys (offP p bit))) := HLM
  go_cut [] (fun wx => (∃ gc cc, OwnR wx w.heap.size (.slice (some ⟨gr, 0, none⟩) m c2) (qs.set k ⟨some ⟨gc, 0, none⟩, 8, cc, tauL y1 ys (offP p bit)⟩)) ∧ Lies wx g4 24 [.slice (some ⟨gr, 0, none⟩) m c2] ∧ Lies wx g2 24 [.slice none 0 0] ∧ Below w.heap.size w wx)
  case first =>
    (have RD := grows_roads (S := fun x' => Lies x' g4 24 [.slice (some ⟨gr, 0, none⟩) m c2] ∧ OwnR x' w.heap.size (.slice (some ⟨gr, 0, none⟩) m c2) qs ∧ Lies x' g2 24 [.slice none 0 0] ∧ MxAt x' w.heap.size (some ⟨b, off, none⟩) m c rs ∧ Below w.heap.size w x') (fun a b h1 h2 => ⟨h2.1.past h1, h2.2.1.past h1, h2.2.2.1.past h1, h2.2.2.2.1.past h1, below_bs h2.2.2.2.2 h1⟩)); refine region_ordT 12 _ Grows RD (by have d0 := Below.drew (Below.refl W4.heap.size W4); exact ⟨HG4.out.1.past d0, HG4.out.2.1.past d0, HG4.out.2.2.1.past d0, HG4.out.2.2.2.1.past d0, below_bs HG4.out.2.2.2.2 d0⟩) (by kernel_rfl) (by decide) ?_; intro ops Q' hops hPQ hN; (have HNS : Hid (Region.noSelect ops = true ∧ Region.sinkB .any ops 12 = true ∧ Region.chainB .any ops 12 = true ∧ 12 < ops.size) := Lib.hid (by rw [hops]; exact ⟨by kernel_rfl, by kernel_rfl, by kernel_rfl, by decide⟩)); (have hsz : ops.size = 14 := (by rw [hops]; rfl)); have HOP := Lib.hid hops; have HPQ := Lib.hid hPQ; have HN := Lib.hid hN; rw [hsz]; clear hops hsz hPQ hN
    refine ordT_take RD 0 (at_list (by rw [HOP.out]; rfl)) HNS.out HPQ.out (by rw [HOP.out]; kernel_rfl) (by rw [HOP.out]; kernel_rfl) (by rw [HOP.out]; rfl) (fun K hK => ?_); apply Exists.intro; refine ⟨fun W hSW => ?_, hK _ ?_⟩; (focus ((try dsimp only at hSW); go_simp; try with_reducible rfl)); clear hK K; (try simp only [Act.put, List.setIfInBounds_toArray, List.set_cons_zero, List.set_cons_succ])
    refine ordT_take RD 1 (at_list (by rw [HOP.out]; rfl)) HNS.out HPQ.out (by rw [HOP.out]; kernel_rfl) (by rw [HOP.out]; kernel_rfl) (by rw [HOP.out]; rfl) (fun K hK => ?_); apply Exists.intro; refine ⟨fun W hSW => ?_, hK _ ?_⟩; (focus ((try dsimp only at hSW); (obtain ⟨z1, -⟩ := hSW.1.one); go_simp; try with_reducible rfl)); clear hK K; (try simp only [Act.put, List.setIfInBounds_toArray, List.set_cons_zero, List.set_cons_succ])
    refine ordT_take RD 2 (at_list (by rw [HOP.out]; rfl)) HNS.out HPQ.out (by rw [HOP.out]; kernel_rfl) (by rw [HOP.out]; kernel_rfl) (by rw [HOP.out]; rfl) (fun K hK => ?_); apply Exists.intro; refine ⟨fun W hSW => ?_, hK _ ?_⟩; (focus ((try dsimp only at hSW); go_simp; try with_reducible rfl)); clear hK K; (try simp only [Act.put, List.setIfInBounds_toArray, List.set_cons_zero, List.set_cons_succ])
    refine ordT_take RD 3 (at_list (by rw [HOP.out]; rfl)) HNS.out HPQ.out (by rw [HOP.out]; kernel_rfl) (by rw [HOP.out]; kernel_rfl) (by rw [HOP.out]; rfl) (fun K hK => ?_); apply Exists.intro; refine ⟨fun W hSW => ?_, hK _ ?_⟩; (focus ((try dsimp only at hSW); go_simp; try with_reducible rfl)); clear hK K; (try simp only [Act.put, List.setIfInBounds_toArray, List.set_cons_zero, List.set_cons_succ])
    refine ordT_take RD 4 (at_list (by rw [HOP.out]; rfl)) HNS.out HPQ.out (by rw [HOP.out]; kernel_rfl) (by rw [HOP.out]; kernel_rfl) (by rw [HOP.out]; rfl) (fun K hK => ?_); apply Exists.intro; refine ⟨fun W hSW => ?_, hK _ ?_⟩; (focus ((try dsimp only at hSW); (have z1 := hSW.2.2.2.1.cell); go_simp; try with_reducible rfl)); clear hK K; (try simp only [Act.put, List.setIfInBounds_toArray, List.set_cons_zero, List.set_cons_succ])
    refine ordT_take RD 5 (at_list (by rw [HOP.out]; rfl)) HNS.out HPQ.out (by rw [HOP.out]; kernel_rfl) (by rw [HOP.out]; kernel_rfl) (by rw [HOP.out]; rfl) (fun K hK => ?_); apply Exists.intro; refine ⟨fun W hSW => ?_, hK _ ?_⟩; (focus ((try dsimp only at hSW); go_simp; try with_reducible rfl)); clear hK K; (try simp only [Act.put, List.setIfInBounds_toArray, List.set_cons_zero, List.set_cons_succ])
    refine ordT_take RD 6 (at_list (by rw [HOP.out]; rfl)) HNS.out HPQ.out (by rw [HOP.out]; kernel_rfl) (by rw [HOP.out]; kernel_rfl) (by rw [HOP.out]; rfl) (fun K hK => ?_); apply Exists.intro; refine ⟨fun W hSW => ?_, hK _ ?_⟩; (focus ((try dsimp only at hSW); go_simp; try with_reducible rfl)); clear hK K; (try simp only [Act.put, List.setIfInBounds_toArray, List.set_cons_zero, List.set_cons_succ])
    refine ordT_take RD 7 (at_list (by rw [HOP.out]; rfl)) HNS.out HPQ.out (by rw [HOP.out]; kernel_rfl) (by rw [HOP.out]; kernel_rfl) (by rw [HOP.out]; rfl) (fun K hK => ?_); apply Exists.intro; refine ⟨fun W hSW => ?_, hK _ ?_⟩; (focus ((try dsimp only at hSW); (have z1 := HCA.out _ hSW.2.2.2.2); go_simp; try with_reducible rfl)); clear hK K; (try simp only [Act.put, List.setIfInBounds_toArray, List.set_cons_zero, List.set_cons_succ])
    refine ordT_take RD 8 (at_list (by rw [HOP.out]; rfl)) HNS.out HPQ.out (by rw [HOP.out]; kernel_rfl) (by rw [HOP.out]; kernel_rfl) (by rw [HOP.out]; rfl) (fun K hK => ?_); apply Exists.intro; refine ⟨fun W hSW => ?_, hK _ ?_⟩; (focus ((try dsimp only at hSW); go_simp; try with_reducible rfl)); clear hK K; (try simp only [Act.put, List.setIfInBounds_toArray, List.set_cons_zero, List.set_cons_succ])
    refine ordT_take RD 9 (at_list (by rw [HOP.out]; rfl)) HNS.out HPQ.out (by rw [HOP.out]; kernel_rfl) (by rw [HOP.out]; kernel_rfl) (by rw [HOP.out]; rfl) (fun K hK => ?_); apply Exists.intro; refine ⟨fun W hSW => ?_, hK _ ?_⟩; (focus ((try dsimp only at hSW); go_simp; try with_reducible rfl)); clear hK K; (try simp only [Act.put, List.setIfInBounds_toArray, List.set_cons_zero, List.set_cons_succ])
    refine ordT_take RD 10 (at_list (by rw [HOP.out]; rfl)) HNS.out HPQ.out (by rw [HOP.out]; kernel_rfl) (by rw [HOP.out]; kernel_rfl) (by rw [HOP.out]; rfl) (fun K hK => ?_); apply Exists.intro; refine ⟨fun W hSW => ?_, hK _ ?_⟩; (focus ((try dsimp only at hSW); go_simp; try with_reducible rfl)); clear hK K; (try simp only [Act.put, List.setIfInBounds_toArray, List.set_cons_zero, List.set_cons_succ])
    refine ordT_one RD 11 (by rw [HOP.out]; kernel_rfl) (at_list (by rw [HOP.out]; rfl)) (by rw [HOP.out]; rfl) (fun W1 hWW hSW K hK => ?_); (try dsimp only at hSW)
    go_simp
    refine (Taught_any A1 B d1 d y1 ys p bit W1 (I1.out.below hSW.2.2.2.2 (Nat.le_refl _)).h HY.out I1.out.b (H.out.2.past hSW.2.2.2.2).h HIN.out HPP.out.1 HPP.out.2).mono ?_
    rintro e w3 ⟨Ac, cc, rfl, oc, bc⟩
    refine hK _ _ (RD.keep bc hSW) ?_
    have HOC := Lib.hid (oneR_of oc HTB.out)
    have HZ1 := Lib.hid (And.intro hSW.2.1 hSW.2.2.2.2.size)
    clear oc bc hSW hWW
    obtain ⟨gc, hgc, -, -, -⟩ := HOC.out.blk (by show 8 ≠ 0; decide)
    have hgc : Ac = some ⟨gc, 0, none⟩ := hgc
    subst hgc
    clear hK K; (try simp only [Act.put, List.setIfInBounds_toArray, List.set_cons_zero, List.set_cons_succ])
    refine ordT_end (by rw [HOP.out]; kernel_rfl) (fun W3 hWW hSW => ?_); rw [HOP.out]; simp only [List.drop_succ_cons, List.drop_zero]; have hN := HN.out; clear HOP HNS HPQ HN RD; (try dsimp only at hSW)
    have HN2 := Lib.hid hSW
    have HAP : Hid (OneR W3 w.heap.size ⟨some ⟨gc, 0, none⟩, 8, cc, tauL y1 ys (offP p bit)⟩ ∧ ∀ j, j < qs.length → j ≠ k → RApart (qs.getD j ry0) ⟨some ⟨gc, 0, none⟩, 8, cc, tauL y1 ys (offP p bit)⟩ ∧ RApart ⟨some ⟨gc, 0, none⟩, 8, cc, tauL y1 ys (offP p bit)⟩ (qs.getD j ry0)) := Lib.hid ⟨(HOC.out.below hWW (Nat.le_refl _)).mono HZ1.out.2, fun j hj _ => apart_new (HZ1.out.1.one j hj) HOC.out (Nat.le_refl _)⟩
    have f1 : W3.cell? ⟨gr, k, none⟩ = some (.slice (qs.getD k ry0).A (qs.getD k ry0).n (qs.getD k ry0).c) := HN2.out.2.1.cell k (by rw [HQ.out.1]; exact HK.out)
    have f2 : W3.frozen? ⟨gr, k, none⟩ = false := HN2.out.2.1.frozen k
    clear hSW hWW HOC HZ1
    go_wp2_with fail
    have n1 := HN2.out.2.1.ne HN2.out.1 (by decide)
    have n2 := HN2.out.2.1.ne HN2.out.2.2.1 (by decide)
    go_meet
    exact ⟨⟨gc, cc, HN2.out.2.1.put k ⟨some ⟨gc, 0, none⟩, 8, cc, tauL y1 ys (offP p bit)⟩ HAP.out.1 HAP.out.2⟩, HN2.out.1.other n1 _, HN2.out.2.2.1.other n2 _, HN2.out.2.2.2.2.setCell (HN2.out.2.1.base).1 _⟩
  case rest =>
    rename World => W6
    obtain ⟨⟨gc, cc, ho⟩, hrest⟩ := hcut
    have H6 := Lib.hid hrest
    have HO6 := Lib.hid ho
    clear hrest ho
    obtain ⟨z1, -⟩ := H6.out.1.one
    obtain ⟨z2, z3⟩ := H6.out.2.1.one
    go_wp2_with fail
    have K := H6.out.2.1.set 0 (.slice (some ⟨gr, 0, none⟩) m c2)
    have k1 : (W6.setCell ⟨g2, 0, none⟩ (.slice (some ⟨gr, 0, none⟩) m c2)).cell? ⟨g2, 0, none⟩ = some (.slice (some ⟨gr, 0, none⟩) m c2) := K.cell 0
    refine bodyPost_ret (by simp [results, Try.results7, go_sem, k1]; try rfl) rfl ?_
    exact ⟨_, c2, rfl, _, HO6.out.other H6.out.2.1 (by decide) (by decide) 0 _, by rw [mnums_set, HQ.out.2, HLM2.out], H6.out.2.2.setCell (Nat.le_of_lt B0.out.2.2.2) _⟩
theorem rLearn_any (P : Option Addr) (m c : Nat) (rs : List RY) (set : Int) (B : Option Addr) (n d : Nat) (ys : List Int) (p : Int) (bit : Bool) (w : World) (h : RowsY w P m c rs) (hi : In8 w B n d ys) :
    Calls Try.prog 7 #[.agg #[.slice P m c], .int .i64 set, .slice B n d, .int .i32 p, .bool bit] w fun e w' => ∃ A n d qs, e = .returned (.tuple #[.agg #[.slice A n d], .int .i64 (learnME (numsY rs) set ys p)]) ∧ OwnR w' w.heap.size (.slice A n d) qs ∧ numsY qs = learnMV (numsY rs) set ys p bit ∧ Below w.heap.size w w' := by
  by_cases ha : learnME (numsY rs) set ys p = 0
  · have ha0 : mAskE (numsY rs) set ys = 0 := by
      unfold learnME at ha
      split at ha
      · assumption
      · exact ha
    have hw : wrongE p = 0 := by
      unfold learnME at ha
      rw [if_pos ha0] at ha
      exact ha
    obtain ⟨a1, a2, a3, a4⟩ := mAsk_zero ha0
    rw [nums_len, h.l] at a3
    have hp : 0 ≤ p ∧ p ≤ 4095 := by
      unfold wrongE at hw
      split at hw
      · cases hw
      · omega
    have hn8 : n = 8 := by rw [← hi.e]; exact ((inB_iff _).1 a4).1
    subst hn8
    have := rLearn_ok P m c rs set.toNat B d ys p bit w h hi a1 (by omega) a4 hp.1 hp.2
    rw [show ((set.toNat : Nat) : Int) = set by omega] at this
    unfold learnMV
    rw [ha]
    exact this.mono fun e w' ⟨A, d, qs, h1, h2, h3, h4⟩ => ⟨A, m, d, qs, h1, h2, h3, h4⟩
  · unfold learnMV
    rw [if_neg ha]
    exact (rLearn_bad P m c rs set B n d ys p bit w h hi ha).mono fun e w' ⟨he, hb⟩ => ⟨none, 0, 0, [], he, OwnR.nil _ _, rfl, hb⟩
end Go.Proofs.Ytjikddndlnimoaa.mxW
