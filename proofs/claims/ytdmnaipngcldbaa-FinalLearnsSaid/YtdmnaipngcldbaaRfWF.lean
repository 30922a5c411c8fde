/- Learning of the reference, by walks. -/
import Derived.Test.YtdmnaipngcldbaaRfWE
import Derived.Test.YtdmnaipngcldbaaRfW8
namespace Go.Proofs.Ytdmnaipngcldbaa.rfP
set_option maxRecDepth 100000
open Go.Proofs.Ytdmnaipngcldbaa.base
/-- The rows after learning. -/
def learnP (l : List (List Int)) (k j : Nat) (bit : Bool) : List (List Int) := l.set k ((l.getD k []).set j (mv ((l.getD k []).getD j 0) bit))
theorem learn_len (l : List (List Int)) (k j : Nat) (bit : Bool) : (learnP l k j bit).length = l.length := by simp [learnP]
theorem rf_row {l : List (List Int)} (h : rfB l = true) (k : Nat) (hk : k < l.length) : rowB (l.getD k []) = true := by
  rw [rowB_iff, List.getD_eq_getElem?_getD, List.getElem?_eq_getElem hk]
  exact ((rfB_iff _).1 h).2.2 _ (List.getElem_mem hk)
theorem row_at {z : List Int} (h : rowB z = true) (j : Nat) (hj : j < 33) : 0 ≤ z.getD j 0 ∧ z.getD j 0 ≤ 65535 := by
  obtain ⟨h1, h2⟩ := (rowB_iff _).1 h
  rw [List.getD_eq_getElem?_getD, List.getElem?_eq_getElem (by omega)]
  exact h2 _ (List.getElem_mem _)
theorem learn_ok {l : List (List Int)} (h : rfB l = true) {k j : Nat} (hk : k < l.length) (hj : j < 33) (bit : Bool) : rfB (learnP l k j bit) = true := by
  obtain ⟨h1, h2, h3⟩ := (rfB_iff _).1 h
  rw [rfB_iff, learn_len]
  refine ⟨h1, h2, fun z hz => ?_⟩
  rcases List.mem_or_eq_of_mem_set hz with hz | rfl
  · exact h3 z hz
  · have hr := rf_row h k hk
    have ha := row_at hr j hj
    obtain ⟨h4, h5⟩ := (rowB_iff _).1 hr
    refine ⟨by rw [List.length_set]; exact h4, fun x hx => ?_⟩
    rcases List.mem_or_eq_of_mem_set hx with hx | rfl
    · exact h5 x hx
    · exact mv_in bit ha.1 ha.2
theorem ok_great {l : List (List Int)} (h : rfB l = true) : greatB l = false := by
  obtain ⟨h1, h2, h3⟩ := (rfB_iff _).1 h
  refine great_none (by omega) (fun i hi => ?_)
  have := (h3 _ (List.getElem_mem hi)).1
  rw [List.getD_eq_getElem?_getD, List.getElem?_eq_getElem hi]
  show (l[i]).length ≤ 100
  omega
theorem nums_set (rs : List RY) (k : Nat) (r : RY) : numsY (rs.set k r) = (numsY rs).set k r.b := by simp [numsY, List.map_set]
end Go.Proofs.Ytdmnaipngcldbaa.rfP
namespace Go.Proofs.Ytdmnaipngcldbaa.rfW
set_option maxRecDepth 100000
open Go.RowKit Go.Proofs.Ytdmnaipngcldbaa.base Go.Proofs.Ytdmnaipngcldbaa.rfP
set_option linter.unusedVariables false
set_option linter.unusedSimpArgs false
set_option maxHeartbeats 800000 in
theorem rLearn_bad (P : Option Addr) (m c : Nat) (rs : List RY) (row near : Int) (bit : Bool) (w : World) (h : RowsY w P m c rs) (hb : askE (numsY rs) row ≠ 0) :
    Calls Try.prog 15 #[.agg #[.slice P m c], .int .i64 row, .int .i64 near, .bool bit] w fun e w' => e = .returned (.tuple #[.agg #[.slice none 0 0], .int .i64 (askE (numsY rs) row)]) ∧ Below w.heap.size w w' := by
  have H := Lib.hid h
  clear h
  obtain ⟨v, hv⟩ : ∃ v, askE (numsY rs) row = v := ⟨_, rfl⟩
  have HV := Lib.hid hv
  rw [hv] at hb ⊢
  clear hv
  go_enter Try.func15, Try.ntmps15
  go_wp2_with fail
  have B0 : Hid (Below w.heap.size w ((w.alloc (.cells #[.slice P m c] 24)).alloc (.cells #[.slice none 0 0] 24)) ∧ Lies ((w.alloc (.cells #[.slice P m c] 24)).alloc (.cells #[.slice none 0 0] 24)) (w.heap.size + 1) 24 [.slice none 0 0] ∧ Lies ((w.alloc (.cells #[.slice P m c] 24)).alloc (.cells #[.slice none 0 0] 24)) w.heap.size 24 [.slice P m c]) := Lib.hid ⟨by (repeat' (first | (with_reducible exact Below.refl _ _) | (with_reducible assumption) | (with_reducible refine below_drewN ?_ _) | (with_reducible refine below_new ?_ _) | (with_reducible refine Below.alloc ?_ ?_ _) | (with_reducible refine Below.drew ?_) | (with_reducible refine Below.setCell ?_ ?_ _) | (with_reducible apply below_at; (case k => (with_reducible assumption)); (case hB => omega)) | (with_reducible apply below_on; (with_reducible assumption)) | (go_size; done) | (with_reducible apply size_of))), Lies.fresh_at (cs := [.slice none 0 0]) (by simp), (Lies.fresh w 24 [.slice P m c]).alloc _⟩
  generalize ((w.alloc (.cells #[.slice P m c] 24)).alloc (.cells #[.slice none 0 0] 24)) = W0 at *
  generalize hg2 : w.heap.size + 1 = g2 at *
  have HG2 := Lib.hid hg2
  clear hg2
  refine (rAsked_any P m c rs row W0 (H.out.below B0.out.1 (Nat.le_refl _))).mono ?_
  rintro e w1 ⟨rfl, hb1⟩
  rw [HV.out]
  have H1 := Lib.hid (And.intro (B0.out.2.1.past hb1) (And.intro (B0.out.2.2.past hb1) (B0.out.1.trans (hb1.mono B0.out.1.size))))
  have x1 : w1.cell? ⟨w.heap.size, 0, none⟩ = some (.slice P m c) := H1.out.2.1.cell 0
  clear hb1
  go_wp2_with fail
  refine (rAsked_any P m c rs row w1 (H.out.below H1.out.2.2 (Nat.le_refl _))).mono ?_
  rintro e w2 ⟨rfl, hb2⟩
  rw [HV.out]
  have H2 := Lib.hid (And.intro (H1.out.1.past hb2) (H1.out.2.2.trans (hb2.mono H1.out.2.2.size)))
  clear hb2 x1
  obtain ⟨z1, z2⟩ := H2.out.1.one
  go_wp2_with fail
  have K := H2.out.1.set 0 (.slice none 0 0)
  have k1 : (w2.setCell ⟨g2, 0, none⟩ (.slice none 0 0)).cell? ⟨g2, 0, none⟩ = some (.slice none 0 0) := K.cell 0
  refine bodyPost_ret (by simp [results, Try.results15, go_sem, k1]; try rfl) rfl ?_
  exact ⟨rfl, H2.out.2.setCell (by have := HG2.out; show w.heap.size ≤ g2; omega) _⟩
set_option maxHeartbeats 800000 in
theorem rLearn_far (P : Option Addr) (m c : Nat) (rs : List RY) (row near : Int) (bit : Bool) (w : World) (h : RowsY w P m c rs) (hb : askE (numsY rs) row = 0) (hd : near < 0 ∨ 33 ≤ near) :
    Calls Try.prog 15 #[.agg #[.slice P m c], .int .i64 row, .int .i64 near, .bool bit] w fun e w' => e = .returned (.tuple #[.agg #[.slice none 0 0], .int .i64 2]) ∧ Below w.heap.size w w' := by
  have H := Lib.hid h
  have HV := Lib.hid hb
  clear h hb
  go_enter Try.func15, Try.ntmps15
  go_wp2_with fail
  have B0 : Hid (Below w.heap.size w ((w.alloc (.cells #[.slice P m c] 24)).alloc (.cells #[.slice none 0 0] 24)) ∧ Lies ((w.alloc (.cells #[.slice P m c] 24)).alloc (.cells #[.slice none 0 0] 24)) (w.heap.size + 1) 24 [.slice none 0 0] ∧ Lies ((w.alloc (.cells #[.slice P m c] 24)).alloc (.cells #[.slice none 0 0] 24)) w.heap.size 24 [.slice P m c]) := Lib.hid ⟨by (repeat' (first | (with_reducible exact Below.refl _ _) | (with_reducible assumption) | (with_reducible refine below_drewN ?_ _) | (with_reducible refine below_new ?_ _) | (with_reducible refine Below.alloc ?_ ?_ _) | (with_reducible refine Below.drew ?_) | (with_reducible refine Below.setCell ?_ ?_ _) | (with_reducible apply below_at; (case k => (with_reducible assumption)); (case hB => omega)) | (with_reducible apply below_on; (with_reducible assumption)) | (go_size; done) | (with_reducible apply size_of))), Lies.fresh_at (cs := [.slice none 0 0]) (by simp), (Lies.fresh w 24 [.slice P m c]).alloc _⟩
  generalize ((w.alloc (.cells #[.slice P m c] 24)).alloc (.cells #[.slice none 0 0] 24)) = W0 at *
  generalize hg2 : w.heap.size + 1 = g2 at *
  have HG2 := Lib.hid hg2
  clear hg2
  refine (rAsked_any P m c rs row W0 (H.out.below B0.out.1 (Nat.le_refl _))).mono ?_
  rintro e w1 ⟨rfl, hb1⟩
  rw [HV.out]
  have H1 := Lib.hid (And.intro (B0.out.2.1.past hb1) (B0.out.1.trans (hb1.mono B0.out.1.size)))
  clear hb1
  obtain ⟨z1, z2⟩ := H1.out.1.one
  by_cases c1 : near < 0
  · clear hd
    go_wp2_with fail
    have K := H1.out.1.set 0 (.slice none 0 0)
    have k1 : (w1.setCell ⟨g2, 0, none⟩ (.slice none 0 0)).cell? ⟨g2, 0, none⟩ = some (.slice none 0 0) := K.cell 0
    refine bodyPost_ret (by simp [results, Try.results15, go_sem, k1]; try rfl) rfl ?_
    exact ⟨rfl, H1.out.2.setCell (by have := HG2.out; show w.heap.size ≤ g2; omega) _⟩
  · have c2 : 33 ≤ near := by omega
    have c3 : decide (near < 0) = false := decide_eq_false c1
    clear hd c1
    go_wp2_with fail
    have K := H1.out.1.set 0 (.slice none 0 0)
    have k1 : (w1.setCell ⟨g2, 0, none⟩ (.slice none 0 0)).cell? ⟨g2, 0, none⟩ = some (.slice none 0 0) := K.cell 0
    refine bodyPost_ret (by simp [results, Try.results15, go_sem, k1]; try rfl) rfl ?_
    exact ⟨rfl, H1.out.2.setCell (by have := HG2.out; show w.heap.size ≤ g2; omega) _⟩
set_option maxHeartbeats 800000 in
theorem rLearn_ok (P : Option Addr) (m c : Nat) (rs : List RY) (k j : Nat) (bit : Bool) (w : World) (h : RowsY w P m c rs) (hr : rfB (numsY rs) = true) (hk : k < m) (hj : j < 33) :
    Calls Try.prog 15 #[.agg #[.slice P m c], .int .i64 k, .int .i64 j, .bool bit] w fun e w' => ∃ A d qs, e = .returned (.tuple #[.agg #[.slice A m d], .int .i64 0]) ∧ OwnR w' w.heap.size (.slice A m d) qs ∧ numsY qs = learnP (numsY rs) k j bit ∧ Below w.heap.size w w' := by
  have H := Lib.hid h
  have HL : Hid (rs.length = m ∧ (numsY rs).length = m) := Lib.hid ⟨h.l, by rw [nums_len]; exact h.l⟩
  have m9 : (m : Int) ≤ 9223372036854775807 := by have := h.c1; have := h.c2; omega
  have HV := Lib.hid (ask_ok (row := (k : Int)) hr (by omega) (by rw [HL.out.2]; omega))
  have HR := Lib.hid hr
  have HRW := Lib.hid (rf_row hr k (by rw [HL.out.2]; exact hk))
  have HKJ := Lib.hid (And.intro hk hj)
  have k1 : (k : Int) < m := by omega
  have k0 : 0 ≤ (k : Int) := by omega
  have j1 : (j : Int) < 33 := by omega
  have j0 : 0 ≤ (j : Int) := by omega
  have HN := Lib.hid (nums_at rs k (by rw [HL.out.1]; exact hk))
  clear h hr hk hj
  go_enter Try.func15, Try.ntmps15
  go_wp2_with fail
  have B0 : Hid (Below w.heap.size w ((w.alloc (.cells #[.slice P m c] 24)).alloc (.cells #[.slice none 0 0] 24)) ∧ Lies ((w.alloc (.cells #[.slice P m c] 24)).alloc (.cells #[.slice none 0 0] 24)) (w.heap.size + 1) 24 [.slice none 0 0] ∧ Lies ((w.alloc (.cells #[.slice P m c] 24)).alloc (.cells #[.slice none 0 0] 24)) w.heap.size 24 [.slice P m c] ∧ w.heap.size < w.heap.size + 1) := Lib.hid ⟨by (repeat' (first | (with_reducible exact Below.refl _ _) | (with_reducible assumption) | (with_reducible refine below_drewN ?_ _) | (with_reducible refine below_new ?_ _) | (with_reducible refine Below.alloc ?_ ?_ _) | (with_reducible refine Below.drew ?_) | (with_reducible refine Below.setCell ?_ ?_ _) | (with_reducible apply below_at; (case k => (with_reducible assumption)); (case hB => omega)) | (with_reducible apply below_on; (with_reducible assumption)) | (go_size; done) | (with_reducible apply size_of))), Lies.fresh_at (cs := [.slice none 0 0]) (by simp), (Lies.fresh w 24 [.slice P m c]).alloc _, by omega⟩
  generalize ((w.alloc (.cells #[.slice P m c] 24)).alloc (.cells #[.slice none 0 0] 24)) = W0 at *
  generalize w.heap.size + 1 = g2 at *
  refine (rAsked_any P m c rs k W0 (H.out.below B0.out.1 (Nat.le_refl _))).mono ?_
  rintro e w1 ⟨rfl, hb1⟩
  rw [HV.out]
  have H1 := Lib.hid (And.intro (B0.out.2.1.past hb1) (And.intro (B0.out.2.2.1.past hb1) (B0.out.1.trans (hb1.mono B0.out.1.size))))
  have x1 : w1.cell? ⟨w.heap.size, 0, none⟩ = some (.slice P m c) := H1.out.2.1.cell 0
  clear hb1
  go_wp2_with fail
  refine (twin17_any P m c rs w1 (H.out.below H1.out.2.2 (Nat.le_refl _)) (ok_great HR.out)).mono ?_
  rintro e w2 ⟨A, d, qs, rfl, ho, hq, hb2⟩
  have H2 := Lib.hid (And.intro (H1.out.1.past hb2) (And.intro (H1.out.2.1.past hb2) (And.intro (ho.mono H1.out.2.2.size) (And.intro hq (H1.out.2.2.trans (hb2.mono H1.out.2.2.size))))))
  clear ho hq hb2 x1
  go_upto_region 6 with fail
  have hA : ∃ gr, A = some ⟨gr, 0, none⟩ := by
    have hl : qs.length = m := H2.out.2.2.1.rows.l
    obtain ⟨gr, h1, _⟩ := H2.out.2.2.1.form (by rw [hl]; have := HKJ.out.1; omega)
    exact ⟨gr, h1⟩
  obtain ⟨gr, rfl⟩ := hA
  have HQ : Hid (qs.length = m ∧ (qs.getD k ry0).b = (numsY rs).getD k []) := Lib.hid (by
    have hl : qs.length = m := H2.out.2.2.1.rows.l
    exact ⟨hl, by rw [← H2.out.2.2.2.1, nums_at qs k (by rw [hl]; exact HKJ.out.1)]⟩)
  obtain ⟨b, off, rfl, hb, hc⟩ := H.out.h.some (by rw [HL.out.1]; have := HKJ.out.1; omega)
  have I1 := Lib.hid (H.out.h.get k (by rw [HL.out.1]; exact HKJ.out.1))
  have HCA : Hid (∀ x', Below w.heap.size w x' → x'.cell? ⟨b, off + k, none⟩ = some (.slice (rs.getD k ry0).A (rs.getD k ry0).n (rs.getD k ry0).c)) := Lib.hid (fun x' hx => ((bcell hx).1 b _ hb).trans (hc k (by rw [HL.out.1]; exact HKJ.out.1)))
  clear hc hb
  obtain ⟨gq, cq, hq2⟩ : ∃ gq cq, qs.getD k ry0 = ⟨some ⟨gq, 0, none⟩, 33, cq, (numsY rs).getD k []⟩ := by
    have h1 := HQ.out.2
    have h2 := H2.out.2.2.1.one k (by rw [HQ.out.1]; exact HKJ.out.1)
    have h3 := ((rowB_iff _).1 HRW.out).1
    generalize qs.getD k ry0 = q at *
    obtain ⟨A3, n3, c3, y3⟩ := q
    have e1 : y3 = (numsY rs).getD k [] := h1
    subst e1
    have e2 : ((numsY rs).getD k []).length = n3 := h2.len
    obtain rfl : n3 = 33 := by omega
    obtain ⟨g3, e3, _⟩ := h2.blk (by show 33 ≠ 0; decide)
    have e3 : A3 = some ⟨g3, 0, none⟩ := e3
    exact ⟨g3, c3, by rw [e3]⟩
  have HQ2 := Lib.hid hq2
  clear hq2
  rw [HN.out] at HRW HQ2
  generalize rs.getD k ry0 = r at *
  obtain ⟨A1, n1, d1, y1⟩ := r
  have HY : Hid (y1.length = 33 ∧ 0 ≤ y1.getD j 0 ∧ y1.getD j 0 ≤ 65535) := Lib.hid ⟨((rowB_iff _).1 HRW.out).1, row_at HRW.out j HKJ.out.2⟩
  obtain rfl : n1 = 33 := by have e1 : y1.length = n1 := I1.out.e; have e2 := HY.out.1; omega
  obtain ⟨b1, o1, hA1, hb1, hc1⟩ := has_some I1.out.h (by show 0 < y1.length; rw [HY.out.1]; decide)
  have hA1 : A1 = some ⟨b1, o1, none⟩ := hA1
  subst hA1
  have HCB : Hid (∀ x', Below w.heap.size w x' → x'.cell? ⟨b1, o1 + j, none⟩ = some (.int .i32 (y1.getD j 0))) := Lib.hid (fun x' hx => ((bcell hx).1 b1 _ hb1).trans (hc1 j (by show j < y1.length; rw [HY.out.1]; exact HKJ.out.2)))
  have HNY : Hid ((numsY rs).getD k [] = y1) := HN
  have HQ3 : Hid (qs.getD k ry0 = ⟨some ⟨gq, 0, none⟩, 33, cq, y1⟩) := HQ2
  clear HN hc1 hb1
  obtain ⟨t, ht⟩ : ∃ t, y1.getD j 0 = t := ⟨_, rfl⟩
  have HT := Lib.hid ht
  rw [ht] at HY HCB
  clear ht
  obtain ⟨-, t0, t1⟩ := HY.out
  have HLP : Hid (learnP (numsY rs) k j bit = (numsY rs).set k (y1.set j (mv t bit))) := Lib.hid (by unfold learnP; rw [HNY.out, HT.out])
  have HMV := Lib.hid (mv_in bit t0 t1)
  have HG4 : Hid (Lies (w2.alloc (.cells #[.slice (some ⟨gr, 0, none⟩) m d] 24)) w2.heap.size 24 [.slice (some ⟨gr, 0, none⟩) m d] ∧ OwnR (w2.alloc (.cells #[.slice (some ⟨gr, 0, none⟩) m d] 24)) w.heap.size (.slice (some ⟨gr, 0, none⟩) m d) qs ∧ Lies (w2.alloc (.cells #[.slice (some ⟨gr, 0, none⟩) m d] 24)) g2 24 [.slice none 0 0] ∧ Lies (w2.alloc (.cells #[.slice (some ⟨gr, 0, none⟩) m d] 24)) w.heap.size 24 [.slice (some ⟨b, off, none⟩) m c] ∧ Below w.heap.size w (w2.alloc (.cells #[.slice (some ⟨gr, 0, none⟩) m d] 24))) := Lib.hid ⟨Lies.fresh _ _ _, H2.out.2.2.1.alloc _, H2.out.1.alloc _, H2.out.2.1.alloc _, H2.out.2.2.2.2.alloc H2.out.2.2.2.2.size _⟩
  generalize (w2.alloc (.cells #[.slice (some ⟨gr, 0, none⟩) m d] 24)) = W4 at *
  generalize w2.heap.size = g4 at *
  go_cut [] (fun wx => OwnR wx w.heap.size (.slice (some ⟨gr, 0, none⟩) m d) (qs.set k ⟨some ⟨gq, 0, none⟩, 33, cq, y1.set j (mv t bit)⟩) ∧ Lies wx g4 24 [.slice (some ⟨gr, 0, none⟩) m d] ∧ Lies wx g2 24 [.slice none 0 0] ∧ Below w.heap.size w wx)
  case first =>
    (have RD := grows_roads (S := fun x' => Lies x' g4 24 [.slice (some ⟨gr, 0, none⟩) m d] ∧ OwnR x' w.heap.size (.slice (some ⟨gr, 0, none⟩) m d) qs ∧ Lies x' g2 24 [.slice none 0 0] ∧ Lies x' w.heap.size 24 [.slice (some ⟨b, off, none⟩) m c] ∧ Below w.heap.size w x') (fun a b h1 h2 => ⟨h2.1.past h1, h2.2.1.past h1, h2.2.2.1.past h1, h2.2.2.2.1.past h1, h2.2.2.2.2.trans (h1.mono h2.2.2.2.2.size)⟩)); refine region_ordT 16 _ Grows RD (by have d0 := Below.drew (Below.refl W4.heap.size W4); exact ⟨HG4.out.1.past d0, HG4.out.2.1.past d0, HG4.out.2.2.1.past d0, HG4.out.2.2.2.1.past d0, HG4.out.2.2.2.2.trans (d0.mono HG4.out.2.2.2.2.size)⟩) (by kernel_rfl) (by decide) ?_; intro ops Q' hops hPQ hN; (have HNS : Hid (Region.noSelect ops = true ∧ Region.sinkB .any ops 16 = true ∧ Region.chainB .any ops 16 = true ∧ 16 < ops.size) := Lib.hid (by rw [hops]; exact ⟨by kernel_rfl, by kernel_rfl, by kernel_rfl, by decide⟩)); (have hsz : ops.size = 18 := (by rw [hops]; rfl)); have HOP := Lib.hid hops; have HPQ := Lib.hid hPQ; have HN := Lib.hid hN; rw [hsz]; clear hops hsz hPQ hN
    refine ordT_take RD 0 (at_list (by rw [HOP.out]; rfl)) HNS.out HPQ.out (by rw [HOP.out]; kernel_rfl) (by rw [HOP.out]; kernel_rfl) (by rw [HOP.out]; rfl) (fun K hK => ?_); apply Exists.intro; refine ⟨fun W hSW => ?_, hK _ ?_⟩; (focus ((try dsimp only at hSW); go_simp; try with_reducible rfl)); clear hK K; (try simp only [Act.put, List.setIfInBounds_toArray, List.set_cons_zero, List.set_cons_succ])
    refine ordT_take RD 1 (at_list (by rw [HOP.out]; rfl)) HNS.out HPQ.out (by rw [HOP.out]; kernel_rfl) (by rw [HOP.out]; kernel_rfl) (by rw [HOP.out]; rfl) (fun K hK => ?_); apply Exists.intro; refine ⟨fun W hSW => ?_, hK _ ?_⟩; (focus ((try dsimp only at hSW); (obtain ⟨z1, -⟩ := hSW.1.one); go_simp; try with_reducible rfl)); clear hK K; (try simp only [Act.put, List.setIfInBounds_toArray, List.set_cons_zero, List.set_cons_succ])
    refine ordT_take RD 2 (at_list (by rw [HOP.out]; rfl)) HNS.out HPQ.out (by rw [HOP.out]; kernel_rfl) (by rw [HOP.out]; kernel_rfl) (by rw [HOP.out]; rfl) (fun K hK => ?_); apply Exists.intro; refine ⟨fun W hSW => ?_, hK _ ?_⟩; (focus ((try dsimp only at hSW); go_simp; try with_reducible rfl)); clear hK K; (try simp only [Act.put, List.setIfInBounds_toArray, List.set_cons_zero, List.set_cons_succ])
    refine ordT_take RD 3 (at_list (by rw [HOP.out]; rfl)) HNS.out HPQ.out (by rw [HOP.out]; kernel_rfl) (by rw [HOP.out]; kernel_rfl) (by rw [HOP.out]; rfl) (fun K hK => ?_); apply Exists.intro; refine ⟨fun W hSW => ?_, hK _ ?_⟩; (focus ((try dsimp only at hSW); go_simp; try with_reducible rfl)); clear hK K; (try simp only [Act.put, List.setIfInBounds_toArray, List.set_cons_zero, List.set_cons_succ])
    refine ordT_take RD 4 (at_list (by rw [HOP.out]; rfl)) HNS.out HPQ.out (by rw [HOP.out]; kernel_rfl) (by rw [HOP.out]; kernel_rfl) (by rw [HOP.out]; rfl) (fun K hK => ?_); apply Exists.intro; refine ⟨fun W hSW => ?_, hK _ ?_⟩; (focus ((try dsimp only at hSW); (have z1 := hSW.2.1.cell k (by rw [HQ.out.1]; exact HKJ.out.1); rw [HQ2.out] at z1); go_simp; try with_reducible rfl)); clear hK K; (try simp only [Act.put, List.setIfInBounds_toArray, List.set_cons_zero, List.set_cons_succ])
    refine ordT_take RD 5 (at_list (by rw [HOP.out]; rfl)) HNS.out HPQ.out (by rw [HOP.out]; kernel_rfl) (by rw [HOP.out]; kernel_rfl) (by rw [HOP.out]; rfl) (fun K hK => ?_); apply Exists.intro; refine ⟨fun W hSW => ?_, hK _ ?_⟩; (focus ((try dsimp only at hSW); go_simp; try with_reducible rfl)); clear hK K; (try simp only [Act.put, List.setIfInBounds_toArray, List.set_cons_zero, List.set_cons_succ])
    refine ordT_take RD 6 (at_list (by rw [HOP.out]; rfl)) HNS.out HPQ.out (by rw [HOP.out]; kernel_rfl) (by rw [HOP.out]; kernel_rfl) (by rw [HOP.out]; rfl) (fun K hK => ?_); apply Exists.intro; refine ⟨fun W hSW => ?_, hK _ ?_⟩; (focus ((try dsimp only at hSW); go_simp; try with_reducible rfl)); clear hK K; (try simp only [Act.put, List.setIfInBounds_toArray, List.set_cons_zero, List.set_cons_succ])
    refine ordT_take RD 7 (at_list (by rw [HOP.out]; rfl)) HNS.out HPQ.out (by rw [HOP.out]; kernel_rfl) (by rw [HOP.out]; kernel_rfl) (by rw [HOP.out]; rfl) (fun K hK => ?_); apply Exists.intro; refine ⟨fun W hSW => ?_, hK _ ?_⟩; (focus ((try dsimp only at hSW); (obtain ⟨z1, -⟩ := hSW.2.2.2.1.one); go_simp; try with_reducible rfl)); clear hK K; (try simp only [Act.put, List.setIfInBounds_toArray, List.set_cons_zero, List.set_cons_succ])
    refine ordT_take RD 8 (at_list (by rw [HOP.out]; rfl)) HNS.out HPQ.out (by rw [HOP.out]; kernel_rfl) (by rw [HOP.out]; kernel_rfl) (by rw [HOP.out]; rfl) (fun K hK => ?_); apply Exists.intro; refine ⟨fun W hSW => ?_, hK _ ?_⟩; (focus ((try dsimp only at hSW); go_simp; try with_reducible rfl)); clear hK K; (try simp only [Act.put, List.setIfInBounds_toArray, List.set_cons_zero, List.set_cons_succ])
    refine ordT_take RD 9 (at_list (by rw [HOP.out]; rfl)) HNS.out HPQ.out (by rw [HOP.out]; kernel_rfl) (by rw [HOP.out]; kernel_rfl) (by rw [HOP.out]; rfl) (fun K hK => ?_); apply Exists.intro; refine ⟨fun W hSW => ?_, hK _ ?_⟩; (focus ((try dsimp only at hSW); go_simp; try with_reducible rfl)); clear hK K; (try simp only [Act.put, List.setIfInBounds_toArray, List.set_cons_zero, List.set_cons_succ])
    refine ordT_take RD 10 (at_list (by rw [HOP.out]; rfl)) HNS.out HPQ.out (by rw [HOP.out]; kernel_rfl) (by rw [HOP.out]; kernel_rfl) (by rw [HOP.out]; rfl) (fun K hK => ?_); apply Exists.intro; refine ⟨fun W hSW => ?_, hK _ ?_⟩; (focus ((try dsimp only at hSW); (have z1 := HCA.out _ hSW.2.2.2.2); go_simp; try with_reducible rfl)); clear hK K; (try simp only [Act.put, List.setIfInBounds_toArray, List.set_cons_zero, List.set_cons_succ])
    refine ordT_take RD 11 (at_list (by rw [HOP.out]; rfl)) HNS.out HPQ.out (by rw [HOP.out]; kernel_rfl) (by rw [HOP.out]; kernel_rfl) (by rw [HOP.out]; rfl) (fun K hK => ?_); apply Exists.intro; refine ⟨fun W hSW => ?_, hK _ ?_⟩; (focus ((try dsimp only at hSW); go_simp; try with_reducible rfl)); clear hK K; (try simp only [Act.put, List.setIfInBounds_toArray, List.set_cons_zero, List.set_cons_succ])
    refine ordT_take RD 12 (at_list (by rw [HOP.out]; rfl)) HNS.out HPQ.out (by rw [HOP.out]; kernel_rfl) (by rw [HOP.out]; kernel_rfl) (by rw [HOP.out]; rfl) (fun K hK => ?_); apply Exists.intro; refine ⟨fun W hSW => ?_, hK _ ?_⟩; (focus ((try dsimp only at hSW); go_simp; try with_reducible rfl)); clear hK K; (try simp only [Act.put, List.setIfInBounds_toArray, List.set_cons_zero, List.set_cons_succ])
    refine ordT_take RD 13 (at_list (by rw [HOP.out]; rfl)) HNS.out HPQ.out (by rw [HOP.out]; kernel_rfl) (by rw [HOP.out]; kernel_rfl) (by rw [HOP.out]; rfl) (fun K hK => ?_); apply Exists.intro; refine ⟨fun W hSW => ?_, hK _ ?_⟩; (focus ((try dsimp only at hSW); (have z1 := HCB.out _ hSW.2.2.2.2); go_simp; try with_reducible rfl)); clear hK K; (try simp only [Act.put, List.setIfInBounds_toArray, List.set_cons_zero, List.set_cons_succ])
    refine ordT_take RD 14 (at_list (by rw [HOP.out]; rfl)) HNS.out HPQ.out (by rw [HOP.out]; kernel_rfl) (by rw [HOP.out]; kernel_rfl) (by rw [HOP.out]; rfl) (fun K hK => ?_); apply Exists.intro; refine ⟨fun W hSW => ?_, hK _ ?_⟩; (focus ((try dsimp only at hSW); go_simp; try with_reducible rfl)); clear hK K; (try simp only [Act.put, List.setIfInBounds_toArray, List.set_cons_zero, List.set_cons_succ])
    refine ordT_take RD 15 (at_list (by rw [HOP.out]; rfl)) HNS.out HPQ.out (by rw [HOP.out]; kernel_rfl) (by rw [HOP.out]; kernel_rfl) (by rw [HOP.out]; rfl) (fun K hK => ?_); apply Exists.intro; refine ⟨fun W hSW => ?_, hK _ ?_⟩; (focus ((try dsimp only at hSW); go_simp; exact (Moved_any t bit W t0 t1))); clear hK K; (try simp only [Act.put, List.setIfInBounds_toArray, List.set_cons_zero, List.set_cons_succ])
    refine ordT_end (by rw [HOP.out]; kernel_rfl) (fun W5 hWW hSW => ?_); rw [HOP.out]; simp only [List.drop_succ_cons, List.drop_zero]; have hN := HN.out; clear HOP HNS HPQ HN RD; (try dsimp only at hSW)
    have HN := Lib.hid hSW
    clear hSW hWW
    have ho := (HN.out.2.1.one k (by rw [HQ.out.1]; exact HKJ.out.1))
    rw [HQ3.out] at ho
    have ho2 := ho.own (show 33 ≠ 0 by decide)
    have HO2 : Hid (OwnI W5 w.heap.size 21 .i32 (.slice (some ⟨gq, 0, none⟩) 33 cq) y1) := Lib.hid ho2
    have f1 : W5.cell? ⟨gq, j, none⟩ = some (.int .i32 (y1.getD j 0)) := HO2.out.cell j (by rw [HY.out.1]; exact HKJ.out.2)
    have f2 : W5.frozen? ⟨gq, j, none⟩ = false := HO2.out.frozen j
    clear ho ho2
    go_wp2_with fail
    have hmv := HMV.out
    have HP := HN.out.2.1.putAt k j (by rw [HQ.out.1]; exact HKJ.out.1) gq 33 cq y1 HQ3.out (by decide) (mv t bit) (by omega)
    have hne : ∀ g cs, Lies W5 g 24 cs → (⟨gq, j, none⟩ : Addr).block ≠ g := fun g cs K e => own_ne32 HO2.out K (by decide) (by rw [← e]; rfl)
    go_wp2_with fail
    go_meet
    exact ⟨HP, HN.out.1.other (hne _ _ HN.out.1) _, HN.out.2.2.1.other (hne _ _ HN.out.2.2.1) _, HN.out.2.2.2.2.setCell HO2.out.base_le.1 _⟩
  case rest =>
    have H6 := Lib.hid hcut
    clear hcut
    rename World => W6
    obtain ⟨z1, -⟩ := H6.out.2.1.one
    obtain ⟨z2, z3⟩ := H6.out.2.2.1.one
    go_wp2_with fail
    have K := H6.out.2.2.1.set 0 (.slice (some ⟨gr, 0, none⟩) m d)
    have k1 : (W6.setCell ⟨g2, 0, none⟩ (.slice (some ⟨gr, 0, none⟩) m d)).cell? ⟨g2, 0, none⟩ = some (.slice (some ⟨gr, 0, none⟩) m d) := K.cell 0
    refine bodyPost_ret (by simp [results, Try.results15, go_sem, k1]; try rfl) rfl ?_
    exact ⟨_, d, rfl, _, H6.out.1.other H6.out.2.2.1 (by decide) (by decide) 0 _, by rw [nums_set, H2.out.2.2.2.1, HLP.out], H6.out.2.2.2.setCell (Nat.le_of_lt B0.out.2.2.2) _⟩
end Go.Proofs.Ytdmnaipngcldbaa.rfW
