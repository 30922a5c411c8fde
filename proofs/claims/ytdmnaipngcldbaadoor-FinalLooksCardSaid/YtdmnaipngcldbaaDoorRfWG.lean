/- Learning, by walks. -/
import Derived.Test.YtdmnaipngcldbaaDoorRfWF
import Derived.Test.YtdmnaipngcldbaaDoorRfWA
namespace Go.Proofs.YtdmnaipngcldbaaDoor.rfP
set_option maxRecDepth 100000
open Go.Proofs.YtdmnaipngcldbaaDoor.base
/-- The first rows are copies. -/
def CopyTo (rs qs : List RY) (k : Nat) : Prop := ∀ i, i < k → (qs.getD i ry0).b = (rs.getD i ry0).b
theorem copy_zero (rs qs : List RY) : CopyTo rs qs 0 := fun _ h => absurd h (Nat.not_lt_zero _)
theorem copy_set {rs qs : List RY} {k : Nat} (h : CopyTo rs qs k) (hk : k < qs.length) (r : RY) (hr : r.b = (rs.getD k ry0).b) : CopyTo rs (qs.set k r) (k + 1) := fun i hi => by
  by_cases e : k = i
  · subst e; rw [gd_set_eq hk]; exact hr
  · rw [gd_set_ne e]; exact h i (by omega)
theorem copy_all {rs qs : List RY} {m : Nat} (hl : rs.length = m) (hq : qs.length = m) (h : CopyTo rs qs m) : numsY qs = numsY rs := by
  apply List.ext_getElem
  · rw [nums_len, nums_len, hl, hq]
  · intro i h1 h2
    rw [nums_len] at h1 h2
    have e1 := nums_at qs i h1
    have e2 := nums_at rs i h2
    have e3 := h i (by omega)
    rw [List.getD_eq_getElem?_getD, List.getElem?_eq_getElem (by rw [nums_len]; exact h1)] at e1
    rw [List.getD_eq_getElem?_getD, List.getElem?_eq_getElem (by rw [nums_len]; exact h2)] at e2
    exact e1.trans (e3.trans e2.symm)
end Go.Proofs.YtdmnaipngcldbaaDoor.rfP
namespace Go.Proofs.YtdmnaipngcldbaaDoor.rfW
set_option maxRecDepth 100000
open Go.RowKit Go.Proofs.YtdmnaipngcldbaaDoor.base Go.Proofs.YtdmnaipngcldbaaDoor.rfP
set_option linter.unusedVariables false
set_option linter.unusedSimpArgs false
set_option maxHeartbeats 800000 in
theorem Learn_bad (P : Option Addr) (m c : Nat) (rs : List RY) (row near : Int) (bit : Bool) (w : World) (h : RowsY w P m c rs) (hb : askE (numsY rs) row ≠ 0) :
    Calls Tryd.prog 40 #[.agg #[.slice P m c], .int .i64 row, .int .i64 near, .bool bit] w fun e w' => e = .returned (.tuple #[.agg #[.slice none 0 0], .int .i64 (askE (numsY rs) row)]) ∧ Below w.heap.size w w' := by
  have H := Lib.hid h
  clear h
  obtain ⟨v, hv⟩ : ∃ v, askE (numsY rs) row = v := ⟨_, rfl⟩
  have HV := Lib.hid hv
  rw [hv] at hb ⊢
  clear hv
  go_enter Tryd.func40, Tryd.ntmps40
  go_wp2_with fail
  have B0 : Hid (Below w.heap.size w ((w.alloc (.cells #[.slice P m c] 24)).alloc (.cells #[.slice none 0 0] 24)) ∧ Lies ((w.alloc (.cells #[.slice P m c] 24)).alloc (.cells #[.slice none 0 0] 24)) (w.heap.size + 1) 24 [.slice none 0 0] ∧ Lies ((w.alloc (.cells #[.slice P m c] 24)).alloc (.cells #[.slice none 0 0] 24)) w.heap.size 24 [.slice P m c]) := Lib.hid ⟨by (repeat' (first | (with_reducible exact Below.refl _ _) | (with_reducible assumption) | (with_reducible refine below_drewN ?_ _) | (with_reducible refine below_new ?_ _) | (with_reducible refine Below.alloc ?_ ?_ _) | (with_reducible refine Below.drew ?_) | (with_reducible refine Below.setCell ?_ ?_ _) | (with_reducible apply below_at; (case k => (with_reducible assumption)); (case hB => omega)) | (with_reducible apply below_on; (with_reducible assumption)) | (go_size; done) | (with_reducible apply size_of))), Lies.fresh_at (cs := [.slice none 0 0]) (by simp), (Lies.fresh w 24 [.slice P m c]).alloc _⟩
  generalize ((w.alloc (.cells #[.slice P m c] 24)).alloc (.cells #[.slice none 0 0] 24)) = W0 at *
  generalize hg2 : w.heap.size + 1 = g2 at *
  have HG2 := Lib.hid hg2
  clear hg2
  refine (checkAt_any P m c rs row W0 (H.out.below B0.out.1 (Nat.le_refl _))).mono ?_
  rintro e w1 ⟨rfl, hb1⟩
  rw [HV.out]
  have H1 := Lib.hid (And.intro (B0.out.2.1.past hb1) (And.intro (B0.out.2.2.past hb1) (B0.out.1.trans (hb1.mono B0.out.1.size))))
  clear hb1
  obtain ⟨z1, z2⟩ := H1.out.1.one
  go_wp2_with fail
  have K := H1.out.1.set 0 (.slice none 0 0)
  have k1 : (w1.setCell ⟨g2, 0, none⟩ (.slice none 0 0)).cell? ⟨g2, 0, none⟩ = some (.slice none 0 0) := K.cell 0
  refine bodyPost_ret (by simp [results, Tryd.results40, go_sem, k1]; try rfl) rfl ?_
  exact ⟨rfl, H1.out.2.2.setCell (by have := HG2.out; show w.heap.size ≤ g2; omega) _⟩
set_option maxHeartbeats 800000 in
theorem Learn_far (P : Option Addr) (m c : Nat) (rs : List RY) (row near : Int) (bit : Bool) (w : World) (h : RowsY w P m c rs) (hb : askE (numsY rs) row = 0) (hd : near < 0 ∨ 33 ≤ near) :
    Calls Tryd.prog 40 #[.agg #[.slice P m c], .int .i64 row, .int .i64 near, .bool bit] w fun e w' => e = .returned (.tuple #[.agg #[.slice none 0 0], .int .i64 2]) ∧ Below w.heap.size w w' := by
  have H := Lib.hid h
  have HV := Lib.hid hb
  clear h hb
  go_enter Tryd.func40, Tryd.ntmps40
  go_wp2_with fail
  have B0 : Hid (Below w.heap.size w ((w.alloc (.cells #[.slice P m c] 24)).alloc (.cells #[.slice none 0 0] 24)) ∧ Lies ((w.alloc (.cells #[.slice P m c] 24)).alloc (.cells #[.slice none 0 0] 24)) (w.heap.size + 1) 24 [.slice none 0 0] ∧ Lies ((w.alloc (.cells #[.slice P m c] 24)).alloc (.cells #[.slice none 0 0] 24)) w.heap.size 24 [.slice P m c]) := Lib.hid ⟨by (repeat' (first | (with_reducible exact Below.refl _ _) | (with_reducible assumption) | (with_reducible refine below_drewN ?_ _) | (with_reducible refine below_new ?_ _) | (with_reducible refine Below.alloc ?_ ?_ _) | (with_reducible refine Below.drew ?_) | (with_reducible refine Below.setCell ?_ ?_ _) | (with_reducible apply below_at; (case k => (with_reducible assumption)); (case hB => omega)) | (with_reducible apply below_on; (with_reducible assumption)) | (go_size; done) | (with_reducible apply size_of))), Lies.fresh_at (cs := [.slice none 0 0]) (by simp), (Lies.fresh w 24 [.slice P m c]).alloc _⟩
  generalize ((w.alloc (.cells #[.slice P m c] 24)).alloc (.cells #[.slice none 0 0] 24)) = W0 at *
  generalize hg2 : w.heap.size + 1 = g2 at *
  have HG2 := Lib.hid hg2
  clear hg2
  refine (checkAt_any P m c rs row W0 (H.out.below B0.out.1 (Nat.le_refl _))).mono ?_
  rintro e w1 ⟨rfl, hb1⟩
  rw [HV.out]
  have H1 := Lib.hid (And.intro (B0.out.2.1.past hb1) (B0.out.1.trans (hb1.mono B0.out.1.size)))
  clear hb1
  obtain ⟨z1, z2⟩ := H1.out.1.one
  by_cases c1 : near < 0
  · clear hd
    go_wp2_with fail
    have K := H1.out.1.set 0 (.slice none 0 0)
    have k1 : (w1.setCell ⟨g2, 0, none⟩ (.slice none 0 0)).cell? ⟨g2, 0, none⟩ = some (.slice none 0 0) := K.cell 0
    refine bodyPost_ret (by simp [results, Tryd.results40, go_sem, k1]; try rfl) rfl ?_
    exact ⟨rfl, H1.out.2.setCell (by have := HG2.out; show w.heap.size ≤ g2; omega) _⟩
  · have c2 : 33 ≤ near := by omega
    have c3 : decide (near < 0) = false := decide_eq_false c1
    clear hd c1
    go_wp2_with fail
    have K := H1.out.1.set 0 (.slice none 0 0)
    have k1 : (w1.setCell ⟨g2, 0, none⟩ (.slice none 0 0)).cell? ⟨g2, 0, none⟩ = some (.slice none 0 0) := K.cell 0
    refine bodyPost_ret (by simp [results, Tryd.results40, go_sem, k1]; try rfl) rfl ?_
    exact ⟨rfl, H1.out.2.setCell (by have := HG2.out; show w.heap.size ≤ g2; omega) _⟩
set_option maxHeartbeats 800000 in
theorem Learn_ok (P : Option Addr) (m c : Nat) (rs : List RY) (k j : Nat) (bit : Bool) (w : World) (h : RowsY w P m c rs) (hr : rfB (numsY rs) = true) (hk : k < m) (hj : j < 33) :
    Calls Tryd.prog 40 #[.agg #[.slice P m c], .int .i64 k, .int .i64 j, .bool bit] w fun e w' => ∃ A d qs, e = .returned (.tuple #[.agg #[.slice A m d], .int .i64 0]) ∧ OwnR w' w.heap.size (.slice A m d) qs ∧ numsY qs = learnP (numsY rs) k j bit ∧ Below w.heap.size w w' := by
  have H := Lib.hid h
  have HL : Hid (rs.length = m ∧ (numsY rs).length = m) := Lib.hid ⟨h.l, by rw [nums_len]; exact h.l⟩
  have m9 : (m : Int) ≤ 9223372036854775807 := by have := h.c1; have := h.c2; omega
  have HV := Lib.hid (ask_ok (row := (k : Int)) hr (by omega) (by rw [HL.out.2]; omega))
  have HR := Lib.hid hr
  have HM : Hid (m ≤ 256) := Lib.hid (by have := ((rfB_iff _).1 hr).2.1; rw [HL.out.2] at this; exact this)
  have HRW := Lib.hid (rf_row hr k (by rw [HL.out.2]; exact hk))
  have HKJ := Lib.hid (And.intro hk hj)
  have k1 : (k : Int) < m := by omega
  have k0 : 0 ≤ (k : Int) := by omega
  have j1 : (j : Int) < 33 := by omega
  have j0 : 0 ≤ (j : Int) := by omega
  have HN := Lib.hid (nums_at rs k (by rw [HL.out.1]; exact hk))
  obtain ⟨b, off, rfl, hb, hc⟩ := h.h.some (by rw [HL.out.1]; have := HKJ.out.1; omega)
  have HCA : Hid (∀ x', Below w.heap.size w x' → ∀ i, i < m → x'.cell? ⟨b, off + i, none⟩ = some (.slice (rs.getD i ry0).A (rs.getD i ry0).n (rs.getD i ry0).c)) := Lib.hid (fun x' hx i hi => ((bcell hx).1 b _ hb).trans (hc i (by rw [HL.out.1]; exact hi)))
  clear h hr hk hj hb hc
  go_enter Tryd.func40, Tryd.ntmps40
  go_wp2_with fail
  have B0 : Hid (Below w.heap.size w ((w.alloc (.cells #[.slice (some ⟨b, off, none⟩) m c] 24)).alloc (.cells #[.slice none 0 0] 24)) ∧ Lies ((w.alloc (.cells #[.slice (some ⟨b, off, none⟩) m c] 24)).alloc (.cells #[.slice none 0 0] 24)) (w.heap.size + 1) 24 [.slice none 0 0] ∧ Lies ((w.alloc (.cells #[.slice (some ⟨b, off, none⟩) m c] 24)).alloc (.cells #[.slice none 0 0] 24)) w.heap.size 24 [.slice (some ⟨b, off, none⟩) m c] ∧ w.heap.size < w.heap.size + 1) := Lib.hid ⟨by (repeat' (first | (with_reducible exact Below.refl _ _) | (with_reducible assumption) | (with_reducible refine below_drewN ?_ _) | (with_reducible refine below_new ?_ _) | (with_reducible refine Below.alloc ?_ ?_ _) | (with_reducible refine Below.drew ?_) | (with_reducible refine Below.setCell ?_ ?_ _) | (with_reducible apply below_at; (case k => (with_reducible assumption)); (case hB => omega)) | (with_reducible apply below_on; (with_reducible assumption)) | (go_size; done) | (with_reducible apply size_of))), Lies.fresh_at (cs := [.slice none 0 0]) (by simp), (Lies.fresh w 24 [.slice (some ⟨b, off, none⟩) m c]).alloc _, by omega⟩
  generalize ((w.alloc (.cells #[.slice (some ⟨b, off, none⟩) m c] 24)).alloc (.cells #[.slice none 0 0] 24)) = W0 at *
  generalize w.heap.size + 1 = g2 at *
  refine (checkAt_any (some ⟨b, off, none⟩) m c rs k W0 (H.out.below B0.out.1 (Nat.le_refl _))).mono ?_
  rintro e w1 ⟨rfl, hb1⟩
  rw [HV.out]
  have H1 := Lib.hid (And.intro (B0.out.2.1.past hb1) (And.intro (B0.out.2.2.1.past hb1) (B0.out.1.trans (hb1.mono B0.out.1.size))))
  have x1 : w1.cell? ⟨w.heap.size, 0, none⟩ = some (.slice (some ⟨b, off, none⟩) m c) := H1.out.2.1.cell 0
  clear hb1
  go_upto_region 7 with (at_make; refine makeRY rfl _ _ rfl .i64 .i64 m rfl rfl (by have := HM.out; omega) w.heap.size H1.out.2.2.size ?_; intro w2 ho2 hb2; have HO2 := Lib.hid ho2; have HB2 := Lib.hid hb2; clear ho2 hb2)
  have HX : Hid (OwnR (w2.alloc (.cells #[.slice (some ⟨w1.heap.size, 0, none⟩) m m] 24)) w.heap.size (.slice (some ⟨w1.heap.size, 0, none⟩) m m) (List.replicate m ry0) ∧ Lies (w2.alloc (.cells #[.slice (some ⟨w1.heap.size, 0, none⟩) m m] 24)) w2.heap.size 24 [.slice (some ⟨w1.heap.size, 0, none⟩) m m] ∧ Lies (w2.alloc (.cells #[.slice (some ⟨w1.heap.size, 0, none⟩) m m] 24)) g2 24 [.slice none 0 0] ∧ Lies (w2.alloc (.cells #[.slice (some ⟨w1.heap.size, 0, none⟩) m m] 24)) w.heap.size 24 [.slice (some ⟨b, off, none⟩) m c] ∧ Below w.heap.size w (w2.alloc (.cells #[.slice (some ⟨w1.heap.size, 0, none⟩) m m] 24))) := Lib.hid (by
    have b1 : Below w.heap.size w w2 := H1.out.2.2.trans (HB2.out.mono H1.out.2.2.size)
    exact ⟨HO2.out.alloc _, Lies.fresh _ _ _, (H1.out.1.past HB2.out).alloc _, (H1.out.2.1.past HB2.out).alloc _, b1.alloc b1.size _⟩)
  clear HO2 HB2 x1 H1
  generalize w2.alloc (.cells #[.slice (some ⟨w1.heap.size, 0, none⟩) m m] 24) = W3 at *
  generalize w2.heap.size = g4 at *
  generalize w1.heap.size = gr at *
  have x1 : W3.cell? ⟨w.heap.size, 0, none⟩ = some (.slice (some ⟨b, off, none⟩) m c) := HX.out.2.2.2.1.cell 0
  go_wp2_with fail
  clear x1
  go_loopw [36] (fun iv wr => ∃ (i : Nat) (qs : List RY), i ≤ m ∧ iv = .int .i64 i ∧ qs.length = m ∧ CopyTo rs qs i ∧ OwnR wr w.heap.size (.slice (some ⟨gr, 0, none⟩) m m) qs ∧ Lies wr g4 24 [.slice (some ⟨gr, 0, none⟩) m m] ∧ Lies wr g2 24 [.slice none 0 0] ∧ Lies wr w.heap.size 24 [.slice (some ⟨b, off, none⟩) m c] ∧ Below w.heap.size w wr) (fun iv _ => m - (intOf iv).toNat)
  case atStart => exact ⟨0, List.replicate m ry0, by omega, rfl, List.length_replicate .., copy_zero _ _, HX.out.1, HX.out.2.1, HX.out.2.2.1, HX.out.2.2.2.1, HX.out.2.2.2.2⟩
  case round =>
    obtain ⟨i, qs, hi, rfl, hl, hf, hor, hl4, hl2, hl0, hb⟩ := hrel
    have HQ := Lib.hid (And.intro hl hf)
    have HX2 := Lib.hid (And.intro hor (And.intro hl4 (And.intro hl2 (And.intro hl0 hb))))
    clear hl hf hor hl4 hl2 hl0 hb
    by_cases hlt : i < m
    · have HLT := Lib.hid hlt
      have i1 : (i : Int) < m := by omega
      have i0 : 0 ≤ (i : Int) := by omega
      have I1 := Lib.hid (H.out.h.get i (by rw [HL.out.1]; exact hlt))
      have HRI : Hid (rowB (rs.getD i ry0).b = true) := Lib.hid (by rw [← nums_at rs i (by rw [HL.out.1]; exact hlt)]; exact rf_row HR.out i (by rw [HL.out.2]; exact hlt))
      have HCI : Hid (∀ x', Below w.heap.size w x' → x'.cell? ⟨b, off + i, none⟩ = some (.slice (rs.getD i ry0).A (rs.getD i ry0).n (rs.getD i ry0).c)) := Lib.hid (fun x' hx => HCA.out x' hx i hlt)
      have HBD : Hid (∀ r, r.b = (rs.getD i ry0).b → CopyTo rs (qs.set i r) (i + 1)) := Lib.hid (fun r hr => copy_set HQ.out.2 (by rw [HQ.out.1]; exact hlt) r hr)
      clear hlt hi
      generalize rs.getD i ry0 = r at *
      obtain ⟨A1, n1, d1, y1⟩ := r
      have HY : Hid (y1.length = 33) := Lib.hid ((rowB_iff _).1 HRI.out).1
      obtain rfl : n1 = 33 := by have e1 : y1.length = n1 := I1.out.e; have e2 := HY.out; omega
      go_upto_region 10 with fail
      (have RD := grows_roads (S := fun x' => OwnR x' w.heap.size (.slice (some ⟨gr, 0, none⟩) m m) qs ∧ Lies x' g4 24 [.slice (some ⟨gr, 0, none⟩) m m] ∧ Lies x' g2 24 [.slice none 0 0] ∧ Lies x' w.heap.size 24 [.slice (some ⟨b, off, none⟩) m c] ∧ Below w.heap.size w x') (fun a b h1 h2 => ⟨h2.1.past h1, h2.2.1.past h1, h2.2.2.1.past h1, h2.2.2.2.1.past h1, h2.2.2.2.2.trans (h1.mono h2.2.2.2.2.size)⟩)); refine region_ordT 9 _ Grows RD (by have d0 := Below.drew (Below.refl wr.heap.size wr); exact ⟨HX2.out.1.past d0, HX2.out.2.1.past d0, HX2.out.2.2.1.past d0, HX2.out.2.2.2.1.past d0, HX2.out.2.2.2.2.trans (d0.mono HX2.out.2.2.2.2.size)⟩) (by kernel_rfl) (by decide) ?_; intro ops Q' hops hPQ hN; (have HNS : Hid (Region.noSelect ops = true ∧ Region.sinkB .any ops 9 = true ∧ Region.chainB .any ops 9 = true ∧ 9 < ops.size) := Lib.hid (by rw [hops]; exact ⟨by kernel_rfl, by kernel_rfl, by kernel_rfl, by decide⟩)); (have hsz : ops.size = 11 := (by rw [hops]; rfl)); have HOP := Lib.hid hops; have HPQ := Lib.hid hPQ; have HN := Lib.hid hN; rw [hsz]; clear hops hsz hPQ hN
      refine ordT_take RD 0 (at_list (by rw [HOP.out]; rfl)) HNS.out HPQ.out (by rw [HOP.out]; kernel_rfl) (by rw [HOP.out]; kernel_rfl) (by rw [HOP.out]; rfl) (fun K hK => ?_); apply Exists.intro; refine ⟨fun W hSW => ?_, hK _ ?_⟩; (focus ((try dsimp only at hSW); go_simp; try with_reducible rfl)); clear hK K; (try simp only [Act.put, List.setIfInBounds_toArray, List.set_cons_zero, List.set_cons_succ])
      refine ordT_take RD 1 (at_list (by rw [HOP.out]; rfl)) HNS.out HPQ.out (by rw [HOP.out]; kernel_rfl) (by rw [HOP.out]; kernel_rfl) (by rw [HOP.out]; rfl) (fun K hK => ?_); apply Exists.intro; refine ⟨fun W hSW => ?_, hK _ ?_⟩; (focus ((try dsimp only at hSW); (obtain ⟨z1, z2⟩ := hSW.2.1.one); go_simp; try with_reducible rfl)); clear hK K; (try simp only [Act.put, List.setIfInBounds_toArray, List.set_cons_zero, List.set_cons_succ])
      refine ordT_take RD 2 (at_list (by rw [HOP.out]; rfl)) HNS.out HPQ.out (by rw [HOP.out]; kernel_rfl) (by rw [HOP.out]; kernel_rfl) (by rw [HOP.out]; rfl) (fun K hK => ?_); apply Exists.intro; refine ⟨fun W hSW => ?_, hK _ ?_⟩; (focus ((try dsimp only at hSW); go_simp; try with_reducible rfl)); clear hK K; (try simp only [Act.put, List.setIfInBounds_toArray, List.set_cons_zero, List.set_cons_succ])
      refine ordT_take RD 3 (at_list (by rw [HOP.out]; rfl)) HNS.out HPQ.out (by rw [HOP.out]; kernel_rfl) (by rw [HOP.out]; kernel_rfl) (by rw [HOP.out]; rfl) (fun K hK => ?_); apply Exists.intro; refine ⟨fun W hSW => ?_, hK _ ?_⟩; (focus ((try dsimp only at hSW); go_simp; try with_reducible rfl)); clear hK K; (try simp only [Act.put, List.setIfInBounds_toArray, List.set_cons_zero, List.set_cons_succ])
      refine ordT_take RD 4 (at_list (by rw [HOP.out]; rfl)) HNS.out HPQ.out (by rw [HOP.out]; kernel_rfl) (by rw [HOP.out]; kernel_rfl) (by rw [HOP.out]; rfl) (fun K hK => ?_); apply Exists.intro; refine ⟨fun W hSW => ?_, hK _ ?_⟩; (focus ((try dsimp only at hSW); (obtain ⟨z1, z2⟩ := hSW.2.2.2.1.one); go_simp; try with_reducible rfl)); clear hK K; (try simp only [Act.put, List.setIfInBounds_toArray, List.set_cons_zero, List.set_cons_succ])
      refine ordT_take RD 5 (at_list (by rw [HOP.out]; rfl)) HNS.out HPQ.out (by rw [HOP.out]; kernel_rfl) (by rw [HOP.out]; kernel_rfl) (by rw [HOP.out]; rfl) (fun K hK => ?_); apply Exists.intro; refine ⟨fun W hSW => ?_, hK _ ?_⟩; (focus ((try dsimp only at hSW); go_simp; try with_reducible rfl)); clear hK K; (try simp only [Act.put, List.setIfInBounds_toArray, List.set_cons_zero, List.set_cons_succ])
      refine ordT_take RD 6 (at_list (by rw [HOP.out]; rfl)) HNS.out HPQ.out (by rw [HOP.out]; kernel_rfl) (by rw [HOP.out]; kernel_rfl) (by rw [HOP.out]; rfl) (fun K hK => ?_); apply Exists.intro; refine ⟨fun W hSW => ?_, hK _ ?_⟩; (focus ((try dsimp only at hSW); go_simp; try with_reducible rfl)); clear hK K; (try simp only [Act.put, List.setIfInBounds_toArray, List.set_cons_zero, List.set_cons_succ])
      refine ordT_take RD 7 (at_list (by rw [HOP.out]; rfl)) HNS.out HPQ.out (by rw [HOP.out]; kernel_rfl) (by rw [HOP.out]; kernel_rfl) (by rw [HOP.out]; rfl) (fun K hK => ?_); apply Exists.intro; refine ⟨fun W hSW => ?_, hK _ ?_⟩; (focus ((try dsimp only at hSW); (have z1 := HCI.out _ hSW.2.2.2.2); go_simp; try with_reducible rfl)); clear hK K; (try simp only [Act.put, List.setIfInBounds_toArray, List.set_cons_zero, List.set_cons_succ])
      refine ordT_one RD 8 (by rw [HOP.out]; kernel_rfl) (at_list (by rw [HOP.out]; rfl)) (by rw [HOP.out]; rfl) (fun W1 hWW hSW K hK => ?_); (try dsimp only at hSW)
      go_simp
      refine (Clone32 (I1.out.below hSW.2.2.2.2 (Nat.le_refl _)).h HY.out I1.out.c1 (by decide) (by decide)).mono ?_
      rintro e w3 ⟨gc, cc, rfl, oc, bc⟩
      refine hK _ _ (RD.keep bc hSW) ?_
      have HOC := Lib.hid (oneR_of oc I1.out.b)
      have HZ1 := Lib.hid (And.intro hSW.1 hSW.2.2.2.2.size)
      clear oc bc hSW hWW
      clear hK K; (try simp only [Act.put, List.setIfInBounds_toArray, List.set_cons_zero, List.set_cons_succ])
      refine ordT_end (by rw [HOP.out]; kernel_rfl) (fun W3 hWW hSW => ?_); rw [HOP.out]; simp only [List.drop_succ_cons, List.drop_zero]; have hN := HN.out; clear HOP HNS HPQ HN RD; (try dsimp only at hSW)
      have HN2 := Lib.hid hSW
      have HAP : Hid (OneR W3 w.heap.size ⟨some ⟨gc, 0, none⟩, 33, cc, y1⟩ ∧ ∀ j, j < qs.length → j ≠ i → RApart (qs.getD j ry0) ⟨some ⟨gc, 0, none⟩, 33, cc, y1⟩ ∧ RApart ⟨some ⟨gc, 0, none⟩, 33, cc, y1⟩ (qs.getD j ry0)) := Lib.hid ⟨(HOC.out.below hWW (Nat.le_refl _)).mono HZ1.out.2, fun j hj _ => apart_new (HZ1.out.1.one j hj) HOC.out (Nat.le_refl _)⟩
      have f1 : W3.cell? ⟨gr, i, none⟩ = some (.slice (qs.getD i ry0).A (qs.getD i ry0).n (qs.getD i ry0).c) := HN2.out.1.cell i (by rw [HQ.out.1]; exact HLT.out)
      have f2 : W3.frozen? ⟨gr, i, none⟩ = false := HN2.out.1.frozen i
      clear hSW hWW HOC HZ1
      go_wp2_with fail
      have n1 := HN2.out.1.ne HN2.out.2.1 (by decide)
      have n2 := HN2.out.1.ne HN2.out.2.2.1 (by decide)
      have n3 := HN2.out.1.ne HN2.out.2.2.2.1 (by decide)
      exact ⟨⟨i + 1, qs.set i ⟨some ⟨gc, 0, none⟩, 33, cc, y1⟩, by have := HLT.out; omega, by go_num, by rw [List.length_set]; exact HQ.out.1, HBD.out _ rfl, HN2.out.1.put i ⟨some ⟨gc, 0, none⟩, 33, cc, y1⟩ HAP.out.1 HAP.out.2, HN2.out.2.1.other n1 _, HN2.out.2.2.1.other n2 _, HN2.out.2.2.2.1.other n3 _, HN2.out.2.2.2.2.setCell (HN2.out.1.base).1 _⟩, by simp [intOf]; have := HLT.out; omega⟩
    · obtain rfl : i = m := by omega
      clear hlt hi
      have HNQ := Lib.hid (copy_all HL.out.1 HQ.out.1 HQ.out.2)
      have HQB : Hid ((qs.getD k ry0).b = (rs.getD k ry0).b) := Lib.hid (HQ.out.2 k HKJ.out.1)
      have HQL : Hid (qs.length = i) := Lib.hid HQ.out.1
      have I1 := Lib.hid (H.out.h.get k (by rw [HL.out.1]; exact HKJ.out.1))
      have HCK : Hid (∀ x', Below w.heap.size w x' → x'.cell? ⟨b, off + k, none⟩ = some (.slice (rs.getD k ry0).A (rs.getD k ry0).n (rs.getD k ry0).c)) := Lib.hid (fun x' hx => HCA.out x' hx k HKJ.out.1)
      clear HQ
      rw [HN.out] at HRW
      obtain ⟨gq, cq, hq2⟩ : ∃ gq cq, qs.getD k ry0 = ⟨some ⟨gq, 0, none⟩, 33, cq, (rs.getD k ry0).b⟩ := by
        have h1 := HQB.out
        have h2 := HX2.out.1.one k (by rw [HQL.out]; exact HKJ.out.1)
        have h3 := ((rowB_iff _).1 HRW.out).1
        generalize qs.getD k ry0 = q at *
        obtain ⟨A3, n3, c3, y3⟩ := q
        have e1 : y3 = (rs.getD k ry0).b := h1
        subst e1
        have e2 : ((rs.getD k ry0).b).length = n3 := h2.len
        obtain rfl : n3 = 33 := by omega
        obtain ⟨g3, e3, _⟩ := h2.blk (by show 33 ≠ 0; decide)
        have e3 : A3 = some ⟨g3, 0, none⟩ := e3
        exact ⟨g3, c3, by rw [e3]⟩
      have HQ2 := Lib.hid hq2
      clear hq2 HQB
      generalize rs.getD k ry0 = r at *
      obtain ⟨A1, n1, d1, y1⟩ := r
      have HY : Hid (y1.length = 33 ∧ 0 ≤ y1.getD j 0 ∧ y1.getD j 0 ≤ 65535) := Lib.hid ⟨((rowB_iff _).1 HRW.out).1, row_at HRW.out j HKJ.out.2⟩
      obtain rfl : n1 = 33 := by have e1 : y1.length = n1 := I1.out.e; have e2 := HY.out.1; omega
      obtain ⟨b1, o1, hA1, hb1, hc1⟩ := has_some I1.out.h (by show 0 < y1.length; rw [HY.out.1]; decide)
      have hA1 : A1 = some ⟨b1, o1, none⟩ := hA1
      subst hA1
      have HCB : Hid (∀ x', Below w.heap.size w x' → x'.cell? ⟨b1, o1 + j, none⟩ = some (.int .i32 (y1.getD j 0))) := Lib.hid (fun x' hx => ((bcell hx).1 b1 _ hb1).trans (hc1 j (by show j < y1.length; rw [HY.out.1]; exact HKJ.out.2)))
      have HNY : Hid ((numsY rs).getD k [] = y1) := HN
      have HQ3 : Hid (qs.getD k ry0 = ⟨some ⟨gq, 0, none⟩, 33, cq, y1⟩) := HQ2
      clear HN hc1 hb1 HQ2
      obtain ⟨t, ht⟩ : ∃ t, y1.getD j 0 = t := ⟨_, rfl⟩
      have HT := Lib.hid ht
      rw [ht] at HY HCB
      clear ht
      obtain ⟨-, t0, t1⟩ := HY.out
      have HLP : Hid (learnP (numsY rs) k j bit = (numsY rs).set k (y1.set j (mv t bit))) := Lib.hid (by unfold learnP; rw [HNY.out, HT.out])
      have HMV := Lib.hid (mv_in bit t0 t1)
      have HMP := Lib.hid (mv_prog bit t0 t1)
      have HFQ : Hid (∀ x', OwnR x' w.heap.size (.slice (some ⟨gr, 0, none⟩) i i) qs → OwnI x' w.heap.size 21 .i32 (.slice (some ⟨gq, 0, none⟩) 33 cq) y1) := Lib.hid (fun x' hx => by
        have ho := hx.one k (by rw [HQL.out]; exact HKJ.out.1)
        rw [HQ3.out] at ho
        exact ho.own (show 33 ≠ 0 by decide))
      cases bit
      · have HT1 : Hid (t + Int.tdiv (0 - t) 64 = mv t false) := Lib.hid HMP.out
        have w1 : IntKind.i32.wrap (0 - t) = 0 - t := by rw [IntKind.wrap_i32]; omega
        go_upto_region 15 with fail
        go_cut [] (fun wx => OwnR wx w.heap.size (.slice (some ⟨gr, 0, none⟩) i i) (qs.set k ⟨some ⟨gq, 0, none⟩, 33, cq, y1.set j (mv t false)⟩) ∧ Lies wx g4 24 [.slice (some ⟨gr, 0, none⟩) i i] ∧ Lies wx g2 24 [.slice none 0 0] ∧ Below w.heap.size w wx)
        case first =>
          (have RD := grows_roads (S := fun x' => Lies x' g4 24 [.slice (some ⟨gr, 0, none⟩) i i] ∧ OwnR x' w.heap.size (.slice (some ⟨gr, 0, none⟩) i i) qs ∧ Lies x' g2 24 [.slice none 0 0] ∧ Lies x' w.heap.size 24 [.slice (some ⟨b, off, none⟩) i c] ∧ Below w.heap.size w x') (fun a b h1 h2 => ⟨h2.1.past h1, h2.2.1.past h1, h2.2.2.1.past h1, h2.2.2.2.1.past h1, h2.2.2.2.2.trans (h1.mono h2.2.2.2.2.size)⟩)); refine region_ordT 20 _ Grows RD (by have d0 := Below.drew (Below.refl wr.heap.size wr); exact ⟨HX2.out.2.1.past d0, HX2.out.1.past d0, HX2.out.2.2.1.past d0, HX2.out.2.2.2.1.past d0, HX2.out.2.2.2.2.trans (d0.mono HX2.out.2.2.2.2.size)⟩) (by kernel_rfl) (by decide) ?_; intro ops Q' hops hPQ hN; (have HNS : Hid (Region.noSelect ops = true ∧ Region.sinkB .any ops 20 = true ∧ Region.chainB .any ops 20 = true ∧ 20 < ops.size) := Lib.hid (by rw [hops]; exact ⟨by kernel_rfl, by kernel_rfl, by kernel_rfl, by decide⟩)); (have hsz : ops.size = 22 := (by rw [hops]; rfl)); have HOP := Lib.hid hops; have HPQ := Lib.hid hPQ; have HN := Lib.hid hN; rw [hsz]; clear hops hsz hPQ hN
          refine ordT_take RD 0 (at_list (by rw [HOP.out]; rfl)) HNS.out HPQ.out (by rw [HOP.out]; kernel_rfl) (by rw [HOP.out]; kernel_rfl) (by rw [HOP.out]; rfl) (fun K hK => ?_); apply Exists.intro; refine ⟨fun W hSW => ?_, hK _ ?_⟩; (focus ((try dsimp only at hSW); go_simp; try with_reducible rfl)); clear hK K; (try simp only [Act.put, List.setIfInBounds_toArray, List.set_cons_zero, List.set_cons_succ])
          refine ordT_take RD 1 (at_list (by rw [HOP.out]; rfl)) HNS.out HPQ.out (by rw [HOP.out]; kernel_rfl) (by rw [HOP.out]; kernel_rfl) (by rw [HOP.out]; rfl) (fun K hK => ?_); apply Exists.intro; refine ⟨fun W hSW => ?_, hK _ ?_⟩; (focus ((try dsimp only at hSW); (obtain ⟨z1, -⟩ := hSW.1.one); go_simp; try with_reducible rfl)); clear hK K; (try simp only [Act.put, List.setIfInBounds_toArray, List.set_cons_zero, List.set_cons_succ])
          refine ordT_take RD 2 (at_list (by rw [HOP.out]; rfl)) HNS.out HPQ.out (by rw [HOP.out]; kernel_rfl) (by rw [HOP.out]; kernel_rfl) (by rw [HOP.out]; rfl) (fun K hK => ?_); apply Exists.intro; refine ⟨fun W hSW => ?_, hK _ ?_⟩; (focus ((try dsimp only at hSW); go_simp; try with_reducible rfl)); clear hK K; (try simp only [Act.put, List.setIfInBounds_toArray, List.set_cons_zero, List.set_cons_succ])
          refine ordT_take RD 3 (at_list (by rw [HOP.out]; rfl)) HNS.out HPQ.out (by rw [HOP.out]; kernel_rfl) (by rw [HOP.out]; kernel_rfl) (by rw [HOP.out]; rfl) (fun K hK => ?_); apply Exists.intro; refine ⟨fun W hSW => ?_, hK _ ?_⟩; (focus ((try dsimp only at hSW); go_simp; try with_reducible rfl)); clear hK K; (try simp only [Act.put, List.setIfInBounds_toArray, List.set_cons_zero, List.set_cons_succ])
          refine ordT_take RD 4 (at_list (by rw [HOP.out]; rfl)) HNS.out HPQ.out (by rw [HOP.out]; kernel_rfl) (by rw [HOP.out]; kernel_rfl) (by rw [HOP.out]; rfl) (fun K hK => ?_); apply Exists.intro; refine ⟨fun W hSW => ?_, hK _ ?_⟩; (focus ((try dsimp only at hSW); (have z1 := hSW.2.1.cell k (by rw [HQL.out]; exact HKJ.out.1); rw [HQ3.out] at z1); go_simp; try with_reducible rfl)); clear hK K; (try simp only [Act.put, List.setIfInBounds_toArray, List.set_cons_zero, List.set_cons_succ])
          refine ordT_take RD 5 (at_list (by rw [HOP.out]; rfl)) HNS.out HPQ.out (by rw [HOP.out]; kernel_rfl) (by rw [HOP.out]; kernel_rfl) (by rw [HOP.out]; rfl) (fun K hK => ?_); apply Exists.intro; refine ⟨fun W hSW => ?_, hK _ ?_⟩; (focus ((try dsimp only at hSW); go_simp; try with_reducible rfl)); clear hK K; (try simp only [Act.put, List.setIfInBounds_toArray, List.set_cons_zero, List.set_cons_succ])
          refine ordT_take RD 6 (at_list (by rw [HOP.out]; rfl)) HNS.out HPQ.out (by rw [HOP.out]; kernel_rfl) (by rw [HOP.out]; kernel_rfl) (by rw [HOP.out]; rfl) (fun K hK => ?_); apply Exists.intro; refine ⟨fun W hSW => ?_, hK _ ?_⟩; (focus ((try dsimp only at hSW); go_simp; try with_reducible rfl)); clear hK K; (try simp only [Act.put, List.setIfInBounds_toArray, List.set_cons_zero, List.set_cons_succ])
          refine ordT_take RD 7 (at_list (by rw [HOP.out]; rfl)) HNS.out HPQ.out (by rw [HOP.out]; kernel_rfl) (by rw [HOP.out]; kernel_rfl) (by rw [HOP.out]; rfl) (fun K hK => ?_); apply Exists.intro; refine ⟨fun W hSW => ?_, hK _ ?_⟩; (focus ((try dsimp only at hSW); (have z1 := (HFQ.out _ hSW.2.1).cell j (by rw [HY.out.1]; exact HKJ.out.2); rw [HT.out] at z1); go_simp; try with_reducible rfl)); clear hK K; (try simp only [Act.put, List.setIfInBounds_toArray, List.set_cons_zero, List.set_cons_succ])
          refine ordT_take RD 8 (at_list (by rw [HOP.out]; rfl)) HNS.out HPQ.out (by rw [HOP.out]; kernel_rfl) (by rw [HOP.out]; kernel_rfl) (by rw [HOP.out]; rfl) (fun K hK => ?_); apply Exists.intro; refine ⟨fun W hSW => ?_, hK _ ?_⟩; (focus ((try dsimp only at hSW); go_simp; try with_reducible rfl)); clear hK K; (try simp only [Act.put, List.setIfInBounds_toArray, List.set_cons_zero, List.set_cons_succ])
          refine ordT_take RD 9 (at_list (by rw [HOP.out]; rfl)) HNS.out HPQ.out (by rw [HOP.out]; kernel_rfl) (by rw [HOP.out]; kernel_rfl) (by rw [HOP.out]; rfl) (fun K hK => ?_); apply Exists.intro; refine ⟨fun W hSW => ?_, hK _ ?_⟩; (focus ((try dsimp only at hSW); go_simp; try with_reducible rfl)); clear hK K; (try simp only [Act.put, List.setIfInBounds_toArray, List.set_cons_zero, List.set_cons_succ])
          refine ordT_take RD 10 (at_list (by rw [HOP.out]; rfl)) HNS.out HPQ.out (by rw [HOP.out]; kernel_rfl) (by rw [HOP.out]; kernel_rfl) (by rw [HOP.out]; rfl) (fun K hK => ?_); apply Exists.intro; refine ⟨fun W hSW => ?_, hK _ ?_⟩; (focus ((try dsimp only at hSW); (obtain ⟨z1, -⟩ := hSW.2.2.2.1.one); go_simp; try with_reducible rfl)); clear hK K; (try simp only [Act.put, List.setIfInBounds_toArray, List.set_cons_zero, List.set_cons_succ])
          refine ordT_take RD 11 (at_list (by rw [HOP.out]; rfl)) HNS.out HPQ.out (by rw [HOP.out]; kernel_rfl) (by rw [HOP.out]; kernel_rfl) (by rw [HOP.out]; rfl) (fun K hK => ?_); apply Exists.intro; refine ⟨fun W hSW => ?_, hK _ ?_⟩; (focus ((try dsimp only at hSW); go_simp; try with_reducible rfl)); clear hK K; (try simp only [Act.put, List.setIfInBounds_toArray, List.set_cons_zero, List.set_cons_succ])
          refine ordT_take RD 12 (at_list (by rw [HOP.out]; rfl)) HNS.out HPQ.out (by rw [HOP.out]; kernel_rfl) (by rw [HOP.out]; kernel_rfl) (by rw [HOP.out]; rfl) (fun K hK => ?_); apply Exists.intro; refine ⟨fun W hSW => ?_, hK _ ?_⟩; (focus ((try dsimp only at hSW); go_simp; try with_reducible rfl)); clear hK K; (try simp only [Act.put, List.setIfInBounds_toArray, List.set_cons_zero, List.set_cons_succ])
          refine ordT_take RD 13 (at_list (by rw [HOP.out]; rfl)) HNS.out HPQ.out (by rw [HOP.out]; kernel_rfl) (by rw [HOP.out]; kernel_rfl) (by rw [HOP.out]; rfl) (fun K hK => ?_); apply Exists.intro; refine ⟨fun W hSW => ?_, hK _ ?_⟩; (focus ((try dsimp only at hSW); (have z1 := HCK.out _ hSW.2.2.2.2); go_simp; try with_reducible rfl)); clear hK K; (try simp only [Act.put, List.setIfInBounds_toArray, List.set_cons_zero, List.set_cons_succ])
          refine ordT_take RD 14 (at_list (by rw [HOP.out]; rfl)) HNS.out HPQ.out (by rw [HOP.out]; kernel_rfl) (by rw [HOP.out]; kernel_rfl) (by rw [HOP.out]; rfl) (fun K hK => ?_); apply Exists.intro; refine ⟨fun W hSW => ?_, hK _ ?_⟩; (focus ((try dsimp only at hSW); go_simp; try with_reducible rfl)); clear hK K; (try simp only [Act.put, List.setIfInBounds_toArray, List.set_cons_zero, List.set_cons_succ])
          refine ordT_take RD 15 (at_list (by rw [HOP.out]; rfl)) HNS.out HPQ.out (by rw [HOP.out]; kernel_rfl) (by rw [HOP.out]; kernel_rfl) (by rw [HOP.out]; rfl) (fun K hK => ?_); apply Exists.intro; refine ⟨fun W hSW => ?_, hK _ ?_⟩; (focus ((try dsimp only at hSW); go_simp; try with_reducible rfl)); clear hK K; (try simp only [Act.put, List.setIfInBounds_toArray, List.set_cons_zero, List.set_cons_succ])
          refine ordT_take RD 16 (at_list (by rw [HOP.out]; rfl)) HNS.out HPQ.out (by rw [HOP.out]; kernel_rfl) (by rw [HOP.out]; kernel_rfl) (by rw [HOP.out]; rfl) (fun K hK => ?_); apply Exists.intro; refine ⟨fun W hSW => ?_, hK _ ?_⟩; (focus ((try dsimp only at hSW); (have z1 := HCB.out _ hSW.2.2.2.2); go_simp; try with_reducible rfl)); clear hK K; (try simp only [Act.put, List.setIfInBounds_toArray, List.set_cons_zero, List.set_cons_succ])
          refine ordT_take RD 17 (at_list (by rw [HOP.out]; rfl)) HNS.out HPQ.out (by rw [HOP.out]; kernel_rfl) (by rw [HOP.out]; kernel_rfl) (by rw [HOP.out]; rfl) (fun K hK => ?_); apply Exists.intro; refine ⟨fun W hSW => ?_, hK _ ?_⟩; (focus ((try dsimp only at hSW); go_simp; try with_reducible rfl)); clear hK K; (try simp only [Act.put, List.setIfInBounds_toArray, List.set_cons_zero, List.set_cons_succ])
          refine ordT_take RD 18 (at_list (by rw [HOP.out]; rfl)) HNS.out HPQ.out (by rw [HOP.out]; kernel_rfl) (by rw [HOP.out]; kernel_rfl) (by rw [HOP.out]; rfl) (fun K hK => ?_); apply Exists.intro; refine ⟨fun W hSW => ?_, hK _ ?_⟩; (focus ((try dsimp only at hSW); go_simp; try with_reducible rfl)); clear hK K; (try simp only [Act.put, List.setIfInBounds_toArray, List.set_cons_zero, List.set_cons_succ])
          refine ordT_take RD 19 (at_list (by rw [HOP.out]; rfl)) HNS.out HPQ.out (by rw [HOP.out]; kernel_rfl) (by rw [HOP.out]; kernel_rfl) (by rw [HOP.out]; rfl) (fun K hK => ?_); apply Exists.intro; refine ⟨fun W hSW => ?_, hK _ ?_⟩; (focus ((try dsimp only at hSW); go_simp; try with_reducible rfl)); clear hK K; (try simp only [Act.put, List.setIfInBounds_toArray, List.set_cons_zero, List.set_cons_succ])
          refine ordT_end (by rw [HOP.out]; kernel_rfl) (fun W5 hWW hSW => ?_); rw [HOP.out]; simp only [List.drop_succ_cons, List.drop_zero]; have hN := HN.out; clear HOP HNS HPQ HN RD; (try dsimp only at hSW)
          have HN := Lib.hid hSW
          clear hSW hWW
          have HO2 := Lib.hid (HFQ.out _ HN.out.2.1)
          have f1 : W5.cell? ⟨gq, j, none⟩ = some (.int .i32 (y1.getD j 0)) := HO2.out.cell j (by rw [HY.out.1]; exact HKJ.out.2)
          have f2 : W5.frozen? ⟨gq, j, none⟩ = false := HO2.out.frozen j
          go_wp2_with fail
          go_meet
          have hmv := HMV.out
          have hmp := HMP.out
          have HP := HN.out.2.1.putAt k j (by rw [HQL.out]; exact HKJ.out.1) gq 33 cq y1 HQ3.out (by decide) (mv t false) (by omega)
          have hne : ∀ g cs, Lies W5 g 24 cs → (⟨gq, j, none⟩ : Addr).block ≠ g := fun g cs K e => own_ne32 HO2.out K (by decide) (by rw [← e]; rfl)
          have q1 : Int.tdiv t 64 = t / 64 := Int.tdiv_eq_ediv_of_nonneg t0
          have q2 : mv t false = t - t / 64 := by simp [mv]
          rw [show wrap32 (t + wrap32 (-(Int.tdiv t 64))) = mv t false from by rw [q1, q2]; unfold wrap32; omega]
          exact ⟨HP, HN.out.1.other (hne _ _ HN.out.1) _, HN.out.2.2.1.other (hne _ _ HN.out.2.2.1) _, HN.out.2.2.2.2.setCell HO2.out.base_le.1 _⟩
        case rest =>
          have H6 := Lib.hid hcut
          clear hcut
          rename World => W6
          obtain ⟨z1, -⟩ := H6.out.2.1.one
          obtain ⟨z2, z3⟩ := H6.out.2.2.1.one
          go_wp2_with fail
          have K := H6.out.2.2.1.set 0 (.slice (some ⟨gr, 0, none⟩) i i)
          have k1 : (W6.setCell ⟨g2, 0, none⟩ (.slice (some ⟨gr, 0, none⟩) i i)).cell? ⟨g2, 0, none⟩ = some (.slice (some ⟨gr, 0, none⟩) i i) := K.cell 0
          refine bodyPost_ret (by simp [results, Tryd.results40, go_sem, k1]; try rfl) rfl ?_
          exact ⟨_, _, rfl, _, H6.out.1.other H6.out.2.2.1 (by decide) (by decide) 0 _, by rw [nums_set, HNQ.out, HLP.out], H6.out.2.2.2.setCell (Nat.le_of_lt B0.out.2.2.2) _⟩
      · have HT1 : Hid (t + Int.tdiv (65535 - t) 64 = mv t true) := Lib.hid HMP.out
        have w1 : IntKind.i32.wrap (65535 - t) = 65535 - t := by rw [IntKind.wrap_i32]; omega
        go_upto_region 15 with fail
        go_cut [] (fun wx => OwnR wx w.heap.size (.slice (some ⟨gr, 0, none⟩) i i) (qs.set k ⟨some ⟨gq, 0, none⟩, 33, cq, y1.set j (mv t true)⟩) ∧ Lies wx g4 24 [.slice (some ⟨gr, 0, none⟩) i i] ∧ Lies wx g2 24 [.slice none 0 0] ∧ Below w.heap.size w wx)
        case first =>
          (have RD := grows_roads (S := fun x' => Lies x' g4 24 [.slice (some ⟨gr, 0, none⟩) i i] ∧ OwnR x' w.heap.size (.slice (some ⟨gr, 0, none⟩) i i) qs ∧ Lies x' g2 24 [.slice none 0 0] ∧ Lies x' w.heap.size 24 [.slice (some ⟨b, off, none⟩) i c] ∧ Below w.heap.size w x') (fun a b h1 h2 => ⟨h2.1.past h1, h2.2.1.past h1, h2.2.2.1.past h1, h2.2.2.2.1.past h1, h2.2.2.2.2.trans (h1.mono h2.2.2.2.2.size)⟩)); refine region_ordT 20 _ Grows RD (by have d0 := Below.drew (Below.refl wr.heap.size wr); exact ⟨HX2.out.2.1.past d0, HX2.out.1.past d0, HX2.out.2.2.1.past d0, HX2.out.2.2.2.1.past d0, HX2.out.2.2.2.2.trans (d0.mono HX2.out.2.2.2.2.size)⟩) (by kernel_rfl) (by decide) ?_; intro ops Q' hops hPQ hN; (have HNS : Hid (Region.noSelect ops = true ∧ Region.sinkB .any ops 20 = true ∧ Region.chainB .any ops 20 = true ∧ 20 < ops.size) := Lib.hid (by rw [hops]; exact ⟨by kernel_rfl, by kernel_rfl, by kernel_rfl, by decide⟩)); (have hsz : ops.size = 22 := (by rw [hops]; rfl)); have HOP := Lib.hid hops; have HPQ := Lib.hid hPQ; have HN := Lib.hid hN; rw [hsz]; clear hops hsz hPQ hN
          refine ordT_take RD 0 (at_list (by rw [HOP.out]; rfl)) HNS.out HPQ.out (by rw [HOP.out]; kernel_rfl) (by rw [HOP.out]; kernel_rfl) (by rw [HOP.out]; rfl) (fun K hK => ?_); apply Exists.intro; refine ⟨fun W hSW => ?_, hK _ ?_⟩; (focus ((try dsimp only at hSW); go_simp; try with_reducible rfl)); clear hK K; (try simp only [Act.put, List.setIfInBounds_toArray, List.set_cons_zero, List.set_cons_succ])
          refine ordT_take RD 1 (at_list (by rw [HOP.out]; rfl)) HNS.out HPQ.out (by rw [HOP.out]; kernel_rfl) (by rw [HOP.out]; kernel_rfl) (by rw [HOP.out]; rfl) (fun K hK => ?_); apply Exists.intro; refine ⟨fun W hSW => ?_, hK _ ?_⟩; (focus ((try dsimp only at hSW); (obtain ⟨z1, -⟩ := hSW.1.one); go_simp; try with_reducible rfl)); clear hK K; (try simp only [Act.put, List.setIfInBounds_toArray, List.set_cons_zero, List.set_cons_succ])
          refine ordT_take RD 2 (at_list (by rw [HOP.out]; rfl)) HNS.out HPQ.out (by rw [HOP.out]; kernel_rfl) (by rw [HOP.out]; kernel_rfl) (by rw [HOP.out]; rfl) (fun K hK => ?_); apply Exists.intro; refine ⟨fun W hSW => ?_, hK _ ?_⟩; (focus ((try dsimp only at hSW); go_simp; try with_reducible rfl)); clear hK K; (try simp only [Act.put, List.setIfInBounds_toArray, List.set_cons_zero, List.set_cons_succ])
          refine ordT_take RD 3 (at_list (by rw [HOP.out]; rfl)) HNS.out HPQ.out (by rw [HOP.out]; kernel_rfl) (by rw [HOP.out]; kernel_rfl) (by rw [HOP.out]; rfl) (fun K hK => ?_); apply Exists.intro; refine ⟨fun W hSW => ?_, hK _ ?_⟩; (focus ((try dsimp only at hSW); go_simp; try with_reducible rfl)); clear hK K; (try simp only [Act.put, List.setIfInBounds_toArray, List.set_cons_zero, List.set_cons_succ])
          refine ordT_take RD 4 (at_list (by rw [HOP.out]; rfl)) HNS.out HPQ.out (by rw [HOP.out]; kernel_rfl) (by rw [HOP.out]; kernel_rfl) (by rw [HOP.out]; rfl) (fun K hK => ?_); apply Exists.intro; refine ⟨fun W hSW => ?_, hK _ ?_⟩; (focus ((try dsimp only at hSW); (have z1 := hSW.2.1.cell k (by rw [HQL.out]; exact HKJ.out.1); rw [HQ3.out] at z1); go_simp; try with_reducible rfl)); clear hK K; (try simp only [Act.put, List.setIfInBounds_toArray, List.set_cons_zero, List.set_cons_succ])
          refine ordT_take RD 5 (at_list (by rw [HOP.out]; rfl)) HNS.out HPQ.out (by rw [HOP.out]; kernel_rfl) (by rw [HOP.out]; kernel_rfl) (by rw [HOP.out]; rfl) (fun K hK => ?_); apply Exists.intro; refine ⟨fun W hSW => ?_, hK _ ?_⟩; (focus ((try dsimp only at hSW); go_simp; try with_reducible rfl)); clear hK K; (try simp only [Act.put, List.setIfInBounds_toArray, List.set_cons_zero, List.set_cons_succ])
          refine ordT_take RD 6 (at_list (by rw [HOP.out]; rfl)) HNS.out HPQ.out (by rw [HOP.out]; kernel_rfl) (by rw [HOP.out]; kernel_rfl) (by rw [HOP.out]; rfl) (fun K hK => ?_); apply Exists.intro; refine ⟨fun W hSW => ?_, hK _ ?_⟩; (focus ((try dsimp only at hSW); go_simp; try with_reducible rfl)); clear hK K; (try simp only [Act.put, List.setIfInBounds_toArray, List.set_cons_zero, List.set_cons_succ])
          refine ordT_take RD 7 (at_list (by rw [HOP.out]; rfl)) HNS.out HPQ.out (by rw [HOP.out]; kernel_rfl) (by rw [HOP.out]; kernel_rfl) (by rw [HOP.out]; rfl) (fun K hK => ?_); apply Exists.intro; refine ⟨fun W hSW => ?_, hK _ ?_⟩; (focus ((try dsimp only at hSW); (have z1 := (HFQ.out _ hSW.2.1).cell j (by rw [HY.out.1]; exact HKJ.out.2); rw [HT.out] at z1); go_simp; try with_reducible rfl)); clear hK K; (try simp only [Act.put, List.setIfInBounds_toArray, List.set_cons_zero, List.set_cons_succ])
          refine ordT_take RD 8 (at_list (by rw [HOP.out]; rfl)) HNS.out HPQ.out (by rw [HOP.out]; kernel_rfl) (by rw [HOP.out]; kernel_rfl) (by rw [HOP.out]; rfl) (fun K hK => ?_); apply Exists.intro; refine ⟨fun W hSW => ?_, hK _ ?_⟩; (focus ((try dsimp only at hSW); go_simp; try with_reducible rfl)); clear hK K; (try simp only [Act.put, List.setIfInBounds_toArray, List.set_cons_zero, List.set_cons_succ])
          refine ordT_take RD 9 (at_list (by rw [HOP.out]; rfl)) HNS.out HPQ.out (by rw [HOP.out]; kernel_rfl) (by rw [HOP.out]; kernel_rfl) (by rw [HOP.out]; rfl) (fun K hK => ?_); apply Exists.intro; refine ⟨fun W hSW => ?_, hK _ ?_⟩; (focus ((try dsimp only at hSW); go_simp; try with_reducible rfl)); clear hK K; (try simp only [Act.put, List.setIfInBounds_toArray, List.set_cons_zero, List.set_cons_succ])
          refine ordT_take RD 10 (at_list (by rw [HOP.out]; rfl)) HNS.out HPQ.out (by rw [HOP.out]; kernel_rfl) (by rw [HOP.out]; kernel_rfl) (by rw [HOP.out]; rfl) (fun K hK => ?_); apply Exists.intro; refine ⟨fun W hSW => ?_, hK _ ?_⟩; (focus ((try dsimp only at hSW); (obtain ⟨z1, -⟩ := hSW.2.2.2.1.one); go_simp; try with_reducible rfl)); clear hK K; (try simp only [Act.put, List.setIfInBounds_toArray, List.set_cons_zero, List.set_cons_succ])
          refine ordT_take RD 11 (at_list (by rw [HOP.out]; rfl)) HNS.out HPQ.out (by rw [HOP.out]; kernel_rfl) (by rw [HOP.out]; kernel_rfl) (by rw [HOP.out]; rfl) (fun K hK => ?_); apply Exists.intro; refine ⟨fun W hSW => ?_, hK _ ?_⟩; (focus ((try dsimp only at hSW); go_simp; try with_reducible rfl)); clear hK K; (try simp only [Act.put, List.setIfInBounds_toArray, List.set_cons_zero, List.set_cons_succ])
          refine ordT_take RD 12 (at_list (by rw [HOP.out]; rfl)) HNS.out HPQ.out (by rw [HOP.out]; kernel_rfl) (by rw [HOP.out]; kernel_rfl) (by rw [HOP.out]; rfl) (fun K hK => ?_); apply Exists.intro; refine ⟨fun W hSW => ?_, hK _ ?_⟩; (focus ((try dsimp only at hSW); go_simp; try with_reducible rfl)); clear hK K; (try simp only [Act.put, List.setIfInBounds_toArray, List.set_cons_zero, List.set_cons_succ])
          refine ordT_take RD 13 (at_list (by rw [HOP.out]; rfl)) HNS.out HPQ.out (by rw [HOP.out]; kernel_rfl) (by rw [HOP.out]; kernel_rfl) (by rw [HOP.out]; rfl) (fun K hK => ?_); apply Exists.intro; refine ⟨fun W hSW => ?_, hK _ ?_⟩; (focus ((try dsimp only at hSW); (have z1 := HCK.out _ hSW.2.2.2.2); go_simp; try with_reducible rfl)); clear hK K; (try simp only [Act.put, List.setIfInBounds_toArray, List.set_cons_zero, List.set_cons_succ])
          refine ordT_take RD 14 (at_list (by rw [HOP.out]; rfl)) HNS.out HPQ.out (by rw [HOP.out]; kernel_rfl) (by rw [HOP.out]; kernel_rfl) (by rw [HOP.out]; rfl) (fun K hK => ?_); apply Exists.intro; refine ⟨fun W hSW => ?_, hK _ ?_⟩; (focus ((try dsimp only at hSW); go_simp; try with_reducible rfl)); clear hK K; (try simp only [Act.put, List.setIfInBounds_toArray, List.set_cons_zero, List.set_cons_succ])
          refine ordT_take RD 15 (at_list (by rw [HOP.out]; rfl)) HNS.out HPQ.out (by rw [HOP.out]; kernel_rfl) (by rw [HOP.out]; kernel_rfl) (by rw [HOP.out]; rfl) (fun K hK => ?_); apply Exists.intro; refine ⟨fun W hSW => ?_, hK _ ?_⟩; (focus ((try dsimp only at hSW); go_simp; try with_reducible rfl)); clear hK K; (try simp only [Act.put, List.setIfInBounds_toArray, List.set_cons_zero, List.set_cons_succ])
          refine ordT_take RD 16 (at_list (by rw [HOP.out]; rfl)) HNS.out HPQ.out (by rw [HOP.out]; kernel_rfl) (by rw [HOP.out]; kernel_rfl) (by rw [HOP.out]; rfl) (fun K hK => ?_); apply Exists.intro; refine ⟨fun W hSW => ?_, hK _ ?_⟩; (focus ((try dsimp only at hSW); (have z1 := HCB.out _ hSW.2.2.2.2); go_simp; try with_reducible rfl)); clear hK K; (try simp only [Act.put, List.setIfInBounds_toArray, List.set_cons_zero, List.set_cons_succ])
          refine ordT_take RD 17 (at_list (by rw [HOP.out]; rfl)) HNS.out HPQ.out (by rw [HOP.out]; kernel_rfl) (by rw [HOP.out]; kernel_rfl) (by rw [HOP.out]; rfl) (fun K hK => ?_); apply Exists.intro; refine ⟨fun W hSW => ?_, hK _ ?_⟩; (focus ((try dsimp only at hSW); go_simp; try with_reducible rfl)); clear hK K; (try simp only [Act.put, List.setIfInBounds_toArray, List.set_cons_zero, List.set_cons_succ])
          refine ordT_take RD 18 (at_list (by rw [HOP.out]; rfl)) HNS.out HPQ.out (by rw [HOP.out]; kernel_rfl) (by rw [HOP.out]; kernel_rfl) (by rw [HOP.out]; rfl) (fun K hK => ?_); apply Exists.intro; refine ⟨fun W hSW => ?_, hK _ ?_⟩; (focus ((try dsimp only at hSW); go_simp; try with_reducible rfl)); clear hK K; (try simp only [Act.put, List.setIfInBounds_toArray, List.set_cons_zero, List.set_cons_succ])
          refine ordT_take RD 19 (at_list (by rw [HOP.out]; rfl)) HNS.out HPQ.out (by rw [HOP.out]; kernel_rfl) (by rw [HOP.out]; kernel_rfl) (by rw [HOP.out]; rfl) (fun K hK => ?_); apply Exists.intro; refine ⟨fun W hSW => ?_, hK _ ?_⟩; (focus ((try dsimp only at hSW); go_simp; try with_reducible rfl)); clear hK K; (try simp only [Act.put, List.setIfInBounds_toArray, List.set_cons_zero, List.set_cons_succ])
          refine ordT_end (by rw [HOP.out]; kernel_rfl) (fun W5 hWW hSW => ?_); rw [HOP.out]; simp only [List.drop_succ_cons, List.drop_zero]; have hN := HN.out; clear HOP HNS HPQ HN RD; (try dsimp only at hSW)
          have HN := Lib.hid hSW
          clear hSW hWW
          have HO2 := Lib.hid (HFQ.out _ HN.out.2.1)
          have f1 : W5.cell? ⟨gq, j, none⟩ = some (.int .i32 (y1.getD j 0)) := HO2.out.cell j (by rw [HY.out.1]; exact HKJ.out.2)
          have f2 : W5.frozen? ⟨gq, j, none⟩ = false := HO2.out.frozen j
          go_wp2_with fail
          go_meet
          have hmv := HMV.out
          have hmp := HMP.out
          have HP := HN.out.2.1.putAt k j (by rw [HQL.out]; exact HKJ.out.1) gq 33 cq y1 HQ3.out (by decide) (mv t true) (by omega)
          have hne : ∀ g cs, Lies W5 g 24 cs → (⟨gq, j, none⟩ : Addr).block ≠ g := fun g cs K e => own_ne32 HO2.out K (by decide) (by rw [← e]; rfl)
          have q2 : mv t true = t + (65535 - t) / 64 := by simp [mv]
          rw [← q2]
          exact ⟨HP, HN.out.1.other (hne _ _ HN.out.1) _, HN.out.2.2.1.other (hne _ _ HN.out.2.2.1) _, HN.out.2.2.2.2.setCell HO2.out.base_le.1 _⟩
        case rest =>
          have H6 := Lib.hid hcut
          clear hcut
          rename World => W6
          obtain ⟨z1, -⟩ := H6.out.2.1.one
          obtain ⟨z2, z3⟩ := H6.out.2.2.1.one
          go_wp2_with fail
          have K := H6.out.2.2.1.set 0 (.slice (some ⟨gr, 0, none⟩) i i)
          have k1 : (W6.setCell ⟨g2, 0, none⟩ (.slice (some ⟨gr, 0, none⟩) i i)).cell? ⟨g2, 0, none⟩ = some (.slice (some ⟨gr, 0, none⟩) i i) := K.cell 0
          refine bodyPost_ret (by simp [results, Tryd.results40, go_sem, k1]; try rfl) rfl ?_
          exact ⟨_, _, rfl, _, H6.out.1.other H6.out.2.2.1 (by decide) (by decide) 0 _, by rw [nums_set, HNQ.out, HLP.out], H6.out.2.2.2.setCell (Nat.le_of_lt B0.out.2.2.2) _⟩
end Go.Proofs.YtdmnaipngcldbaaDoor.rfW
