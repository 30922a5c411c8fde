/- Learning that answers, by a walk. -/
import Derived.Test.YtjikddndlnimoaaMxW7
namespace Go.Proofs.Ytjikddndlnimoaa.mxP
set_option maxRecDepth 100000
open Go.Proofs.Ytjikddndlnimoaa.base
theorem mnums_set (rs : List RY) (k : Nat) (r : RY) : numsY (rs.set k r) = (numsY rs).set k r.b := by simp [numsY, List.map_set]
end Go.Proofs.Ytjikddndlnimoaa.mxP
namespace Go.Proofs.Ytjikddndlnimoaa.mxW
set_option maxRecDepth 100000
open Go.RowKit Go.Proofs.Ytjikddndlnimoaa.base Go.Proofs.Ytjikddndlnimoaa.rfP Go.Proofs.Ytjikddndlnimoaa.mxP Go.Proofs.Ytjikddndlnimoaa.sqP Go.Proofs.Ytjikddndlnimoaa.sqW Go.Proofs.Ytjikddndlnimoaa.fixP Go.Proofs.Ytjikddndlnimoaa.fixW
set_option linter.unusedVariables false
set_option linter.unusedSimpArgs false
set_option maxHeartbeats 1500000 in
theorem Learn_ok (P : Option Addr) (m c : Nat) (rs : List RY) (k : Nat) (B : Option Addr) (d : Nat) (ys : List Int) (p : Int) (bit : Bool) (w : World) (h : RowsY w P m c rs) (hi : In8 w B 8 d ys) (hr : mxB (numsY rs) = true) (hk : k < m) (hin : inB ys = true) (p0 : 0 ≤ p) (p1 : p ≤ 4095) :
    Calls Try.prog 6 #[.agg #[.slice P m c], .int .i64 k, .slice B 8 d, .int .i32 p, .bool bit] w fun e w' => ∃ A d qs, e = .returned (.tuple #[.agg #[.slice A m d], .int .i64 0]) ∧ OwnR w' w.heap.size (.slice A m d) qs ∧ numsY qs = learnM (numsY rs) k ys (offP p bit) ∧ Below w.heap.size w w' := by
  have H := Lib.hid (And.intro h hi)
  have HL : Hid (rs.length = m ∧ (numsY rs).length = m) := Lib.hid ⟨h.l, by rw [nums_len]; exact h.l⟩
  have m9 : (m : Int) ≤ 9223372036854775807 := by have := h.c1; have := h.c2; omega
  have HA := Lib.hid (mAsk_ok (set := (k : Int)) (ins := ys) hr (by omega) (by rw [HL.out.2]; omega) hin)
  have HM : Hid (m ≤ 256) := Lib.hid (by have := ((mxB_iff _).1 hr).2.1; rw [HL.out.2] at this; exact this)
  have HR := Lib.hid hr
  have HK := Lib.hid hk
  have HIN := Lib.hid hin
  have HYL := Lib.hid ((inB_iff _).1 hin).1
  have HW : Hid (wrongE p = 0 ∧ wrongV p bit = offP p bit) := Lib.hid (by unfold wrongE wrongV; rw [if_neg (by omega), if_neg (by omega)]; exact ⟨rfl, rfl⟩)
  obtain ⟨o0, o1⟩ := off_bd bit p0 p1
  obtain ⟨off, hoff⟩ : ∃ off, offP p bit = off := ⟨_, rfl⟩
  rw [hoff] at HW o0 o1 ⊢
  have k1 : (k : Int) < m := by omega
  have k0 : 0 ≤ (k : Int) := by omega
  obtain ⟨b8, f8, rfl, hb8, hc8⟩ := has_some hi.h (by rw [HYL.out]; decide)
  have HC8 : Hid (∀ x', Below w.heap.size w x' → ∀ i, i < 8 → x'.cell? ⟨b8, f8 + i, none⟩ = some (.int .i32 (ys.getD i 0))) := Lib.hid (fun x' hx i hi8 => ((bcell hx).1 b8 _ hb8).trans (hc8 i (by rw [HYL.out]; exact hi8)))
  have B0 : Hid (Below w.heap.size w ((w.alloc (.cells #[.slice P m c] 24)).alloc (.cells #[.slice none 0 0] 24)) ∧ Lies ((w.alloc (.cells #[.slice P m c] 24)).alloc (.cells #[.slice none 0 0] 24)) (w.heap.size + 1) 24 [.slice none 0 0] ∧ MxAt ((w.alloc (.cells #[.slice P m c] 24)).alloc (.cells #[.slice none 0 0] 24)) w.heap.size P m c rs ∧ w.heap.size < w.heap.size + 1) := Lib.hid ⟨by (repeat' (first | (with_reducible exact Below.refl _ _) | (with_reducible assumption) | (with_reducible refine below_drewN ?_ _) | (with_reducible refine below_new ?_ _) | (with_reducible refine Below.alloc ?_ ?_ _) | (with_reducible refine Below.drew ?_) | (with_reducible refine Below.setCell ?_ ?_ _) | (with_reducible apply below_at; (case k => (with_reducible assumption)); (case hB => omega)) | (with_reducible apply below_on; (with_reducible assumption)) | (go_size; done) | (with_reducible apply size_of))), Lies.fresh_at (cs := [.slice none 0 0]) (by simp), (mxAt_new h).alloc _, by omega⟩
  clear h hi hr hk hin p0 p1 hoff hb8 hc8
  go_enter Try.func6, Try.ntmps6
  go_wp2_with fail
  generalize ((w.alloc (.cells #[.slice P m c] 24)).alloc (.cells #[.slice none 0 0] 24)) = w0 at *
  generalize w.heap.size + 1 = g2 at *
  refine (checkIn_any P m c rs k (some ⟨b8, f8, none⟩) 8 d ys w0 B0.out.2.2.1.rows (H.out.2.past B0.out.1)).mono ?_
  rintro e w1 ⟨rfl, hb1⟩
  rw [HA.out]
  have H1 : Hid (Lies w1 g2 24 [.slice none 0 0] ∧ MxAt w1 w.heap.size P m c rs ∧ Below w.heap.size w w1) := Lib.hid ⟨B0.out.2.1.past hb1, B0.out.2.2.1.past hb1, below_bs B0.out.1 hb1⟩
  clear hb1
  go_wp2_with fail
  refine (Wrong_any p bit w1).mono ?_
  rintro e w2 ⟨rfl, rfl⟩
  rw [HW.out.1, HW.out.2]
  have x1 := H1.out.2.1.cell
  go_wp2_with fail
  clear x1
  refine (filledL_any (.pointer (some ⟨w.heap.size, 0, none⟩)) m (fun i => (numsY rs).getD i []) w2 HM.out (fun i hi => ⟨mx_row HR.out i (by rw [HL.out.2]; exact hi), by rw [nums_at rs i (by rw [HL.out.1]; exact hi)]; exact (H.out.1.h.get i (by rw [HL.out.1]; exact hi)).b⟩) (fun i W hi hW => learn1_any P m c rs i w.heap.size W (H1.out.2.1.past hW) hi (mx_row HR.out i (by rw [HL.out.2]; exact hi)))).mono ?_
  rintro e w3 ⟨qs, rfl, ho, hl, hq, hb3⟩
  have HQ : Hid (qs.length = m ∧ numsY qs = numsY rs) := Lib.hid ⟨hl, by
    apply List.ext_getElem
    · rw [nums_len, hl, HL.out.2]
    · intro i h1 h2
      rw [nums_len] at h1
      have e1 := nums_at qs i h1
      have e2 := hq i (by omega)
      rw [e2] at e1
      rw [List.getD_eq_getElem?_getD, List.getElem?_eq_getElem (by rw [nums_len]; exact h1), List.getD_eq_getElem?_getD, List.getElem?_eq_getElem h2] at e1
      exact e1⟩
  have H3 : Hid (OwnR (w3.alloc (.cells #[.slice (some ⟨w2.heap.size, 0, none⟩) m m] 24)) w.heap.size (.slice (some ⟨w2.heap.size, 0, none⟩) m m) qs ∧ Lies (w3.alloc (.cells #[.slice (some ⟨w2.heap.size, 0, none⟩) m m] 24)) w3.heap.size 24 [.slice (some ⟨w2.heap.size, 0, none⟩) m m] ∧ Lies (w3.alloc (.cells #[.slice (some ⟨w2.heap.size, 0, none⟩) m m] 24)) g2 24 [.slice none 0 0] ∧ Below w.heap.size w (w3.alloc (.cells #[.slice (some ⟨w2.heap.size, 0, none⟩) m m] 24))) := Lib.hid ⟨(ho.mono H1.out.2.2.size).alloc _, Lies.fresh _ _ _, (H1.out.1.past hb3).alloc _, below_al (below_bs H1.out.2.2 hb3) _⟩
  clear ho hl hq hb3 H1
  go_upto_region 8 with fail
  generalize (w3.alloc (.cells #[.slice (some ⟨w2.heap.size, 0, none⟩) m m] 24)) = w4 at *
  generalize w3.heap.size = g4 at *
  generalize w2.heap.size = gr at *
  obtain ⟨gq, cq, hq2⟩ : ∃ gq cq, qs.getD k ry0 = ⟨some ⟨gq, 0, none⟩, 8, cq, (numsY rs).getD k []⟩ := by
    have h1 := nums_at qs k (by rw [HQ.out.1]; exact HK.out)
    rw [HQ.out.2] at h1
    have h2 := H3.out.1.one k (by rw [HQ.out.1]; exact HK.out)
    have h3 := mx_row HR.out k (by rw [HL.out.2]; exact HK.out)
    generalize qs.getD k ry0 = q at *
    obtain ⟨A3, n3, c3, y3⟩ := q
    have e1 : (numsY rs).getD k [] = y3 := h1
    subst e1
    have e2 : ((numsY rs).getD k []).length = n3 := h2.len
    obtain rfl : n3 = 8 := by omega
    obtain ⟨g3, e3, _⟩ := h2.blk (by show 8 ≠ 0; decide)
    have e3 : A3 = some ⟨g3, 0, none⟩ := e3
    exact ⟨g3, c3, by rw [e3]⟩
  have HWL := Lib.hid (mx_row HR.out k (by rw [HL.out.2]; exact HK.out))
  have HWB : Hid (∀ z ∈ (numsY rs).getD k [], -2147483648 ≤ z ∧ z ≤ 2147483647) := Lib.hid (by rw [nums_at rs k (by rw [HL.out.1]; exact HK.out)]; exact (H.out.1.h.get k (by rw [HL.out.1]; exact HK.out)).b)
  have HLM : Hid (learnM (numsY rs) k ys off = (numsY rs).set k (tauL ((numsY rs).getD k []) ys off)) := Lib.hid rfl
  have HQ2 := Lib.hid hq2
  clear hq2
  generalize (numsY rs).getD k [] = ws at *
  have HTL := Lib.hid (tauL_len (off := off) HWL.out HYL.out)
  have HTA := Lib.hid (fun j hj => tauL_at (off := off) HWL.out HYL.out j hj)
  obtain ⟨T, hT⟩ : ∃ T, tauL ws ys off = T := ⟨_, rfl⟩
  rw [hT] at HTL HTA HLM
  clear hT
  have z1 : w4.cell? ⟨g4, 0, none⟩ = some (.slice (some ⟨gr, 0, none⟩) m m) := H3.out.2.1.cell 0
  have z2 := H3.out.1.cell k (by rw [HQ.out.1]; exact HK.out)
  rw [HQ2.out] at z2
  go_wp2_with fail
  clear z1 z2
  have HP0 : Hid (qs.set k ⟨some ⟨gq, 0, none⟩, 8, cq, mxPart T ws 0⟩ = qs) := Lib.hid (by
    rw [part_0, ← HQ2.out]
    apply List.ext_getElem?
    intro i
    by_cases e : k = i
    · subst e
      have hlt : k < qs.length := by rw [HQ.out.1]; exact HK.out
      rw [List.getElem?_set_self hlt, List.getD_eq_getElem?_getD, List.getElem?_eq_getElem hlt]
      rfl
    · rw [List.getElem?_set_ne e])
  go_loopw [50] (fun iv wr => ∃ j : Nat, j ≤ 8 ∧ iv = .int .i64 j ∧ OwnR wr w.heap.size (.slice (some ⟨gr, 0, none⟩) m m) (qs.set k ⟨some ⟨gq, 0, none⟩, 8, cq, mxPart T ws j⟩) ∧ Lies wr g4 24 [.slice (some ⟨gr, 0, none⟩) m m] ∧ Lies wr g2 24 [.slice none 0 0] ∧ Below w.heap.size w wr) (fun iv _ => 8 - (intOf iv).toNat)
  case atStart => exact ⟨0, by omega, rfl, by rw [HP0.out]; exact H3.out.1, H3.out.2.1, H3.out.2.2.1, H3.out.2.2.2⟩
  case round =>
    obtain ⟨j, hj, rfl, s5⟩ := hrel
    have S5 := Lib.hid s5
    clear s5
    have HSL : Hid ((qs.set k ⟨some ⟨gq, 0, none⟩, 8, cq, mxPart T ws j⟩).length = m ∧ (qs.set k ⟨some ⟨gq, 0, none⟩, 8, cq, mxPart T ws j⟩).getD k ry0 = ⟨some ⟨gq, 0, none⟩, 8, cq, mxPart T ws j⟩) := Lib.hid ⟨by rw [List.length_set]; exact HQ.out.1, gd_set_eq (by rw [HQ.out.1]; exact HK.out)⟩
    have HO : Hid (∀ x', OwnR x' w.heap.size (.slice (some ⟨gr, 0, none⟩) m m) (qs.set k ⟨some ⟨gq, 0, none⟩, 8, cq, mxPart T ws j⟩) → OwnI x' w.heap.size 21 .i32 (.slice (some ⟨gq, 0, none⟩) 8 cq) (mxPart T ws j)) := Lib.hid (fun x' hx => by
      have ho := hx.one k (by rw [HSL.out.1]; exact HK.out)
      rw [HSL.out.2] at ho
      exact ho.own (show 8 ≠ 0 by decide))
    by_cases hlt : j < 8
    · have HJ := Lib.hid hlt
      have j1 : (j : Int) < 8 := by omega
      have j0 : 0 ≤ (j : Int) := by omega
      have z1 : wr.cell? ⟨gq, j, none⟩ = some (.int .i32 ((mxPart T ws j).getD j 0)) := (HO.out wr S5.out.1).cell j (by rw [part_len HTL.out HWL.out j (by omega)]; exact hlt)
      rw [part_at HTL.out HWL.out j hlt] at z1
      have z2 := HC8.out wr S5.out.2.2.2 j hlt
      have hta := HTA.out j hlt
      obtain ⟨x0, x1⟩ := inB_at HIN.out j hlt
      obtain ⟨v0, v1⟩ : -2147483648 ≤ ws.getD j 0 ∧ ws.getD j 0 ≤ 2147483647 := by
        rw [List.getD_eq_getElem?_getD, List.getElem?_eq_getElem (by rw [HWL.out]; exact hlt)]
        exact HWB.out _ (List.getElem_mem _)
      have hst := step_bd x0 x1 o0 o1
      clear hj hlt
      obtain ⟨x, hx⟩ : ∃ x, ys.getD j 0 = x := ⟨_, rfl⟩
      obtain ⟨v, hv⟩ : ∃ v, ws.getD j 0 = v := ⟨_, rfl⟩
      rw [hx] at z2 hta x0 x1 hst
      rw [hv] at z1 hta v0 v1
      generalize hxo : x * off = xo at *
      have hrb := rnd14_bd (n := xo * 7) (by omega) (by omega)
      have hsi := sat_in (n := rnd (xo * 7) 14) (by omega) (by omega)
      have hrv : rndV (xo * 7) 14 = rnd (xo * 7) 14 := rfl
      obtain ⟨r, hr⟩ : ∃ r, rnd (xo * 7) 14 = r := ⟨_, rfl⟩
      unfold tau at hta
      rw [hxo, hr] at hta
      rw [hr] at hrb hsi hrv
      have hre : rndE 14 = 0 := rfl
      have HV := Lib.hid (And.intro hta (And.intro hsi (And.intro hrv hre)))
      obtain ⟨c0, c1⟩ := hst
      obtain ⟨r0, r1⟩ := hrb
      have w1 : IntKind.i64.wrap x = x := IntWalk.i64_in _ (by omega)
      have w2 : IntKind.i64.wrap off = off := IntWalk.i64_in _ (by omega)
      have w3 : IntKind.i64.wrap xo = xo := IntWalk.i64_in _ (by omega)
      clear hta hsi hv hx hrv hre hr
      go_wp2_with fail
      refine (round_any (xo * 7) 14 wr (by omega) (by omega)).mono ?_
      rintro e w6 ⟨rfl, hb6⟩
      rw [HV.out.2.2.1, HV.out.2.2.2]
      have S6 : Hid (OwnR w6 w.heap.size (.slice (some ⟨gr, 0, none⟩) m m) (qs.set k ⟨some ⟨gq, 0, none⟩, 8, cq, mxPart T ws j⟩) ∧ Lies w6 g4 24 [.slice (some ⟨gr, 0, none⟩) m m] ∧ Lies w6 g2 24 [.slice none 0 0] ∧ Below w.heap.size w w6) := Lib.hid ⟨S5.out.1.past hb6, S5.out.2.1.past hb6, S5.out.2.2.1.past hb6, below_bs S5.out.2.2.2 hb6⟩
      clear hb6 z1 z2 w1 w2 w3 hxo S5
      go_upto_region 14 with fail
      have hsr := HV.out.2.1
      (have RD := grows_roads (S := fun x' => OwnR x' w.heap.size (.slice (some ⟨gr, 0, none⟩) m m) (qs.set k ⟨some ⟨gq, 0, none⟩, 8, cq, mxPart T ws j⟩) ∧ Lies x' g4 24 [.slice (some ⟨gr, 0, none⟩) m m] ∧ Lies x' g2 24 [.slice none 0 0] ∧ Below w.heap.size w x') (fun a b h1 h2 => ⟨h2.1.past h1, h2.2.1.past h1, h2.2.2.1.past h1, below_bs h2.2.2.2 h1⟩)); refine region_ordT 10 _ Grows RD (by have d0 := Below.drew (Below.refl w6.heap.size w6); exact ⟨S6.out.1.past d0, S6.out.2.1.past d0, S6.out.2.2.1.past d0, below_bs S6.out.2.2.2 d0⟩) (by kernel_rfl) (by decide) ?_; intro ops Q' hops hPQ hN; (have HNS : Hid (Region.noSelect ops = true ∧ Region.sinkB .any ops 10 = true ∧ Region.chainB .any ops 10 = true ∧ 10 < ops.size) := Lib.hid (by rw [hops]; exact ⟨by kernel_rfl, by kernel_rfl, by kernel_rfl, by decide⟩)); (have hsz : ops.size = 12 := (by rw [hops]; rfl)); have HOP := Lib.hid hops; have HPQ := Lib.hid hPQ; have HN := Lib.hid hN; rw [hsz]; clear hops hsz hPQ hN
      refine ordT_take RD 0 (at_list (by rw [HOP.out]; rfl)) HNS.out HPQ.out (by rw [HOP.out]; kernel_rfl) (by rw [HOP.out]; kernel_rfl) (by rw [HOP.out]; rfl) (fun K hK => ?_); apply Exists.intro; refine ⟨fun W hSW => ?_, hK _ ?_⟩; (focus ((try dsimp only at hSW); go_simp; try with_reducible rfl)); clear hK K; (try simp only [Act.put, List.setIfInBounds_toArray, List.set_cons_zero, List.set_cons_succ])
      refine ordT_take RD 1 (at_list (by rw [HOP.out]; rfl)) HNS.out HPQ.out (by rw [HOP.out]; kernel_rfl) (by rw [HOP.out]; kernel_rfl) (by rw [HOP.out]; rfl) (fun K hK => ?_); apply Exists.intro; refine ⟨fun W hSW => ?_, hK _ ?_⟩; (focus ((try dsimp only at hSW); (obtain ⟨z1, -⟩ := hSW.2.1.one); go_simp; try with_reducible rfl)); clear hK K; (try simp only [Act.put, List.setIfInBounds_toArray, List.set_cons_zero, List.set_cons_succ])
      refine ordT_take RD 2 (at_list (by rw [HOP.out]; rfl)) HNS.out HPQ.out (by rw [HOP.out]; kernel_rfl) (by rw [HOP.out]; kernel_rfl) (by rw [HOP.out]; rfl) (fun K hK => ?_); apply Exists.intro; refine ⟨fun W hSW => ?_, hK _ ?_⟩; (focus ((try dsimp only at hSW); go_simp; try with_reducible rfl)); clear hK K; (try simp only [Act.put, List.setIfInBounds_toArray, List.set_cons_zero, List.set_cons_succ])
      refine ordT_take RD 3 (at_list (by rw [HOP.out]; rfl)) HNS.out HPQ.out (by rw [HOP.out]; kernel_rfl) (by rw [HOP.out]; kernel_rfl) (by rw [HOP.out]; rfl) (fun K hK => ?_); apply Exists.intro; refine ⟨fun W hSW => ?_, hK _ ?_⟩; (focus ((try dsimp only at hSW); go_simp; try with_reducible rfl)); clear hK K; (try simp only [Act.put, List.setIfInBounds_toArray, List.set_cons_zero, List.set_cons_succ])
      refine ordT_take RD 4 (at_list (by rw [HOP.out]; rfl)) HNS.out HPQ.out (by rw [HOP.out]; kernel_rfl) (by rw [HOP.out]; kernel_rfl) (by rw [HOP.out]; rfl) (fun K hK => ?_); apply Exists.intro; refine ⟨fun W hSW => ?_, hK _ ?_⟩; (focus ((try dsimp only at hSW); (have z1 := hSW.1.cell k (by rw [HSL.out.1]; exact HK.out); rw [HSL.out.2] at z1); go_simp; try with_reducible rfl)); clear hK K; (try simp only [Act.put, List.setIfInBounds_toArray, List.set_cons_zero, List.set_cons_succ])
      refine ordT_take RD 5 (at_list (by rw [HOP.out]; rfl)) HNS.out HPQ.out (by rw [HOP.out]; kernel_rfl) (by rw [HOP.out]; kernel_rfl) (by rw [HOP.out]; rfl) (fun K hK => ?_); apply Exists.intro; refine ⟨fun W hSW => ?_, hK _ ?_⟩; (focus ((try dsimp only at hSW); go_simp; try with_reducible rfl)); clear hK K; (try simp only [Act.put, List.setIfInBounds_toArray, List.set_cons_zero, List.set_cons_succ])
      refine ordT_take RD 6 (at_list (by rw [HOP.out]; rfl)) HNS.out HPQ.out (by rw [HOP.out]; kernel_rfl) (by rw [HOP.out]; kernel_rfl) (by rw [HOP.out]; rfl) (fun K hK => ?_); apply Exists.intro; refine ⟨fun W hSW => ?_, hK _ ?_⟩; (focus ((try dsimp only at hSW); go_simp; try with_reducible rfl)); clear hK K; (try simp only [Act.put, List.setIfInBounds_toArray, List.set_cons_zero, List.set_cons_succ])
      refine ordT_take RD 7 (at_list (by rw [HOP.out]; rfl)) HNS.out HPQ.out (by rw [HOP.out]; kernel_rfl) (by rw [HOP.out]; kernel_rfl) (by rw [HOP.out]; rfl) (fun K hK => ?_); apply Exists.intro; refine ⟨fun W hSW => ?_, hK _ ?_⟩; (focus ((try dsimp only at hSW); go_simp; try with_reducible rfl)); clear hK K; (try simp only [Act.put, List.setIfInBounds_toArray, List.set_cons_zero, List.set_cons_succ])
      refine ordT_take RD 8 (at_list (by rw [HOP.out]; rfl)) HNS.out HPQ.out (by rw [HOP.out]; kernel_rfl) (by rw [HOP.out]; kernel_rfl) (by rw [HOP.out]; rfl) (fun K hK => ?_); apply Exists.intro; refine ⟨fun W hSW => ?_, hK _ ?_⟩; (focus ((try dsimp only at hSW); go_simp; exact (satB r W))); clear hK K; (try simp only [Act.put, List.setIfInBounds_toArray, List.set_cons_zero, List.set_cons_succ])
      rw [HV.out.2.1]
      refine ordT_take RD 9 (at_list (by rw [HOP.out]; rfl)) HNS.out HPQ.out (by rw [HOP.out]; kernel_rfl) (by rw [HOP.out]; kernel_rfl) (by rw [HOP.out]; rfl) (fun K hK => ?_); apply Exists.intro; refine ⟨fun W hSW => ?_, hK _ ?_⟩; (focus ((try dsimp only at hSW); go_simp; exact (addB v r W v0 v1 (by omega) (by omega)))); clear hK K; (try simp only [Act.put, List.setIfInBounds_toArray, List.set_cons_zero, List.set_cons_succ])
      rw [← HV.out.1]
      refine ordT_end (by rw [HOP.out]; kernel_rfl) (fun W7 hWW hSW => ?_); rw [HOP.out]; simp only [List.drop_succ_cons, List.drop_zero]; have hN := HN.out; clear HOP HNS HPQ HN RD; (try dsimp only at hSW)
      have HN := Lib.hid hSW
      clear hSW hWW
      have HO2 := Lib.hid (HO.out _ HN.out.1)
      have f1 : W7.cell? ⟨gq, j, none⟩ = some (.int .i32 ((mxPart T ws j).getD j 0)) := HO2.out.cell j (by rw [part_len HTL.out HWL.out j (by have := HJ.out; omega)]; exact HJ.out)
      have f2 : W7.frozen? ⟨gq, j, none⟩ = false := HO2.out.frozen j
      go_wp2_with fail
      have htb : -2147483648 ≤ T.getD j 0 ∧ T.getD j 0 ≤ 2147483647 := by rw [HV.out.1]; exact sat_bd _
      have HP := HN.out.1.putAt k j (by rw [HSL.out.1]; exact HK.out) gq 8 cq (mxPart T ws j) HSL.out.2 (by decide) (T.getD j 0) htb
      rw [List.set_set, part_set HTL.out HWL.out j HJ.out] at HP
      have hne : ∀ g cs, Lies W7 g 24 cs → (⟨gq, j, none⟩ : Addr).block ≠ g := fun g cs K e => own_ne32 HO2.out K (by decide) (by rw [← e]; rfl)
      exact ⟨⟨j + 1, by have := HJ.out; omega, by go_num, HP, HN.out.2.1.other (hne _ _ HN.out.2.1) _, HN.out.2.2.1.other (hne _ _ HN.out.2.2.1) _, HN.out.2.2.2.setCell HO2.out.base_le.1 _⟩, by simp [intOf]; have := HJ.out; omega⟩
    · obtain rfl : j = 8 := by omega
      have j1 : ¬ ((8 : Nat) : Int) < 8 := by omega
      clear hj hlt
      obtain ⟨z1, -⟩ := S5.out.2.1.one
      obtain ⟨z2, z3⟩ := S5.out.2.2.1.one
      go_wp2_with fail
      have K := S5.out.2.2.1.set 0 (.slice (some ⟨gr, 0, none⟩) m m)
      have k1 : (wr.setCell ⟨g2, 0, none⟩ (.slice (some ⟨gr, 0, none⟩) m m)).cell? ⟨g2, 0, none⟩ = some (.slice (some ⟨gr, 0, none⟩) m m) := K.cell 0
      refine bodyPost_ret (by simp [results, Try.results6, go_sem, k1]; try rfl) rfl ?_
      exact ⟨_, _, rfl, _, S5.out.1.other S5.out.2.2.1 (by decide) (by decide) 0 _, by rw [mnums_set, HQ.out.2, part_8 HTL.out HWL.out, HLM.out], S5.out.2.2.2.setCell (Nat.le_of_lt B0.out.2.2.2) _⟩
theorem Learn_any (P : Option Addr) (m c : Nat) (rs : List RY) (set : Int) (B : Option Addr) (n d : Nat) (ys : List Int) (p : Int) (bit : Bool) (w : World) (h : RowsY w P m c rs) (hi : In8 w B n d ys) :
    Calls Try.prog 6 #[.agg #[.slice P m c], .int .i64 set, .slice B n d, .int .i32 p, .bool bit] w fun e w' => ∃ A n d qs, e = .returned (.tuple #[.agg #[.slice A n d], .int .i64 (learnME (numsY rs) set ys p)]) ∧ OwnR w' w.heap.size (.slice A n d) qs ∧ numsY qs = learnMV (numsY rs) set ys p bit ∧ Below w.heap.size w w' := by
  by_cases ha : learnME (numsY rs) set ys p = 0
  · have ha0 : mAskE (numsY rs) set ys = 0 := by
      unfold learnME at ha
      split at ha
      · assumption
      · exact ha
    have hw : wrongE p = 0 := by
      unfold learnME at ha
      rw [if_pos ha0] at ha
      exact ha
    obtain ⟨a1, a2, a3, a4⟩ := mAsk_zero ha0
    rw [nums_len, h.l] at a3
    have hp : 0 ≤ p ∧ p ≤ 4095 := by
      unfold wrongE at hw
      split at hw
      · cases hw
      · omega
    have hn8 : n = 8 := by rw [← hi.e]; exact ((inB_iff _).1 a4).1
    subst hn8
    have := Learn_ok P m c rs set.toNat B d ys p bit w h hi a1 (by omega) a4 hp.1 hp.2
    rw [show ((set.toNat : Nat) : Int) = set by omega] at this
    unfold learnMV
    rw [ha]
    exact this.mono fun e w' ⟨A, d, qs, h1, h2, h3, h4⟩ => ⟨A, m, d, qs, h1, h2, h3, h4⟩
  · unfold learnMV
    rw [if_neg ha]
    exact (Learn_bad P m c rs set B n d ys p bit w h hi ha).mono fun e w' ⟨he, hb⟩ => ⟨none, 0, 0, [], he, OwnR.nil _ _, rfl, hb⟩
end Go.Proofs.Ytjikddndlnimoaa.mxW
