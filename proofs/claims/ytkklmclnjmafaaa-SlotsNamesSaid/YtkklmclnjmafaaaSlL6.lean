/- The law SlotsNames, by a walk. -/
import Derived.Test.YtkklmclnjmafaaaSlNm
namespace Go.Proofs.Ytkklmclnjmafaaa.slL
set_option maxRecDepth 100000
open Go.RowKit Go.Proofs.Ytkklmclnjmafaaa.base Go.Proofs.Ytkklmclnjmafaaa.slP Go.Proofs.Ytkklmclnjmafaaa.slW
set_option linter.unusedVariables false
set_option linter.unusedSimpArgs false
set_option maxRecDepth 100000
/-- A slice of n new slots. -/
def MkS (n : Nat) (v : Value) (w : World) : Prop := ∃ g, v = .slice (some ⟨g, 0, none⟩) n n ∧ InS w (some ⟨g, 0, none⟩) n n (List.replicate (n * 16) 0)
theorem MkS.grow {n : Nat} {v : Value} {w w' : World} (h : MkS n v w) (hb : Grows w w') : MkS n v w' := by
  obtain ⟨g, e, k⟩ := h; exact ⟨g, e, k.past hb⟩
theorem mkS_new (w : World) (n : Nat) (hn : n ≤ 1000000) : MkS n (.slice (some ⟨w.heap.size, 0, none⟩) n n) (w.alloc (.cells (zS n) 31)) :=
  ⟨_, rfl, ins_own (own_zS w n hn (Nat.le_refl _) rfl) (by intro z hz; have := List.eq_of_mem_replicate hz; omega)⟩
/-- A table that is not valid. -/
def BadS (v : Value) (w : World) : Prop := ∃ lv A n c fl, v = .agg #[.int .i64 lv, .slice A n c] ∧ (-9223372036854775808 ≤ lv ∧ lv ≤ 9223372036854775807) ∧ InS w A n c fl ∧ okB lv n fl = false
theorem BadS.grow {v : Value} {w w' : World} (h : BadS v w) (hb : Grows w w') : BadS v w' := by
  obtain ⟨lv, A, n, c, fl, e, k1, k2, k3⟩ := h; exact ⟨lv, A, n, c, fl, e, k1, k2.past hb, k3⟩
/-- Five tables that are not valid, in one block. -/
def RowS (g : Nat) (w : World) : Prop := g < w.heap.size ∧ ∀ i : Nat, i < 5 → ∃ lv A n c fl, w.cell? ⟨g, 2 * i, none⟩ = some (.int .i64 lv) ∧ w.cell? ⟨g, 2 * i + 1, none⟩ = some (.slice A n c) ∧ (-9223372036854775808 ≤ lv ∧ lv ≤ 9223372036854775807) ∧ InS w A n c fl ∧ okB lv n fl = false
theorem RowS.grow {g : Nat} {w w' : World} (h : RowS g w) (hb : Grows w w') : RowS g w' := by
  refine ⟨Nat.lt_of_lt_of_le h.1 hb.size, fun i hi => ?_⟩
  obtain ⟨lv, A, n, c, fl, k1, k2, k3, k4, k5⟩ := h.2 i hi
  exact ⟨lv, A, n, c, fl, cell_keep hb k1 h.1, cell_keep hb k2 h.1, k3, k4.past hb, k5⟩
def Fact (i : Nat) (v : Value) (w : World) : Prop :=
  match i with
  | 0 => BadS v w
  | 1 => MkS 4096 v w
  | 2 => BadS v w
  | 3 => MkS 8 v w
  | 4 => BadS v w
  | 5 => MkS 16 v w
  | 6 => BadS v w
  | 7 => BadS v w
  | _ => ∃ g, v = .slice (some ⟨g, 0, none⟩) 5 5 ∧ RowS g w
theorem Fact.grow : ∀ (i : Nat) (v : Value) (w w' : World), Grows w w' → Fact i v w → Fact i v w' := by
  intro i v w w' hb h
  unfold Fact at h ⊢
  split at h
  all_goals first
    | exact BadS.grow h hb
    | exact MkS.grow h hb
    | (obtain ⟨x, e, h⟩ := h; exact ⟨x, e, h.grow hb⟩)
attribute [local irreducible] nm7 nm0 nmB nmS nmF nmG nmH
set_option maxHeartbeats 6400000 in
theorem names (w : World) : Calls Try.prog 3 #[] w fun e w' => e = .returned (.bool true) ∧ Below w.heap.size w w' := by
  have HE := Lib.hid nm_e
  have HN := Lib.hid nm_n
  have HBD := Lib.hid nm_bd
  go_enter Try.func3, Try.ntmps3
  go_wp2_with fail
  refine (New_any (-1) w (by decide) (by decide)).mono ?_
  rintro e w0 ⟨A0, c0, rfl, -, b0⟩
  rw [HE.out.1]
  have B0 := Lib.hid b0
  clear b0
  go_upto_region 2 with fail
  have gg := tb_box w0 (nwT (-1)).lv A0 (nwT (-1)).n c0
  have B1 := Lib.hid (below_bs B0.out gg)
  clear gg B0
  generalize ((w0).alloc (.cells #[.int .i64 ((nwT (-1)).lv), .slice A0 ((nwT (-1)).n) c0] 24)) = w1 at *
  go_wp2_with fail
  refine (New_any 8 w1 (by decide) (by decide)).mono ?_
  rintro e w2 ⟨A2, c2, rfl, -, b2⟩
  rw [HE.out.2.1]
  have B2 := Lib.hid (below_bs B1.out b2)
  clear b2 B1
  go_upto_region 3 with fail
  have gg := tb_box w2 (nwT 8).lv A2 (nwT 8).n c2
  have B3 := Lib.hid (below_bs B2.out gg)
  clear gg B2
  generalize ((w2).alloc (.cells #[.int .i64 ((nwT 8).lv), .slice A2 ((nwT 8).n) c2] 24)) = w3 at *
  go_wp2_with fail
  refine (New_any 7 w3 (by decide) (by decide)).mono ?_
  rintro e w4 ⟨A4, c4, rfl, -, b4⟩
  rw [HE.out.2.2.1]
  rw [show nwT 7 = nm7 by unfold nm7; rfl, HN.out.1, HN.out.2.2.2.1]
  have B4 := Lib.hid (below_bs B3.out b4)
  clear b4 B3
  go_upto_region 4 with fail
  have gg := tb_box w4 7 A4 2048 c4
  have P5 := Lib.hid (tb_new w4 7 A4 2048 c4)
  have B5 := Lib.hid (below_bs B4.out gg)
  clear gg B4
  generalize ((w4).alloc (.cells #[.int .i64 (7), .slice A4 (2048) c4] 24)) = w5 at *
  generalize w4.heap.size = gp at *
  go_wp2_with fail
  refine (New_any 0 w5 (by decide) (by decide)).mono ?_
  rintro e w6 ⟨A6, c6, rfl, o6, b6⟩
  rw [HE.out.2.2.2]
  rw [show nwT 0 = nm0 by unfold nm0; rfl, HN.out.2.1] at o6
  rw [show nwT 0 = nm0 by unfold nm0; rfl, HN.out.2.1, HN.out.2.2.1]
  have I6 := Lib.hid (ins_own o6 HBD.out.1)
  have P6 := Lib.hid (P5.out.past b6)
  have B6 := Lib.hid (below_bs B5.out b6)
  clear b6 o6 B5 P5
  go_upto_region 5 with fail
  have gg := tb_box w6 0 A6 16 c6
  have Z7 := Lib.hid (tb_new w6 0 A6 16 c6)
  have B7 := Lib.hid (below_bs B6.out gg)
  have I7 := Lib.hid (I6.out.past gg)
  have P7 := Lib.hid (P6.out.past gg)
  clear gg B6 I6 P6
  generalize ((w6).alloc (.cells #[.int .i64 (0), .slice A6 (16) c6] 24)) = w7 at *
  generalize w6.heap.size = gz at *
  have p1 := P7.out.c1
  have z0 := Z7.out.c0
  have z1 := Z7.out.c1
  go_wp2_with fail
  refine (Twin_any 0 A6 16 c6 nm0.fl w7 I7.out (by decide)).mono ?_
  rintro e w8 ⟨D, d, rfl, o8, i8, b8⟩
  have O8 : Hid (OwnS w8 w7.heap.size (.slice D 16 d) 16 nm0.fl) := Lib.hid (by
    rcases o8 with k | k
    · cases k
    · exact k)
  obtain ⟨g, e, hg1, hg2⟩ := O8.out.form (by decide)
  subst e
  have B8 := Lib.hid (below_bs B7.out b8)
  have HG : Hid (w.heap.size ≤ w7.heap.size ∧ w7.heap.size ≤ g ∧ g < w8.heap.size ∧ gz < w7.heap.size) := Lib.hid ⟨B7.out.size, hg1, hg2, Lies.lt Z7.out⟩
  have Z8 := Lib.hid (Z7.out.past b8)
  have I8 := Lib.hid (I7.out.past b8)
  have HIA : Hid (∀ b off, A6 = some ⟨b, off, none⟩ → b < w7.heap.size) := Lib.hid (by
    intro b off e
    obtain ⟨b', off', e', h1, -⟩ := I7.out.at_ (by decide)
    rw [e] at e'; injection e' with e'; injection e' with e'; omega)
  clear o8 i8 b8 p1 z0 z1 B7 Z7 I7 P7 hg1 hg2
  go_upto_region 8 with fail
  have gg := tb_box w8 0 (some ⟨g, 0, none⟩) 16 d
  have D9 := Lib.hid (tb_new w8 0 (some ⟨g, 0, none⟩) 16 d)
  have O9 := Lib.hid (O8.out.past gg)
  have Z9 := Lib.hid (Z8.out.past gg)
  have I9 := Lib.hid (I8.out.past gg)
  have B9 := Lib.hid (below_bs B8.out gg)
  clear gg B8 O8 Z8 I8
  generalize ((w8).alloc (.cells #[.int .i64 (0), .slice (some ⟨g, 0, none⟩) (16) d] 24)) = w9 at *
  generalize hgd : w8.heap.size = gd at *
  have d1 := D9.out.c1
  have hcl := O9.out.cell 255 (by rw [HN.out.2.2.2.2]; decide)
  have hfr := O9.out.frozen 255
  generalize nm0.fl.getD 255 0 = ov at *
  go_upto_region 9 with fail
  have O10 : Hid (OwnS (w9.setCell ⟨g, 255, none⟩ (.int .u8 193)) w7.heap.size (.slice (some ⟨g, 0, none⟩) 16 d) 16 nmB) := Lib.hid (by
    have := O9.out.store 255 193
    rw [show nm0.fl.set 255 193 = nmB by unfold nmB; rfl] at this; exact this)
  have D10 := Lib.hid (tb_own (g := 0) D9.out ⟨g, 255, none⟩ (by have := HG.out; simp; omega) (.int .u8 193))
  have Z10 := Lib.hid (tb_own (g := 0) Z9.out ⟨g, 255, none⟩ (by have := HG.out; simp; omega) (.int .u8 193))
  have I10 := Lib.hid (I9.out.other (p := ⟨g, 255, none⟩) (fun b off e => by have := HIA.out b off e; have := HG.out; simp; omega) (.int .u8 193))
  have B10 := Lib.hid (Below.setCell B9.out (p := ⟨g, 255, none⟩) (by have := HG.out; simp; omega) (.int .u8 193))
  clear d1 hcl hfr O9 D9 Z9 I9 B9
  generalize (w9.setCell ⟨g, 255, none⟩ (.int .u8 193)) = wa at *
  have J10 := Lib.hid (ins_own O10.out HBD.out.2)
  have d0 := D10.out.c0
  have d1 := D10.out.c1
  have dl := Lies.lt D10.out
  refine region_flow Fact Fact.grow (by kernel_rfl) (by kernel_rfl) (by kernel_rfl) ?steps ?fin
  case steps =>
    refine And.intro (fun vals W hW hd K hK => ?_) ?_
    · simp only [fl, Act.put, List.setIfInBounds_toArray, List.set_cons_zero, List.set_cons_succ, Nat.zero_add, Nat.reduceAdd] at hK ⊢
      go_simp
      exact hK _ _ (Below.refl _ _) ⟨0, none, 0, 0, [], rfl, ⟨by decide, by decide⟩, ⟨.inl rfl, rfl, Nat.le_refl _, by decide, by intro z h; cases h⟩, nm_bad0⟩
    refine And.intro (fun vals W hW hd K hK => ?_) ?_
    · (focus (simp only [fl, Act.put, List.setIfInBounds_toArray, List.set_cons_zero, List.set_cons_succ, Nat.zero_add, Nat.reduceAdd] at hK ⊢; (have hmk : ∀ W : World, (Instr.makeSlice 22 (.int .i64 4096) (.int .i64 4096)).run Try.prog W = .ok (.slice (some ⟨W.heap.size, 0, none⟩) 4096 4096) (W.alloc (.cells (zS 4096) 31)) := fun W => mkS 4096 (by omega) W); go_simp; exact hK _ _ (grows_alloc _ _) (mkS_new W 4096 (by decide))))
    refine And.intro (fun vals W hW hd K hK => ?_) ?_
    · (focus ((have hdd : MkS 4096 (vals 1) W := hd 1 (of_decide_eq_true (by kernel_rfl))); obtain ⟨g, hv, hi⟩ := hdd; simp only [fl, Act.put, List.setIfInBounds_toArray, List.set_cons_zero, List.set_cons_succ, Nat.zero_add, Nat.reduceAdd] at hK ⊢; rw [hv] at hK ⊢; clear hv; go_simp; refine hK _ _ (Below.refl _ _) ?_; exact ⟨8, _, _, _, _, rfl, ⟨by decide, by decide⟩, hi, nm_bad1 _⟩))
    refine And.intro (fun vals W hW hd K hK => ?_) ?_
    · (focus (simp only [fl, Act.put, List.setIfInBounds_toArray, List.set_cons_zero, List.set_cons_succ, Nat.zero_add, Nat.reduceAdd] at hK ⊢; (have hmk : ∀ W : World, (Instr.makeSlice 22 (.int .i64 8) (.int .i64 8)).run Try.prog W = .ok (.slice (some ⟨W.heap.size, 0, none⟩) 8 8) (W.alloc (.cells (zS 8) 31)) := fun W => mkS 8 (by omega) W); go_simp; exact hK _ _ (grows_alloc _ _) (mkS_new W 8 (by decide))))
    refine And.intro (fun vals W hW hd K hK => ?_) ?_
    · (focus ((have hdd : MkS 8 (vals 3) W := hd 3 (of_decide_eq_true (by kernel_rfl))); obtain ⟨g, hv, hi⟩ := hdd; simp only [fl, Act.put, List.setIfInBounds_toArray, List.set_cons_zero, List.set_cons_succ, Nat.zero_add, Nat.reduceAdd] at hK ⊢; rw [hv] at hK ⊢; clear hv; go_simp; refine hK _ _ (Below.refl _ _) ?_; exact ⟨(-1), _, _, _, _, rfl, ⟨by decide, by decide⟩, hi, nm_bad2 _⟩))
    refine And.intro (fun vals W hW hd K hK => ?_) ?_
    · (focus (simp only [fl, Act.put, List.setIfInBounds_toArray, List.set_cons_zero, List.set_cons_succ, Nat.zero_add, Nat.reduceAdd] at hK ⊢; (have hmk : ∀ W : World, (Instr.makeSlice 22 (.int .i64 16) (.int .i64 16)).run Try.prog W = .ok (.slice (some ⟨W.heap.size, 0, none⟩) 16 16) (W.alloc (.cells (zS 16) 31)) := fun W => mkS 16 (by omega) W); go_simp; exact hK _ _ (grows_alloc _ _) (mkS_new W 16 (by decide))))
    refine And.intro (fun vals W hW hd K hK => ?_) ?_
    · (focus ((have hdd : MkS 16 (vals 5) W := hd 5 (of_decide_eq_true (by kernel_rfl))); obtain ⟨g, hv, hi⟩ := hdd; simp only [fl, Act.put, List.setIfInBounds_toArray, List.set_cons_zero, List.set_cons_succ, Nat.zero_add, Nat.reduceAdd] at hK ⊢; rw [hv] at hK ⊢; clear hv; go_simp; refine hK _ _ (Below.refl _ _) ?_; exact ⟨1, _, _, _, _, rfl, ⟨by decide, by decide⟩, hi, nm_bad3 _⟩))
    refine And.intro (fun vals W hW hd K hK => ?_) ?_
    · have e0 := cell_keep hW d0 dl
      have e1 := cell_keep hW d1 dl
      simp only [fl, Act.put, List.setIfInBounds_toArray, List.set_cons_zero, List.set_cons_succ, Nat.zero_add, Nat.reduceAdd] at hK ⊢
      go_simp
      exact hK _ _ (Below.refl _ _) ⟨0, _, _, _, _, rfl, ⟨by decide, by decide⟩, J10.out.past hW, nm_bad4⟩
    refine And.intro (fun vals W hW hd K hK => ?_) ?_
    · obtain ⟨l0, a0, n0, q0, f0, e0, v0, i0, x0⟩ : BadS (vals 0) W := hd 0 (of_decide_eq_true (by kernel_rfl))
      obtain ⟨l1, a1, n1, q1, f1, e1, v1, i1, x1⟩ : BadS (vals 2) W := hd 2 (of_decide_eq_true (by kernel_rfl))
      obtain ⟨l2, a2, n2, q2, f2, e2, v2, i2, x2⟩ : BadS (vals 4) W := hd 4 (of_decide_eq_true (by kernel_rfl))
      obtain ⟨l3, a3, n3, q3, f3, e3, v3, i3, x3⟩ : BadS (vals 6) W := hd 6 (of_decide_eq_true (by kernel_rfl))
      obtain ⟨l4, a4, n4, q4, f4, e4, v4, i4, x4⟩ : BadS (vals 7) W := hd 7 (of_decide_eq_true (by kernel_rfl))
      simp only [fl, Act.put, List.setIfInBounds_toArray, List.set_cons_zero, List.set_cons_succ, Nat.zero_add, Nat.reduceAdd] at hK ⊢
      rw [e0, e1, e2, e3, e4] at hK ⊢
      go_simp
      have F := Lies.fresh W 24 [.int .i64 l0, .slice a0 n0 q0, .int .i64 l1, .slice a1 n1 q1, .int .i64 l2, .slice a2 n2 q2, .int .i64 l3, .slice a3 n3 q3, .int .i64 l4, .slice a4 n4 q4]
      refine hK _ _ (grows_alloc _ _) ⟨W.heap.size, rfl, F.lt, fun j hj => ?_⟩
      rcases (show j = 0 ∨ j = 1 ∨ j = 2 ∨ j = 3 ∨ j = 4 by omega) with rfl | rfl | rfl | rfl | rfl
      · exact ⟨_, _, _, _, _, F.cell 0, F.cell 1, v0, i0.past (grows_alloc _ _), x0⟩
      · exact ⟨_, _, _, _, _, F.cell 2, F.cell 3, v1, i1.past (grows_alloc _ _), x1⟩
      · exact ⟨_, _, _, _, _, F.cell 4, F.cell 5, v2, i2.past (grows_alloc _ _), x2⟩
      · exact ⟨_, _, _, _, _, F.cell 6, F.cell 7, v3, i3.past (grows_alloc _ _), x3⟩
      · exact ⟨_, _, _, _, _, F.cell 8, F.cell 9, v4, i4.past (grows_alloc _ _), x4⟩
    refine And.intro (fun vals W hW hd K hK => ?_) ?_
    · have h8 : Fact 8 (vals 8) W := hd 8 (of_decide_eq_true (by kernel_rfl))
      simp only [fl, Act.put, List.setIfInBounds_toArray, List.set_cons_zero, List.set_cons_succ, Nat.zero_add, Nat.reduceAdd] at hK ⊢
      go_simp
      exact hK _ _ (Below.refl _ _) h8
    exact trivial
  case fin =>
    intro vals W hW hall
    obtain ⟨ga, ea, hrow⟩ : ∃ g, vals 9 = .slice (some ⟨g, 0, none⟩) 5 5 ∧ RowS g W := hall 9 (by decide)
    have HROW : Hid (RowS ga W) := Lib.hid hrow
    have BW := Lib.hid (below_bs B10.out hW)
    have ZW := Lib.hid (Z10.out.past hW)
    have IW := Lib.hid (I10.out.past hW)
    simp only [fl, Act.put, List.setIfInBounds_toArray, List.set_cons_zero, List.set_cons_succ, Nat.zero_add, Nat.reduceAdd]
    rw [ea]
    clear hall hrow hW B10 Z10 I10 D10 J10 O10 d0 d1 dl ea
    go_wp2_with fail
    go_loopw [11] (fun iv wr => ∃ i : Nat, i ≤ 5 ∧ iv = .int .i64 i ∧ Below W.heap.size W wr) (fun iv _ => 5 - (intOf iv).toNat)
    case atStart => exact ⟨0, by omega, rfl, Below.refl _ _⟩
    case round =>
      obtain ⟨i, hi, rfl, hbr⟩ := hrel
      rename World => wr
      have BR := Lib.hid hbr
      clear hbr
      by_cases hlt : i < 5
      · obtain ⟨lv, A, n, c, fl, y0, y1, hlv, hI, hno⟩ := (RowS.grow HROW.out BR.out).2 i hlt
        have hgl := (RowS.grow HROW.out BR.out).1
        have HLT := Lib.hid hlt
        have i1 : (i : Int) < 5 := by omega
        have HLV := Lib.hid hlv
        have HI := Lib.hid hI
        have H8 := Lib.hid (all8 hno)
        have HC : Hid (∀ w', Below wr.heap.size wr w' → w'.cell? ⟨ga, i * 2, none⟩ = some (.int .i64 lv) ∧ w'.cell? ⟨ga, i * 2 + 1, none⟩ = some (.slice A n c)) := Lib.hid (fun w' h => by
          rw [Nat.mul_comm 2 i] at y0 y1
          exact ⟨cell_keep h y0 hgl, cell_keep h y1 hgl⟩)
        clear hi hlt y0 y1 hlv hI hno hgl
        have c0 := (HC.out wr (Below.refl _ _)).1
        have c1 := (HC.out wr (Below.refl _ _)).2
        go_wp2_with fail
        refine (Find_any lv A n c fl 0 wr HLV.out.1 HLV.out.2 HI.out (by decide) (by decide)).mono ?_
        rintro e x1 ⟨A1, q1, rfl, -, b1⟩
        rw [(H8.out 0 0 0 0).2.2.2]
        have K1 := Lib.hid b1
        clear b1 c0 c1
        go_upto_region 14 with fail
        have gg := tb_box x1 (fdT lv n fl 0).lv A1 (fdT lv n fl 0).n q1
        have K2 := Lib.hid (below_bs K1.out gg)
        clear gg K1
        generalize ((x1).alloc (.cells #[.int .i64 ((fdT lv n fl 0).lv), .slice A1 ((fdT lv n fl 0).n) q1] 24)) = x2 at *
        have c0 := (HC.out x2 K2.out).1
        have c1 := (HC.out x2 K2.out).2
        go_wp2_with fail
        refine (Get_any lv A n c fl (-1) 0 x2 HLV.out.1 HLV.out.2 (HI.out.past K2.out)).mono ?_
        rintro e x3 ⟨rfl, b3⟩
        rw [(H8.out (-1) 0 0 0).1]
        have K3 := Lib.hid (below_bs K2.out b3)
        clear b3 c0 c1 K2
        have c0 := (HC.out x3 K3.out).1
        have c1 := (HC.out x3 K3.out).2
        go_wp2_with fail
        refine (Set_any lv A n c fl (-1) 0 255 x3 HLV.out.1 HLV.out.2 (HI.out.past K3.out) (by decide) (by decide)).mono ?_
        rintro e x4 ⟨A4, q4, rfl, -, b4⟩
        rw [(H8.out (-1) 0 255 0).2.1]
        have K4 := Lib.hid (below_bs K3.out b4)
        clear b4 c0 c1 K3
        go_upto_region 16 with fail
        have gg := tb_box x4 (setT lv n fl (-1) 0 255).lv A4 (setT lv n fl (-1) 0 255).n q4
        have K5 := Lib.hid (below_bs K4.out gg)
        clear gg K4
        generalize ((x4).alloc (.cells #[.int .i64 ((setT lv n fl (-1) 0 255).lv), .slice A4 ((setT lv n fl (-1) 0 255).n) q4] 24)) = x5 at *
        have c0 := (HC.out x5 K5.out).1
        have c1 := (HC.out x5 K5.out).2
        go_wp2_with fail
        refine (Bit_any lv A n c fl (-1) 0 2 x5 HLV.out.1 HLV.out.2 (HI.out.past K5.out) (by decide) (by decide)).mono ?_
        rintro e x6 ⟨A6', q6, rfl, -, b6⟩
        rw [(H8.out (-1) 0 0 2).2.2.1]
        have K6 := Lib.hid (below_bs K5.out b6)
        clear b6 c0 c1 K5
        go_upto_region 17 with fail
        have gg := tb_box x6 (bitT lv n fl (-1) 0 2).lv A6' (bitT lv n fl (-1) 0 2).n q6
        have K7 := Lib.hid (below_bs K6.out gg)
        clear gg K6
        generalize ((x6).alloc (.cells #[.int .i64 ((bitT lv n fl (-1) 0 2).lv), .slice A6' ((bitT lv n fl (-1) 0 2).n) q6] 24)) = x7 at *
        have c0 := (HC.out x7 K7.out).1
        have c1 := (HC.out x7 K7.out).2
        go_wp2_with fail
        refine (Check_any lv A n c fl x7 HLV.out.1 HLV.out.2 (HI.out.past K7.out)).mono ?_
        rintro e x8 ⟨rfl, b8⟩
        rw [(H8.out 0 0 0 0).2.2.2]
        have K8 := Lib.hid (below_bs (below_bs BR.out K7.out) b8)
        clear b8 c0 c1 K7
        go_wp2_with fail
        exact ⟨⟨i + 1, by have := HLT.out; omega, by go_num, K8.out⟩, by simp [intOf]; have := HLT.out; omega⟩
      · have i1 : ¬ (i : Int) < 5 := by omega
        have B0 := Lib.hid (below_bs BW.out BR.out)
        have Z0 := Lib.hid (ZW.out.past BR.out)
        have I0 := Lib.hid (IW.out.past BR.out)
        have HGG := Lib.hid nm_g
        have HSS := Lib.hid nm_s
        have HFF := Lib.hid nm_f
        have HF2 := Lib.hid nm_f2
        have HHH := Lib.hid nm_h
        have HLL := Lib.hid nm_lv
        have HB2 := Lib.hid nm_bd2
        clear hi hlt BW ZW IW HROW
        rename World => v0
        have t0 := Z0.out.c0
        have t1 := Z0.out.c1
        go_wp2_with fail
        refine (Get_any 0 A6 16 c6 nm0.fl 16 1 v0 (by decide) (by decide) I0.out).mono ?_
        rintro e v1 ⟨rfl, b⟩
        rw [HGG.out.1]
        clear t0 t1
        have B1 := Lib.hid (below_bs B0.out b)
        have Z1 := Lib.hid (Z0.out.past b)
        have I1 := Lib.hid (I0.out.past b)
        clear b B0 Z0 I0
        have t0 := Z1.out.c0
        have t1 := Z1.out.c1
        go_wp2_with fail
        refine (Get_any 0 A6 16 c6 nm0.fl 0 16 v1 (by decide) (by decide) I1.out).mono ?_
        rintro e v2 ⟨rfl, b⟩
        rw [HGG.out.2.1]
        clear t0 t1
        have B2 := Lib.hid (below_bs B1.out b)
        have Z2 := Lib.hid (Z1.out.past b)
        have I2 := Lib.hid (I1.out.past b)
        clear b B1 Z1 I1
        have t0 := Z2.out.c0
        have t1 := Z2.out.c1
        go_wp2_with fail
        refine (Get_any 0 A6 16 c6 nm0.fl 0 0 v2 (by decide) (by decide) I2.out).mono ?_
        rintro e v3 ⟨rfl, b⟩
        rw [HGG.out.2.2.1]
        clear t0 t1
        have B3 := Lib.hid (below_bs B2.out b)
        have Z3 := Lib.hid (Z2.out.past b)
        have I3 := Lib.hid (I2.out.past b)
        clear b B2 Z2 I2
        have t0 := Z3.out.c0
        have t1 := Z3.out.c1
        go_wp2_with fail
        refine (Set_any 0 A6 16 c6 nm0.fl (-1) 1 0 v3 (by decide) (by decide) I3.out (by decide) (by decide)).mono ?_
        rintro e v4 ⟨A3', q3, rfl, -, b⟩
        rw [HGG.out.2.2.2.1]
        clear t0 t1
        have B4 := Lib.hid (below_bs B3.out b)
        have Z4 := Lib.hid (Z3.out.past b)
        have I4 := Lib.hid (I3.out.past b)
        clear b B3 Z3 I3
        go_upto_region 23 with fail
        have gg := tb_box v4 (setT 0 16 nm0.fl (-1) 1 0).lv A3' (setT 0 16 nm0.fl (-1) 1 0).n q3
        have B5 := Lib.hid (below_bs B4.out gg)
        have Z5 := Lib.hid (Z4.out.past gg)
        have I5 := Lib.hid (I4.out.past gg)
        clear gg B4 Z4 I4
        generalize ((v4).alloc (.cells #[.int .i64 ((setT 0 16 nm0.fl (-1) 1 0).lv), .slice A3' ((setT 0 16 nm0.fl (-1) 1 0).n) q3] 24)) = v5 at *
        have t0 := Z5.out.c0
        have t1 := Z5.out.c1
        go_wp2_with fail
        refine (Set_any 0 A6 16 c6 nm0.fl 0 1 193 v5 (by decide) (by decide) I5.out (by decide) (by decide)).mono ?_
        rintro e v6 ⟨A5', q5, rfl, -, b⟩
        rw [HGG.out.2.2.2.2.1]
        clear t0 t1
        have B6 := Lib.hid (below_bs B5.out b)
        have Z6 := Lib.hid (Z5.out.past b)
        have I6 := Lib.hid (I5.out.past b)
        clear b B5 Z5 I5
        go_upto_region 24 with fail
        have gg := tb_box v6 (setT 0 16 nm0.fl 0 1 193).lv A5' (setT 0 16 nm0.fl 0 1 193).n q5
        have B7 := Lib.hid (below_bs B6.out gg)
        have Z7 := Lib.hid (Z6.out.past gg)
        have I7 := Lib.hid (I6.out.past gg)
        clear gg B6 Z6 I6
        generalize ((v6).alloc (.cells #[.int .i64 ((setT 0 16 nm0.fl 0 1 193).lv), .slice A5' ((setT 0 16 nm0.fl 0 1 193).n) q5] 24)) = v7 at *
        have t0 := Z7.out.c0
        have t1 := Z7.out.c1
        go_wp2_with fail
        refine (Bit_any 0 A6 16 c6 nm0.fl 0 1 2 v7 (by decide) (by decide) I7.out (by decide) (by decide)).mono ?_
        rintro e v8 ⟨A7', q7, rfl, -, b⟩
        rw [HGG.out.2.2.2.2.2]
        clear t0 t1
        have B8 := Lib.hid (below_bs B7.out b)
        have Z8 := Lib.hid (Z7.out.past b)
        have I8 := Lib.hid (I7.out.past b)
        clear b B7 Z7 I7
        go_upto_region 25 with fail
        have gg := tb_box v8 (bitT 0 16 nm0.fl 0 1 2).lv A7' (bitT 0 16 nm0.fl 0 1 2).n q7
        have B9 := Lib.hid (below_bs B8.out gg)
        have Z9 := Lib.hid (Z8.out.past gg)
        have I9 := Lib.hid (I8.out.past gg)
        clear gg B8 Z8 I8
        generalize ((v8).alloc (.cells #[.int .i64 ((bitT 0 16 nm0.fl 0 1 2).lv), .slice A7' ((bitT 0 16 nm0.fl 0 1 2).n) q7] 24)) = v9 at *
        have t0 := Z9.out.c0
        have t1 := Z9.out.c1
        go_wp2_with fail
        refine (Set_any 0 A6 16 c6 nm0.fl 15 15 192 v9 (by decide) (by decide) I9.out (by decide) (by decide)).mono ?_
        rintro e v10 ⟨AS, qs, rfl, o, b⟩
        rw [HSS.out.1]
        rw [show setT 0 16 nm0.fl 15 15 192 = nmS by unfold nmS; rfl] at o ⊢
        have S10 := Lib.hid (ins_own o HB2.out.1)
        clear t0 t1 o
        have B10 := Lib.hid (below_bs B9.out b)
        have Z10 := Lib.hid (Z9.out.past b)
        have I10 := Lib.hid (I9.out.past b)
        clear b B9 Z9 I9
        go_upto_region 26 with fail
        have gg := tb_box v10 nmS.lv AS nmS.n qs
        have ST11 := Lib.hid (tb_new v10 nmS.lv AS nmS.n qs)
        have B11 := Lib.hid (below_bs B10.out gg)
        have Z11 := Lib.hid (Z10.out.past gg)
        have I11 := Lib.hid (I10.out.past gg)
        have S11 := Lib.hid (S10.out.past gg)
        clear gg B10 Z10 I10 S10
        generalize ((v10).alloc (.cells #[.int .i64 (nmS.lv), .slice AS (nmS.n) qs] 24)) = v11 at *
        generalize v10.heap.size = gs at *
        have t0 := ST11.out.c0
        have t1 := ST11.out.c1
        go_wp2_with fail
        refine (Get_any nmS.lv AS nmS.n qs nmS.fl 15 15 v11 (by rw [HLL.out.1]; decide) (by rw [HLL.out.1]; decide) S11.out).mono ?_
        rintro e v12 ⟨rfl, b⟩
        rw [HSS.out.2.1, HSS.out.2.2]
        clear t0 t1
        have B12 := Lib.hid (below_bs B11.out b)
        have Z12 := Lib.hid (Z11.out.past b)
        have I12 := Lib.hid (I11.out.past b)
        clear b B11 Z11 I11
        have t0 := Z12.out.c0
        have t1 := Z12.out.c1
        go_wp2_with fail
        refine (Find_any 0 A6 16 c6 nm0.fl 9 v12 (by decide) (by decide) I12.out (by decide) (by decide)).mono ?_
        rintro e v13 ⟨AF, qf, rfl, o, b⟩
        rw [HFF.out.1, HFF.out.2.1]
        rw [show fdT 0 16 nm0.fl 9 = nmF by unfold nmF; rfl] at o ⊢
        rw [HF2.out.1, HF2.out.2.1]
        rw [HF2.out.2.1, HF2.out.2.2] at o
        have F13 := Lib.hid (ins_own o HBD.out.1)
        clear t0 t1 o
        have B13 := Lib.hid (below_bs B12.out b)
        have Z13 := Lib.hid (Z12.out.past b)
        have I13 := Lib.hid (I12.out.past b)
        clear b B12 Z12 I12
        go_upto_region 28 with fail
        have gg := tb_box v13 0 AF 16 qf
        have FT14 := Lib.hid (tb_new v13 0 AF 16 qf)
        have B14 := Lib.hid (below_bs B13.out gg)
        have Z14 := Lib.hid (Z13.out.past gg)
        have I14 := Lib.hid (I13.out.past gg)
        have F14 := Lib.hid (F13.out.past gg)
        clear gg B13 Z13 I13 F13
        generalize ((v13).alloc (.cells #[.int .i64 (0), .slice AF (16) qf] 24)) = v14 at *
        generalize v13.heap.size = gf at *
        have t0 := Z14.out.c0
        have t1 := Z14.out.c1
        go_wp2_with fail
        refine (Find_any 0 A6 16 c6 nm0.fl 4294967289 v14 (by decide) (by decide) I14.out (by decide) (by decide)).mono ?_
        rintro e v15 ⟨AG, qg, rfl, o, b⟩
        rw [HFF.out.2.2, HFF.out.2.1]
        rw [show fdT 0 16 nm0.fl 4294967289 = nmG by unfold nmG; rfl] at o ⊢
        have G15 := Lib.hid (ins_own o HB2.out.2.1)
        clear t0 t1 o
        have B15 := Lib.hid (below_bs B14.out b)
        have Z15 := Lib.hid (Z14.out.past b)
        have I15 := Lib.hid (I14.out.past b)
        have F15 := Lib.hid (F14.out.past b)
        have FT15 := Lib.hid (FT14.out.past b)
        clear b B14 Z14 I14 F14 FT14
        go_upto_region 29 with fail
        have gg := tb_box v15 nmG.lv AG nmG.n qg
        have GT16 := Lib.hid (tb_new v15 nmG.lv AG nmG.n qg)
        have B16 := Lib.hid (below_bs B15.out gg)
        have Z16 := Lib.hid (Z15.out.past gg)
        have I16 := Lib.hid (I15.out.past gg)
        have F16 := Lib.hid (F15.out.past gg)
        have FT16 := Lib.hid (FT15.out.past gg)
        have G16 := Lib.hid (G15.out.past gg)
        clear gg B15 Z15 I15 F15 FT15 G15
        generalize ((v15).alloc (.cells #[.int .i64 (nmG.lv), .slice AG (nmG.n) qg] 24)) = v16 at *
        generalize v15.heap.size = gg2 at *
        have t0 := GT16.out.c0
        have t1 := GT16.out.c1
        go_wp2_with fail
        refine (Bit_any nmG.lv AG nmG.n qg nmG.fl 9 1 0 v16 (by rw [HLL.out.2.1]; decide) (by rw [HLL.out.2.1]; decide) G16.out (by decide) (by decide)).mono ?_
        rintro e v17 ⟨AH, qh, rfl, o, b⟩
        rw [HHH.out.1]
        rw [show bitT nmG.lv nmG.n nmG.fl 9 1 0 = nmH by unfold nmH; rfl] at o ⊢
        have H17 := Lib.hid (ins_own o HB2.out.2.2)
        clear t0 t1 o
        have B17 := Lib.hid (below_bs B16.out b)
        have Z17 := Lib.hid (Z16.out.past b)
        have I17 := Lib.hid (I16.out.past b)
        have F17 := Lib.hid (F16.out.past b)
        have FT17 := Lib.hid (FT16.out.past b)
        clear b B16 Z16 I16 F16 FT16
        go_upto_region 30 with fail
        have gg := tb_box v17 nmH.lv AH nmH.n qh
        have HT18 := Lib.hid (tb_new v17 nmH.lv AH nmH.n qh)
        have B18 := Lib.hid (below_bs B17.out gg)
        have Z18 := Lib.hid (Z17.out.past gg)
        have I18 := Lib.hid (I17.out.past gg)
        have F18 := Lib.hid (F17.out.past gg)
        have FT18 := Lib.hid (FT17.out.past gg)
        have H18 := Lib.hid (H17.out.past gg)
        clear gg B17 Z17 I17 F17 FT17 H17
        generalize ((v17).alloc (.cells #[.int .i64 (nmH.lv), .slice AH (nmH.n) qh] 24)) = v18 at *
        generalize v17.heap.size = gh at *
        have t0 := HT18.out.c0
        have t1 := HT18.out.c1
        go_wp2_with fail
        refine (Find_any nmH.lv AH nmH.n qh nmH.fl 16777225 v18 (by rw [HLL.out.2.2]; decide) (by rw [HLL.out.2.2]; decide) H18.out (by decide) (by decide)).mono ?_
        rintro e v19 ⟨AK, qk, rfl, -, b⟩
        rw [HHH.out.2.1, HHH.out.2.2]
        clear t0 t1
        have B19 := Lib.hid (below_bs B18.out b)
        have Z19 := Lib.hid (Z18.out.past b)
        have I19 := Lib.hid (I18.out.past b)
        have F19 := Lib.hid (F18.out.past b)
        have FT19 := Lib.hid (FT18.out.past b)
        clear b B18 Z18 I18 F18 FT18
        have gg := tb_box v19 (fdT nmH.lv nmH.n nmH.fl 16777225).lv AK (fdT nmH.lv nmH.n nmH.fl 16777225).n qk
        have BY0 := Lib.hid (below_bs B19.out gg)
        have F20 := Lib.hid (F19.out.past gg)
        have I20 := Lib.hid (I19.out.past gg)
        have t0 := (Z19.out.past gg).c0
        have t1 := (Z19.out.past gg).c1
        have s0 := (FT19.out.past gg).c0
        have s1 := (FT19.out.past gg).c1
        clear gg
        go_wp2_with fail
        refine (Same_yes 0 AF A6 16 qf c6 nm0.fl _ F20.out I20.out).mono ?_
        rintro e vx ⟨rfl, bx⟩
        have BX := Lib.hid (below_bs BY0.out bx)
        clear bx t0 t1 s0 s1
        go_wp2_with fail
        refine (alive_any vx).mono ?_
        rintro e vy ⟨rfl, by_⟩
        have BY := Lib.hid (below_bs BX.out by_)
        clear by_
        go_wp2_with fail
        go_ret
        exact ⟨rfl, BY.out⟩
end Go.Proofs.Ytkklmclnjmafaaa.slL
