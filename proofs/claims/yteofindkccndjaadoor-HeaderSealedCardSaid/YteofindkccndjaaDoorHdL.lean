/- The chapter's examples, by a walk. -/
import Derived.Test.YteofindkccndjaaDoorHdE
namespace Go.Proofs.YteofindkccndjaaDoor.hdP
set_option maxRecDepth 100000
def exH : Hd := ⟨1, 3, 512, 16, 16, List.replicate 20 0⟩
def exC : Hd := ⟨2, 3, 512, 16, 16, List.replicate 20 0⟩
theorem exH_ok : Ok exH := by decide
theorem exC_no : ¬ Ok exC := by decide
theorem exH_bd : Bd exH := ⟨by decide, by decide, by decide, by decide, by decide, by decide, by intro z hz; simp [exH] at hz; omega⟩
theorem exC_bd : Bd exC := ⟨by decide, by decide, by decide, by decide, by decide, by decide, by intro z hz; simp [exC] at hz; omega⟩
theorem exH_by : by_ exH = [1, 3, 2, 0, 0, 16, 0, 16] ++ List.replicate 20 0 := by decide
end Go.Proofs.YteofindkccndjaaDoor.hdP
namespace Go.Proofs.YteofindkccndjaaDoor.hdW
set_option maxRecDepth 100000
open Go.RowKit Go.Proofs.YteofindkccndjaaDoor.base Go.Proofs.YteofindkccndjaaDoor.hdP
set_option linter.unusedVariables false
set_option linter.unusedSimpArgs false
set_option maxRecDepth 100000
theorem mode_set {w : World} {g : Nat} (k : HdAt w g exH) : HdAt (w.setCell ⟨g, 0, none⟩ (.int .u8 2)) g exC := Lies.set k 0 (.int .u8 2)
theorem HdAt.f0 {w : World} {g : Nat} {h : Hd} (k : HdAt w g h) : w.frozen? ⟨g, 0, none⟩ = false := Lies.free k 0
theorem example_any (w : World) : Calls Tryd.prog 21 #[] w fun e w' => e = .returned (.agg (hv exH)) ∧ Below w.heap.size w w' := by
  have HZ := Lib.hid (hdAt_new w nul)
  have zv := zv_nul
  have B0 : Hid (Below w.heap.size w (w.alloc (.cells (hv nul) 25))) := Lib.hid (by (repeat' (first | (with_reducible exact Below.refl _ _) | (with_reducible assumption) | (with_reducible refine below_drewN ?_ _) | (with_reducible refine below_new ?_ _) | (with_reducible refine Below.alloc ?_ ?_ _) | (with_reducible refine Below.drew ?_) | (with_reducible refine Below.setCell ?_ ?_ _) | (with_reducible apply below_at; (case k => (with_reducible assumption)); (case hB => omega)) | (with_reducible apply below_on; (with_reducible assumption)) | (go_size; done) | (with_reducible apply size_of))))
  have bl : ∀ w : World, (Instr.build 25 #[(0, .int .u8 1), (1, .int .i64 3), (2, .int .i64 512), (3, .int .i64 16), (4, .int .i64 16)]).run Tryd.prog w = .ok (.agg (hv exH)) w := fun w => bld_five w 1 3 512 16 16
  go_enter Tryd.func21, Tryd.ntmps21
  go_upto_region 1 with fail
  clear zv bl
  go_wp2_with (first | (show wpList _ _ _ ({ dst := none, op := Op.store 25 _ _, type := _, pos := _, after := _, guard := none } :: _) _ _; go_must (refine wp_st (g := w.heap.size) (h := exH) rfl _ _ rfl (HZ.out) (nul_bd) (exH_bd) rfl (by unfold hv; rfl) ?_); intro w9 hR9 hb9 hz9))
  refine bodyPost_ret (results_cell_row (by exact Tryd.results21) _ _ w.heap.size 25 (hv exH) (0, 0) _ rfl hR9.row Tryd.underlying25 rfl (info25 exH exH_bd)) rfl ⟨rfl, B0.out.trans hb9⟩
theorem has_win {w : World} {bb off : Nat} {zs : List Int} (h : Has .u8 w (some ⟨bb, off, none⟩) zs) (q m : Nat) : Has .u8 w (some ⟨bb, off + q, none⟩) ((zs.drop q).take m) := by
  rcases Nat.eq_zero_or_pos zs.length with h0 | h0
  · exact .inl (by rw [List.eq_nil_of_length_eq_zero h0]; simp)
  · obtain ⟨b, o, he, hb, hc⟩ := has_some h h0
    injection he with he; injection he with h1 h2; subst h1; subst h2
    refine .inr ⟨bb, off + q, rfl, hb, fun i hi => ?_⟩
    have hi2 : q + i < zs.length := by simp at hi; omega
    have hi3 : i < m := by simp at hi; omega
    rw [Nat.add_assoc, hc _ hi2]
    congr 2
    rw [List.getD_eq_getElem?_getD, List.getD_eq_getElem?_getD, List.getElem?_take, if_pos hi3, List.getElem?_drop]
theorem has_fst {w : World} {bb off : Nat} {zs : List Int} (h : Has .u8 w (some ⟨bb, off, none⟩) zs) (m : Nat) : Has .u8 w (some ⟨bb, off, none⟩) (zs.take m) := by
  have := has_win h 0 m
  rwa [Nat.add_zero, List.drop_zero] at this
set_option maxHeartbeats 1600000 in
theorem alive (w : World) (hT : TabP w) : Calls Tryd.prog 23 #[] w fun e w' => e = .returned (.bool true) ∧ Below w.heap.size w w' := by
  have HT := Lib.hid hT
  have zv := zv_nul
  have HZ := hdAt_new
  clear hT
  go_enter Tryd.func23, Tryd.ntmps23
  go_wp2_with fail
  refine (example_any w).mono ?_
  rintro e w1 ⟨rfl, b1⟩
  have B1 := Lib.hid b1
  clear b1
  go_wp2_with fail
  refine (Encode_any exH w1 (HT.out.past B1.out) exH_bd).mono ?_
  rintro e w2 ⟨A2, n2, c2, rfl, hn2, o2, b2⟩
  rw [show enV exH = by_ exH from if_pos exH_ok] at hn2 o2
  obtain rfl : 28 = n2 := by rw [← hn2, by_len exH_bd]
  have HO2 := Lib.hid o2
  have B2 := Lib.hid (below_bs B1.out b2)
  rw [hdE_yes exH_ok]
  clear hn2 o2 b2 B1
  go_wp2_with fail
  refine (example_any w2).mono ?_
  rintro e w3 ⟨rfl, b3⟩
  have HO3 := Lib.hid (HO2.out.past b3)
  have B3 := Lib.hid (below_bs B2.out b3)
  clear b3 B2 HO2
  have mk := fun w => mkz 27 (by omega) w
  rw [show ((27 : Nat) : Int) = 27 from rfl] at mk
  have hpa : paV (List.replicate 27 0) = nul ∧ paE (List.replicate 27 0) = 12 := by
    have t : ¬ paB (List.replicate 27 0) := fun h => absurd h.1 (by decide)
    exact ⟨if_neg t, if_neg t⟩
  have HPA := Lib.hid hpa
  clear hpa
  go_wp2_with (first | ((show wpList _ _ _ ({ dst := none, op := Op.store 25 _ _, type := _, pos := _, after := _, guard := none } :: _) _ _; go_must (refine wp_st (g := w3.heap.size) (h := exH) rfl _ _ rfl (HZ w3 nul) (nul_bd) (exH_bd) rfl rfl ?_); intro w4 hR4 hb4 hz4); have z0 := hR4.c0; have z1 := hR4.f0))
  have G4 : Below w3.heap.size w3 w4 := (((Below.refl w3.heap.size w3).alloc (Nat.le_refl _) (.cells (hv nul) 25)).trans hb4)
  have G5 := G4.setCell (p := ⟨w3.heap.size, 0, none⟩) (Nat.le_refl _) (.int .u8 2)
  have HR5 := Lib.hid (mode_set hR4)
  have HO5 := Lib.hid (HO3.out.past G5)
  have B5 := Lib.hid (below_bs B3.out G5)
  have HS5 : Hid ((w4.setCell ⟨w3.heap.size, 0, none⟩ (.int .u8 2)).heap.size = w3.heap.size + 1) := Lib.hid (by simp [hz4])
  clear G4 G5 hR4 hb4 hz4 z0 z1 HO3 B3
  generalize (w4.setCell ⟨w3.heap.size, 0, none⟩ (.int .u8 2)) = w5 at *
  have G6 := (Below.refl w5.heap.size w5).alloc (Nat.le_refl _) (.cells (zC 27) 5)
  refine (Parse_any (List.replicate 27 0) _ 27 27 _ (HT.out.past (below_bs B5.out G6)) (has_zC w5 _ 27 (by decide) HS5.out) (List.length_replicate ..) (Nat.le_refl _) (by omega) (by intro z hz; rw [(List.mem_replicate.1 hz).2]; omega)).mono ?_
  rintro e w6 ⟨rfl, b6⟩
  rw [HPA.out.1, HPA.out.2]
  have G7 := below_bs G6 b6
  have HR7 := Lib.hid (HR5.out.past G7)
  have HO7 := Lib.hid (HO5.out.past G7)
  have B7 := Lib.hid (below_bs B5.out G7)
  clear G6 G7 b6 HR5 HO5 B5 HPA mk
  go_upto_region 5 with (first | (show wpList _ _ _ ({ dst := none, op := Op.store 25 _ _, type := _, pos := _, after := _, guard := none } :: _) _ _; go_must (refine wp_st (g := w6.heap.size) (h := nul) rfl _ _ rfl (HZ w6 nul) (nul_bd) (nul_bd) rfl rfl ?_); intro w7 hR8 hb8 hz8))
  have G8 : Below w6.heap.size w6 w7 := (((Below.refl w6.heap.size w6).alloc (Nat.le_refl _) (.cells (hv nul) 25)).trans hb8)
  have HO8 := Lib.hid (HO7.out.past G8)
  have HR8 := Lib.hid (HR7.out.past G8)
  have B8 := Lib.hid (below_bs B7.out G8)
  have HC2 : Hid (28 ≤ c2) := Lib.hid (by
    obtain ⟨A, cap, h1, h2, h3⟩ := HO8.out.val
    injection h1 with _ _ h4
    rw [h4]; rw [by_len exH_bd] at h3; exact h3)
  clear G8 hR8 hb8 hz8 HO7 HR7 B7
  obtain ⟨bb, off, rfl, hbb, -⟩ := has_some HO8.out.has (by rw [by_len exH_bd]; omega)
  have HH := Lib.hid HO8.out.has
  have HBB := Lib.hid hbb
  have c28 : (28 : Int) ≤ c2 := by have := HC2.out; omega
  have c8 : (8 : Int) ≤ c2 := by have := HC2.out; omega
  have d8 : ¬ c2 = 8 := by have := HC2.out; omega
  have HBD := Lib.hid exC_bd
  have mk := fun w => mkz 20 (by omega) w
  rw [show ((20 : Nat) : Int) = 20 from rfl] at mk
  have e1 : (by_ exH).take 8 = [1, 3, 2, 0, 0, 16, 0, 16] := by rw [exH_by]; rfl
  have e2 : ((by_ exH).drop 8).take 20 = List.replicate 20 0 := by rw [exH_by]; rfl
  have HE := Lib.hid (And.intro e1 e2)
  clear hbb HZ zv e1 e2
  (have RD := grows_roads (S := fun x' => Below w7.heap.size w7 x') (fun a b h1 h2 => below_bs h2 h1)); refine region_ord _ Grows RD (Below.drew (Below.refl w7.heap.size w7)) (by kernel_rfl) ?_; intro ops Q' hops hPQ hN; (have HNS : Hid (Region.noSelect ops = true) := Lib.hid (by rw [hops]; kernel_rfl)); (have hsz : ops.size = 33 := (by rw [hops]; rfl)); have HOP := Lib.hid hops; have HPQ := Lib.hid hPQ; have HN := Lib.hid hN; rw [hsz]; clear hops hsz hPQ hN
  refine ord_take RD 0 (at_list (by rw [HOP.out]; rfl)) HNS.out HPQ.out (by rw [HOP.out]; kernel_rfl) (by rw [HOP.out]; kernel_rfl) (by rw [HOP.out]; rfl) (fun K hK => ?_); apply Exists.intro; refine ⟨fun W hSW => ?_, hK _ ?_⟩; (focus ((try dsimp only at hSW); go_simp; try with_reducible rfl)); clear hK K; (try simp only [Act.put, List.setIfInBounds_toArray, List.set_cons_zero, List.set_cons_succ])
  refine ord_take RD 1 (at_list (by rw [HOP.out]; rfl)) HNS.out HPQ.out (by rw [HOP.out]; kernel_rfl) (by rw [HOP.out]; kernel_rfl) (by rw [HOP.out]; rfl) (fun K hK => ?_); apply Exists.intro; refine ⟨fun W hSW => ?_, hK _ ?_⟩; (focus ((try dsimp only at hSW); go_simp; try with_reducible rfl)); clear hK K; (try simp only [Act.put, List.setIfInBounds_toArray, List.set_cons_zero, List.set_cons_succ])
  refine ord_take RD 2 (at_list (by rw [HOP.out]; rfl)) HNS.out HPQ.out (by rw [HOP.out]; kernel_rfl) (by rw [HOP.out]; kernel_rfl) (by rw [HOP.out]; rfl) (fun K hK => ?_); apply Exists.intro; refine ⟨fun W hSW => ?_, hK _ ?_⟩; (focus ((try dsimp only at hSW); go_simp; try with_reducible rfl)); clear hK K; (try simp only [Act.put, List.setIfInBounds_toArray, List.set_cons_zero, List.set_cons_succ])
  refine ord_take RD 3 (at_list (by rw [HOP.out]; rfl)) HNS.out HPQ.out (by rw [HOP.out]; kernel_rfl) (by rw [HOP.out]; kernel_rfl) (by rw [HOP.out]; rfl) (fun K hK => ?_); apply Exists.intro; refine ⟨fun W hSW => ?_, hK _ ?_⟩; (focus ((try dsimp only at hSW); go_simp; try with_reducible rfl)); clear hK K; (try simp only [Act.put, List.setIfInBounds_toArray, List.set_cons_zero, List.set_cons_succ])
  refine ord_take RD 4 (at_list (by rw [HOP.out]; rfl)) HNS.out HPQ.out (by rw [HOP.out]; kernel_rfl) (by rw [HOP.out]; kernel_rfl) (by rw [HOP.out]; rfl) (fun K hK => ?_); apply Exists.intro; refine ⟨fun W hSW => ?_, hK _ ?_⟩; (focus ((try dsimp only at hSW); go_simp; try with_reducible rfl)); clear hK K; (try simp only [Act.put, List.setIfInBounds_toArray, List.set_cons_zero, List.set_cons_succ])
  refine ord_take RD 5 (at_list (by rw [HOP.out]; rfl)) HNS.out HPQ.out (by rw [HOP.out]; kernel_rfl) (by rw [HOP.out]; kernel_rfl) (by rw [HOP.out]; rfl) (fun K hK => ?_); apply Exists.intro; refine ⟨fun W hSW => ?_, hK _ ?_⟩; (focus ((try dsimp only at hSW); go_simp; try with_reducible rfl)); clear hK K; (try simp only [Act.put, List.setIfInBounds_toArray, List.set_cons_zero, List.set_cons_succ])
  refine ord_take RD 6 (at_list (by rw [HOP.out]; rfl)) HNS.out HPQ.out (by rw [HOP.out]; kernel_rfl) (by rw [HOP.out]; kernel_rfl) (by rw [HOP.out]; rfl) (fun K hK => ?_); apply Exists.intro; refine ⟨fun W hSW => ?_, hK _ ?_⟩; (focus ((try dsimp only at hSW); go_simp; try with_reducible rfl)); clear hK K; (try simp only [Act.put, List.setIfInBounds_toArray, List.set_cons_zero, List.set_cons_succ])
  refine ord_take RD 7 (at_list (by rw [HOP.out]; rfl)) HNS.out HPQ.out (by rw [HOP.out]; kernel_rfl) (by rw [HOP.out]; kernel_rfl) (by rw [HOP.out]; rfl) (fun K hK => ?_); apply Exists.intro; refine ⟨fun W hSW => ?_, hK _ ?_⟩; (focus ((try dsimp only at hSW); go_simp; try with_reducible rfl)); clear hK K; (try simp only [Act.put, List.setIfInBounds_toArray, List.set_cons_zero, List.set_cons_succ])
  refine ord_take RD 8 (at_list (by rw [HOP.out]; rfl)) HNS.out HPQ.out (by rw [HOP.out]; kernel_rfl) (by rw [HOP.out]; kernel_rfl) (by rw [HOP.out]; rfl) (fun K hK => ?_); apply Exists.intro; refine ⟨fun W hSW => ?_, hK _ ?_⟩; (focus ((try dsimp only at hSW); go_simp; try with_reducible rfl)); clear hK K; (try simp only [Act.put, List.setIfInBounds_toArray, List.set_cons_zero, List.set_cons_succ])
  refine ord_take RD 9 (at_list (by rw [HOP.out]; rfl)) HNS.out HPQ.out (by rw [HOP.out]; kernel_rfl) (by rw [HOP.out]; kernel_rfl) (by rw [HOP.out]; rfl) (fun K hK => ?_); apply Exists.intro; refine ⟨fun W hSW => ?_, hK _ ?_⟩; (focus ((try dsimp only at hSW); go_simp; try with_reducible rfl)); clear hK K; (try simp only [Act.put, List.setIfInBounds_toArray, List.set_cons_zero, List.set_cons_succ])
  refine ord_take RD 10 (at_list (by rw [HOP.out]; rfl)) HNS.out HPQ.out (by rw [HOP.out]; kernel_rfl) (by rw [HOP.out]; kernel_rfl) (by rw [HOP.out]; rfl) (fun K hK => ?_); apply Exists.intro; refine ⟨fun W hSW => ?_, hK _ ?_⟩; (focus ((try dsimp only at hSW); (have z := conv8 (c := c2) (has_fst (HH.out.below hSW (Nat.le_refl _)) 8) (n := 8) (by rw [HE.out.1]; rfl); rw [HE.out.1] at z); go_simp; try with_reducible rfl)); clear hK K; (try simp only [Act.put, List.setIfInBounds_toArray, List.set_cons_zero, List.set_cons_succ])
  refine ord_one RD 11 (by rw [HOP.out]; kernel_rfl) (at_list (by rw [HOP.out]; rfl)) (by rw [HOP.out]; rfl) (fun W1 hWW hSW K hK => ?_); (try dsimp only at hSW)
  go_simp
  have GA := (Below.refl W1.heap.size W1).alloc (Nat.le_refl _) (.cells #[.int .u8 1, .int .u8 3, .int .u8 2, .int .u8 0, .int .u8 0, .int .u8 16, .int .u8 0, .int .u8 16] 5)
  refine hK _ _ (RD.keep GA hSW) ?_
  have HLA := Lib.hid (has_lit (w := W1) (k := .u8) (e := 5) (zs := [1, 3, 2, 0, 0, 16, 0, 16]) (g := W1.heap.size) rfl (by decide))
  rw [show ([1, 3, 2, 0, 0, 16, 0, 16].map (Value.int .u8)).toArray = #[.int .u8 1, .int .u8 3, .int .u8 2, .int .u8 0, .int .u8 0, .int .u8 16, .int .u8 0, .int .u8 16] from rfl] at HLA
  clear hSW hWW GA
  clear hK K; (try simp only [Act.put, List.setIfInBounds_toArray, List.set_cons_zero, List.set_cons_succ])
  generalize (W1.alloc (.cells #[.int .u8 1, .int .u8 3, .int .u8 2, .int .u8 0, .int .u8 0, .int .u8 16, .int .u8 0, .int .u8 16] 5)) = wa at *
  generalize W1.heap.size = ga at *
  refine ord_one RD 12 (by rw [HOP.out]; kernel_rfl) (at_list (by rw [HOP.out]; rfl)) (by rw [HOP.out]; rfl) (fun W2 hWW hSW K hK => ?_); (try dsimp only at hSW)
  have cv := conv8 (c := 8) (HLA.out.below hWW (Nat.le_refl _)) (n := 8) rfl
  go_simp
  refine hK _ _ hSW ?_
  clear cv hSW hWW
  clear hK K; (try simp only [Act.put, List.setIfInBounds_toArray, List.set_cons_zero, List.set_cons_succ])
  refine ord_take RD 13 (at_list (by rw [HOP.out]; rfl)) HNS.out HPQ.out (by rw [HOP.out]; kernel_rfl) (by rw [HOP.out]; kernel_rfl) (by rw [HOP.out]; rfl) (fun K hK => ?_); apply Exists.intro; refine ⟨fun W hSW => ?_, hK _ ?_⟩; (focus ((try dsimp only at hSW); go_simp; try with_reducible rfl)); clear hK K; (try simp only [Act.put, List.setIfInBounds_toArray, List.set_cons_zero, List.set_cons_succ])
  refine ord_take RD 14 (at_list (by rw [HOP.out]; rfl)) HNS.out HPQ.out (by rw [HOP.out]; kernel_rfl) (by rw [HOP.out]; kernel_rfl) (by rw [HOP.out]; rfl) (fun K hK => ?_); apply Exists.intro; refine ⟨fun W hSW => ?_, hK _ ?_⟩; (focus ((try dsimp only at hSW); go_simp; try with_reducible rfl)); clear hK K; (try simp only [Act.put, List.setIfInBounds_toArray, List.set_cons_zero, List.set_cons_succ])
  refine ord_take RD 15 (at_list (by rw [HOP.out]; rfl)) HNS.out HPQ.out (by rw [HOP.out]; kernel_rfl) (by rw [HOP.out]; kernel_rfl) (by rw [HOP.out]; rfl) (fun K hK => ?_); apply Exists.intro; refine ⟨fun W hSW => ?_, hK _ ?_⟩; (focus ((try dsimp only at hSW); go_simp; try with_reducible rfl)); clear hK K; (try simp only [Act.put, List.setIfInBounds_toArray, List.set_cons_zero, List.set_cons_succ])
  refine ord_take RD 16 (at_list (by rw [HOP.out]; rfl)) HNS.out HPQ.out (by rw [HOP.out]; kernel_rfl) (by rw [HOP.out]; kernel_rfl) (by rw [HOP.out]; rfl) (fun K hK => ?_); apply Exists.intro; refine ⟨fun W hSW => ?_, hK _ ?_⟩; (focus ((try dsimp only at hSW); go_simp; try with_reducible rfl)); clear hK K; (try simp only [Act.put, List.setIfInBounds_toArray, List.set_cons_zero, List.set_cons_succ])
  refine ord_take RD 17 (at_list (by rw [HOP.out]; rfl)) HNS.out HPQ.out (by rw [HOP.out]; kernel_rfl) (by rw [HOP.out]; kernel_rfl) (by rw [HOP.out]; rfl) (fun K hK => ?_); apply Exists.intro; refine ⟨fun W hSW => ?_, hK _ ?_⟩; (focus ((try dsimp only at hSW); go_simp; try with_reducible rfl)); clear hK K; (try simp only [Act.put, List.setIfInBounds_toArray, List.set_cons_zero, List.set_cons_succ])
  refine ord_take RD 18 (at_list (by rw [HOP.out]; rfl)) HNS.out HPQ.out (by rw [HOP.out]; kernel_rfl) (by rw [HOP.out]; kernel_rfl) (by rw [HOP.out]; rfl) (fun K hK => ?_); apply Exists.intro; refine ⟨fun W hSW => ?_, hK _ ?_⟩; (focus ((try dsimp only at hSW); (have z := conv8 (c := c2 - 8) (has_win (HH.out.below hSW (Nat.le_refl _)) 8 20) (n := 20) (by rw [HE.out.2]; rfl); rw [HE.out.2] at z); go_simp; try with_reducible rfl)); clear hK K; (try simp only [Act.put, List.setIfInBounds_toArray, List.set_cons_zero, List.set_cons_succ])
  refine ord_one RD 19 (by rw [HOP.out]; kernel_rfl) (at_list (by rw [HOP.out]; rfl)) (by rw [HOP.out]; rfl) (fun W3 hWW hSW K hK => ?_); (try dsimp only at hSW)
  go_simp
  have GB := (Below.refl W3.heap.size W3).alloc (Nat.le_refl _) (.cells (zC 20) 5)
  refine hK _ _ (RD.keep GB hSW) ?_
  have HLB := Lib.hid (has_zC W3 5 20 (by decide) rfl)
  clear hSW hWW GB
  clear hK K; (try simp only [Act.put, List.setIfInBounds_toArray, List.set_cons_zero, List.set_cons_succ])
  generalize (W3.alloc (.cells (zC 20) 5)) = wb at *
  generalize W3.heap.size = gb at *
  refine ord_one RD 20 (by rw [HOP.out]; kernel_rfl) (at_list (by rw [HOP.out]; rfl)) (by rw [HOP.out]; rfl) (fun W4 hWW hSW K hK => ?_); (try dsimp only at hSW)
  have cv := conv8 (c := 20) (HLB.out.below hWW (Nat.le_refl _)) (n := 20) (List.length_replicate ..)
  go_simp
  refine hK _ _ hSW ?_
  clear cv hSW hWW
  clear hK K; (try simp only [Act.put, List.setIfInBounds_toArray, List.set_cons_zero, List.set_cons_succ])
  refine ord_take RD 21 (at_list (by rw [HOP.out]; rfl)) HNS.out HPQ.out (by rw [HOP.out]; kernel_rfl) (by rw [HOP.out]; kernel_rfl) (by rw [HOP.out]; rfl) (fun K hK => ?_); apply Exists.intro; refine ⟨fun W hSW => ?_, hK _ ?_⟩; (focus ((try dsimp only at hSW); go_simp; try with_reducible rfl)); clear hK K; (try simp only [Act.put, List.setIfInBounds_toArray, List.set_cons_zero, List.set_cons_succ])
  refine ord_take RD 22 (at_list (by rw [HOP.out]; rfl)) HNS.out HPQ.out (by rw [HOP.out]; kernel_rfl) (by rw [HOP.out]; kernel_rfl) (by rw [HOP.out]; rfl) (fun K hK => ?_); apply Exists.intro; refine ⟨fun W hSW => ?_, hK _ ?_⟩; (focus ((try dsimp only at hSW); go_simp; try with_reducible rfl)); clear hK K; (try simp only [Act.put, List.setIfInBounds_toArray, List.set_cons_zero, List.set_cons_succ])
  refine ord_take RD 23 (at_list (by rw [HOP.out]; rfl)) HNS.out HPQ.out (by rw [HOP.out]; kernel_rfl) (by rw [HOP.out]; kernel_rfl) (by rw [HOP.out]; rfl) (fun K hK => ?_); apply Exists.intro; refine ⟨fun W hSW => ?_, hK _ ?_⟩; (focus ((try dsimp only at hSW); go_simp; try with_reducible rfl)); clear hK K; (try simp only [Act.put, List.setIfInBounds_toArray, List.set_cons_zero, List.set_cons_succ])
  refine ord_take RD 24 (at_list (by rw [HOP.out]; rfl)) HNS.out HPQ.out (by rw [HOP.out]; kernel_rfl) (by rw [HOP.out]; kernel_rfl) (by rw [HOP.out]; rfl) (fun K hK => ?_); apply Exists.intro; refine ⟨fun W hSW => ?_, hK _ ?_⟩; (focus ((try dsimp only at hSW); exact quiet_ld _ rfl (HR8.out.past hSW) HBD.out rfl)); clear hK K; (try simp only [Act.put, List.setIfInBounds_toArray, List.set_cons_zero, List.set_cons_succ])
  refine ord_take RD 25 (at_list (by rw [HOP.out]; rfl)) HNS.out HPQ.out (by rw [HOP.out]; kernel_rfl) (by rw [HOP.out]; kernel_rfl) (by rw [HOP.out]; rfl) (fun K hK => ?_); apply Exists.intro; refine ⟨fun W hSW => ?_, hK _ ?_⟩; (focus ((try dsimp only at hSW); go_simp; exact ((Check_any exC W exC_bd).mono fun e w' ⟨h1, h2⟩ => ⟨h1.trans (by rw [hdE_no exC_no]), h2⟩))); clear hK K; (try simp only [Act.put, List.setIfInBounds_toArray, List.set_cons_zero, List.set_cons_succ])
  refine ord_take RD 26 (at_list (by rw [HOP.out]; rfl)) HNS.out HPQ.out (by rw [HOP.out]; kernel_rfl) (by rw [HOP.out]; kernel_rfl) (by rw [HOP.out]; rfl) (fun K hK => ?_); apply Exists.intro; refine ⟨fun W hSW => ?_, hK _ ?_⟩; (focus ((try dsimp only at hSW); go_simp; try with_reducible rfl)); clear hK K; (try simp only [Act.put, List.setIfInBounds_toArray, List.set_cons_zero, List.set_cons_succ])
  refine ord_take RD 27 (at_list (by rw [HOP.out]; rfl)) HNS.out HPQ.out (by rw [HOP.out]; kernel_rfl) (by rw [HOP.out]; kernel_rfl) (by rw [HOP.out]; rfl) (fun K hK => ?_); apply Exists.intro; refine ⟨fun W hSW => ?_, hK _ ?_⟩; (focus ((try dsimp only at hSW); go_simp; try with_reducible rfl)); clear hK K; (try simp only [Act.put, List.setIfInBounds_toArray, List.set_cons_zero, List.set_cons_succ])
  refine ord_take RD 28 (at_list (by rw [HOP.out]; rfl)) HNS.out HPQ.out (by rw [HOP.out]; kernel_rfl) (by rw [HOP.out]; kernel_rfl) (by rw [HOP.out]; rfl) (fun K hK => ?_); apply Exists.intro; refine ⟨fun W hSW => ?_, hK _ ?_⟩; (focus ((try dsimp only at hSW); go_simp; try with_reducible rfl)); clear hK K; (try simp only [Act.put, List.setIfInBounds_toArray, List.set_cons_zero, List.set_cons_succ])
  refine ord_take RD 29 (at_list (by rw [HOP.out]; rfl)) HNS.out HPQ.out (by rw [HOP.out]; kernel_rfl) (by rw [HOP.out]; kernel_rfl) (by rw [HOP.out]; rfl) (fun K hK => ?_); apply Exists.intro; refine ⟨fun W hSW => ?_, hK _ ?_⟩; (focus ((try dsimp only at hSW); go_simp; try with_reducible rfl)); clear hK K; (try simp only [Act.put, List.setIfInBounds_toArray, List.set_cons_zero, List.set_cons_succ])
  refine ord_take RD 30 (at_list (by rw [HOP.out]; rfl)) HNS.out HPQ.out (by rw [HOP.out]; kernel_rfl) (by rw [HOP.out]; kernel_rfl) (by rw [HOP.out]; rfl) (fun K hK => ?_); apply Exists.intro; refine ⟨fun W hSW => ?_, hK _ ?_⟩; (focus ((try dsimp only at hSW); go_simp; try with_reducible rfl)); clear hK K; (try simp only [Act.put, List.setIfInBounds_toArray, List.set_cons_zero, List.set_cons_succ])
  refine ord_take RD 31 (at_list (by rw [HOP.out]; rfl)) HNS.out HPQ.out (by rw [HOP.out]; kernel_rfl) (by rw [HOP.out]; kernel_rfl) (by rw [HOP.out]; rfl) (fun K hK => ?_); apply Exists.intro; refine ⟨fun W hSW => ?_, hK _ ?_⟩; (focus ((try dsimp only at hSW); go_simp; try with_reducible rfl)); clear hK K; (try simp only [Act.put, List.setIfInBounds_toArray, List.set_cons_zero, List.set_cons_succ])
  refine ord_take RD 32 (at_list (by rw [HOP.out]; rfl)) HNS.out HPQ.out (by rw [HOP.out]; kernel_rfl) (by rw [HOP.out]; kernel_rfl) (by rw [HOP.out]; rfl) (fun K hK => ?_); apply Exists.intro; refine ⟨fun W hSW => ?_, hK _ ?_⟩; (focus ((try dsimp only at hSW); go_simp; try with_reducible rfl)); clear hK K; (try simp only [Act.put, List.setIfInBounds_toArray, List.set_cons_zero, List.set_cons_succ])
  refine ord_done (by rw [HOP.out]; kernel_rfl) (fun W9 hWW hSW => HN.out _ _ ?_); clear HOP HNS HPQ HN RD; (try dsimp only at hSW)
  have B9 := Lib.hid (below_bs B8.out hSW)
  clear hSW hWW
  go_wp2_with fail
  go_ret
  exact ⟨rfl, B9.out⟩
end Go.Proofs.YteofindkccndjaaDoor.hdW
