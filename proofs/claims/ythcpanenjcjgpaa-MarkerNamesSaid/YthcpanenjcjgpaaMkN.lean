/- MarkerNames, by a walk. -/
import Derived.Test.YthcpanenjcjgpaaMkL2
import Derived.Test.YthcpanenjcjgpaaMk8
namespace Go.Proofs.Ythcpanenjcjgpaa.mkL
open Go.RowKit Go.Proofs.Ythcpanenjcjgpaa.base Go.Proofs.Ythcpanenjcjgpaa.mkP Go.Proofs.Ythcpanenjcjgpaa.mkW
set_option linter.unusedVariables false
set_option linter.unusedSimpArgs false
def zs (n : Nat) : List Int := List.replicate n 0
theorem zs_len (n : Nat) : (zs n).length = n := List.length_replicate
theorem zs_bd (n : Nat) : ∀ z ∈ zs n, 0 ≤ z ∧ z ≤ 255 := fun z hz => by rw [(List.mem_replicate.1 hz).2]; omega
theorem zs_no (n i : Nat) : occ (zs n) i = false := by
  cases h : occ (zs n) i with
  | false => rfl
  | true =>
    have h1 := occ_first h
    have h2 : (zs n).getD i 0 = 0 := by
      rw [List.getD_eq_getElem?_getD]
      cases h3 : (zs n)[i]? with
      | none => rfl
      | some v => exact (List.mem_replicate.1 (List.mem_of_getElem? h3)).2
    omega
theorem zs_pl (n : Nat) : pl (zs n) = [] := by
  rw [pl, plK_same (k := 0) (Nat.zero_le _) fun j _ _ => zs_no n j]; rfl
theorem zs_nx (n f : Nat) (h : f ≤ n) : nx (zs n) f = n := by
  rcases nx_at (zs n) (f := f) (by rw [zs_len]; exact h) with h1 | h1
  · rw [h1, zs_len]
  · rw [zs_no] at h1; cases h1
theorem asE_many {b : List Int} (h : 50000 < b.length) (i : Int) : asE b i = 4 ∧ atV b i = false ∧ fiE b i = 4 ∧ fiV b i = 0 := by
  have e : asE b i = 4 := by rw [asE, if_neg (by omega)]
  exact ⟨e, by rw [atV, e]; rfl, by rw [fiE, e]; rfl, by rw [fiV, e]; rfl⟩
theorem asE_out {b : List Int} (h : b.length ≤ 50000) {i : Int} (hi : ¬ (0 ≤ i ∧ i ≤ b.length)) : asE b i = 2 ∧ atV b i = false ∧ fiE b i = 2 ∧ fiV b i = 0 := by
  have e : asE b i = 2 := by rw [asE, if_pos h, if_neg hi]
  exact ⟨e, by rw [atV, e]; rfl, by rw [fiE, e]; rfl, by rw [fiV, e]; rfl⟩
theorem asE_end : asE (zs 50000) 50000 = 0 ∧ atV (zs 50000) 50000 = false ∧ fiE (zs 50000) 50000 = 6 ∧ fiV (zs 50000) 50000 = 0 := by
  have e : asE (zs 50000) 50000 = 0 := by rw [asE, zs_len, if_pos (by omega), if_pos (by omega)]
  have hn : ¬ nx (zs 50000) (50000 : Int).toNat < (zs 50000).length := by
    rw [show (50000 : Int).toNat = 50000 from rfl, zs_nx _ _ (Nat.le_refl _), zs_len]; omega
  exact ⟨e, by rw [atV, occI, zs_no, Bool.and_false, Bool.and_false], by rw [fiE, if_pos e, if_neg hn], by rw [fiV, if_pos e, if_neg hn]⟩
theorem fr_mark (w : World) (C : Array Value) (t : TypeId) : (w.alloc (.cells C t (13, 14))).frozen? ⟨w.heap.size, 0, none⟩ = false := by
  have hh : (w.alloc (.cells C t (13, 14))).heap[w.heap.size]? = some (.cells C t (13, 14)) := heap_alloc_new w _
  unfold World.frozen?
  show (match (w.alloc (.cells C t (13, 14))).heap[w.heap.size]? with | some (.cells _ _ (lo, hi)) => _ | _ => _) = _
  rw [hh]
  rfl
attribute [irreducible] zs
theorem zs_ib (w : World) (n : Nat) (hn : n ≤ 1000000) {g : Nat} (hg : w.heap.size = g) : Ib (w.alloc (.cells (zC n) 5)) (some ⟨g, 0, none⟩) n n (zs n) :=
  ⟨⟨by unfold zs; exact has_zC w _ n (by unfold maxLen; omega) hg, zs_len n, Nat.le_refl _, by show n ≤ _; omega, zs_bd n⟩, fun e => by cases e⟩
set_option maxRecDepth 100000 in
set_option maxHeartbeats 4000000 in
theorem names (w : World) (hT : Tab w) : Calls Try.prog 5 #[] w fun e w' => e = .returned (.bool true) ∧ Below w.heap.size w w' := by
  have HT := Lib.hid hT
  clear hT
  go_enter Try.func5, Try.ntmps5
  go_upto_region 1 with fail
  refine region_named (by kernel_rfl) ?_
  intro ops Q' hops hN
  have HO := Lib.hid hops
  have hsz : ops.size = 4 := by rw [hops]; rfl
  rw [hsz]
  clear hops hsz
  apply mid1 (α := Nat → Nat → Act) (p := fun F => ∀ (x1 x2 : Nat) (W : World), Ib W (some ⟨x1, 0, none⟩) 50001 50001 (zs 50001) → Ib W (some ⟨x2, 0, none⟩) 50000 50000 (zs 50000) → Below w.heap.size w W → Q' .normal (F x1 x2) W)
  case paths =>
    intro hmain
    obtain ⟨g1, hg1⟩ : ∃ g, w.heap.size = g := ⟨_, rfl⟩
    obtain ⟨g2, hg2⟩ : ∃ g, w.heap.size + 1 = g := ⟨_, rfl⟩
    have mk1 : (Instr.makeSlice 22 (.int .i64 50001) (.int .i64 50001)).run Try.prog (w.drew) = .ok (.slice (some ⟨g1, 0, none⟩) 50001 50001) ((w.drew).alloc (.cells (zC 50001) 5)) := by rw [← hg1]; exact mkz 50001 (by omega) w.drew
    have mk2 : (Instr.makeSlice 22 (.int .i64 50000) (.int .i64 50000)).run Try.prog (w.drew) = .ok (.slice (some ⟨g1, 0, none⟩) 50000 50000) ((w.drew).alloc (.cells (zC 50000) 5)) := by rw [← hg1]; exact mkz 50000 (by omega) w.drew
    have mk3 : (Instr.makeSlice 22 (.int .i64 50001) (.int .i64 50001)).run Try.prog ((w.alloc (.cells (zC 50000) 5)).drew) = .ok (.slice (some ⟨g2, 0, none⟩) 50001 50001) (((w.alloc (.cells (zC 50000) 5)).alloc (.cells (zC 50001) 5)).drew) := by rw [← hg2, show w.heap.size + 1 = ((w.alloc (.cells (zC 50000) 5)).drew).heap.size by simp]; exact mkz 50001 (by omega) ((w.alloc (.cells (zC 50000) 5)).drew)
    have mk4 : (Instr.makeSlice 22 (.int .i64 50000) (.int .i64 50000)).run Try.prog ((w.alloc (.cells (zC 50001) 5)).drew) = .ok (.slice (some ⟨g2, 0, none⟩) 50000 50000) (((w.alloc (.cells (zC 50001) 5)).alloc (.cells (zC 50000) 5)).drew) := by rw [← hg2, show w.heap.size + 1 = ((w.alloc (.cells (zC 50001) 5)).drew).heap.size by simp]; exact mkz 50000 (by omega) ((w.alloc (.cells (zC 50001) 5)).drew)
    have HI : Hid ((Ib (((w.alloc (.cells (zC 50001) 5)).alloc (.cells (zC 50000) 5)).drew) (some ⟨g1, 0, none⟩) 50001 50001 (zs 50001) ∧ Ib (((w.alloc (.cells (zC 50001) 5)).alloc (.cells (zC 50000) 5)).drew) (some ⟨g2, 0, none⟩) 50000 50000 (zs 50000) ∧ Below w.heap.size w (((w.alloc (.cells (zC 50001) 5)).alloc (.cells (zC 50000) 5)).drew)) ∧ (Ib (((w.alloc (.cells (zC 50000) 5)).alloc (.cells (zC 50001) 5)).drew) (some ⟨g2, 0, none⟩) 50001 50001 (zs 50001) ∧ Ib (((w.alloc (.cells (zC 50000) 5)).alloc (.cells (zC 50001) 5)).drew) (some ⟨g1, 0, none⟩) 50000 50000 (zs 50000) ∧ Below w.heap.size w (((w.alloc (.cells (zC 50000) 5)).alloc (.cells (zC 50001) 5)).drew))) := Lib.hid ⟨⟨((zs_ib w 50001 (by omega) hg1).below ((Below.refl _ _).alloc (Nat.le_refl _) (.cells (zC 50000) 5))).below (Below.refl _ _).drew, (zs_ib (w.alloc (.cells (zC 50001) 5)) 50000 (by omega) (by rw [← hg2]; simp)).below (Below.refl _ _).drew, ((((Below.refl w.heap.size w).alloc (Nat.le_refl _) _).alloc (by simp) _).drew)⟩, ⟨(zs_ib (w.alloc (.cells (zC 50000) 5)) 50001 (by omega) (by rw [← hg2]; simp)).below (Below.refl _ _).drew, ((zs_ib w 50000 (by omega) hg1).below ((Below.refl _ _).alloc (Nat.le_refl _) (.cells (zC 50001) 5))).below (Below.refl _ _).drew, ((((Below.refl w.heap.size w).alloc (Nat.le_refl _) _).alloc (by simp) _).drew)⟩⟩
    clear hg1 hg2
    refine any_two 0 1 (by rw [HO.out]; kernel_rfl) (by rw [HO.out]; rfl) (by rw [HO.out]; rfl) (by rw [HO.out]; rfl) (by rw [HO.out]; rfl) (fun K hK => ?x1) (fun K hK => ?y1)
    case x1 =>
      go_simp
      refine hK _ _ ?_
      clear hK K
      refine any_two 1 2 (by rw [HO.out]; kernel_rfl) (by rw [HO.out]; rfl) (by rw [HO.out]; rfl) (by rw [HO.out]; rfl) (by rw [HO.out]; rfl) (fun K hK => ?x2) (fun K hK => ?y2)
      case x2 =>
        go_simp
        refine hK _ _ ?_
        clear hK K
        refine any_one 2 (by rw [HO.out]; kernel_rfl) (by rw [HO.out]; rfl) (by rw [HO.out]; rfl) (fun K hK => ?_)
        go_simp
        refine hK _ _ ?_
        clear hK K
        refine any_one 3 (by rw [HO.out]; kernel_rfl) (by rw [HO.out]; rfl) (by rw [HO.out]; rfl) (fun K hK => ?_)
        go_simp
        refine hK _ _ ?_
        clear hK K
        refine wpAny_done (by rw [HO.out]; kernel_rfl) ?_ _
        go_simp
        exact hmain g1 g2 _ HI.out.1.1 HI.out.1.2.1 HI.out.1.2.2
      case y2 =>
        go_simp
        refine hK _ _ ?_
        clear hK K
        refine any_one 1 (by rw [HO.out]; kernel_rfl) (by rw [HO.out]; rfl) (by rw [HO.out]; rfl) (fun K hK => ?_)
        go_simp
        refine hK _ _ ?_
        clear hK K
        refine any_one 3 (by rw [HO.out]; kernel_rfl) (by rw [HO.out]; rfl) (by rw [HO.out]; rfl) (fun K hK => ?_)
        go_simp
        refine hK _ _ ?_
        clear hK K
        refine wpAny_done (by rw [HO.out]; kernel_rfl) ?_ _
        go_simp
        exact hmain g1 g2 _ HI.out.1.1 HI.out.1.2.1 HI.out.1.2.2
    case y1 =>
      go_simp
      refine hK _ _ ?_
      clear hK K
      refine any_one 0 (by rw [HO.out]; kernel_rfl) (by rw [HO.out]; rfl) (by rw [HO.out]; rfl) (fun K hK => ?_)
      go_simp
      refine hK _ _ ?_
      clear hK K
      refine any_one 2 (by rw [HO.out]; kernel_rfl) (by rw [HO.out]; rfl) (by rw [HO.out]; rfl) (fun K hK => ?_)
      go_simp
      refine hK _ _ ?_
      clear hK K
      refine any_one 3 (by rw [HO.out]; kernel_rfl) (by rw [HO.out]; rfl) (by rw [HO.out]; rfl) (fun K hK => ?_)
      go_simp
      refine hK _ _ ?_
      clear hK K
      refine wpAny_done (by rw [HO.out]; kernel_rfl) ?_ _
      go_simp
      exact hmain g2 g1 _ HI.out.2.1 HI.out.2.2.1 HI.out.2.2.2
  case main =>
    intro x1 x2 W i1 i2 hbw
    refine hN _ _ ?_
    have I1 := Lib.hid i1
    have I2 := Lib.hid i2
    have HBW := Lib.hid hbw
    clear i1 i2 hbw
    have M1 := Lib.hid (asE_many (b := zs 50001) (by rw [zs_len]; omega) (-1))
    have C1 : Hid (chE (zs 50001) = 4 ∧ paV (zs 50001) = 0) := Lib.hid ⟨chE_no (by rw [zs_len]; omega), by rw [paV, zs_len, if_neg (by omega)]⟩
    have E2 := Lib.hid (asE_out (b := zs 50000) (by rw [zs_len]; omega) (i := -1) (by omega))
    have E3 := Lib.hid (asE_out (b := zs 50000) (by rw [zs_len]; omega) (i := 50001) (by rw [zs_len]; omega))
    have E4 := Lib.hid asE_end
    have C2 : Hid (chE (zs 50000) = 0 ∧ allV (zs 50000) = []) := Lib.hid ⟨chE_yes (by rw [zs_len]; omega), by rw [allV, zs_len, if_pos (by omega), zs_pl]⟩
    have C3 : Hid (chE [] = 0 ∧ cutV [] = [[]] ∧ paV [] = 0) := Lib.hid (by decide +kernel)
    have NI : ∀ W : World, Ib W none 0 0 [] := fun W => ⟨⟨.inl rfl, rfl, Nat.le_refl _, by show (0 : Nat) ≤ _; omega, by simp⟩, fun _ => rfl⟩
    have HNI := Lib.hid NI
    clear NI
    go_wp2_with fail
    refine (At_any (zs 50001) _ 50001 50001 (-1) _ I1.out.h (by decide) (by decide)).mono ?_
    rintro e w' ⟨rfl, rfl⟩
    rw [M1.out.1, M1.out.2.1]
    go_wp2_with fail
    refine (Find_any (zs 50001) _ 50001 50001 (-1) _ (HT.out.below HBW.out) I1.out (by decide) (by decide)).mono ?_
    rintro e u1 ⟨rfl, hb1⟩
    rw [M1.out.2.2.1, M1.out.2.2.2]
    have K1 : Hid (Below W.heap.size W u1) := Lib.hid (hb1)
    clear hb1
    go_wp2_with fail
    refine (All_any (zs 50001) _ 50001 50001 _ ((HT.out.below HBW.out).below K1.out) (I1.out.below K1.out)).mono ?_
    rintro e u2 ⟨A2, n2, d2, rfl, -, -, hb2⟩
    rw [C1.out.1]
    have K2 : Hid (Below W.heap.size W u2) := Lib.hid (K1.out.trans (hb2.mono K1.out.size))
    clear hb2
    go_wp2_with fail
    refine (Cut_any (zs 50001) _ 50001 50001 _ ((HT.out.below HBW.out).below K2.out) (I1.out.below K2.out)).mono ?_
    rintro e u3 ⟨A3, n3, d3, rs3, rfl, -, -, -, hb3⟩
    rw [C1.out.1]
    have K3 : Hid (Below W.heap.size W u3) := Lib.hid (K2.out.trans (hb3.mono K2.out.size))
    clear hb3
    go_wp2_with fail
    refine (Partial_any (zs 50001) _ 50001 50001 _ (I1.out.below K3.out).h).mono ?_
    rintro e u4 ⟨rfl, hb4⟩
    rw [C1.out.1, C1.out.2]
    have K4 : Hid (Below W.heap.size W u4) := Lib.hid (K3.out.trans (hb4.mono K3.out.size))
    clear hb4
    go_wp2_with fail
    refine (At_any (zs 50000) _ 50000 50000 (-1) _ (I2.out.below K4.out).h (by decide) (by decide)).mono ?_
    rintro e w' ⟨rfl, rfl⟩
    rw [E2.out.1, E2.out.2.1]
    go_wp2_with fail
    refine (At_any (zs 50000) _ 50000 50000 (50001) _ (I2.out.below K4.out).h (by decide) (by decide)).mono ?_
    rintro e w' ⟨rfl, rfl⟩
    rw [E3.out.1, E3.out.2.1]
    go_wp2_with fail
    refine (At_any (zs 50000) _ 50000 50000 (50000) _ (I2.out.below K4.out).h (by decide) (by decide)).mono ?_
    rintro e w' ⟨rfl, rfl⟩
    rw [E4.out.1, E4.out.2.1]
    go_wp2_with fail
    refine (Find_any (zs 50000) _ 50000 50000 (50001) _ ((HT.out.below HBW.out).below K4.out) (I2.out.below K4.out) (by decide) (by decide)).mono ?_
    rintro e u5 ⟨rfl, hb5⟩
    rw [E3.out.2.2.1, E3.out.2.2.2]
    have K5 : Hid (Below W.heap.size W u5) := Lib.hid (K4.out.trans (hb5.mono K4.out.size))
    clear hb5
    go_wp2_with fail
    refine (Find_any (zs 50000) _ 50000 50000 (-1) _ ((HT.out.below HBW.out).below K5.out) (I2.out.below K5.out) (by decide) (by decide)).mono ?_
    rintro e u6 ⟨rfl, hb6⟩
    rw [E2.out.2.2.1, E2.out.2.2.2]
    have K6 : Hid (Below W.heap.size W u6) := Lib.hid (K5.out.trans (hb6.mono K5.out.size))
    clear hb6
    go_wp2_with fail
    refine (Find_any (zs 50000) _ 50000 50000 (50000) _ ((HT.out.below HBW.out).below K6.out) (I2.out.below K6.out) (by decide) (by decide)).mono ?_
    rintro e u7 ⟨rfl, hb7⟩
    rw [E4.out.2.2.1, E4.out.2.2.2]
    have K7 : Hid (Below W.heap.size W u7) := Lib.hid (K6.out.trans (hb7.mono K6.out.size))
    clear hb7
    go_wp2_with fail
    refine (All_any (zs 50000) _ 50000 50000 _ ((HT.out.below HBW.out).below K7.out) (I2.out.below K7.out)).mono ?_
    rintro e u8 ⟨A8, n8, d8, rfl, hn8, -, hb8⟩
    rw [C2.out.1]
    have K8 : Hid (Below W.heap.size W u8) := Lib.hid (K7.out.trans (hb8.mono K7.out.size))
    rw [C2.out.2] at hn8
    obtain rfl : n8 = 0 := hn8
    clear hb8
    go_wp2_with fail
    refine (Cut_any [] none 0 0 _ ((HT.out.below HBW.out).below K8.out) (HNI.out _)).mono ?_
    rintro e u9 ⟨A9, n9, d9, rs, rfl, hrs, hn9, ho9, hb9⟩
    rw [C3.out.1]
    have K9 : Hid (Below W.heap.size W u9) := Lib.hid (K8.out.trans (hb9.mono K8.out.size))
    rw [C3.out.2.1] at hrs
    have HRS := Lib.hid (And.intro hrs hn9)
    have HO9 := Lib.hid ho9
    clear hrs hn9 ho9
    clear hb9
    go_wp2_with fail
    refine (Partial_any [] none 0 0 _ (HNI.out _).h).mono ?_
    rintro e u10 ⟨rfl, hb10⟩
    rw [C3.out.1, C3.out.2.2]
    have K10 : Hid (Below W.heap.size W u10) := Lib.hid (K9.out.trans (hb10.mono K9.out.size))
    have HO10 := Lib.hid (HO9.out.past hb10)
    clear hb10
    go_wp2_with fail
    refine (Bytes_any _).mono ?_
    rintro e w' ⟨rfl, rfl⟩
    go_wp2_with fail
    refine (Bytes_any _).mono ?_
    rintro e w' ⟨rfl, rfl⟩
    rw [show (u10.alloc (.cells (mk.map (Value.int .u8)).toArray 5 (13, 14))).heap.size = u10.heap.size + 1 by simp]
    have b1 : Below u10.heap.size u10 ((u10.alloc (.cells (mk.map (Value.int .u8)).toArray 5 (13, 14))).alloc (.cells (mk.map (Value.int .u8)).toArray 5 (13, 14))) := by (repeat' (first | (with_reducible exact Below.refl _ _) | (with_reducible assumption) | (with_reducible refine below_drewN ?_ _) | (with_reducible refine below_new ?_ _) | (with_reducible refine Below.alloc ?_ ?_ _) | (with_reducible refine Below.drew ?_) | (with_reducible refine Below.setCell ?_ ?_ _) | (with_reducible apply below_at; (case k => (with_reducible assumption)); (case hB => omega)) | (with_reducible apply below_on; (with_reducible assumption)) | (go_size; done) | (with_reducible apply size_of)))
    have b2 : Below (u10.alloc (.cells (mk.map (Value.int .u8)).toArray 5 (13, 14))).heap.size (u10.alloc (.cells (mk.map (Value.int .u8)).toArray 5 (13, 14))) ((u10.alloc (.cells (mk.map (Value.int .u8)).toArray 5 (13, 14))).alloc (.cells (mk.map (Value.int .u8)).toArray 5 (13, 14))) := (Below.refl _ _).alloc (Nat.le_refl _) _
    have c1 : ((u10.alloc (.cells (mk.map (Value.int .u8)).toArray 5 (13, 14))).alloc (.cells (mk.map (Value.int .u8)).toArray 5 (13, 14))).cell? ⟨u10.heap.size, 0, none⟩ = some (.int .u8 183) := by
      rw [b2.cell (p := ⟨u10.heap.size, 0, none⟩) (by simp), Joins.cell_alloc_mark_at u10 _ _ _ _ 0 rfl]; rfl
    have c2 : ((u10.alloc (.cells (mk.map (Value.int .u8)).toArray 5 (13, 14))).alloc (.cells (mk.map (Value.int .u8)).toArray 5 (13, 14))).cell? ⟨u10.heap.size + 1, 0, none⟩ = some (.int .u8 183) := by
      rw [Joins.cell_alloc_mark_at _ _ _ _ (u10.heap.size + 1) 0 (by simp)]; rfl
    have f1 : ((u10.alloc (.cells (mk.map (Value.int .u8)).toArray 5 (13, 14))).alloc (.cells (mk.map (Value.int .u8)).toArray 5 (13, 14))).frozen? ⟨u10.heap.size, 0, none⟩ = false := by
      rw [b2.frozen (p := ⟨u10.heap.size, 0, none⟩) (by simp)]
      exact fr_mark _ _ _
    have sz : u10.heap.size + 1 < ((u10.alloc (.cells (mk.map (Value.int .u8)).toArray 5 (13, 14))).alloc (.cells (mk.map (Value.int .u8)).toArray 5 (13, 14))).heap.size := by simp
    clear b2
    generalize (u10.alloc (.cells (mk.map (Value.int .u8)).toArray 5 (13, 14))).alloc (.cells (mk.map (Value.int .u8)).toArray 5 (13, 14)) = x12 at *
    have hrl : rs.length = 1 := by have := congrArg List.length HRS.out.1; simpa using this
    obtain rfl : n9 = 1 := by rw [HRS.out.2, hrl]
    obtain ⟨P, dp, ep, hL, -, -⟩ := HO10.out.val
    obtain ⟨pb, off, hP, hpb, hpc⟩ := hL.some (by omega)
    have e1 : A9 = P := by injection ep
    subst e1
    subst hP
    have q0 := hpc 0 (by omega)
    have hin := hL.get 0 (by omega)
    have hb0 : (rs.getD 0 r80).b = [] := by
      have := congrArg (fun l => l[0]?) HRS.out.1
      simp only [List.getElem?_map, List.getElem?_eq_getElem (show 0 < rs.length by omega), Option.map_some] at this
      rw [List.getD_eq_getElem?_getD, List.getElem?_eq_getElem (by omega)]
      simpa using this
    have hn0 : (rs.getD 0 r80).n = 0 := by rw [← hin.e, hb0]; rfl
    rw [hn0, Nat.add_zero] at q0
    generalize (rs.getD 0 r80).A = rA at *
    generalize (rs.getD 0 r80).c = rc at *
    have Q12 : Hid (x12.cell? ⟨pb, off, none⟩ = some (.slice rA 0 rc)) := Lib.hid (by rw [b1.cell (p := ⟨pb, off, none⟩) hpb]; exact q0)
    have K12 : Hid (Below W.heap.size W x12 ∧ Below u10.heap.size u10 x12 ∧ W.heap.size ≤ u10.heap.size) := Lib.hid ⟨K10.out.trans (b1.mono K10.out.size), b1, K10.out.size⟩
    have CC : Hid (x12.cell? ⟨u10.heap.size + 1, 0, none⟩ = some (.int .u8 183) ∧ u10.heap.size + 1 < x12.heap.size ∧ pb < u10.heap.size) := Lib.hid ⟨c2, sz, hpb⟩
    clear b1 c2 sz hrl ep hL hpb hpc q0 hin hb0 hn0
    go_wp2_with fail
    have b13 : Below W.heap.size W (x12.setCell ⟨u10.heap.size, 0, none⟩ (.int .u8 0)) := Below.setCell K12.out.1 K12.out.2.2 _
    refine (alive _ ((HT.out.below HBW.out).below b13)).mono ?_
    rintro e x14 ⟨rfl, hb14⟩
    have s13 : (x12.setCell ⟨u10.heap.size, 0, none⟩ (.int .u8 0)).heap.size = x12.heap.size := by simp [World.setCell]
    have q14 : x14.cell? ⟨pb, off, none⟩ = some (.slice rA 0 rc) := by
      rw [hb14.cell (p := ⟨pb, off, none⟩) (by rw [s13]; have := CC.out; show pb < _; omega), World.cell?_setCell_other _ _ _ _ (by intro e; injection e with e1 _; have := CC.out; omega)]
      exact Q12.out
    have c14 : x14.cell? ⟨u10.heap.size + 1, 0, none⟩ = some (.int .u8 183) := by
      rw [hb14.cell (p := ⟨u10.heap.size + 1, 0, none⟩) (by rw [s13]; exact CC.out.2.1), World.cell?_setCell_other _ _ _ _ (by intro e; injection e with e1 _; omega)]
      exact CC.out.1
    have B14 : Hid (Below w.heap.size w x14) := Lib.hid (HBW.out.trans ((b13.trans (hb14.mono b13.size)).mono HBW.out.size))
    clear b13 s13 hb14 c1 f1
    go_wp2_with fail
    go_ret
    exact ⟨rfl, B14.out⟩
end Go.Proofs.Ythcpanenjcjgpaa.mkL
