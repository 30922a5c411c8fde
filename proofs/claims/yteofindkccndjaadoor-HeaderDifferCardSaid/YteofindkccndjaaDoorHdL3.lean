/- HeaderDiffer, by a walk. -/
import Derived.Test.YteofindkccndjaaDoorHdL1
namespace Go.Proofs.YteofindkccndjaaDoor.hdP
set_option maxRecDepth 100000
/-- With another's Sum. -/
def wS (b a : Hd) : Hd := ⟨b.mo, b.me, b.of, b.ra, b.le, a.s⟩
theorem wS_bd {a b : Hd} (ha : Bd a) (hb : Bd b) : Bd (wS b a) := ⟨hb.mo, hb.me, hb.of, hb.ra, hb.le, ha.n, ha.s⟩
theorem fr_wS {a b : Hd} (ka : Ok a) (kb : Ok b) : fr a = fr b ↔ a = wS b a := by
  have la := ka.le_
  have lb := kb.le_
  unfold Ok at ka kb
  obtain ⟨a0, a1, a2, a3, a4, a5⟩ := a
  obtain ⟨b0, b1, b2, b3, b4, b5⟩ := b
  simp only [fr, wS, List.cons.injEq, and_true, Hd.mk.injEq] at *
  omega
theorem by_take {h : Hd} : (by_ h).take 8 = fr h := rfl
theorem by_drop {h : Hd} (hb : Bd h) : ((by_ h).drop 8).take 20 = h.s := by
  show (h.s).take 20 = h.s
  rw [List.take_of_length_le (by rw [hb.n]; omega)]
end Go.Proofs.YteofindkccndjaaDoor.hdP
namespace Go.Proofs.YteofindkccndjaaDoor.hdL
set_option maxRecDepth 100000
open Go.RowKit Go.Proofs.YteofindkccndjaaDoor.base Go.Proofs.YteofindkccndjaaDoor.hdP Go.Proofs.YteofindkccndjaaDoor.hdW
set_option linter.unusedVariables false
set_option linter.unusedSimpArgs false
set_option maxRecDepth 100000
theorem sv_one (s : List Int) : (sv s).toArray.all (·.oneCell') = true := all_oneCell_toArray fun v hv => by
  obtain ⟨z, _, rfl⟩ := List.mem_map.1 hv; rfl
theorem HdAt.there {w : World} {g : Nat} {h : Hd} (k : HdAt w g h) (hb : Bd h) : w.there g 5 20 := by
  intro i hi
  refine ⟨?_, Lies.free k (5 + i)⟩
  rw [Lies.cell k (5 + i), List.getElem?_eq_getElem (by simp [hl, sv, hb.n]; omega)]
  rfl
theorem cells_many (g : Nat) (t : TypeId) : ∀ (vs : List Value) (o : Nat) (w : World) (cur : List Value), Lies w g t cur → o + vs.length ≤ cur.length → Lies (w.setCells g o vs) g t (cur.take o ++ vs ++ cur.drop (o + vs.length))
  | [], o, w, cur, h, _ => by simpa [World.setCells] using h
  | v :: r, o, w, cur, h, hl => by
    simp only [List.length_cons] at hl
    have := cells_many g t r (o + 1) _ _ (h.set o v) (by simp; omega)
    rw [World.setCells]
    rw [show (cur.set o v).take (o + 1) ++ r ++ (cur.set o v).drop (o + 1 + r.length) = cur.take o ++ v :: r ++ cur.drop (o + (r.length + 1)) by
      rw [List.take_set, List.drop_set, if_pos (by omega), show o + 1 + r.length = o + (r.length + 1) by omega, base.take_snoc v cur o (by omega), List.set_append_right _ _ (by simp; omega)]
      have : o - (List.take o cur).length = 0 := by simp; omega
      rw [this]; simp] at this
    exact this
theorem sum_set {w : World} {g : Nat} {b a : Hd} (k : HdAt w g b) (hb : Bd b) (ha : Bd a) : HdAt (w.setCells g 5 (sv a.s)) g (wS b a) := by
  have := cells_many g 25 (sv a.s) 5 w (hl b) k (by simp [hl, sv, hb.n, ha.n])
  rw [show (hl b).take 5 ++ sv a.s ++ (hl b).drop (5 + (sv a.s).length) = hl (wS b a) by
    have e1 : (sv a.s).length = 20 := by simp [sv, ha.n]
    have e2 : (hl b).drop (5 + 20) = [] := List.drop_eq_nil_of_le (by simp [hl, sv, hb.n])
    rw [e1, e2, List.append_nil]; rfl] at this
  exact this
set_option maxHeartbeats 1600000 in
theorem differ (a b : Hd) (w : World) (ha : Bd a) (hb : Bd b) (hT : TabP w) :
    Calls Tryd.prog 8 #[.agg (hv a), .agg (hv b)] w fun e w' => e = .returned (.bool true) ∧ Below w.heap.size w w' := by
  have HBA := Lib.hid ha
  have HBB := Lib.hid hb
  have HT := Lib.hid hT
  have HZ := hdAt_new
  have A0 := hdAt_new w a
  have GA := (Below.refl w.heap.size w).alloc (Nat.le_refl _) (.cells (hv a) 25)
  have S0 : (w.alloc (.cells (hv a) 25)).heap.size = w.heap.size + 1 := by simp
  have E0 := hdAt_new (w.alloc (.cells (hv a) 25)) b
  rw [S0] at E0
  have GB := (Below.refl (w.alloc (.cells (hv a) 25)).heap.size (w.alloc (.cells (hv a) 25))).alloc (Nat.le_refl _) (.cells (hv b) 25)
  have HA := Lib.hid (HdAt.past A0 GB)
  have HB := Lib.hid E0
  have B0 := Lib.hid (below_bs GA GB)
  clear hT ha hb A0 GA S0 E0 GB
  go_enter Tryd.func8, Tryd.ntmps8
  go_upto_region 1 with fail
  generalize ((w.alloc (.cells (hv a) 25)).alloc (.cells (hv b) 25)) = w0 at *
  generalize w.heap.size + 1 = gb at *
  have HGB : Hid (gb < w0.heap.size) := Lib.hid (HB.out.lt)
  go_wp2_with fail
  refine (alive w0 (HT.out.past B0.out)).mono ?_
  rintro e w1 ⟨rfl, b1⟩
  have B1 := Lib.hid (below_bs B0.out b1)
  have HA1 := Lib.hid (HA.out.past b1)
  have HB1 := Lib.hid (HB.out.past b1)
  clear b1 B0 HA HB
  go_wp2_with (show wpList _ _ _ ({ dst := _, op := Op.load 25 (.tmp 2), type := _, pos := _, after := _, guard := _ } :: _) _ _; go_must (refine wp_ld (by rfl) _ rfl (HA1.out) (HBA.out) rfl ?_))
  refine (rCheck a w1 HBA.out).mono ?_
  rintro e w2 ⟨rfl, b2⟩
  have B2 := Lib.hid (below_bs B1.out b2)
  have HA2 := Lib.hid (HA1.out.past b2)
  have HB2 := Lib.hid (HB1.out.past b2)
  clear b2 B1 HA1 HB1
  by_cases ka : Ok a
  · rw [hdE_yes ka]
    have HKA := Lib.hid ka
    clear ka
    go_wp2_with (show wpList _ _ _ ({ dst := _, op := Op.load 25 (.tmp 3), type := _, pos := _, after := _, guard := _ } :: _) _ _; go_must (refine wp_ld (by rfl) _ rfl (HB2.out) (HBB.out) rfl ?_))
    refine (rCheck b w2 HBB.out).mono ?_
    rintro e w3 ⟨rfl, b3⟩
    have B3 := Lib.hid (below_bs B2.out b3)
    have HA3 := Lib.hid (HA2.out.past b3)
    have HB3 := Lib.hid (HB2.out.past b3)
    clear b3 B2 HA2 HB2
    by_cases kb : Ok b
    · rw [hdE_yes kb]
      have HKB := Lib.hid kb
      clear kb
      go_wp2_with (show wpList _ _ _ ({ dst := _, op := Op.load 25 (.tmp 2), type := _, pos := _, after := _, guard := _ } :: _) _ _; go_must (refine wp_ld (by rfl) _ rfl (HA3.out) (HBA.out) rfl ?_))
      refine (Encode_any a w3 (HT.out.past B3.out) HBA.out).mono ?_
      rintro e w4 ⟨X4, n4, c4, rfl, hn4, o4, b4⟩
      rw [show enV a = by_ a from if_pos HKA.out] at hn4 o4
      obtain rfl : 28 = n4 := by rw [← hn4, by_len HBA.out]
      rw [hdE_yes HKA.out]
      have HC4 : Hid (28 ≤ c4) := Lib.hid (by
        obtain ⟨X, cap, e1, e2, e3⟩ := o4.val
        injection e1 with _ _ e4
        rw [e4, ← by_len HBA.out]; exact e3)
      have O4 := Lib.hid o4.has
      have B4 := Lib.hid (below_bs B3.out b4)
      have HA4 := Lib.hid (HA3.out.past b4)
      have HB4 := Lib.hid (HB3.out.past b4)
      clear hn4 o4 b4 B3 HA3 HB3
      go_wp2_with (show wpList _ _ _ ({ dst := _, op := Op.load 25 (.tmp 3), type := _, pos := _, after := _, guard := _ } :: _) _ _; go_must (refine wp_ld (by rfl) _ rfl (HB4.out) (HBB.out) rfl ?_))
      refine (Encode_any b w4 (HT.out.past B4.out) HBB.out).mono ?_
      rintro e w5 ⟨X5, n5, c5, rfl, hn5, o5, b5⟩
      rw [show enV b = by_ b from if_pos HKB.out] at hn5 o5
      obtain rfl : 28 = n5 := by rw [← hn5, by_len HBB.out]
      rw [hdE_yes HKB.out]
      have HC5 : Hid (28 ≤ c5) := Lib.hid (by
        obtain ⟨X, cap, e1, e2, e3⟩ := o5.val
        injection e1 with _ _ e4
        rw [e4, ← by_len HBB.out]; exact e3)
      have O5 := Lib.hid o5.has
      have O4' := Lib.hid (O4.out.below b5 (Nat.le_refl _))
      have B5 := Lib.hid (below_bs B4.out b5)
      have HA5 := Lib.hid (HA4.out.past b5)
      have HB5 := Lib.hid (HB4.out.past b5)
      clear hn5 o5 b5 B4 HA4 HB4 O4
      have zv := zv_nul
      go_upto_region 9 with (first | (show wpList _ _ _ ({ dst := _, op := Op.load 25 (.tmp 3), type := _, pos := _, after := _, guard := _ } :: _) _ _; go_must (refine wp_ld (by rfl) _ rfl (HB5.out) (HBB.out) rfl ?_)) | (show wpList _ _ _ ({ dst := none, op := Op.store 25 _ _, type := _, pos := _, after := _, guard := none } :: _) _ _; go_must (refine wp_st (g := w5.heap.size) (h := b) rfl _ _ rfl (HZ w5 nul) (nul_bd) (HBB.out) rfl rfl ?_); intro w6 hR6 hb6 hz6))
      have G6 : Below w5.heap.size w5 w6 := (((Below.refl w5.heap.size w5).alloc (Nat.le_refl _) (.cells (hv nul) 25)).trans hb6)
      have HR6 := Lib.hid hR6
      have HA6 := Lib.hid (HA5.out.past G6)
      go_upto_region 10 with (first | (show wpList _ _ _ ({ dst := _, op := Op.load 23 _, type := _, pos := _, after := _, guard := none } :: _) _ _; go_must (refine wpList_load_mid (P := Tryd.prog) rfl 23 _ rfl _ 5 rfl _ _ (HdAt.rng HA6.out) Tryd.underlying23 rfl (info23 HBA.out.n) ?_)) | (show wpList _ _ _ ({ dst := none, op := Op.store 23 _ _, type := _, pos := _, after := _, guard := none } :: _) _ _; go_must (refine wpList_store_mid (P := Tryd.prog) rfl 23 _ _ rfl _ 5 (sv a.s).toArray rfl rfl (by rw [show (sv a.s).toArray.size = 20 by simp [sv, HBA.out.n]]; exact HdAt.there HR6.out HBB.out) (by rw [show (sv a.s).toArray.size = (sv a.s).length from rfl]; exact info23 HBA.out.n) (sv_one _) ?_)))
      have G7 : Below w5.heap.size w5 (w6.setCells w5.heap.size 5 (sv a.s)) := below_cells w5.heap.size (Nat.le_refl _) (sv a.s) 5 G6
      have HR7 := Lib.hid (sum_set HR6.out HBB.out HBA.out)
      have HA7 := Lib.hid (HA5.out.past G7)
      have B7 := Lib.hid (below_bs B5.out G7)
      have O47 := Lib.hid (O4'.out.below G7 (Nat.le_refl _))
      have O57 := Lib.hid (O5.out.below G7 (Nat.le_refl _))
      clear G6 G7 HR6 HA6 HA5 B5 O4' O5 HB5 hR6 hb6 hz6 zv HZ
      generalize (w6.setCells w5.heap.size 5 (sv a.s)) = w7 at *
      obtain ⟨bb4, of4, rfl, -, -⟩ := has_some O47.out (by rw [by_len HBA.out]; omega)
      obtain ⟨bb5, of5, rfl, -, -⟩ := has_some O57.out (by rw [by_len HBB.out]; omega)
      have P4 := O47
      have P5 := O57
      have HBW : Hid (Bd (wS b a)) := Lib.hid (wS_bd HBA.out HBB.out)
      have HDR : Hid (((by_ a).drop 8).take 20 = a.s) := Lib.hid (by_drop HBA.out)
      have c48 : (8 : Int) ≤ c4 := by have := HC4.out; omega
      have c428 : (28 : Int) ≤ c4 := by have := HC4.out; omega
      have d4 : ¬ c4 = 8 := by have := HC4.out; omega
      have c58 : (8 : Int) ≤ c5 := by have := HC5.out; omega
      clear O47 O57
      have HIFF := Lib.hid (fr_wS HKA.out HKB.out)
      have HFA : Hid (∀ z ∈ fr a, 0 ≤ z ∧ z ≤ 255) := Lib.hid (fr_bd HKA.out)
      have HFB : Hid (∀ z ∈ fr b, 0 ≤ z ∧ z ≤ 255) := Lib.hid (fr_bd HKB.out)
      by_cases ke : fr a = fr b
      · have eqa : ∀ w : World, (Op.equalIn 10000 25 (.agg (hv a)) (.agg (hv (wS b a)))).run Tryd.prog w = .ok true w := fun w => by rw [eq_hd0 a (wS b a) HBA.out HBW.out w, decide_eq_true (HIFF.out.1 ke)]
        have HKE := Lib.hid ke
        clear ke
        (have RD := grows_roads (S := fun x' => Below w7.heap.size w7 x') (fun a b h1 h2 => below_bs h2 h1)); refine region_ord _ Grows RD (Below.drew (Below.refl w7.heap.size w7)) (by kernel_rfl) ?_; intro ops Q' hops hPQ hN; (have HNS : Hid (Region.noSelect ops = true) := Lib.hid (by rw [hops]; kernel_rfl)); (have hsz : ops.size = 24 := (by rw [hops]; rfl)); have HOP := Lib.hid hops; have HPQ := Lib.hid hPQ; have HN := Lib.hid hN; rw [hsz]; clear hops hsz hPQ hN
        refine ord_take RD 0 (at_list (by rw [HOP.out]; rfl)) HNS.out HPQ.out (by rw [HOP.out]; kernel_rfl) (by rw [HOP.out]; kernel_rfl) (by rw [HOP.out]; rfl) (fun K hK => ?_); apply Exists.intro; refine ⟨fun W hSW => ?_, hK _ ?_⟩; (focus ((try dsimp only at hSW); go_simp; try with_reducible rfl)); clear hK K; (try simp only [Act.put, List.setIfInBounds_toArray, List.set_cons_zero, List.set_cons_succ])
        refine ord_take RD 1 (at_list (by rw [HOP.out]; rfl)) HNS.out HPQ.out (by rw [HOP.out]; kernel_rfl) (by rw [HOP.out]; kernel_rfl) (by rw [HOP.out]; rfl) (fun K hK => ?_); apply Exists.intro; refine ⟨fun W hSW => ?_, hK _ ?_⟩; (focus ((try dsimp only at hSW); go_simp; try with_reducible rfl)); clear hK K; (try simp only [Act.put, List.setIfInBounds_toArray, List.set_cons_zero, List.set_cons_succ])
        refine ord_take RD 2 (at_list (by rw [HOP.out]; rfl)) HNS.out HPQ.out (by rw [HOP.out]; kernel_rfl) (by rw [HOP.out]; kernel_rfl) (by rw [HOP.out]; rfl) (fun K hK => ?_); apply Exists.intro; refine ⟨fun W hSW => ?_, hK _ ?_⟩; (focus ((try dsimp only at hSW); go_simp; try with_reducible rfl)); clear hK K; (try simp only [Act.put, List.setIfInBounds_toArray, List.set_cons_zero, List.set_cons_succ])
        refine ord_take RD 3 (at_list (by rw [HOP.out]; rfl)) HNS.out HPQ.out (by rw [HOP.out]; kernel_rfl) (by rw [HOP.out]; kernel_rfl) (by rw [HOP.out]; rfl) (fun K hK => ?_); apply Exists.intro; refine ⟨fun W hSW => ?_, hK _ ?_⟩; (focus ((try dsimp only at hSW); go_simp; try with_reducible rfl)); clear hK K; (try simp only [Act.put, List.setIfInBounds_toArray, List.set_cons_zero, List.set_cons_succ])
        refine ord_take RD 4 (at_list (by rw [HOP.out]; rfl)) HNS.out HPQ.out (by rw [HOP.out]; kernel_rfl) (by rw [HOP.out]; kernel_rfl) (by rw [HOP.out]; rfl) (fun K hK => ?_); apply Exists.intro; refine ⟨fun W hSW => ?_, hK _ ?_⟩; (focus ((try dsimp only at hSW); (have z := conv8 (c := c4) (has_fst (P4.out.below hSW (Nat.le_refl _)) 8) (n := 8) rfl; rw [by_take] at z); go_simp; try with_reducible rfl)); clear hK K; (try simp only [Act.put, List.setIfInBounds_toArray, List.set_cons_zero, List.set_cons_succ])
        refine ord_take RD 5 (at_list (by rw [HOP.out]; rfl)) HNS.out HPQ.out (by rw [HOP.out]; kernel_rfl) (by rw [HOP.out]; kernel_rfl) (by rw [HOP.out]; rfl) (fun K hK => ?_); apply Exists.intro; refine ⟨fun W hSW => ?_, hK _ ?_⟩; (focus ((try dsimp only at hSW); go_simp; try with_reducible rfl)); clear hK K; (try simp only [Act.put, List.setIfInBounds_toArray, List.set_cons_zero, List.set_cons_succ])
        refine ord_take RD 6 (at_list (by rw [HOP.out]; rfl)) HNS.out HPQ.out (by rw [HOP.out]; kernel_rfl) (by rw [HOP.out]; kernel_rfl) (by rw [HOP.out]; rfl) (fun K hK => ?_); apply Exists.intro; refine ⟨fun W hSW => ?_, hK _ ?_⟩; (focus ((try dsimp only at hSW); go_simp; try with_reducible rfl)); clear hK K; (try simp only [Act.put, List.setIfInBounds_toArray, List.set_cons_zero, List.set_cons_succ])
        refine ord_take RD 7 (at_list (by rw [HOP.out]; rfl)) HNS.out HPQ.out (by rw [HOP.out]; kernel_rfl) (by rw [HOP.out]; kernel_rfl) (by rw [HOP.out]; rfl) (fun K hK => ?_); apply Exists.intro; refine ⟨fun W hSW => ?_, hK _ ?_⟩; (focus ((try dsimp only at hSW); (have z := conv8 (c := c5) (has_fst (P5.out.below hSW (Nat.le_refl _)) 8) (n := 8) rfl; rw [by_take, ← HKE.out] at z); go_simp; try with_reducible rfl)); clear hK K; (try simp only [Act.put, List.setIfInBounds_toArray, List.set_cons_zero, List.set_cons_succ])
        refine ord_take RD 8 (at_list (by rw [HOP.out]; rfl)) HNS.out HPQ.out (by rw [HOP.out]; kernel_rfl) (by rw [HOP.out]; kernel_rfl) (by rw [HOP.out]; rfl) (fun K hK => ?_); apply Exists.intro; refine ⟨fun W hSW => ?_, hK _ ?_⟩; (focus ((try dsimp only at hSW); go_simp; try with_reducible rfl)); clear hK K; (try simp only [Act.put, List.setIfInBounds_toArray, List.set_cons_zero, List.set_cons_succ])
        refine ord_take RD 9 (at_list (by rw [HOP.out]; rfl)) HNS.out HPQ.out (by rw [HOP.out]; kernel_rfl) (by rw [HOP.out]; kernel_rfl) (by rw [HOP.out]; rfl) (fun K hK => ?_); apply Exists.intro; refine ⟨fun W hSW => ?_, hK _ ?_⟩; (focus ((try dsimp only at hSW); exact quiet_ld _ rfl (HA7.out.past hSW) (HBA.out) rfl)); clear hK K; (try simp only [Act.put, List.setIfInBounds_toArray, List.set_cons_zero, List.set_cons_succ])
        refine ord_take RD 10 (at_list (by rw [HOP.out]; rfl)) HNS.out HPQ.out (by rw [HOP.out]; kernel_rfl) (by rw [HOP.out]; kernel_rfl) (by rw [HOP.out]; rfl) (fun K hK => ?_); apply Exists.intro; refine ⟨fun W hSW => ?_, hK _ ?_⟩; (focus ((try dsimp only at hSW); exact quiet_ld _ rfl (HR7.out.past hSW) (HBW.out) rfl)); clear hK K; (try simp only [Act.put, List.setIfInBounds_toArray, List.set_cons_zero, List.set_cons_succ])
        refine ord_take RD 11 (at_list (by rw [HOP.out]; rfl)) HNS.out HPQ.out (by rw [HOP.out]; kernel_rfl) (by rw [HOP.out]; kernel_rfl) (by rw [HOP.out]; rfl) (fun K hK => ?_); apply Exists.intro; refine ⟨fun W hSW => ?_, hK _ ?_⟩; (focus ((try dsimp only at hSW); go_simp; try with_reducible rfl)); clear hK K; (try simp only [Act.put, List.setIfInBounds_toArray, List.set_cons_zero, List.set_cons_succ])
        refine ord_take RD 12 (at_list (by rw [HOP.out]; rfl)) HNS.out HPQ.out (by rw [HOP.out]; kernel_rfl) (by rw [HOP.out]; kernel_rfl) (by rw [HOP.out]; rfl) (fun K hK => ?_); apply Exists.intro; refine ⟨fun W hSW => ?_, hK _ ?_⟩; (focus ((try dsimp only at hSW); go_simp; try with_reducible rfl)); clear hK K; (try simp only [Act.put, List.setIfInBounds_toArray, List.set_cons_zero, List.set_cons_succ])
        refine ord_take RD 13 (at_list (by rw [HOP.out]; rfl)) HNS.out HPQ.out (by rw [HOP.out]; kernel_rfl) (by rw [HOP.out]; kernel_rfl) (by rw [HOP.out]; rfl) (fun K hK => ?_); apply Exists.intro; refine ⟨fun W hSW => ?_, hK _ ?_⟩; (focus ((try dsimp only at hSW); go_simp; try with_reducible rfl)); clear hK K; (try simp only [Act.put, List.setIfInBounds_toArray, List.set_cons_zero, List.set_cons_succ])
        refine ord_take RD 14 (at_list (by rw [HOP.out]; rfl)) HNS.out HPQ.out (by rw [HOP.out]; kernel_rfl) (by rw [HOP.out]; kernel_rfl) (by rw [HOP.out]; rfl) (fun K hK => ?_); apply Exists.intro; refine ⟨fun W hSW => ?_, hK _ ?_⟩; (focus ((try dsimp only at hSW); go_simp; try with_reducible rfl)); clear hK K; (try simp only [Act.put, List.setIfInBounds_toArray, List.set_cons_zero, List.set_cons_succ])
        refine ord_take RD 15 (at_list (by rw [HOP.out]; rfl)) HNS.out HPQ.out (by rw [HOP.out]; kernel_rfl) (by rw [HOP.out]; kernel_rfl) (by rw [HOP.out]; rfl) (fun K hK => ?_); apply Exists.intro; refine ⟨fun W hSW => ?_, hK _ ?_⟩; (focus ((try dsimp only at hSW); go_simp; try with_reducible rfl)); clear hK K; (try simp only [Act.put, List.setIfInBounds_toArray, List.set_cons_zero, List.set_cons_succ])
        refine ord_take RD 16 (at_list (by rw [HOP.out]; rfl)) HNS.out HPQ.out (by rw [HOP.out]; kernel_rfl) (by rw [HOP.out]; kernel_rfl) (by rw [HOP.out]; rfl) (fun K hK => ?_); apply Exists.intro; refine ⟨fun W hSW => ?_, hK _ ?_⟩; (focus ((try dsimp only at hSW); go_simp; try with_reducible rfl)); clear hK K; (try simp only [Act.put, List.setIfInBounds_toArray, List.set_cons_zero, List.set_cons_succ])
        refine ord_take RD 17 (at_list (by rw [HOP.out]; rfl)) HNS.out HPQ.out (by rw [HOP.out]; kernel_rfl) (by rw [HOP.out]; kernel_rfl) (by rw [HOP.out]; rfl) (fun K hK => ?_); apply Exists.intro; refine ⟨fun W hSW => ?_, hK _ ?_⟩; (focus ((try dsimp only at hSW); (have z := conv8 (c := c4 - 8) (has_win (P4.out.below hSW (Nat.le_refl _)) 8 20) (n := 20) (by rw [HDR.out]; exact HBA.out.n); rw [HDR.out] at z); go_simp; try with_reducible rfl)); clear hK K; (try simp only [Act.put, List.setIfInBounds_toArray, List.set_cons_zero, List.set_cons_succ])
        refine ord_take RD 18 (at_list (by rw [HOP.out]; rfl)) HNS.out HPQ.out (by rw [HOP.out]; kernel_rfl) (by rw [HOP.out]; kernel_rfl) (by rw [HOP.out]; rfl) (fun K hK => ?_); apply Exists.intro; refine ⟨fun W hSW => ?_, hK _ ?_⟩; (focus ((try dsimp only at hSW); go_simp; try with_reducible rfl)); clear hK K; (try simp only [Act.put, List.setIfInBounds_toArray, List.set_cons_zero, List.set_cons_succ])
        refine ord_take RD 19 (at_list (by rw [HOP.out]; rfl)) HNS.out HPQ.out (by rw [HOP.out]; kernel_rfl) (by rw [HOP.out]; kernel_rfl) (by rw [HOP.out]; rfl) (fun K hK => ?_); apply Exists.intro; refine ⟨fun W hSW => ?_, hK _ ?_⟩; (focus ((try dsimp only at hSW); go_simp; try with_reducible rfl)); clear hK K; (try simp only [Act.put, List.setIfInBounds_toArray, List.set_cons_zero, List.set_cons_succ])
        refine ord_take RD 20 (at_list (by rw [HOP.out]; rfl)) HNS.out HPQ.out (by rw [HOP.out]; kernel_rfl) (by rw [HOP.out]; kernel_rfl) (by rw [HOP.out]; rfl) (fun K hK => ?_); apply Exists.intro; refine ⟨fun W hSW => ?_, hK _ ?_⟩; (focus ((try dsimp only at hSW); (have z := conv8 (c := 20) (HdAt.sum (HA7.out.past hSW)) (n := 20) HBA.out.n); go_simp; try with_reducible rfl)); clear hK K; (try simp only [Act.put, List.setIfInBounds_toArray, List.set_cons_zero, List.set_cons_succ])
        refine ord_take RD 21 (at_list (by rw [HOP.out]; rfl)) HNS.out HPQ.out (by rw [HOP.out]; kernel_rfl) (by rw [HOP.out]; kernel_rfl) (by rw [HOP.out]; rfl) (fun K hK => ?_); apply Exists.intro; refine ⟨fun W hSW => ?_, hK _ ?_⟩; (focus ((try dsimp only at hSW); go_simp; try with_reducible rfl)); clear hK K; (try simp only [Act.put, List.setIfInBounds_toArray, List.set_cons_zero, List.set_cons_succ])
        refine ord_take RD 22 (at_list (by rw [HOP.out]; rfl)) HNS.out HPQ.out (by rw [HOP.out]; kernel_rfl) (by rw [HOP.out]; kernel_rfl) (by rw [HOP.out]; rfl) (fun K hK => ?_); apply Exists.intro; refine ⟨fun W hSW => ?_, hK _ ?_⟩; (focus ((try dsimp only at hSW); go_simp; try with_reducible rfl)); clear hK K; (try simp only [Act.put, List.setIfInBounds_toArray, List.set_cons_zero, List.set_cons_succ])
        refine ord_take RD 23 (at_list (by rw [HOP.out]; rfl)) HNS.out HPQ.out (by rw [HOP.out]; kernel_rfl) (by rw [HOP.out]; kernel_rfl) (by rw [HOP.out]; rfl) (fun K hK => ?_); apply Exists.intro; refine ⟨fun W hSW => ?_, hK _ ?_⟩; (focus ((try dsimp only at hSW); go_simp; try with_reducible rfl)); clear hK K; (try simp only [Act.put, List.setIfInBounds_toArray, List.set_cons_zero, List.set_cons_succ])
        refine ord_done (by rw [HOP.out]; kernel_rfl) (fun W9 hWW hSW => HN.out _ _ ?_); clear HOP HNS HPQ HN RD; (try dsimp only at hSW)
        have B9 := Lib.hid (below_bs B7.out hSW)
        clear hSW hWW
        go_wp2_with fail
        go_ret
        exact ⟨rfl, B9.out⟩
      · have eqa : ∀ w : World, (Op.equalIn 10000 25 (.agg (hv a)) (.agg (hv (wS b a)))).run Tryd.prog w = .ok false w := fun w => by rw [eq_hd0 a (wS b a) HBA.out HBW.out w, decide_eq_false (fun h => ke (HIFF.out.2 h))]
        have sne : ((bstr (fr a)).toList == (bstr (fr b)).toList) = false := by rw [bstr_beq HFA.out HFB.out, decide_eq_false ke]
        have sne2 : ¬ bstr (fr a) = bstr (fr b) := fun h => ke (bstr_inj HFA.out HFB.out h)
        clear ke
        (have RD := grows_roads (S := fun x' => Below w7.heap.size w7 x') (fun a b h1 h2 => below_bs h2 h1)); refine region_ord _ Grows RD (Below.drew (Below.refl w7.heap.size w7)) (by kernel_rfl) ?_; intro ops Q' hops hPQ hN; (have HNS : Hid (Region.noSelect ops = true) := Lib.hid (by rw [hops]; kernel_rfl)); (have hsz : ops.size = 24 := (by rw [hops]; rfl)); have HOP := Lib.hid hops; have HPQ := Lib.hid hPQ; have HN := Lib.hid hN; rw [hsz]; clear hops hsz hPQ hN
        refine ord_take RD 0 (at_list (by rw [HOP.out]; rfl)) HNS.out HPQ.out (by rw [HOP.out]; kernel_rfl) (by rw [HOP.out]; kernel_rfl) (by rw [HOP.out]; rfl) (fun K hK => ?_); apply Exists.intro; refine ⟨fun W hSW => ?_, hK _ ?_⟩; (focus ((try dsimp only at hSW); go_simp; try with_reducible rfl)); clear hK K; (try simp only [Act.put, List.setIfInBounds_toArray, List.set_cons_zero, List.set_cons_succ])
        refine ord_take RD 1 (at_list (by rw [HOP.out]; rfl)) HNS.out HPQ.out (by rw [HOP.out]; kernel_rfl) (by rw [HOP.out]; kernel_rfl) (by rw [HOP.out]; rfl) (fun K hK => ?_); apply Exists.intro; refine ⟨fun W hSW => ?_, hK _ ?_⟩; (focus ((try dsimp only at hSW); go_simp; try with_reducible rfl)); clear hK K; (try simp only [Act.put, List.setIfInBounds_toArray, List.set_cons_zero, List.set_cons_succ])
        refine ord_take RD 2 (at_list (by rw [HOP.out]; rfl)) HNS.out HPQ.out (by rw [HOP.out]; kernel_rfl) (by rw [HOP.out]; kernel_rfl) (by rw [HOP.out]; rfl) (fun K hK => ?_); apply Exists.intro; refine ⟨fun W hSW => ?_, hK _ ?_⟩; (focus ((try dsimp only at hSW); go_simp; try with_reducible rfl)); clear hK K; (try simp only [Act.put, List.setIfInBounds_toArray, List.set_cons_zero, List.set_cons_succ])
        refine ord_take RD 3 (at_list (by rw [HOP.out]; rfl)) HNS.out HPQ.out (by rw [HOP.out]; kernel_rfl) (by rw [HOP.out]; kernel_rfl) (by rw [HOP.out]; rfl) (fun K hK => ?_); apply Exists.intro; refine ⟨fun W hSW => ?_, hK _ ?_⟩; (focus ((try dsimp only at hSW); go_simp; try with_reducible rfl)); clear hK K; (try simp only [Act.put, List.setIfInBounds_toArray, List.set_cons_zero, List.set_cons_succ])
        refine ord_take RD 4 (at_list (by rw [HOP.out]; rfl)) HNS.out HPQ.out (by rw [HOP.out]; kernel_rfl) (by rw [HOP.out]; kernel_rfl) (by rw [HOP.out]; rfl) (fun K hK => ?_); apply Exists.intro; refine ⟨fun W hSW => ?_, hK _ ?_⟩; (focus ((try dsimp only at hSW); (have z := conv8 (c := c4) (has_fst (P4.out.below hSW (Nat.le_refl _)) 8) (n := 8) rfl; rw [by_take] at z); go_simp; try with_reducible rfl)); clear hK K; (try simp only [Act.put, List.setIfInBounds_toArray, List.set_cons_zero, List.set_cons_succ])
        refine ord_take RD 5 (at_list (by rw [HOP.out]; rfl)) HNS.out HPQ.out (by rw [HOP.out]; kernel_rfl) (by rw [HOP.out]; kernel_rfl) (by rw [HOP.out]; rfl) (fun K hK => ?_); apply Exists.intro; refine ⟨fun W hSW => ?_, hK _ ?_⟩; (focus ((try dsimp only at hSW); go_simp; try with_reducible rfl)); clear hK K; (try simp only [Act.put, List.setIfInBounds_toArray, List.set_cons_zero, List.set_cons_succ])
        refine ord_take RD 6 (at_list (by rw [HOP.out]; rfl)) HNS.out HPQ.out (by rw [HOP.out]; kernel_rfl) (by rw [HOP.out]; kernel_rfl) (by rw [HOP.out]; rfl) (fun K hK => ?_); apply Exists.intro; refine ⟨fun W hSW => ?_, hK _ ?_⟩; (focus ((try dsimp only at hSW); go_simp; try with_reducible rfl)); clear hK K; (try simp only [Act.put, List.setIfInBounds_toArray, List.set_cons_zero, List.set_cons_succ])
        refine ord_take RD 7 (at_list (by rw [HOP.out]; rfl)) HNS.out HPQ.out (by rw [HOP.out]; kernel_rfl) (by rw [HOP.out]; kernel_rfl) (by rw [HOP.out]; rfl) (fun K hK => ?_); apply Exists.intro; refine ⟨fun W hSW => ?_, hK _ ?_⟩; (focus ((try dsimp only at hSW); (have z := conv8 (c := c5) (has_fst (P5.out.below hSW (Nat.le_refl _)) 8) (n := 8) rfl; rw [by_take] at z); go_simp; try with_reducible rfl)); clear hK K; (try simp only [Act.put, List.setIfInBounds_toArray, List.set_cons_zero, List.set_cons_succ])
        refine ord_take RD 8 (at_list (by rw [HOP.out]; rfl)) HNS.out HPQ.out (by rw [HOP.out]; kernel_rfl) (by rw [HOP.out]; kernel_rfl) (by rw [HOP.out]; rfl) (fun K hK => ?_); apply Exists.intro; refine ⟨fun W hSW => ?_, hK _ ?_⟩; (focus ((try dsimp only at hSW); go_simp; try with_reducible rfl)); clear hK K; (try simp only [Act.put, List.setIfInBounds_toArray, List.set_cons_zero, List.set_cons_succ])
        refine ord_take RD 9 (at_list (by rw [HOP.out]; rfl)) HNS.out HPQ.out (by rw [HOP.out]; kernel_rfl) (by rw [HOP.out]; kernel_rfl) (by rw [HOP.out]; rfl) (fun K hK => ?_); apply Exists.intro; refine ⟨fun W hSW => ?_, hK _ ?_⟩; (focus ((try dsimp only at hSW); exact quiet_ld _ rfl (HA7.out.past hSW) (HBA.out) rfl)); clear hK K; (try simp only [Act.put, List.setIfInBounds_toArray, List.set_cons_zero, List.set_cons_succ])
        refine ord_take RD 10 (at_list (by rw [HOP.out]; rfl)) HNS.out HPQ.out (by rw [HOP.out]; kernel_rfl) (by rw [HOP.out]; kernel_rfl) (by rw [HOP.out]; rfl) (fun K hK => ?_); apply Exists.intro; refine ⟨fun W hSW => ?_, hK _ ?_⟩; (focus ((try dsimp only at hSW); exact quiet_ld _ rfl (HR7.out.past hSW) (HBW.out) rfl)); clear hK K; (try simp only [Act.put, List.setIfInBounds_toArray, List.set_cons_zero, List.set_cons_succ])
        refine ord_take RD 11 (at_list (by rw [HOP.out]; rfl)) HNS.out HPQ.out (by rw [HOP.out]; kernel_rfl) (by rw [HOP.out]; kernel_rfl) (by rw [HOP.out]; rfl) (fun K hK => ?_); apply Exists.intro; refine ⟨fun W hSW => ?_, hK _ ?_⟩; (focus ((try dsimp only at hSW); go_simp; try with_reducible rfl)); clear hK K; (try simp only [Act.put, List.setIfInBounds_toArray, List.set_cons_zero, List.set_cons_succ])
        refine ord_take RD 12 (at_list (by rw [HOP.out]; rfl)) HNS.out HPQ.out (by rw [HOP.out]; kernel_rfl) (by rw [HOP.out]; kernel_rfl) (by rw [HOP.out]; rfl) (fun K hK => ?_); apply Exists.intro; refine ⟨fun W hSW => ?_, hK _ ?_⟩; (focus ((try dsimp only at hSW); go_simp; try with_reducible rfl)); clear hK K; (try simp only [Act.put, List.setIfInBounds_toArray, List.set_cons_zero, List.set_cons_succ])
        refine ord_take RD 13 (at_list (by rw [HOP.out]; rfl)) HNS.out HPQ.out (by rw [HOP.out]; kernel_rfl) (by rw [HOP.out]; kernel_rfl) (by rw [HOP.out]; rfl) (fun K hK => ?_); apply Exists.intro; refine ⟨fun W hSW => ?_, hK _ ?_⟩; (focus ((try dsimp only at hSW); go_simp; try with_reducible rfl)); clear hK K; (try simp only [Act.put, List.setIfInBounds_toArray, List.set_cons_zero, List.set_cons_succ])
        refine ord_take RD 14 (at_list (by rw [HOP.out]; rfl)) HNS.out HPQ.out (by rw [HOP.out]; kernel_rfl) (by rw [HOP.out]; kernel_rfl) (by rw [HOP.out]; rfl) (fun K hK => ?_); apply Exists.intro; refine ⟨fun W hSW => ?_, hK _ ?_⟩; (focus ((try dsimp only at hSW); go_simp; try with_reducible rfl)); clear hK K; (try simp only [Act.put, List.setIfInBounds_toArray, List.set_cons_zero, List.set_cons_succ])
        refine ord_take RD 15 (at_list (by rw [HOP.out]; rfl)) HNS.out HPQ.out (by rw [HOP.out]; kernel_rfl) (by rw [HOP.out]; kernel_rfl) (by rw [HOP.out]; rfl) (fun K hK => ?_); apply Exists.intro; refine ⟨fun W hSW => ?_, hK _ ?_⟩; (focus ((try dsimp only at hSW); go_simp; try with_reducible rfl)); clear hK K; (try simp only [Act.put, List.setIfInBounds_toArray, List.set_cons_zero, List.set_cons_succ])
        refine ord_take RD 16 (at_list (by rw [HOP.out]; rfl)) HNS.out HPQ.out (by rw [HOP.out]; kernel_rfl) (by rw [HOP.out]; kernel_rfl) (by rw [HOP.out]; rfl) (fun K hK => ?_); apply Exists.intro; refine ⟨fun W hSW => ?_, hK _ ?_⟩; (focus ((try dsimp only at hSW); go_simp; try with_reducible rfl)); clear hK K; (try simp only [Act.put, List.setIfInBounds_toArray, List.set_cons_zero, List.set_cons_succ])
        refine ord_take RD 17 (at_list (by rw [HOP.out]; rfl)) HNS.out HPQ.out (by rw [HOP.out]; kernel_rfl) (by rw [HOP.out]; kernel_rfl) (by rw [HOP.out]; rfl) (fun K hK => ?_); apply Exists.intro; refine ⟨fun W hSW => ?_, hK _ ?_⟩; (focus ((try dsimp only at hSW); (have z := conv8 (c := c4 - 8) (has_win (P4.out.below hSW (Nat.le_refl _)) 8 20) (n := 20) (by rw [HDR.out]; exact HBA.out.n); rw [HDR.out] at z); go_simp; try with_reducible rfl)); clear hK K; (try simp only [Act.put, List.setIfInBounds_toArray, List.set_cons_zero, List.set_cons_succ])
        refine ord_take RD 18 (at_list (by rw [HOP.out]; rfl)) HNS.out HPQ.out (by rw [HOP.out]; kernel_rfl) (by rw [HOP.out]; kernel_rfl) (by rw [HOP.out]; rfl) (fun K hK => ?_); apply Exists.intro; refine ⟨fun W hSW => ?_, hK _ ?_⟩; (focus ((try dsimp only at hSW); go_simp; try with_reducible rfl)); clear hK K; (try simp only [Act.put, List.setIfInBounds_toArray, List.set_cons_zero, List.set_cons_succ])
        refine ord_take RD 19 (at_list (by rw [HOP.out]; rfl)) HNS.out HPQ.out (by rw [HOP.out]; kernel_rfl) (by rw [HOP.out]; kernel_rfl) (by rw [HOP.out]; rfl) (fun K hK => ?_); apply Exists.intro; refine ⟨fun W hSW => ?_, hK _ ?_⟩; (focus ((try dsimp only at hSW); go_simp; try with_reducible rfl)); clear hK K; (try simp only [Act.put, List.setIfInBounds_toArray, List.set_cons_zero, List.set_cons_succ])
        refine ord_take RD 20 (at_list (by rw [HOP.out]; rfl)) HNS.out HPQ.out (by rw [HOP.out]; kernel_rfl) (by rw [HOP.out]; kernel_rfl) (by rw [HOP.out]; rfl) (fun K hK => ?_); apply Exists.intro; refine ⟨fun W hSW => ?_, hK _ ?_⟩; (focus ((try dsimp only at hSW); (have z := conv8 (c := 20) (HdAt.sum (HA7.out.past hSW)) (n := 20) HBA.out.n); go_simp; try with_reducible rfl)); clear hK K; (try simp only [Act.put, List.setIfInBounds_toArray, List.set_cons_zero, List.set_cons_succ])
        refine ord_take RD 21 (at_list (by rw [HOP.out]; rfl)) HNS.out HPQ.out (by rw [HOP.out]; kernel_rfl) (by rw [HOP.out]; kernel_rfl) (by rw [HOP.out]; rfl) (fun K hK => ?_); apply Exists.intro; refine ⟨fun W hSW => ?_, hK _ ?_⟩; (focus ((try dsimp only at hSW); go_simp; try with_reducible rfl)); clear hK K; (try simp only [Act.put, List.setIfInBounds_toArray, List.set_cons_zero, List.set_cons_succ])
        refine ord_take RD 22 (at_list (by rw [HOP.out]; rfl)) HNS.out HPQ.out (by rw [HOP.out]; kernel_rfl) (by rw [HOP.out]; kernel_rfl) (by rw [HOP.out]; rfl) (fun K hK => ?_); apply Exists.intro; refine ⟨fun W hSW => ?_, hK _ ?_⟩; (focus ((try dsimp only at hSW); go_simp; try with_reducible rfl)); clear hK K; (try simp only [Act.put, List.setIfInBounds_toArray, List.set_cons_zero, List.set_cons_succ])
        refine ord_take RD 23 (at_list (by rw [HOP.out]; rfl)) HNS.out HPQ.out (by rw [HOP.out]; kernel_rfl) (by rw [HOP.out]; kernel_rfl) (by rw [HOP.out]; rfl) (fun K hK => ?_); apply Exists.intro; refine ⟨fun W hSW => ?_, hK _ ?_⟩; (focus ((try dsimp only at hSW); go_simp; try with_reducible rfl)); clear hK K; (try simp only [Act.put, List.setIfInBounds_toArray, List.set_cons_zero, List.set_cons_succ])
        refine ord_done (by rw [HOP.out]; kernel_rfl) (fun W9 hWW hSW => HN.out _ _ ?_); clear HOP HNS HPQ HN RD; (try dsimp only at hSW)
        have B9 := Lib.hid (below_bs B7.out hSW)
        clear hSW hWW
        go_wp2_with fail
        go_ret
        exact ⟨rfl, B9.out⟩
    · rw [hdE_no kb]
      clear kb
      go_wp2_with fail
      go_ret
      exact ⟨rfl, B3.out⟩
  · rw [hdE_no ka]
    clear ka
    go_wp2_with fail
    go_ret
    exact ⟨rfl, B2.out⟩
end Go.Proofs.YteofindkccndjaaDoor.hdL
