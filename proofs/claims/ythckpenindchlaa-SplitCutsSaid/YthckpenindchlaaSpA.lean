/- alive of the chapter. -/
import Derived.Test.YthckpenindchlaaSpE
namespace Go.Proofs.Ythckpenindchlaa.spW
set_option maxRecDepth 100000
open Go.RowKit Go.Proofs.Ythckpenindchlaa.base Go.Proofs.Ythckpenindchlaa.mbW
set_option linter.unusedVariables false
set_option linter.unusedSimpArgs false
set_option maxRecDepth 100000
def zA : List Int := [40, 0, 5]
def wA : List Pc := [⟨0, 0, 16⟩, ⟨0, 16, 16⟩, ⟨0, 32, 8⟩, ⟨2, 0, 5⟩]
theorem sz_A : szE zA = 0 := sz_ok (fun k hk => by
  rcases (show k = 0 ∨ k = 1 ∨ k = 2 by simp [zA] at hk; omega) with rfl | rfl | rfl <;> decide) (by decide) (by decide)
theorem pie_A : pieE zA 16 = 0 ∧ pieV zA 16 = wA := by
  have h := pie_ok sz_A (b := 16) (by decide)
  exact ⟨h.1, h.2.trans (by rfl)⟩
theorem cp_A {l : List Pc} (h : ∀ p ∈ l, p ∈ wA) (hl : l.length ≤ 600) : cpE zA l = 0 := cp_ok (by omega) (fun k hk => by
  have hm := h (l.getD k pc0) (by rw [List.getD_eq_getElem?_getD, List.getElem?_eq_getElem hk]; exact List.getElem_mem _)
  simp only [wA, List.mem_cons, List.not_mem_nil, or_false] at hm
  rcases hm with e | e | e | e <;> rw [e] <;> decide)
theorem ms_A1 : msE zA [⟨0, 0, 16⟩, ⟨0, 32, 8⟩, ⟨2, 0, 5⟩] = 0 ∧ msV zA [⟨0, 0, 16⟩, ⟨0, 32, 8⟩, ⟨2, 0, 5⟩] = [⟨0, 16, 16⟩] := by
  have h := ms_ok sz_A (l := [⟨0, 0, 16⟩, ⟨0, 32, 8⟩, ⟨2, 0, 5⟩]) (cp_A (by simp [wA]) (by decide))
  exact ⟨h.1, h.2.trans (by rfl)⟩
theorem ms_A2 : msE zA [⟨0, 0, 16⟩, ⟨2, 0, 5⟩] = 0 ∧ msV zA [⟨0, 0, 16⟩, ⟨2, 0, 5⟩] = [⟨0, 16, 24⟩] := by
  have h := ms_ok sz_A (l := [⟨0, 0, 16⟩, ⟨2, 0, 5⟩]) (cp_A (by simp [wA]) (by decide))
  exact ⟨h.1, h.2.trans (by rfl)⟩
theorem quiet_ldP {o : Oper} {a : Act} {w : World} {C : World → Prop} {g off : Nat} (x y z : Int) (p : Operand) (ho : o.op = .load 46 p) (k : w.rangeAt g off (pcE ⟨x, y, z⟩))
    (hx : a.eval p = .pointer (some ⟨g, off, none⟩)) : Oper.quietAt Try.prog o a C w (.agg #[.int .i64 x, .int .i64 y, .int .i64 z]) :=
  Enc.quiet_ld PE (x := ⟨x, y, z⟩) Try.underlying46 rfl info3 p ho k hx
theorem rng_lit {w : World} {g : Nat} {t : TypeId} {cs : List Value} (L : Lies w g t cs) (off : Nat) {p : Pc} (h : (cs.drop off).take 3 = pcE p) : w.rangeAt g off (pcE p) := fun j v hv => by
  rw [L.cell]
  rw [← h, List.getElem?_take] at hv
  split at hv
  · rwa [List.getElem?_drop] at hv
  · cases hv
theorem zsL {w : World} {g n : Nat} {zs : List Int} (L : Lies w g 3 (zs.map (Value.int .i64))) (hn : zs.length = n) (h9 : n ≤ 1000) (hz : ∀ x ∈ zs, -9223372036854775808 ≤ x ∧ x ≤ 9223372036854775807) : ZsB w (some ⟨g, 0, none⟩) n n zs :=
  ⟨.inr ⟨g, 0, rfl, L.lt, fun i hi => by rw [Nat.zero_add, L.cell, List.getElem?_map, List.getElem?_eq_getElem hi, List.getD_eq_getElem?_getD, List.getElem?_eq_getElem hi]; rfl⟩, hn, Nat.le_refl _, by omega, hz⟩
theorem psL (w : World) (l : List Pc) {n g : Nat} (hn : l.length = n) (h9 : n ≤ 1000) (hg : w.heap.size = g) (hz : ∀ p ∈ l, PcOk p) : PsB (w.alloc (.cells (PE.row l).toArray 46)) (some ⟨g, 0, none⟩) n n l :=
  ⟨Enc.lit PE w l hg, hn, Nat.le_refl _, by omega, fun p hp => ⟨(hz p hp).m, (hz p hp).o, (hz p hp).r⟩⟩
theorem ok_wA : ∀ p ∈ wA, PcOk p := by
  intro p hp
  simp only [wA, List.mem_cons, List.not_mem_nil, or_false] at hp
  rcases hp with e | e | e | e <;> rw [e] <;> exact ⟨by decide, by decide, by decide⟩
open Classical in
set_option maxHeartbeats 12800000 in
theorem alive_yes (w : World) : Calls Try.prog 16 #[] w fun e w' => e = .returned (.bool true) ∧ Below w.heap.size w w' := by
  have Z0 := Lib.hid (zsL (zs := zA) (Lies.fresh w 3 (zA.map (Value.int .i64))) rfl (by decide) (by decide))
  have B0 := Lib.hid (mb_new w (.cells #[.int .i64 40, .int .i64 0, .int .i64 5] 3))
  go_enter Try.func16, Try.ntmps16
  go_wp2_with fail
  refine (Pieces_any zA (some ⟨w.heap.size, 0, none⟩) 3 3 16 _ Z0.out (by decide) (by decide)).mono ?_
  rintro e w1 ⟨A1, n1, c1, rfl, hn1, ho1, b1⟩
  rw [pie_A.1]
  rw [pie_A.2] at hn1 ho1
  have hn4 : n1 = 4 := hn1
  subst hn4
  have O1 := Lib.hid (ho1.past (mb_new w1 (.cells #[.int .i64 0, .int .i64 0, .int .i64 16, .int .i64 0, .int .i64 16, .int .i64 16, .int .i64 0, .int .i64 32, .int .i64 8, .int .i64 2, .int .i64 0, .int .i64 5] 46)))
  have Z1 := Lib.hid ((Z0.out.past b1).past (mb_new w1 (.cells #[.int .i64 0, .int .i64 0, .int .i64 16, .int .i64 0, .int .i64 16, .int .i64 16, .int .i64 0, .int .i64 32, .int .i64 8, .int .i64 2, .int .i64 0, .int .i64 5] 46)))
  have B1 := Lib.hid (mb_bb (mb_bb B0.out b1) (mb_new w1 (.cells #[.int .i64 0, .int .i64 0, .int .i64 16, .int .i64 0, .int .i64 16, .int .i64 16, .int .i64 0, .int .i64 32, .int .i64 8, .int .i64 2, .int .i64 0, .int .i64 5] 46)))
  have L4 := Lib.hid (Lies.fresh w1 46 [.int .i64 0, .int .i64 0, .int .i64 16, .int .i64 0, .int .i64 16, .int .i64 16, .int .i64 0, .int .i64 32, .int .i64 8, .int .i64 2, .int .i64 0, .int .i64 5])
  have W4 := Lib.hid (psL w1 wA rfl (by decide) rfl ok_wA)
  clear hn1 ho1 b1 Z0 B0
  go_upto_region 4 with fail
  generalize hw2 : (w1.alloc (.cells #[.int .i64 0, .int .i64 0, .int .i64 16, .int .i64 0, .int .i64 16, .int .i64 16, .int .i64 0, .int .i64 32, .int .i64 8, .int .i64 2, .int .i64 0, .int .i64 5] 46)) = w2 at *
  have W4' : Hid (PsB w2 (some ⟨w1.heap.size, 0, none⟩) 4 4 wA) := Lib.hid (by first | exact W4.out | (rw [← hw2]; exact W4.out))
  clear W4 hw2
  obtain ⟨g4, hg4⟩ : ∃ g, w1.heap.size = g := ⟨_, rfl⟩
  rw [hg4] at L4 W4' ⊢
  clear hg4
  (have RD := grows_roads (S := fun x' => Below w2.heap.size w2 x') (fun a b h1 h2 => h2.trans (h1.mono h2.size))); refine region_ord _ Grows RD (Below.drew (Below.refl _ _)) (by kernel_rfl) ?_; intro ops Q' hops hPQ hN; (have HNS : Hid (Region.noSelect ops = true) := Lib.hid (by rw [hops]; kernel_rfl)); (have hsz : ops.size = 17 := (by rw [hops]; rfl)); have HOP := Lib.hid hops; have HPQ := Lib.hid hPQ; have HN := Lib.hid hN; rw [hsz]; clear hops hsz hPQ hN
  refine ord_take RD 0 (at_list (by rw [HOP.out]; rfl)) HNS.out HPQ.out (by rw [HOP.out]; kernel_rfl) (by rw [HOP.out]; kernel_rfl) (by rw [HOP.out]; rfl) (fun K hK => ?_); apply Exists.intro; refine ⟨fun W hSW => ?_, hK _ ?_⟩; (focus ((try dsimp only at hSW); go_simp; try with_reducible rfl)); clear hK K; (try simp only [Act.put, List.setIfInBounds_toArray, List.set_cons_zero, List.set_cons_succ])
  refine ord_take RD 1 (at_list (by rw [HOP.out]; rfl)) HNS.out HPQ.out (by rw [HOP.out]; kernel_rfl) (by rw [HOP.out]; kernel_rfl) (by rw [HOP.out]; rfl) (fun K hK => ?_); apply Exists.intro; refine ⟨fun W hSW => ?_, hK _ ?_⟩; (focus ((try dsimp only at hSW); go_simp; try with_reducible rfl)); clear hK K; (try simp only [Act.put, List.setIfInBounds_toArray, List.set_cons_zero, List.set_cons_succ])
  refine ord_take RD 2 (at_list (by rw [HOP.out]; rfl)) HNS.out HPQ.out (by rw [HOP.out]; kernel_rfl) (by rw [HOP.out]; kernel_rfl) (by rw [HOP.out]; rfl) (fun K hK => ?_); apply Exists.intro; refine ⟨fun W hSW => ?_, hK _ ?_⟩; (focus ((try dsimp only at hSW); go_simp; try with_reducible rfl)); clear hK K; (try simp only [Act.put, List.setIfInBounds_toArray, List.set_cons_zero, List.set_cons_succ])
  refine ord_take RD 3 (at_list (by rw [HOP.out]; rfl)) HNS.out HPQ.out (by rw [HOP.out]; kernel_rfl) (by rw [HOP.out]; kernel_rfl) (by rw [HOP.out]; rfl) (fun K hK => ?_); apply Exists.intro; refine ⟨fun W hSW => ?_, hK _ ?_⟩; (focus ((try dsimp only at hSW); exact quiet_ldP (0) (0) (16) _ rfl (rng_lit (L4.out.past hSW) 0 (p := ⟨0, 0, 16⟩) rfl) rfl)); clear hK K; (try simp only [Act.put, List.setIfInBounds_toArray, List.set_cons_zero, List.set_cons_succ])
  refine ord_take RD 4 (at_list (by rw [HOP.out]; rfl)) HNS.out HPQ.out (by rw [HOP.out]; kernel_rfl) (by rw [HOP.out]; kernel_rfl) (by rw [HOP.out]; rfl) (fun K hK => ?_); apply Exists.intro; refine ⟨fun W hSW => ?_, hK _ ?_⟩; (focus ((try dsimp only at hSW); go_simp; try with_reducible rfl)); clear hK K; (try simp only [Act.put, List.setIfInBounds_toArray, List.set_cons_zero, List.set_cons_succ])
  refine ord_take RD 5 (at_list (by rw [HOP.out]; rfl)) HNS.out HPQ.out (by rw [HOP.out]; kernel_rfl) (by rw [HOP.out]; kernel_rfl) (by rw [HOP.out]; rfl) (fun K hK => ?_); apply Exists.intro; refine ⟨fun W hSW => ?_, hK _ ?_⟩; (focus ((try dsimp only at hSW); go_simp; try with_reducible rfl)); clear hK K; (try simp only [Act.put, List.setIfInBounds_toArray, List.set_cons_zero, List.set_cons_succ])
  refine ord_take RD 6 (at_list (by rw [HOP.out]; rfl)) HNS.out HPQ.out (by rw [HOP.out]; kernel_rfl) (by rw [HOP.out]; kernel_rfl) (by rw [HOP.out]; rfl) (fun K hK => ?_); apply Exists.intro; refine ⟨fun W hSW => ?_, hK _ ?_⟩; (focus ((try dsimp only at hSW); exact quiet_ldP (0) (32) (8) _ rfl (rng_lit (L4.out.past hSW) 6 (p := ⟨0, 32, 8⟩) rfl) rfl)); clear hK K; (try simp only [Act.put, List.setIfInBounds_toArray, List.set_cons_zero, List.set_cons_succ])
  refine ord_take RD 7 (at_list (by rw [HOP.out]; rfl)) HNS.out HPQ.out (by rw [HOP.out]; kernel_rfl) (by rw [HOP.out]; kernel_rfl) (by rw [HOP.out]; rfl) (fun K hK => ?_); apply Exists.intro; refine ⟨fun W hSW => ?_, hK _ ?_⟩; (focus ((try dsimp only at hSW); go_simp; try with_reducible rfl)); clear hK K; (try simp only [Act.put, List.setIfInBounds_toArray, List.set_cons_zero, List.set_cons_succ])
  refine ord_take RD 8 (at_list (by rw [HOP.out]; rfl)) HNS.out HPQ.out (by rw [HOP.out]; kernel_rfl) (by rw [HOP.out]; kernel_rfl) (by rw [HOP.out]; rfl) (fun K hK => ?_); apply Exists.intro; refine ⟨fun W hSW => ?_, hK _ ?_⟩; (focus ((try dsimp only at hSW); go_simp; try with_reducible rfl)); clear hK K; (try simp only [Act.put, List.setIfInBounds_toArray, List.set_cons_zero, List.set_cons_succ])
  refine ord_take RD 9 (at_list (by rw [HOP.out]; rfl)) HNS.out HPQ.out (by rw [HOP.out]; kernel_rfl) (by rw [HOP.out]; kernel_rfl) (by rw [HOP.out]; rfl) (fun K hK => ?_); apply Exists.intro; refine ⟨fun W hSW => ?_, hK _ ?_⟩; (focus ((try dsimp only at hSW); exact quiet_ldP (2) (0) (5) _ rfl (rng_lit (L4.out.past hSW) 9 (p := ⟨2, 0, 5⟩) rfl) rfl)); clear hK K; (try simp only [Act.put, List.setIfInBounds_toArray, List.set_cons_zero, List.set_cons_succ])
  refine ord_one RD 10 (by rw [HOP.out]; kernel_rfl) (at_list (by rw [HOP.out]; rfl)) (by rw [HOP.out]; rfl) (fun W1 hWW hSW K hK => ?_); (try dsimp only at hSW)
  go_simp
  have P3 := Lib.hid (psL W1 [⟨0, 0, 16⟩, ⟨0, 32, 8⟩, ⟨2, 0, 5⟩] rfl (by decide) rfl (fun p hp => ok_wA p (by simp [wA] at hp ⊢; rcases hp with h | h | h <;> simp [h])))
  have G := mb_new W1 (.cells #[.int .i64 0, .int .i64 0, .int .i64 16, .int .i64 0, .int .i64 32, .int .i64 8, .int .i64 2, .int .i64 0, .int .i64 5] 46)
  refine hK _ _ (mb_bb hSW G) ?_
  clear hSW hWW G
  clear hK K; (try simp only [Act.put, List.setIfInBounds_toArray, List.set_cons_zero, List.set_cons_succ])
  generalize hwx : (W1.alloc (.cells #[.int .i64 0, .int .i64 0, .int .i64 16, .int .i64 0, .int .i64 32, .int .i64 8, .int .i64 2, .int .i64 0, .int .i64 5] 46)) = Wx at *
  have P3' : Hid (PsB Wx (some ⟨W1.heap.size, 0, none⟩) 3 3 [⟨0, 0, 16⟩, ⟨0, 32, 8⟩, ⟨2, 0, 5⟩]) := Lib.hid (by first | exact P3.out | (rw [← hwx]; exact P3.out))
  clear P3 hwx
  refine ord_one RD 11 (by rw [HOP.out]; kernel_rfl) (at_list (by rw [HOP.out]; rfl)) (by rw [HOP.out]; rfl) (fun W2 hWW hSW K hK => ?_); (try dsimp only at hSW)
  go_simp
  refine (Missing_any zA (some ⟨w.heap.size, 0, none⟩) 3 3 [⟨0, 0, 16⟩, ⟨0, 32, 8⟩, ⟨2, 0, 5⟩] (some ⟨W1.heap.size, 0, none⟩) 3 3 W2 (Z1.out.past hSW) (P3'.out.past hWW)).mono ?_
  rintro e w3 ⟨A3, n3, c3, rfl, hn3, ho3, b3⟩
  rw [ms_A1.1]
  rw [ms_A1.2] at hn3 ho3
  have hn31 : n3 = 1 := hn3
  subst hn31
  have O3 := Lib.hid ho3
  refine hK _ _ (mb_bb hSW b3) ?_
  clear hSW hWW b3 hn3 ho3 P3'
  clear hK K; (try simp only [Act.put, List.setIfInBounds_toArray, List.set_cons_zero, List.set_cons_succ])
  refine ord_take RD 12 (at_list (by rw [HOP.out]; rfl)) HNS.out HPQ.out (by rw [HOP.out]; kernel_rfl) (by rw [HOP.out]; kernel_rfl) (by rw [HOP.out]; rfl) (fun K hK => ?_); apply Exists.intro; refine ⟨fun W hSW => ?_, hK _ ?_⟩; (focus ((try dsimp only at hSW); go_simp; try with_reducible rfl)); clear hK K; (try simp only [Act.put, List.setIfInBounds_toArray, List.set_cons_zero, List.set_cons_succ])
  refine ord_take RD 13 (at_list (by rw [HOP.out]; rfl)) HNS.out HPQ.out (by rw [HOP.out]; kernel_rfl) (by rw [HOP.out]; kernel_rfl) (by rw [HOP.out]; rfl) (fun K hK => ?_); apply Exists.intro; refine ⟨fun W hSW => ?_, hK _ ?_⟩; (focus ((try dsimp only at hSW); go_simp; try with_reducible rfl)); clear hK K; (try simp only [Act.put, List.setIfInBounds_toArray, List.set_cons_zero, List.set_cons_succ])
  refine ord_take RD 14 (at_list (by rw [HOP.out]; rfl)) HNS.out HPQ.out (by rw [HOP.out]; kernel_rfl) (by rw [HOP.out]; kernel_rfl) (by rw [HOP.out]; rfl) (fun K hK => ?_); apply Exists.intro; refine ⟨fun W hSW => ?_, hK _ ?_⟩; (focus ((try dsimp only at hSW); go_simp; try with_reducible rfl)); clear hK K; (try simp only [Act.put, List.setIfInBounds_toArray, List.set_cons_zero, List.set_cons_succ])
  refine ord_take RD 15 (at_list (by rw [HOP.out]; rfl)) HNS.out HPQ.out (by rw [HOP.out]; kernel_rfl) (by rw [HOP.out]; kernel_rfl) (by rw [HOP.out]; rfl) (fun K hK => ?_); apply Exists.intro; refine ⟨fun W hSW => ?_, hK _ ?_⟩; (focus ((try dsimp only at hSW); go_simp; try with_reducible rfl)); clear hK K; (try simp only [Act.put, List.setIfInBounds_toArray, List.set_cons_zero, List.set_cons_succ])
  refine ord_take RD 16 (at_list (by rw [HOP.out]; rfl)) HNS.out HPQ.out (by rw [HOP.out]; kernel_rfl) (by rw [HOP.out]; kernel_rfl) (by rw [HOP.out]; rfl) (fun K hK => ?_); apply Exists.intro; refine ⟨fun W hSW => ?_, hK _ ?_⟩; (focus ((try dsimp only at hSW); go_simp; try with_reducible rfl)); clear hK K; (try simp only [Act.put, List.setIfInBounds_toArray, List.set_cons_zero, List.set_cons_succ])
  refine ord_done (by rw [HOP.out]; kernel_rfl) (fun W3 hWW hSW => HN.out _ _ ?_); clear HOP HNS HPQ HN RD; (try dsimp only at hSW)
  have O1b := Lib.hid (O1.out.past hSW)
  have Z1b := Lib.hid (Z1.out.past hSW)
  have B1b := Lib.hid (mb_bb B1.out hSW)
  have L4b := Lib.hid (L4.out.past hSW)
  have W4b := Lib.hid (W4'.out.past hSW)
  have O3b := Lib.hid (O3.out.past hWW)
  clear hSW hWW O1 Z1 B1 L4 W4' O3
  go_upto_region 5 with fail
  (have RD := grows_roads (S := fun x' => Below W3.heap.size W3 x') (fun a b h1 h2 => h2.trans (h1.mono h2.size))); refine region_ord _ Grows RD (Below.drew (Below.refl _ _)) (by kernel_rfl) ?_; intro ops Q' hops hPQ hN; (have HNS : Hid (Region.noSelect ops = true) := Lib.hid (by rw [hops]; kernel_rfl)); (have hsz : ops.size = 14 := (by rw [hops]; rfl)); have HOP := Lib.hid hops; have HPQ := Lib.hid hPQ; have HN := Lib.hid hN; rw [hsz]; clear hops hsz hPQ hN
  refine ord_take RD 0 (at_list (by rw [HOP.out]; rfl)) HNS.out HPQ.out (by rw [HOP.out]; kernel_rfl) (by rw [HOP.out]; kernel_rfl) (by rw [HOP.out]; rfl) (fun K hK => ?_); apply Exists.intro; refine ⟨fun W hSW => ?_, hK _ ?_⟩; (focus ((try dsimp only at hSW); go_simp; try with_reducible rfl)); clear hK K; (try simp only [Act.put, List.setIfInBounds_toArray, List.set_cons_zero, List.set_cons_succ])
  refine ord_take RD 1 (at_list (by rw [HOP.out]; rfl)) HNS.out HPQ.out (by rw [HOP.out]; kernel_rfl) (by rw [HOP.out]; kernel_rfl) (by rw [HOP.out]; rfl) (fun K hK => ?_); apply Exists.intro; refine ⟨fun W hSW => ?_, hK _ ?_⟩; (focus ((try dsimp only at hSW); go_simp; try with_reducible rfl)); clear hK K; (try simp only [Act.put, List.setIfInBounds_toArray, List.set_cons_zero, List.set_cons_succ])
  refine ord_take RD 2 (at_list (by rw [HOP.out]; rfl)) HNS.out HPQ.out (by rw [HOP.out]; kernel_rfl) (by rw [HOP.out]; kernel_rfl) (by rw [HOP.out]; rfl) (fun K hK => ?_); apply Exists.intro; refine ⟨fun W hSW => ?_, hK _ ?_⟩; (focus ((try dsimp only at hSW); go_simp; try with_reducible rfl)); clear hK K; (try simp only [Act.put, List.setIfInBounds_toArray, List.set_cons_zero, List.set_cons_succ])
  refine ord_take RD 3 (at_list (by rw [HOP.out]; rfl)) HNS.out HPQ.out (by rw [HOP.out]; kernel_rfl) (by rw [HOP.out]; kernel_rfl) (by rw [HOP.out]; rfl) (fun K hK => ?_); apply Exists.intro; refine ⟨fun W hSW => ?_, hK _ ?_⟩; (focus ((try dsimp only at hSW); exact quiet_ldP (0) (0) (16) _ rfl (rng_lit (L4b.out.past hSW) 0 (p := ⟨0, 0, 16⟩) rfl) rfl)); clear hK K; (try simp only [Act.put, List.setIfInBounds_toArray, List.set_cons_zero, List.set_cons_succ])
  refine ord_take RD 4 (at_list (by rw [HOP.out]; rfl)) HNS.out HPQ.out (by rw [HOP.out]; kernel_rfl) (by rw [HOP.out]; kernel_rfl) (by rw [HOP.out]; rfl) (fun K hK => ?_); apply Exists.intro; refine ⟨fun W hSW => ?_, hK _ ?_⟩; (focus ((try dsimp only at hSW); go_simp; try with_reducible rfl)); clear hK K; (try simp only [Act.put, List.setIfInBounds_toArray, List.set_cons_zero, List.set_cons_succ])
  refine ord_take RD 5 (at_list (by rw [HOP.out]; rfl)) HNS.out HPQ.out (by rw [HOP.out]; kernel_rfl) (by rw [HOP.out]; kernel_rfl) (by rw [HOP.out]; rfl) (fun K hK => ?_); apply Exists.intro; refine ⟨fun W hSW => ?_, hK _ ?_⟩; (focus ((try dsimp only at hSW); go_simp; try with_reducible rfl)); clear hK K; (try simp only [Act.put, List.setIfInBounds_toArray, List.set_cons_zero, List.set_cons_succ])
  refine ord_take RD 6 (at_list (by rw [HOP.out]; rfl)) HNS.out HPQ.out (by rw [HOP.out]; kernel_rfl) (by rw [HOP.out]; kernel_rfl) (by rw [HOP.out]; rfl) (fun K hK => ?_); apply Exists.intro; refine ⟨fun W hSW => ?_, hK _ ?_⟩; (focus ((try dsimp only at hSW); exact quiet_ldP (2) (0) (5) _ rfl (rng_lit (L4b.out.past hSW) 9 (p := ⟨2, 0, 5⟩) rfl) rfl)); clear hK K; (try simp only [Act.put, List.setIfInBounds_toArray, List.set_cons_zero, List.set_cons_succ])
  refine ord_one RD 7 (by rw [HOP.out]; kernel_rfl) (at_list (by rw [HOP.out]; rfl)) (by rw [HOP.out]; rfl) (fun V1 hWW hSW K hK => ?_); (try dsimp only at hSW)
  go_simp
  have P3 := Lib.hid (psL V1 [⟨0, 0, 16⟩, ⟨2, 0, 5⟩] rfl (by decide) rfl (fun p hp => ok_wA p (by simp [wA] at hp ⊢; rcases hp with h | h <;> simp [h])))
  have G := mb_new V1 (.cells #[.int .i64 0, .int .i64 0, .int .i64 16, .int .i64 2, .int .i64 0, .int .i64 5] 46)
  refine hK _ _ (mb_bb hSW G) ?_
  clear hSW hWW G
  clear hK K; (try simp only [Act.put, List.setIfInBounds_toArray, List.set_cons_zero, List.set_cons_succ])
  generalize hwx : (V1.alloc (.cells #[.int .i64 0, .int .i64 0, .int .i64 16, .int .i64 2, .int .i64 0, .int .i64 5] 46)) = Vx at *
  have P3' : Hid (PsB Vx (some ⟨V1.heap.size, 0, none⟩) 2 2 [⟨0, 0, 16⟩, ⟨2, 0, 5⟩]) := Lib.hid (by first | exact P3.out | (rw [← hwx]; exact P3.out))
  clear P3 hwx
  refine ord_one RD 8 (by rw [HOP.out]; kernel_rfl) (at_list (by rw [HOP.out]; rfl)) (by rw [HOP.out]; rfl) (fun V2 hWW hSW K hK => ?_); (try dsimp only at hSW)
  go_simp
  refine (Missing_any zA (some ⟨w.heap.size, 0, none⟩) 3 3 [⟨0, 0, 16⟩, ⟨2, 0, 5⟩] (some ⟨V1.heap.size, 0, none⟩) 2 2 V2 (Z1b.out.past hSW) (P3'.out.past hWW)).mono ?_
  rintro e w5 ⟨A5, n5, c5, rfl, hn5, ho5, b5⟩
  rw [ms_A2.1]
  rw [ms_A2.2] at hn5 ho5
  have hn51 : n5 = 1 := hn5
  subst hn51
  have O5 := Lib.hid ho5
  refine hK _ _ (mb_bb hSW b5) ?_
  clear hSW hWW b5 hn5 ho5 P3'
  clear hK K; (try simp only [Act.put, List.setIfInBounds_toArray, List.set_cons_zero, List.set_cons_succ])
  refine ord_take RD 9 (at_list (by rw [HOP.out]; rfl)) HNS.out HPQ.out (by rw [HOP.out]; kernel_rfl) (by rw [HOP.out]; kernel_rfl) (by rw [HOP.out]; rfl) (fun K hK => ?_); apply Exists.intro; refine ⟨fun W hSW => ?_, hK _ ?_⟩; (focus ((try dsimp only at hSW); go_simp; try with_reducible rfl)); clear hK K; (try simp only [Act.put, List.setIfInBounds_toArray, List.set_cons_zero, List.set_cons_succ])
  refine ord_take RD 10 (at_list (by rw [HOP.out]; rfl)) HNS.out HPQ.out (by rw [HOP.out]; kernel_rfl) (by rw [HOP.out]; kernel_rfl) (by rw [HOP.out]; rfl) (fun K hK => ?_); apply Exists.intro; refine ⟨fun W hSW => ?_, hK _ ?_⟩; (focus ((try dsimp only at hSW); go_simp; try with_reducible rfl)); clear hK K; (try simp only [Act.put, List.setIfInBounds_toArray, List.set_cons_zero, List.set_cons_succ])
  refine ord_take RD 11 (at_list (by rw [HOP.out]; rfl)) HNS.out HPQ.out (by rw [HOP.out]; kernel_rfl) (by rw [HOP.out]; kernel_rfl) (by rw [HOP.out]; rfl) (fun K hK => ?_); apply Exists.intro; refine ⟨fun W hSW => ?_, hK _ ?_⟩; (focus ((try dsimp only at hSW); go_simp; try with_reducible rfl)); clear hK K; (try simp only [Act.put, List.setIfInBounds_toArray, List.set_cons_zero, List.set_cons_succ])
  refine ord_take RD 12 (at_list (by rw [HOP.out]; rfl)) HNS.out HPQ.out (by rw [HOP.out]; kernel_rfl) (by rw [HOP.out]; kernel_rfl) (by rw [HOP.out]; rfl) (fun K hK => ?_); apply Exists.intro; refine ⟨fun W hSW => ?_, hK _ ?_⟩; (focus ((try dsimp only at hSW); go_simp; try with_reducible rfl)); clear hK K; (try simp only [Act.put, List.setIfInBounds_toArray, List.set_cons_zero, List.set_cons_succ])
  refine ord_take RD 13 (at_list (by rw [HOP.out]; rfl)) HNS.out HPQ.out (by rw [HOP.out]; kernel_rfl) (by rw [HOP.out]; kernel_rfl) (by rw [HOP.out]; rfl) (fun K hK => ?_); apply Exists.intro; refine ⟨fun W hSW => ?_, hK _ ?_⟩; (focus ((try dsimp only at hSW); go_simp; try with_reducible rfl)); clear hK K; (try simp only [Act.put, List.setIfInBounds_toArray, List.set_cons_zero, List.set_cons_succ])
  refine ord_done (by rw [HOP.out]; kernel_rfl) (fun V3 hWW hSW => HN.out _ _ ?_); clear HOP HNS HPQ HN RD; (try dsimp only at hSW)
  have O1c := Lib.hid (O1b.out.past hSW)
  have B1c := Lib.hid (mb_bb B1b.out hSW)
  have W4c := Lib.hid (W4b.out.past hSW)
  have O3c := Lib.hid (O3b.out.past hSW)
  have O5c := Lib.hid (O5.out.past hWW)
  clear hSW hWW O1b Z1b B1b L4b W4b O3b O5
  go_wp2_with fail
  refine (Same_any wA wA A1 (some ⟨g4, 0, none⟩) 4 4 c1 4 V3 O1c.out.has W4c.out.h rfl rfl (by decide) (by decide) ok_wA ok_wA).mono ?_
  rintro e w6 ⟨rfl, b6⟩
  rw [show decide (wA = wA) = true from decide_eq_true rfl]
  have W6 := Lib.hid (W4c.out.past b6)
  have O6 := Lib.hid (O3c.out.past b6)
  have P6 := Lib.hid (O5c.out.past b6)
  have B6 := Lib.hid (mb_bb B1c.out b6)
  clear b6 O1c B1c W4c O3c O5c
  go_wp2_with fail
  have HD6 := Lib.hid ((W6.out.h.drop 1).take 1)
  refine (Same_any [⟨0, 16, 16⟩] [⟨0, 16, 16⟩] A3 (some ⟨g4, 3, none⟩) 1 1 c3 3 w6 O6.out.has HD6.out rfl rfl (by decide) (by decide) (by simp; exact ⟨by decide, by decide, by decide⟩) (by simp; exact ⟨by decide, by decide, by decide⟩)).mono ?_
  rintro e w7 ⟨rfl, b7⟩
  rw [show decide (([⟨0, 16, 16⟩] : List Pc) = [⟨0, 16, 16⟩]) = true from decide_eq_true rfl]
  have P7 := Lib.hid ((P6.out.past b7).past (mb_new w7 (.cells #[.int .i64 0, .int .i64 16, .int .i64 24] 46)))
  have B7 := Lib.hid (mb_bb (mb_bb B6.out b7) (mb_new w7 (.cells #[.int .i64 0, .int .i64 16, .int .i64 24] 46)))
  have H7 := Lib.hid (lit1 w7 ⟨0, 16, 24⟩ rfl)
  clear b7 HD6 W6 O6 P6 B6
  go_wp2_with fail
  refine (Same_any [⟨0, 16, 24⟩] [⟨0, 16, 24⟩] A5 (some ⟨w7.heap.size, 0, none⟩) 1 1 c5 1 _ P7.out.has H7.out rfl rfl (by decide) (by decide) (by simp; exact ⟨by decide, by decide, by decide⟩) (by simp; exact ⟨by decide, by decide, by decide⟩)).mono ?_
  rintro e w8 ⟨rfl, b8⟩
  rw [show decide (([⟨0, 16, 24⟩] : List Pc) = [⟨0, 16, 24⟩]) = true from decide_eq_true rfl]
  have B8 := Lib.hid (mb_bb B7.out b8)
  clear b8
  go_wp2_with fail
  go_ret
  exact ⟨rfl, B8.out⟩
end Go.Proofs.Ythckpenindchlaa.spW
