/- alive of the chapter. -/
import Derived.Test.YtphakelncjogpaaDoorMbAl
namespace Go.Proofs.YtphakelncjogpaaDoor.mbW
set_option maxRecDepth 100000
open Go.RowKit Go.Proofs.YtphakelncjogpaaDoor.base Go.Proofs.YtphakelncjogpaaDoor.shP Go.Proofs.YtphakelncjogpaaDoor.shW Go.Proofs.YtphakelncjogpaaDoor.ocP Go.Proofs.YtphakelncjogpaaDoor.ocW
open Go.Proofs.YtphakelncjogpaaDoor.trW (IsD sv zd_isD digest_isD z20_at)
set_option linter.unusedVariables false
set_option linter.unusedSimpArgs false
set_option maxRecDepth 100000
theorem inr0 (w : World) : InR w r80 := ⟨.inl rfl, rfl, Nat.le_refl _, by decide, by simp [r80]⟩
theorem ra_ok : RcOk ra := ⟨by decide, by decide, dN_isD⟩
theorem run_rec2 {l : List Int} (h : l.length = 20) (s : ByteArray) (w : World) : (Instr.build 54 #[(0, .string s), (2, .agg (darr l))]).run Tryd.prog w = .ok (.agg (rcE ⟨s, 0, l⟩).toArray) w := by
  obtain ⟨a, b, c, d, e, f, g, i, j, k, l, m, n, o, p, q, r, t, u, v, rfl⟩ := trW.match20 h
  kernel_rfl
theorem wp_rec2 {ops : Array Oper} {rest : List Oper} {o : Oper} {a : Act} {w : World} {Q : Exit → Act → World → Prop} {l : List Int} {s : ByteArray} (hw : Region.wanted o (yielded ops a.tmps) = true) (x z : Operand) (ho : o.op = .build 54 #[(0, x), (2, z)]) (hl : l.length = 20)
    (hx : a.eval x = .string s) (hz : a.eval z = .agg (darr l)) (H : wpList Tryd.prog ops Q rest (a.put o.dst (.agg (rcE ⟨s, 0, l⟩).toArray)) w) : wpList Tryd.prog ops Q (o :: rest) a w := by
  refine wpList_step fun K hK => ?_
  rw [if_pos hw]
  unfold Oper.wp execOp
  simp only [ho, List.map_toArray, List.map_cons, List.map_nil, hx, hz, Sem.run_bind, Sem.run_pure, run_rec2 hl, Result.andThen_ok]
  exact hK _ _ H
theorem has_sum {w : World} {g : Nat} {l : List Int} (h : Lies w g 52 (sv l)) (hl : l.length = 20) : Has .u8 w (some ⟨g, 0, none⟩) l := .inr ⟨g, 0, rfl, h.lt, fun i hi => by
  rw [Nat.zero_add, h.cell, sv, List.getElem?_map, List.getElem?_eq_getElem hi, List.getD_eq_getElem?_getD, List.getElem?_eq_getElem hi]; rfl⟩
theorem has_4 {w : World} {g : Nat} {a b c d : Int} {t : TypeId} (h : Lies w g t [.int .u8 a, .int .u8 b, .int .u8 c, .int .u8 d]) : Has .u8 w (some ⟨g, 0, none⟩) [a, b, c, d] := .inr ⟨g, 0, rfl, h.lt, fun i hi => by
  rw [Nat.zero_add, h.cell]
  rcases (by simp at hi; omega : i = 0 ∨ i = 1 ∨ i = 2 ∨ i = 3) with rfl | rfl | rfl | rfl <;> rfl⟩
open Classical in
set_option maxHeartbeats 12800000 in
theorem alive_yes (w : World) (hT : Tab w) : Calls Tryd.prog 29 #[] w fun e w' => e = .returned (.bool true) ∧ Below w.heap.size w w' := by
  have HT := Lib.hid hT
  have HO1 := Lib.hid (Of_any [qa] (some ⟨w.heap.size, 0, none⟩) 1 1 (w.alloc (.cells #[.string aN, .slice none 0 0] 37)) (HT.out.below (mb_new w _) (Nat.le_refl _)) (memB1 (q := qa) rfl (inr0 w)))
  have B1 := Lib.hid (mb_new w (.cells #[.string aN, .slice none 0 0] 37))
  clear hT
  go_enter Tryd.func29, Tryd.ntmps29
  go_wp2_with fail
  refine HO1.out.mono ?_
  rintro e w2 ⟨hof, b2⟩
  have B2 := Lib.hid (mb_bb B1.out b2)
  clear b2 HO1 B1
  rcases hof with ⟨_, A, c, rfl, ho⟩ | ⟨hz, _⟩
  case inr => exact absurd ck_a hz
  rw [of_a] at ho
  have HO := Lib.hid ho
  have HRB : Hid (∀ w', Below w2.heap.size w2 w' → RecB w' A 1 c [ra]) := Lib.hid (fun w' h => ⟨(HO.out.past h).has, rfl, HO.out.len.2.1, by have := HO.out.len.2.2; unfold maxLen at this; omega, by simp [ra], by simp [ra]; exact dN_isD⟩)
  clear ho
  go_wp2_with fail
  refine (Write_any [ra] A 1 c w2 (HT.out.below B2.out (Nat.le_refl _)) (HRB.out w2 (Below.refl _ _))).mono ?_
  rintro e w3 ⟨A3, n3, c3, rfl, hn3, h31, h32, hh3, b3⟩
  have HA3 := Lib.hid hh3
  have HN3 := Lib.hid hn3
  have B3 := Lib.hid (mb_bb B2.out b3)
  have B23 := Lib.hid b3
  clear b3 hh3 hn3 h31 h32
  rw [vl_a]
  go_wp2_with fail
  refine (none_any w3).mono ?_
  rintro e w4 ⟨rfl, b4⟩
  have Y := Lib.hid (z20_at w4 rfl)
  have B4 := Lib.hid (mb_bb B3.out b4)
  have B24 := Lib.hid (mb_bb B23.out b4)
  have HA4 := Lib.hid (HA3.out.below b4 (Nat.le_refl _))
  have HAz := Lib.hid (HA4.out.below (mb_new w4 (.cells #[.int .u8 0, .int .u8 0, .int .u8 0, .int .u8 0, .int .u8 0, .int .u8 0, .int .u8 0, .int .u8 0, .int .u8 0, .int .u8 0, .int .u8 0, .int .u8 0, .int .u8 0, .int .u8 0, .int .u8 0, .int .u8 0, .int .u8 0, .int .u8 0, .int .u8 0, .int .u8 0] 52)) (Nat.le_refl _))
  have B2z := Lib.hid (mb_bb B24.out (mb_new w4 (.cells #[.int .u8 0, .int .u8 0, .int .u8 0, .int .u8 0, .int .u8 0, .int .u8 0, .int .u8 0, .int .u8 0, .int .u8 0, .int .u8 0, .int .u8 0, .int .u8 0, .int .u8 0, .int .u8 0, .int .u8 0, .int .u8 0, .int .u8 0, .int .u8 0, .int .u8 0, .int .u8 0] 52)))
  have Bz := Lib.hid (mb_bb B4.out (mb_new w4 (.cells #[.int .u8 0, .int .u8 0, .int .u8 0, .int .u8 0, .int .u8 0, .int .u8 0, .int .u8 0, .int .u8 0, .int .u8 0, .int .u8 0, .int .u8 0, .int .u8 0, .int .u8 0, .int .u8 0, .int .u8 0, .int .u8 0, .int .u8 0, .int .u8 0, .int .u8 0, .int .u8 0] 52)))
  clear b4 HA3 B3 B23
  go_upto_region 4 with (first | (show wpList _ _ _ ({ dst := none, op := Op.store 52 _ _, type := _, pos := _, after := _, guard := _ } :: _) _ _; go_must (refine trW.wp_st (g := w4.heap.size) (l := dN) (by rfl) _ _ rfl (Y.out) (zd_isD.len) (dN_isD.len) rfl rfl ?_); intro w5 hR5 hg5 hb5 hz5))
  have L5 := Lib.hid hR5
  have B5 := Lib.hid (Bz.out.trans (hb5.mono B4.out.size))
  have B25 := Lib.hid (B2z.out.trans (hb5.mono B24.out.size))
  have HA5 : Hid (Has .u8 w5 A3 (wrV [ra])) := Lib.hid (by
    rcases HA4.out with h | ⟨b, off, e, hb, hc⟩
    · exact .inl h
    · exact has_g HAz.out hg5 (fun b' off' e' => by
        rw [e] at e'
        injection e' with e'
        injection e' with e1 _
        subst e1
        intro h
        injection h with h
        omega))
  clear HA4 hR5 hg5 hb5 hz5 Y B4 B24 HAz B2z Bz
  obtain ⟨g5, hg5⟩ : ∃ g5, w4.heap.size = g5 := ⟨_, rfl⟩
  rw [hg5] at L5 ⊢
  clear hg5
  (have RD := grows_roads (S := fun x' => Below w5.heap.size w5 x') (fun a b h1 h2 => h2.trans (h1.mono h2.size))); refine region_ord _ Grows RD (Below.drew (Below.refl _ _)) (by kernel_rfl) ?_; intro ops Q' hops hPQ hN; (have HNS : Hid (Region.noSelect ops = true) := Lib.hid (by rw [hops]; kernel_rfl)); (have hsz : ops.size = 6 := (by rw [hops]; rfl)); have HOP := Lib.hid hops; have HPQ := Lib.hid hPQ; have HN := Lib.hid hN; rw [hsz]; clear hops hsz hPQ hN
  refine ord_take RD 2 (at_list (by rw [HOP.out]; rfl)) HNS.out HPQ.out (by rw [HOP.out]; kernel_rfl) (by rw [HOP.out]; kernel_rfl) (by rw [HOP.out]; rfl) (fun K hK => ?_); apply Exists.intro; refine ⟨fun W hSW => ?_, hK _ ?_⟩; (focus ((try dsimp only at hSW); go_simp; try with_reducible rfl)); clear hK K; (try simp only [Act.put, List.setIfInBounds_toArray, List.set_cons_zero, List.set_cons_succ])
  refine ord_take RD 3 (at_list (by rw [HOP.out]; rfl)) HNS.out HPQ.out (by rw [HOP.out]; kernel_rfl) (by rw [HOP.out]; kernel_rfl) (by rw [HOP.out]; rfl) (fun K hK => ?_); apply Exists.intro; refine ⟨fun W hSW => ?_, hK _ ?_⟩; (focus ((try dsimp only at hSW); have cv := conv8 (n := 20) (c := 20) (has_sum (L5.out.past hSW) dN_isD.len) rfl; go_simp; try with_reducible rfl)); clear hK K; (try simp only [Act.put, List.setIfInBounds_toArray, List.set_cons_zero, List.set_cons_succ])
  refine ord_one RD 0 (by rw [HOP.out]; kernel_rfl) (at_list (by rw [HOP.out]; rfl)) (by rw [HOP.out]; rfl) (fun W1 hWW hSW K hK => ?_); (try dsimp only at hSW)
  go_simp
  have LL := Lib.hid (Lies.fresh W1 5 [.int .u8 1, .int .u8 97, .int .u8 0, .int .u8 0])
  have G := mb_new W1 (.cells #[.int .u8 1, .int .u8 97, .int .u8 0, .int .u8 0] 5)
  refine hK _ _ (mb_bb hSW G) ?_
  clear hSW hWW G
  clear hK K; (try simp only [Act.put, List.setIfInBounds_toArray, List.set_cons_zero, List.set_cons_succ])
  generalize hw6 : (W1.alloc (.cells #[.int .u8 1, .int .u8 97, .int .u8 0, .int .u8 0] 5)) = W6 at *
  have L6 := Lib.hid LL.out
  clear LL hw6
  refine ord_one RD 1 (by rw [HOP.out]; kernel_rfl) (at_list (by rw [HOP.out]; rfl)) (by rw [HOP.out]; rfl) (fun W2 hWW hSW K hK => ?_); (try dsimp only at hSW)
  have cv := conv8 (n := 4) (c := 4) (has_4 (L6.out.past hWW)) rfl
  go_simp
  refine hK _ _ hSW ?_
  clear hSW hWW cv L6
  clear hK K; (try simp only [Act.put, List.setIfInBounds_toArray, List.set_cons_zero, List.set_cons_succ])
  refine ord_take RD 4 (at_list (by rw [HOP.out]; rfl)) HNS.out HPQ.out (by rw [HOP.out]; kernel_rfl) (by rw [HOP.out]; kernel_rfl) (by rw [HOP.out]; rfl) (fun K hK => ?_); apply Exists.intro; refine ⟨fun W hSW => ?_, hK _ ?_⟩; (focus ((try dsimp only at hSW); have hsz : ¬ 9223372036854775807 < (bstr [1, 97, 0, 0]).size + (bstr dN).size := (by decide +kernel); go_simp; try with_reducible rfl)); clear hK K; (try simp only [Act.put, List.setIfInBounds_toArray, List.set_cons_zero, List.set_cons_succ])
  refine ord_take RD 5 (at_list (by rw [HOP.out]; rfl)) HNS.out HPQ.out (by rw [HOP.out]; kernel_rfl) (by rw [HOP.out]; kernel_rfl) (by rw [HOP.out]; rfl) (fun K hK => ?_); apply Exists.intro; refine ⟨fun W hSW => ?_, hK _ ?_⟩; (focus ((try dsimp only at hSW); go_simp; try with_reducible rfl)); clear hK K; (try simp only [Act.put, List.setIfInBounds_toArray, List.set_cons_zero, List.set_cons_succ])
  refine ord_done (by rw [HOP.out]; kernel_rfl) (fun W7 hWW hSW => HN.out _ _ ?_); clear HOP HNS HPQ HN RD; (try dsimp only at hSW)
  have B7 := Lib.hid (mb_bb B5.out hSW)
  have B27 := Lib.hid (mb_bb B25.out hSW)
  have L7 := Lib.hid (L5.out.past hSW)
  have HA7 := Lib.hid (HA5.out.below hSW (Nat.le_refl _))
  clear hSW hWW B5 B25 L5 HA5
  go_wp2_with fail
  refine (none_any W7).mono ?_
  rintro e w8 ⟨rfl, b8⟩
  have B8 := Lib.hid (mb_bb B7.out b8)
  have B28 := Lib.hid (mb_bb B27.out b8)
  have HA8 := Lib.hid (HA7.out.below b8 (Nat.le_refl _))
  have HR8 := Lib.hid (recB1 (w := w8) (r := ra) rfl (by decide) dN_isD)
  have B9 := Lib.hid (mb_bb B8.out (mb_new w8 (.cells (rcE ra).toArray 54)))
  have B29 := Lib.hid (mb_bb B28.out (mb_new w8 (.cells (rcE ra).toArray 54)))
  have HA9 := Lib.hid (HA8.out.below (mb_new w8 (.cells (rcE ra).toArray 54)) (Nat.le_refl _))
  clear b8 B7 B27 HA7 L7 B8 B28 HA8
  go_wp2_with (first | (show wpList _ _ _ ({ dst := _, op := Op.buildSlice 25 1 _, type := _, pos := _, after := _, guard := _ } :: _) _ _; go_must (refine wp_litR (r := ra) (by rfl) _ rfl rfl ?_)) | (show wpList _ _ _ ({ dst := _, op := Op.build 54 #[(0, _), (2, _)], type := _, pos := _, after := _, guard := _ } :: _) _ _; go_must (refine wp_rec2 (l := dN) (by rfl) _ _ rfl dN_isD.len rfl rfl ?_)))
  generalize (w8.alloc (.cells (rcE ra).toArray 54)) = w9 at *
  refine (Same_any [ra] [ra] A (some ⟨w8.heap.size, 0, none⟩) 1 1 c 1 w9 (HRB.out w9 B29.out).h HR8.out.h rfl rfl (by decide) (by decide) (by simp; exact ra_ok) (by simp; exact ra_ok)).mono ?_
  rintro e w10 ⟨rfl, b10⟩
  rw [show decide ([ra] = [ra]) = true from decide_eq_true rfl]
  have B10 := Lib.hid (mb_bb B9.out b10)
  have cv := conv8 (n := n3) (c := c3) (HA9.out.below b10 (Nat.le_refl _)) HN3.out.symm
  rw [wr_a] at cv
  have hwa := want_a
  have HCK := Lib.hid (Check_any [⟨abN, r80⟩] (some ⟨w10.heap.size, 0, none⟩) 1 1 (w10.alloc (.cells #[.string abN, .slice none 0 0] 37)) (memB1 (q := ⟨abN, r80⟩) rfl (inr0 w10)))
  have B11 := Lib.hid (mb_bb B10.out (mb_new w10 (.cells #[.string abN, .slice none 0 0] 37)))
  clear b10 B9 B29 HA9 HR8 B10
  rw [ck_ab] at HCK
  go_wp2_with fail
  refine HCK.out.mono ?_
  rintro e w12 ⟨rfl, b12⟩
  have B12 := Lib.hid (mb_bb B11.out b12)
  clear b12
  go_wp2_with fail
  go_ret
  exact ⟨rfl, B12.out⟩
end Go.Proofs.YtphakelncjogpaaDoor.mbW
