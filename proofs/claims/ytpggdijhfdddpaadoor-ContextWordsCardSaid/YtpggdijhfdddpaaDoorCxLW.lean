/- Several texts as one: CxL6, CxL7. -/
import Derived.Test.YtpggdijhfdddpaaDoorCxL4
import Derived.Test.YtpggdijhfdddpaaDoorCxPl3
namespace Go.Proofs.YtpggdijhfdddpaaDoor.cxW
open Go.RowKit Go.Proofs.YtpggdijhfdddpaaDoor.base Go.Proofs.YtpggdijhfdddpaaDoor.rgP Go.Proofs.YtpggdijhfdddpaaDoor.cxP Go.Proofs.YtpggdijhfdddpaaDoor.hashP Go.Proofs.YtpggdijhfdddpaaDoor.hashW Go.Proofs.YtpggdijhfdddpaaDoor.rgW
set_option linter.unusedVariables false
set_option linter.unusedSimpArgs false
def Rl (W : World) (g : Nat) (r : Rg) (A : Option Addr) (n c : Nat) : Prop := RgIn W A n c r ∧ (Lies (W) (g) 24 [.int .i64 (r).l, .slice (A) (n) (c), .int .i64 (r).n])
theorem Rl.past {W W' : World} {g : Nat} {r : Rg} {A : Option Addr} {n c : Nat} (h : Rl W g r A n c) (hb : Below W.heap.size W W') : Rl W' g r A n c := ⟨h.1.below hb, h.2.past hb⟩
theorem wd_put {l : Int} (hl : lvB l = true) (bs : List Int) (hm : bs.length ≤ 700) : wdV (putR (newR l) bs) = tw bs ∧ rgE (putR (newR l) bs) = 0 := by
  have h := (put_new hl bs hm).2.2.1
  exact ⟨by rw [wd_ok h, word_put hl bs hm], E_ok h⟩
set_option maxRecDepth 100000 in
set_option maxHeartbeats 1500000 in
theorem words_main (l : Int) (B : Option Addr) (m d : Nat) (xb : List Int) (c : Int) (w : World) (hl : lvB l = true) (hB : Has .u8 w B xb) (lB : xb.length = m) (bB : ∀ z ∈ xb, 0 ≤ z ∧ z ≤ 255) (hm : m ≤ 60) (c1 : 0 ≤ c) (c2 : c ≤ 255) (hT : Tab w) :
    Calls Tryd.prog 6 #[.int .i64 l, .slice B m d, .int .u8 c] w fun e w' => e = .returned (.bool true) ∧ Below w.heap.size w w' := by
  have HTT := Lib.hid hT
  have HB := Lib.hid (And.intro hB lB)
  have HBD := Lib.hid bB
  have HLV := Lib.hid hl
  have l1 := (lvB_iff l).1 hl
  have m9 : (m : Int) ≤ 60 := by omega
  have l0 := l1.1
  have l7 := l1.2
  clear hT hB lB bB hl l1
  go_enter Tryd.func6, Tryd.ntmps6
  go_wp2_with fail
  refine (alive _ HTT.out).mono ?_
  rintro e0 w1 ⟨rfl, hb1⟩
  have HW1 := Lib.hid hb1
  clear hb1
  go_wp2_with fail
  go_loopw [8, 9] (fun v i wr => ∃ (k : Nat) (D : Option Addr) (e : Nat), k ≤ m ∧ i = .int .i64 k ∧ v = .slice D k e ∧ OwnI wr w1.heap.size 5 .u8 (.slice D k e) ((xb.take k).map turn) ∧ Below w.heap.size w wr ∧ w1.heap.size ≤ wr.heap.size) (fun _ i _ => m - (intOf i).toNat)
  case atStart => exact ⟨0, none, 0, by omega, rfl, rfl, OwnI.nil _ _ _ _, HW1.out, Nat.le_refl _⟩
  case round =>
    obtain ⟨k, D, e, hk, rfl, rfl, own, acc, hsz⟩ := hrel
    have HO := Lib.hid own
    have HACC := Lib.hid (And.intro acc hsz)
    by_cases hlt : k < m
    · have k1 : (k : Int) < m := by omega
      have k0 : 0 ≤ (k : Int) := by omega
      have HLT := Lib.hid hlt
      obtain ⟨bc, off, rfl, hbc, hcc⟩ := has_some HB.out.1 (by rw [HB.out.2]; omega)
      have p1 := (acc.cell (p := ⟨bc, off + k, none⟩) hbc).trans (hcc k (by rw [HB.out.2]; exact hlt))
      obtain ⟨x1, x2⟩ := at_bd HBD.out k
      have hlk : k < xb.length := by rw [HB.out.2]; exact hlt
      have HNX : Hid ((xb.take (k + 1)).map turn = (xb.take k).map turn ++ [turn (xb.getD k 0)]) := Lib.hid (by
        rw [List.take_succ_eq_append_getElem hlk, List.map_append, List.getD_eq_getElem?_getD, List.getElem?_eq_getElem hlk]; rfl)
      have HTL : Hid (((xb.take k).map turn).length = k) := Lib.hid (by simp; omega)
      generalize xb.getD k 0 = x at *
      have HTX := Lib.hid (turn_ok ⟨x1, x2⟩)
      clear own acc hsz hlt hcc hlk hk
      cases hx : letB x
      · have HX := Lib.hid hx
        have HTE : Hid (turn x = x) := Lib.hid (by unfold turn; rw [hx]; rfl)
        rw [HTE.out] at HNX
        clear hx
        go_wp2_with fail
        refine (Letter_no x _ x1 x2 HX.out).mono ?_
        rintro e0 w' ⟨rfl, rfl⟩
        go_wp2_with (at_builtin; refine app8 rfl (.tmp 63) _ rfl w1.heap.size _ ((xb.take k).map turn) rfl (HO.out.below ((Below.refl _ _).alloc (Nat.le_refl _) _) (Nat.le_refl _)) (some ⟨wr.heap.size, 0, none⟩) 1 1 [x] rfl rfl (has_lit rfl (by simp [maxLen])) (k + 1) (by rw [HTL.out]) (by omega) (by have := HACC.out.2; simp; omega) ?_; intro A2 c2 w2 ho2 hg2 hb2; rw [← HNX.out] at ho2; have HO2 := Lib.hid ho2; have HB2 : Hid (Below w.heap.size w w2 ∧ w1.heap.size ≤ w2.heap.size) := Lib.hid ⟨(HACC.out.1.alloc HACC.out.1.size _).trans (hb2.mono HW1.out.size), by have := hb2.size; have := HACC.out.2; simp at *; omega⟩; clear ho2 hg2 hb2)
        refine ⟨⟨k + 1, A2, c2, by have := HLT.out; omega, by first | rfl | go_num, rfl, HO2.out, HB2.out.1, HB2.out.2⟩, by simp [intOf]; have := HLT.out; omega⟩
      · have HX := Lib.hid hx
        have HTE : Hid (turn x = bits .xor .u8 x 32) := Lib.hid (by unfold turn; rw [hx]; rfl)
        clear hx
        go_wp2_with fail
        refine (Letter_yes x _ x1 x2 HX.out).mono ?_
        rintro e0 w' ⟨rfl, rfl⟩
        rw [HTE.out] at HNX
        go_wp2_with (at_builtin; refine app8 rfl (.tmp 63) _ rfl w1.heap.size _ ((xb.take k).map turn) rfl (HO.out.below ((Below.refl _ _).alloc (Nat.le_refl _) _) (Nat.le_refl _)) (some ⟨wr.heap.size, 0, none⟩) 1 1 [bits .xor .u8 x 32] rfl rfl (has_lit rfl (by simp [maxLen])) (k + 1) (by rw [HTL.out]) (by omega) (by have := HACC.out.2; simp; omega) ?_; intro A2 c2 w2 ho2 hg2 hb2; rw [← HNX.out] at ho2; have HO2 := Lib.hid ho2; have HB2 : Hid (Below w.heap.size w w2 ∧ w1.heap.size ≤ w2.heap.size) := Lib.hid ⟨(HACC.out.1.alloc HACC.out.1.size _).trans (hb2.mono HW1.out.size), by have := hb2.size; have := HACC.out.2; simp at *; omega⟩; clear ho2 hg2 hb2)
        refine ⟨⟨k + 1, A2, c2, by have := HLT.out; omega, by first | rfl | go_num, rfl, HO2.out, HB2.out.1, HB2.out.2⟩, by simp [intOf]; have := HLT.out; omega⟩
    · have ek : k = m := by omega
      subst ek
      have k1 : ¬ (k : Int) < k := by omega
      rw [List.take_of_length_le (by rw [HB.out.2]; exact Nat.le_refl _)] at own
      have HO := Lib.hid own
      have HTB := Lib.hid (turn_bd HBD.out)
      have HTT2 : Hid ((xb.map turn).length = k) := Lib.hid (by rw [List.length_map, HB.out.2])
      have HP1 := Lib.hid (wd_put HLV.out xb (by rw [HB.out.2]; omega))
      have HP2 : Hid (wdV (putR (newR l) (xb.map turn)) = tw xb ∧ rgE (putR (newR l) (xb.map turn)) = 0) := Lib.hid (by have := wd_put HLV.out (xb.map turn) (by rw [List.length_map, HB.out.2]; omega); rw [tw_turn xb HBD.out] at this; exact this)
      have HP3 := Lib.hid (wd_put HLV.out (xb ++ [c]) (by rw [List.length_append, HB.out.2]; simp; omega))
      clear own acc hsz hlt hk
      go_wp2_with fail
      refine (after_ok l B k d xb _ HLV.out (HB.out.1.below HACC.out.1 (Nat.le_refl _)) HB.out.2 (by omega) HBD.out).mono ?_
      rintro e0 w3 ⟨R3, n3, c3, rfl, i3, -, hb3⟩
      obtain ⟨r3, hr3⟩ : ∃ r, putR (newR l) xb = r := ⟨_, rfl⟩
      rw [hr3] at i3 ⊢ HP1
      have HX3 : Hid (Rl (w3.alloc (.cells #[.int .i64 r3.l, .slice R3 n3 c3, .int .i64 r3.n] 24)) w3.heap.size r3 R3 n3 c3) := Lib.hid ⟨i3.below (grows_alloc _ _), Lies.fresh _ _ _⟩
      have HO3 := Lib.hid ((HO.out.below hb3 (Nat.le_refl _)).below (grows_alloc w3 (.cells #[.int .i64 r3.l, .slice R3 n3 c3, .int .i64 r3.n] 24)) (Nat.le_refl _))
      have HW3 : Hid (Below w.heap.size w (w3.alloc (.cells #[.int .i64 r3.l, .slice R3 n3 c3, .int .i64 r3.n] 24))) := Lib.hid (by have h1 := HACC.out.1.trans (hb3.mono HACC.out.1.size); exact h1.alloc h1.size _)
      clear i3 hb3 hr3
      go_wp2_with fail
      refine (after_ok l D k e (xb.map turn) _ HLV.out HO3.out.has HTT2.out (by omega) HTB.out).mono ?_
      rintro e0 w4 ⟨R4, n4, c4, rfl, i4, -, hb4⟩
      obtain ⟨r4, hr4⟩ : ∃ r, putR (newR l) (xb.map turn) = r := ⟨_, rfl⟩
      rw [hr4] at i4 ⊢ HP2
      have HX3' := Lib.hid (HX3.out.past hb4)
      have I4 := Lib.hid i4
      have HW4 := Lib.hid (HW3.out.trans (hb4.mono HW3.out.size))
      clear i4 hb4 hr4
      go_wp2_with (first
        | (at_builtin; refine app8 rfl (.tmp 81) _ rfl (w4.heap.size + 1) _ [] rfl (lit_at (by simp)) B k d xb rfl HB.out.2 (HB.out.1.below (by have := HW4.out; (repeat' (first | (with_reducible exact Below.refl _ _) | (with_reducible assumption) | (with_reducible refine below_drewN ?_ _) | (with_reducible refine below_new ?_ _) | (with_reducible refine Below.alloc ?_ ?_ _) | (with_reducible refine Below.drew ?_) | (with_reducible refine Below.setCell ?_ ?_ _) | (with_reducible apply below_at; (case k => (with_reducible assumption)); (case hB => omega)) | (with_reducible apply below_on; (with_reducible assumption)) | (go_size; done) | (with_reducible apply size_of)))) (Nat.le_refl _)) k (by simp) (by omega) (by simp) ?_; intro A5 c5 w5 ho5 hg5 hb5; rw [List.nil_append] at ho5; have HO5 := Lib.hid ho5; have HT5 : Hid (Below w4.heap.size w4 w5 ∧ w4.heap.size + 1 ≤ w5.heap.size ∧ (Lies (w5) (w4.heap.size) 24 [.int .i64 (r4).l, .slice (R4) (n4) (c4), .int .i64 (r4).n])) := Lib.hid ⟨(((Below.refl w4.heap.size w4).alloc (Nat.le_refl _) _).alloc (by simp) _).trans (hb5.mono (Nat.le_succ _)), by have := hb5.size; simp at this; omega, Lies.below ((Lies.fresh _ _ _).alloc _) hb5 (by omega)⟩; clear ho5 hg5 hb5)
        | (at_builtin; refine app8 rfl (.tmp 83) _ rfl (w4.heap.size + 1) _ xb rfl (HO5.out.below ((Below.refl _ _).alloc (Nat.le_refl _) _) (Nat.le_refl _)) (some ⟨w5.heap.size, 0, none⟩) 1 1 [c] rfl rfl (has_lit rfl (by simp [maxLen])) (k + 1) (by rw [HB.out.2]) (by omega) (by have := HT5.out.2.1; simp; omega) ?_; intro A6 c6 w6 ho6 hg6 hb6; have HO6 := Lib.hid ho6; have HT6 : Hid (Below w4.heap.size w4 w6 ∧ (Lies (w6) (w4.heap.size) 24 [.int .i64 (r4).l, .slice (R4) (n4) (c4), .int .i64 (r4).n])) := Lib.hid ⟨(HT5.out.1.alloc (by have := HT5.out.2.1; omega) _).trans (hb6.mono (Nat.le_succ _)), Lies.below (HT5.out.2.2.alloc _) hb6 (by omega)⟩; clear ho6 hg6 hb6))
      refine (after_ok l A6 (k + 1) c6 (xb ++ [c]) _ HLV.out HO6.out.has (by rw [List.length_append, HB.out.2]; rfl) (by omega) (bd_app HBD.out (by intro z hz; rw [List.mem_singleton.1 hz]; exact ⟨c1, c2⟩))).mono ?_
      rintro e0 w7 ⟨R7, n7, c7, rfl, i7, -, hb7⟩
      obtain ⟨r7, hr7⟩ : ∃ r, putR (newR l) (xb ++ [c]) = r := ⟨_, rfl⟩
      rw [hr7] at i7 ⊢ HP3
      have HW7 : Hid (Below w.heap.size w w7) := Lib.hid ((HW4.out.trans (HT6.out.1.mono HW4.out.size)).trans (hb7.mono (HW4.out.trans (HT6.out.1.mono HW4.out.size)).size))
      have HX7 : Hid (Rl (w7.alloc (.cells #[.int .i64 r7.l, .slice R7 n7 c7, .int .i64 r7.n] 24)) w3.heap.size r3 R3 n3 c3 ∧ Rl (w7.alloc (.cells #[.int .i64 r7.l, .slice R7 n7 c7, .int .i64 r7.n] 24)) w4.heap.size r4 R4 n4 c4 ∧ Rl (w7.alloc (.cells #[.int .i64 r7.l, .slice R7 n7 c7, .int .i64 r7.n] 24)) w7.heap.size r7 R7 n7 c7) := Lib.hid ⟨((HX3'.out.past HT6.out.1).past hb7).past (grows_alloc _ _), Rl.past (Rl.past (W := w6) ⟨I4.out.below HT6.out.1, HT6.out.2⟩ hb7) (grows_alloc _ _), i7.below (grows_alloc _ _), Lies.fresh _ _ _⟩
      clear i7 hb7 hr7
      have HW8 : Hid (Below w.heap.size w (w7.alloc (.cells #[.int .i64 r7.l, .slice R7 n7 c7, .int .i64 r7.n] 24))) := Lib.hid (HW7.out.alloc HW7.out.size _)
      obtain ⟨x0, x1, x2, -, -, -⟩ := HX7.out.1.2.three
      go_wp2_with fail
      refine (Word_any r3 R3 n3 c3 _ HX7.out.1.1).mono ?_
      rintro e0 w8 ⟨A8, q8, c8, rfl, hq8, o8, hb8⟩
      rw [HP1.out.2]
      rw [HP1.out.1] at hq8 o8
      have HX8 := Lib.hid (And.intro (HX7.out.2.1.past hb8) (HX7.out.2.2.past hb8))
      have HV8 := Lib.hid (And.intro hq8 o8.has)
      have HW9 := Lib.hid (HW8.out.trans (hb8.mono HW8.out.size))
      clear hb8 o8 hq8 x0 x1 x2
      obtain ⟨x0, x1, x2, -, -, -⟩ := HX8.out.1.2.three
      go_wp2_with fail
      refine (Word_any r4 R4 n4 c4 _ HX8.out.1.1).mono ?_
      rintro e0 w10 ⟨A10, q10, c10, rfl, hq10, o10, hb10⟩
      rw [HP2.out.2]
      rw [HP2.out.1] at hq10 o10
      obtain rfl : q10 = q8 := hq10.trans HV8.out.1.symm
      have HX10 := Lib.hid (HX8.out.2.past hb10)
      have HV10 := Lib.hid (And.intro HV8.out.1 (And.intro (HV8.out.2.below hb10 (Nat.le_refl _)) o10.has))
      have HW10 := Lib.hid (HW9.out.trans (hb10.mono HW9.out.size))
      clear hb10 o10 hq10 x0 x1 x2
      obtain ⟨x0, x1, x2, -, -, -⟩ := HX10.out.2.three
      go_wp2_with fail
      refine (Word_any r7 R7 n7 c7 _ HX10.out.1).mono ?_
      rintro e0 w11 ⟨A11, q11, c11, rfl, hq11, o11, hb11⟩
      rw [HP3.out.2]
      rw [HP3.out.1] at hq11 o11
      have HV11 := Lib.hid (And.intro HV10.out.1 (And.intro (HV10.out.2.1.below hb11 (Nat.le_refl _)) (And.intro (HV10.out.2.2.below hb11 (Nat.le_refl _)) (And.intro hq11 o11.has))))
      have HW11 := Lib.hid (HW10.out.trans (hb11.mono HW10.out.size))
      clear hb11 o11 hq11 x0 x1 x2
      go_wp2_with fail
      (have RD := grows_roads (S := fun x' => Below w11.heap.size w11 x') (fun a b h1 h2 => h2.trans (h1.mono h2.size))); refine region_ord _ Grows RD (Below.drew (Below.refl _ _)) (by kernel_rfl) ?_; intro ops Q' hops hPQ hN; (have HNS : Hid (Region.noSelect ops = true) := Lib.hid (by rw [hops]; kernel_rfl)); (have hsz : ops.size = 25 := (by rw [hops]; rfl)); have HOP := Lib.hid hops; have HPQ := Lib.hid hPQ; have HN := Lib.hid hN; rw [hsz]; clear hops hsz hPQ hN
      refine ord_take RD 0 (at_list (by rw [HOP.out]; rfl)) HNS.out HPQ.out (by rw [HOP.out]; kernel_rfl) (by rw [HOP.out]; kernel_rfl) (by rw [HOP.out]; rfl) (fun K hK => ?_); apply Exists.intro; refine ⟨fun W hSW => ?_, hK _ ?_⟩; (focus ((try dsimp only at hSW); go_simp; try with_reducible rfl)); clear hK K; (try simp only [Act.put, List.setIfInBounds_toArray, List.set_cons_zero, List.set_cons_succ])
      refine ord_take RD 1 (at_list (by rw [HOP.out]; rfl)) HNS.out HPQ.out (by rw [HOP.out]; kernel_rfl) (by rw [HOP.out]; kernel_rfl) (by rw [HOP.out]; rfl) (fun K hK => ?_); apply Exists.intro; refine ⟨fun W hSW => ?_, hK _ ?_⟩; (focus ((try dsimp only at hSW); go_simp; try with_reducible rfl)); clear hK K; (try simp only [Act.put, List.setIfInBounds_toArray, List.set_cons_zero, List.set_cons_succ])
      refine ord_take RD 2 (at_list (by rw [HOP.out]; rfl)) HNS.out HPQ.out (by rw [HOP.out]; kernel_rfl) (by rw [HOP.out]; kernel_rfl) (by rw [HOP.out]; rfl) (fun K hK => ?_); apply Exists.intro; refine ⟨fun W hSW => ?_, hK _ ?_⟩; (focus ((try dsimp only at hSW); go_simp; try with_reducible rfl)); clear hK K; (try simp only [Act.put, List.setIfInBounds_toArray, List.set_cons_zero, List.set_cons_succ])
      refine ord_take RD 3 (at_list (by rw [HOP.out]; rfl)) HNS.out HPQ.out (by rw [HOP.out]; kernel_rfl) (by rw [HOP.out]; kernel_rfl) (by rw [HOP.out]; rfl) (fun K hK => ?_); apply Exists.intro; refine ⟨fun W hSW => ?_, hK _ ?_⟩; (focus ((try dsimp only at hSW); go_simp; try with_reducible rfl)); clear hK K; (try simp only [Act.put, List.setIfInBounds_toArray, List.set_cons_zero, List.set_cons_succ])
      refine ord_take RD 4 (at_list (by rw [HOP.out]; rfl)) HNS.out HPQ.out (by rw [HOP.out]; kernel_rfl) (by rw [HOP.out]; kernel_rfl) (by rw [HOP.out]; rfl) (fun K hK => ?_); apply Exists.intro; refine ⟨fun W hSW => ?_, hK _ ?_⟩; (focus ((try dsimp only at hSW); go_simp; try with_reducible rfl)); clear hK K; (try simp only [Act.put, List.setIfInBounds_toArray, List.set_cons_zero, List.set_cons_succ])
      refine ord_take RD 5 (at_list (by rw [HOP.out]; rfl)) HNS.out HPQ.out (by rw [HOP.out]; kernel_rfl) (by rw [HOP.out]; kernel_rfl) (by rw [HOP.out]; rfl) (fun K hK => ?_); apply Exists.intro; refine ⟨fun W hSW => ?_, hK _ ?_⟩; (focus ((try dsimp only at hSW); go_simp; try with_reducible rfl)); clear hK K; (try simp only [Act.put, List.setIfInBounds_toArray, List.set_cons_zero, List.set_cons_succ])
      refine ord_take RD 6 (at_list (by rw [HOP.out]; rfl)) HNS.out HPQ.out (by rw [HOP.out]; kernel_rfl) (by rw [HOP.out]; kernel_rfl) (by rw [HOP.out]; rfl) (fun K hK => ?_); apply Exists.intro; refine ⟨fun W hSW => ?_, hK _ ?_⟩; (focus ((try dsimp only at hSW); go_simp; try with_reducible rfl)); clear hK K; (try simp only [Act.put, List.setIfInBounds_toArray, List.set_cons_zero, List.set_cons_succ])
      refine ord_take RD 7 (at_list (by rw [HOP.out]; rfl)) HNS.out HPQ.out (by rw [HOP.out]; kernel_rfl) (by rw [HOP.out]; kernel_rfl) (by rw [HOP.out]; rfl) (fun K hK => ?_); apply Exists.intro; refine ⟨fun W hSW => ?_, hK _ ?_⟩; (focus ((try dsimp only at hSW); go_simp; try with_reducible rfl)); clear hK K; (try simp only [Act.put, List.setIfInBounds_toArray, List.set_cons_zero, List.set_cons_succ])
      refine ord_take RD 8 (at_list (by rw [HOP.out]; rfl)) HNS.out HPQ.out (by rw [HOP.out]; kernel_rfl) (by rw [HOP.out]; kernel_rfl) (by rw [HOP.out]; rfl) (fun K hK => ?_); apply Exists.intro; refine ⟨fun W hSW => ?_, hK _ ?_⟩; (focus ((try dsimp only at hSW); go_simp; try with_reducible rfl)); clear hK K; (try simp only [Act.put, List.setIfInBounds_toArray, List.set_cons_zero, List.set_cons_succ])
      refine ord_take RD 9 (at_list (by rw [HOP.out]; rfl)) HNS.out HPQ.out (by rw [HOP.out]; kernel_rfl) (by rw [HOP.out]; kernel_rfl) (by rw [HOP.out]; rfl) (fun K hK => ?_); apply Exists.intro; refine ⟨fun W hSW => ?_, hK _ ?_⟩; (focus ((try dsimp only at hSW); go_simp; try with_reducible rfl)); clear hK K; (try simp only [Act.put, List.setIfInBounds_toArray, List.set_cons_zero, List.set_cons_succ])
      refine ord_take RD 10 (at_list (by rw [HOP.out]; rfl)) HNS.out HPQ.out (by rw [HOP.out]; kernel_rfl) (by rw [HOP.out]; kernel_rfl) (by rw [HOP.out]; rfl) (fun K hK => ?_); apply Exists.intro; refine ⟨fun W hSW => ?_, hK _ ?_⟩; (focus ((try dsimp only at hSW); go_simp; try with_reducible rfl)); clear hK K; (try simp only [Act.put, List.setIfInBounds_toArray, List.set_cons_zero, List.set_cons_succ])
      refine ord_take RD 11 (at_list (by rw [HOP.out]; rfl)) HNS.out HPQ.out (by rw [HOP.out]; kernel_rfl) (by rw [HOP.out]; kernel_rfl) (by rw [HOP.out]; rfl) (fun K hK => ?_); apply Exists.intro; refine ⟨fun W hSW => ?_, hK _ ?_⟩; (focus ((try dsimp only at hSW); go_simp; try with_reducible rfl)); clear hK K; (try simp only [Act.put, List.setIfInBounds_toArray, List.set_cons_zero, List.set_cons_succ])
      refine ord_take RD 12 (at_list (by rw [HOP.out]; rfl)) HNS.out HPQ.out (by rw [HOP.out]; kernel_rfl) (by rw [HOP.out]; kernel_rfl) (by rw [HOP.out]; rfl) (fun K hK => ?_); apply Exists.intro; refine ⟨fun W hSW => ?_, hK _ ?_⟩; (focus ((try dsimp only at hSW); (have cv := conv8 (n := q10) (c := c8) (HV11.out.2.1.below hSW (Nat.le_refl _)) HV11.out.1.symm); go_simp; try with_reducible rfl)); clear hK K; (try simp only [Act.put, List.setIfInBounds_toArray, List.set_cons_zero, List.set_cons_succ])
      refine ord_take RD 13 (at_list (by rw [HOP.out]; rfl)) HNS.out HPQ.out (by rw [HOP.out]; kernel_rfl) (by rw [HOP.out]; kernel_rfl) (by rw [HOP.out]; rfl) (fun K hK => ?_); apply Exists.intro; refine ⟨fun W hSW => ?_, hK _ ?_⟩; (focus ((try dsimp only at hSW); go_simp; try with_reducible rfl)); clear hK K; (try simp only [Act.put, List.setIfInBounds_toArray, List.set_cons_zero, List.set_cons_succ])
      refine ord_take RD 14 (at_list (by rw [HOP.out]; rfl)) HNS.out HPQ.out (by rw [HOP.out]; kernel_rfl) (by rw [HOP.out]; kernel_rfl) (by rw [HOP.out]; rfl) (fun K hK => ?_); apply Exists.intro; refine ⟨fun W hSW => ?_, hK _ ?_⟩; (focus ((try dsimp only at hSW); (have cv := conv8 (n := q10) (c := c10) (HV11.out.2.2.1.below hSW (Nat.le_refl _)) HV11.out.1.symm); go_simp; try with_reducible rfl)); clear hK K; (try simp only [Act.put, List.setIfInBounds_toArray, List.set_cons_zero, List.set_cons_succ])
      refine ord_take RD 15 (at_list (by rw [HOP.out]; rfl)) HNS.out HPQ.out (by rw [HOP.out]; kernel_rfl) (by rw [HOP.out]; kernel_rfl) (by rw [HOP.out]; rfl) (fun K hK => ?_); apply Exists.intro; refine ⟨fun W hSW => ?_, hK _ ?_⟩; (focus ((try dsimp only at hSW); go_simp; try with_reducible rfl)); clear hK K; (try simp only [Act.put, List.setIfInBounds_toArray, List.set_cons_zero, List.set_cons_succ])
      refine ord_take RD 16 (at_list (by rw [HOP.out]; rfl)) HNS.out HPQ.out (by rw [HOP.out]; kernel_rfl) (by rw [HOP.out]; kernel_rfl) (by rw [HOP.out]; rfl) (fun K hK => ?_); apply Exists.intro; refine ⟨fun W hSW => ?_, hK _ ?_⟩; (focus ((try dsimp only at hSW); go_simp; try with_reducible rfl)); clear hK K; (try simp only [Act.put, List.setIfInBounds_toArray, List.set_cons_zero, List.set_cons_succ])
      refine ord_take RD 17 (at_list (by rw [HOP.out]; rfl)) HNS.out HPQ.out (by rw [HOP.out]; kernel_rfl) (by rw [HOP.out]; kernel_rfl) (by rw [HOP.out]; rfl) (fun K hK => ?_); apply Exists.intro; refine ⟨fun W hSW => ?_, hK _ ?_⟩; (focus ((try dsimp only at hSW); go_simp; try with_reducible rfl)); clear hK K; (try simp only [Act.put, List.setIfInBounds_toArray, List.set_cons_zero, List.set_cons_succ])
      refine ord_take RD 18 (at_list (by rw [HOP.out]; rfl)) HNS.out HPQ.out (by rw [HOP.out]; kernel_rfl) (by rw [HOP.out]; kernel_rfl) (by rw [HOP.out]; rfl) (fun K hK => ?_); apply Exists.intro; refine ⟨fun W hSW => ?_, hK _ ?_⟩; (focus ((try dsimp only at hSW); go_simp; try with_reducible rfl)); clear hK K; (try simp only [Act.put, List.setIfInBounds_toArray, List.set_cons_zero, List.set_cons_succ])
      refine ord_take RD 19 (at_list (by rw [HOP.out]; rfl)) HNS.out HPQ.out (by rw [HOP.out]; kernel_rfl) (by rw [HOP.out]; kernel_rfl) (by rw [HOP.out]; rfl) (fun K hK => ?_); apply Exists.intro; refine ⟨fun W hSW => ?_, hK _ ?_⟩; (focus ((try dsimp only at hSW); (have cv := conv8 (n := q10) (c := c8) (HV11.out.2.1.below hSW (Nat.le_refl _)) HV11.out.1.symm); go_simp; try with_reducible rfl)); clear hK K; (try simp only [Act.put, List.setIfInBounds_toArray, List.set_cons_zero, List.set_cons_succ])
      refine ord_take RD 20 (at_list (by rw [HOP.out]; rfl)) HNS.out HPQ.out (by rw [HOP.out]; kernel_rfl) (by rw [HOP.out]; kernel_rfl) (by rw [HOP.out]; rfl) (fun K hK => ?_); apply Exists.intro; refine ⟨fun W hSW => ?_, hK _ ?_⟩; (focus ((try dsimp only at hSW); go_simp; try with_reducible rfl)); clear hK K; (try simp only [Act.put, List.setIfInBounds_toArray, List.set_cons_zero, List.set_cons_succ])
      refine ord_one RD 21 (by rw [HOP.out]; kernel_rfl) (at_list (by rw [HOP.out]; rfl)) (by rw [HOP.out]; rfl) (fun W12 hWW hSW K hK => ?_); (try dsimp only at hSW)
      have HW12 := Lib.hid hSW
      go_simp
      refine (Spelt_any xb B k d _ (HB.out.1.below (HW11.out.trans (HW12.out.mono HW11.out.size)) (Nat.le_refl _)) HB.out.2 (by omega) HBD.out).mono ?_
      rintro e0 w13 ⟨A13, q13, c13, rfl, hq13, o13, hb13⟩
      rw [spelt_tw] at hq13 o13
      obtain rfl : q13 = q10 := hq13.trans HV11.out.1.symm
      have HW13 := Lib.hid (HW12.out.trans (hb13.mono HW12.out.size))
      have HV13 := Lib.hid o13.has
      refine hK _ _ HW13.out ?_
      clear hK K; (try simp only [Act.put, List.setIfInBounds_toArray, List.set_cons_zero, List.set_cons_succ])
      clear RD hq13 o13 hb13 hSW hWW
      have RD := grows_roads (S := fun x' => Below w13.heap.size w13 x') (fun a b h1 h2 => h2.trans (h1.mono h2.size))
      refine ord_more RD (fun W h => HW13.out.trans (h.mono HW13.out.size)) (fun W h _ => h) ?_
      refine ord_take RD 22 (at_list (by rw [HOP.out]; rfl)) HNS.out HPQ.out (by rw [HOP.out]; kernel_rfl) (by rw [HOP.out]; kernel_rfl) (by rw [HOP.out]; rfl) (fun K hK => ?_); apply Exists.intro; refine ⟨fun W hSW => ?_, hK _ ?_⟩; (focus ((try dsimp only at hSW); (have cv := conv8 (n := q13) (c := c13) (HV13.out.below hSW (Nat.le_refl _)) HV11.out.1.symm); go_simp; try with_reducible rfl)); clear hK K; (try simp only [Act.put, List.setIfInBounds_toArray, List.set_cons_zero, List.set_cons_succ])
      refine ord_take RD 23 (at_list (by rw [HOP.out]; rfl)) HNS.out HPQ.out (by rw [HOP.out]; kernel_rfl) (by rw [HOP.out]; kernel_rfl) (by rw [HOP.out]; rfl) (fun K hK => ?_); apply Exists.intro; refine ⟨fun W hSW => ?_, hK _ ?_⟩; (focus ((try dsimp only at hSW); go_simp; try with_reducible rfl)); clear hK K; (try simp only [Act.put, List.setIfInBounds_toArray, List.set_cons_zero, List.set_cons_succ])
      refine ord_take RD 24 (at_list (by rw [HOP.out]; rfl)) HNS.out HPQ.out (by rw [HOP.out]; kernel_rfl) (by rw [HOP.out]; kernel_rfl) (by rw [HOP.out]; rfl) (fun K hK => ?_); apply Exists.intro; refine ⟨fun W hSW => ?_, hK _ ?_⟩; (focus ((try dsimp only at hSW); go_simp; try with_reducible rfl)); clear hK K; (try simp only [Act.put, List.setIfInBounds_toArray, List.set_cons_zero, List.set_cons_succ])
      refine ord_done (by rw [HOP.out]; kernel_rfl) (fun W14 hWW hSW => HN.out _ _ ?_); clear HOP HNS HPQ HN RD; (try dsimp only at hSW)
      have HW14 := Lib.hid (HW11.out.trans ((HW13.out.trans (hSW.mono HW13.out.size)).mono HW11.out.size))
      have HT14 := Lib.hid (HW13.out.trans (hSW.mono HW13.out.size))
      clear hSW hWW
      cases hx : letB c
      · have HX := Lib.hid hx
        have HQ : Hid (q11 = 0) := Lib.hid (by rw [HV11.out.2.2.2.1, tw_no xb hx]; rfl)
        clear hx
        go_wp2_with fail
        refine (Letter_no c _ c1 c2 HX.out).mono ?_
        rintro e0 w' ⟨rfl, rfl⟩
        have hq := HQ.out
        subst hq
        go_wp2_with fail
        go_ret
        exact ⟨rfl, HW14.out⟩
      · have HX := Lib.hid hx
        clear hx
        go_wp2_with fail
        refine (Letter_yes c _ c1 c2 HX.out).mono ?_
        rintro e0 w' ⟨rfl, rfl⟩
        have HQ16 : Hid (q13 ≤ 16) := Lib.hid (by rw [HV11.out.1]; exact tw_len xb)
        have HYY : Hid (tw (xb ++ [c]) = (tw xb ++ [low c]).drop (q13 + 1 - 16)) := Lib.hid (by rw [tw_yes xb HX.out, ← HV11.out.1])
        have HVW : Hid (Has .u8 W14 A8 (tw xb) ∧ Has .u8 W14 A11 (tw (xb ++ [c]))) := Lib.hid ⟨HV11.out.2.1.below HT14.out (Nat.le_refl _), HV11.out.2.2.2.2.below HT14.out (Nat.le_refl _)⟩
        go_wp2_with (first
          | (at_builtin; refine app8 rfl (.tmp 153) _ rfl W14.heap.size _ [] rfl (lit_at rfl) A8 q13 c8 (tw xb) rfl HV11.out.1.symm (HVW.out.1.below ((Below.refl _ _).alloc (Nat.le_refl _) _) (Nat.le_refl _)) q13 (by simp) (by have := HQ16.out; omega) (by simp) ?_; intro A15 c15 w15 ho15 hg15 hb15; rw [List.nil_append] at ho15; have HO15 := Lib.hid ho15; have HT15 : Hid (Below W14.heap.size W14 w15) := Lib.hid (((Below.refl _ _).alloc (Nat.le_refl _) _).trans hb15); clear ho15 hg15 hb15)
          | (at_builtin; refine app8 rfl (.tmp 155) _ rfl W14.heap.size _ (tw xb) rfl (HO15.out.below ((Below.refl _ _).alloc (Nat.le_refl _) _) (Nat.le_refl _)) (some ⟨w15.heap.size, 0, none⟩) 1 1 [low c] rfl rfl (has_lit rfl (by simp [maxLen])) (q13 + 1) (by rw [← HV11.out.1]) (by have := HQ16.out; omega) (by have := HT15.out.size; simp; omega) ?_; intro A16 c16 w16 ho16 hg16 hb16; have HO16 := Lib.hid ho16; have HT16 : Hid (Below W14.heap.size W14 w16) := Lib.hid ((HT15.out.alloc HT15.out.size _).trans hb16); clear ho16 hg16 hb16))
        obtain ⟨g16, e16, -, -, -⟩ := HO16.out.form (by simp)
        subst e16
        have hcap : q13 + 1 ≤ c16 ∧ c16 ≤ 9223372036854775807 := by have := rgL.own_cap HO16.out; exact ⟨this.2.1, this.2.2⟩
        have HCAP := Lib.hid hcap
        have HU := Lib.hid (HVW.out.2.below HT16.out (Nat.le_refl _))
        have HWT := Lib.hid HO16.out.has
        obtain ⟨t, ht⟩ : ∃ t, q13 + 1 - 16 = t := ⟨_, rfl⟩
        rw [ht] at HYY
        have hmx : max (0 : Int) (IntKind.i64.wrap ((q13 : Int) + 1 - 16)) = (t : Int) := by rw [IntKind.wrap_i64]; have := HQ16.out; omega
        have HMX := Lib.hid hmx
        have HTT9 : Hid (t ≤ 1 ∧ t ≤ q13) := Lib.hid (by have := HQ16.out; omega)
        have HLL : Hid (((tw xb ++ [low c]).drop t).length = q13 + 1 - t) := Lib.hid (by rw [List.length_drop, List.length_append, ← HV11.out.1]; rfl)
        clear hmx ht
        have t1 : (t : Int) ≤ (q13 : Int) + 1 := by have := HTT9.out; omega
        have t0 : 0 ≤ (t : Int) := by omega
        have t2 : (t : Int) ≤ c16 := by have := HTT9.out; omega
        have t3 : ¬ c16 = t := by have := HTT9.out; omega
        (have RD := grows_roads (S := fun x' => Below w16.heap.size w16 x') (fun a b h1 h2 => h2.trans (h1.mono h2.size))); refine region_ord _ Grows RD (Below.drew (Below.refl _ _)) (by kernel_rfl) ?_; intro ops Q' hops hPQ hN; (have HNS : Hid (Region.noSelect ops = true) := Lib.hid (by rw [hops]; kernel_rfl)); (have hsz : ops.size = 14 := (by rw [hops]; rfl)); have HOP := Lib.hid hops; have HPQ := Lib.hid hPQ; have HN := Lib.hid hN; rw [hsz]; clear hops hsz hPQ hN
        refine ord_take RD 0 (at_list (by rw [HOP.out]; rfl)) HNS.out HPQ.out (by rw [HOP.out]; kernel_rfl) (by rw [HOP.out]; kernel_rfl) (by rw [HOP.out]; rfl) (fun K hK => ?_); apply Exists.intro; refine ⟨fun W hSW => ?_, hK _ ?_⟩; (focus ((try dsimp only at hSW); go_simp; try with_reducible rfl)); clear hK K; (try simp only [Act.put, List.setIfInBounds_toArray, List.set_cons_zero, List.set_cons_succ])
        refine ord_take RD 1 (at_list (by rw [HOP.out]; rfl)) HNS.out HPQ.out (by rw [HOP.out]; kernel_rfl) (by rw [HOP.out]; kernel_rfl) (by rw [HOP.out]; rfl) (fun K hK => ?_); apply Exists.intro; refine ⟨fun W hSW => ?_, hK _ ?_⟩; (focus ((try dsimp only at hSW); go_simp; try with_reducible rfl)); clear hK K; (try simp only [Act.put, List.setIfInBounds_toArray, List.set_cons_zero, List.set_cons_succ])
        refine ord_take RD 2 (at_list (by rw [HOP.out]; rfl)) HNS.out HPQ.out (by rw [HOP.out]; kernel_rfl) (by rw [HOP.out]; kernel_rfl) (by rw [HOP.out]; rfl) (fun K hK => ?_); apply Exists.intro; refine ⟨fun W hSW => ?_, hK _ ?_⟩; (focus ((try dsimp only at hSW); go_simp; try with_reducible rfl)); clear hK K; (try simp only [Act.put, List.setIfInBounds_toArray, List.set_cons_zero, List.set_cons_succ])
        refine ord_take RD 3 (at_list (by rw [HOP.out]; rfl)) HNS.out HPQ.out (by rw [HOP.out]; kernel_rfl) (by rw [HOP.out]; kernel_rfl) (by rw [HOP.out]; rfl) (fun K hK => ?_); apply Exists.intro; refine ⟨fun W hSW => ?_, hK _ ?_⟩; (focus ((try dsimp only at hSW); (have cv := conv8 (n := q11) (c := c11) (HU.out.below hSW (Nat.le_refl _)) HV11.out.2.2.2.1.symm); go_simp; try with_reducible rfl)); clear hK K; (try simp only [Act.put, List.setIfInBounds_toArray, List.set_cons_zero, List.set_cons_succ])
        rw [HYY.out]
        refine ord_take RD 4 (at_list (by rw [HOP.out]; rfl)) HNS.out HPQ.out (by rw [HOP.out]; kernel_rfl) (by rw [HOP.out]; kernel_rfl) (by rw [HOP.out]; rfl) (fun K hK => ?_); apply Exists.intro; refine ⟨fun W hSW => ?_, hK _ ?_⟩; (focus ((try dsimp only at hSW); go_simp; try with_reducible rfl)); clear hK K; (try simp only [Act.put, List.setIfInBounds_toArray, List.set_cons_zero, List.set_cons_succ])
        refine ord_take RD 5 (at_list (by rw [HOP.out]; rfl)) HNS.out HPQ.out (by rw [HOP.out]; kernel_rfl) (by rw [HOP.out]; kernel_rfl) (by rw [HOP.out]; rfl) (fun K hK => ?_); apply Exists.intro; refine ⟨fun W hSW => ?_, hK _ ?_⟩; (focus ((try dsimp only at hSW); go_simp; try with_reducible rfl)); clear hK K; (try simp only [Act.put, List.setIfInBounds_toArray, List.set_cons_zero, List.set_cons_succ])
        refine ord_take RD 6 (at_list (by rw [HOP.out]; rfl)) HNS.out HPQ.out (by rw [HOP.out]; kernel_rfl) (by rw [HOP.out]; kernel_rfl) (by rw [HOP.out]; rfl) (fun K hK => ?_); apply Exists.intro; refine ⟨fun W hSW => ?_, hK _ ?_⟩; (focus ((try dsimp only at hSW); go_simp; try with_reducible rfl)); clear hK K; (try simp only [Act.put, List.setIfInBounds_toArray, List.set_cons_zero, List.set_cons_succ])
        refine ord_take RD 7 (at_list (by rw [HOP.out]; rfl)) HNS.out HPQ.out (by rw [HOP.out]; kernel_rfl) (by rw [HOP.out]; kernel_rfl) (by rw [HOP.out]; rfl) (fun K hK => ?_); apply Exists.intro; refine ⟨fun W hSW => ?_, hK _ ?_⟩; (focus ((try dsimp only at hSW); go_simp; try with_reducible rfl)); clear hK K; (try simp only [Act.put, List.setIfInBounds_toArray, List.set_cons_zero, List.set_cons_succ])
        refine ord_take RD 8 (at_list (by rw [HOP.out]; rfl)) HNS.out HPQ.out (by rw [HOP.out]; kernel_rfl) (by rw [HOP.out]; kernel_rfl) (by rw [HOP.out]; rfl) (fun K hK => ?_); apply Exists.intro; refine ⟨fun W hSW => ?_, hK _ ?_⟩; (focus ((try dsimp only at hSW); go_simp; try with_reducible rfl)); clear hK K; (try simp only [Act.put, List.setIfInBounds_toArray, List.set_cons_zero, List.set_cons_succ])
        rw [HMX.out]
        refine ord_take RD 9 (at_list (by rw [HOP.out]; rfl)) HNS.out HPQ.out (by rw [HOP.out]; kernel_rfl) (by rw [HOP.out]; kernel_rfl) (by rw [HOP.out]; rfl) (fun K hK => ?_); apply Exists.intro; refine ⟨fun W hSW => ?_, hK _ ?_⟩; (focus ((try dsimp only at hSW); go_simp; try with_reducible rfl)); clear hK K; (try simp only [Act.put, List.setIfInBounds_toArray, List.set_cons_zero, List.set_cons_succ])
        refine ord_take RD 10 (at_list (by rw [HOP.out]; rfl)) HNS.out HPQ.out (by rw [HOP.out]; kernel_rfl) (by rw [HOP.out]; kernel_rfl) (by rw [HOP.out]; rfl) (fun K hK => ?_); apply Exists.intro; refine ⟨fun W hSW => ?_, hK _ ?_⟩; (focus ((try dsimp only at hSW); (have cv := conv8 (n := q13 + 1 - t) (c := c16 - t) (show Has .u8 W (some ⟨g16, t, none⟩) ((tw xb ++ [low c]).drop t) from (by have := (HWT.out.below hSW (Nat.le_refl _)).dropAt t; rw [Nat.zero_add] at this; exact this)) HLL.out); go_simp; try with_reducible rfl)); clear hK K; (try simp only [Act.put, List.setIfInBounds_toArray, List.set_cons_zero, List.set_cons_succ])
        refine ord_take RD 11 (at_list (by rw [HOP.out]; rfl)) HNS.out HPQ.out (by rw [HOP.out]; kernel_rfl) (by rw [HOP.out]; kernel_rfl) (by rw [HOP.out]; rfl) (fun K hK => ?_); apply Exists.intro; refine ⟨fun W hSW => ?_, hK _ ?_⟩; (focus ((try dsimp only at hSW); go_simp; try with_reducible rfl)); clear hK K; (try simp only [Act.put, List.setIfInBounds_toArray, List.set_cons_zero, List.set_cons_succ])
        refine ord_take RD 12 (at_list (by rw [HOP.out]; rfl)) HNS.out HPQ.out (by rw [HOP.out]; kernel_rfl) (by rw [HOP.out]; kernel_rfl) (by rw [HOP.out]; rfl) (fun K hK => ?_); apply Exists.intro; refine ⟨fun W hSW => ?_, hK _ ?_⟩; (focus ((try dsimp only at hSW); go_simp; try with_reducible rfl)); clear hK K; (try simp only [Act.put, List.setIfInBounds_toArray, List.set_cons_zero, List.set_cons_succ])
        refine ord_take RD 13 (at_list (by rw [HOP.out]; rfl)) HNS.out HPQ.out (by rw [HOP.out]; kernel_rfl) (by rw [HOP.out]; kernel_rfl) (by rw [HOP.out]; rfl) (fun K hK => ?_); apply Exists.intro; refine ⟨fun W hSW => ?_, hK _ ?_⟩; (focus ((try dsimp only at hSW); go_simp; try with_reducible rfl)); clear hK K; (try simp only [Act.put, List.setIfInBounds_toArray, List.set_cons_zero, List.set_cons_succ])
        refine ord_done (by rw [HOP.out]; kernel_rfl) (fun W17 hWW hSW => HN.out _ _ ?_); clear HOP HNS HPQ HN RD; (try dsimp only at hSW)
        have HW17 := Lib.hid (HW14.out.trans ((HT16.out.trans (hSW.mono HT16.out.size)).mono HW14.out.size))
        clear hSW hWW
        go_wp2_with fail
        go_ret
        exact ⟨rfl, HW17.out⟩
end Go.Proofs.YtpggdijhfdddpaaDoor.cxW

namespace Go.Proofs.YtpggdijhfdddpaaDoor.cxW
open Go.RowKit Go.Proofs.YtpggdijhfdddpaaDoor.base Go.Proofs.YtpggdijhfdddpaaDoor.rgP Go.Proofs.YtpggdijhfdddpaaDoor.cxP Go.Proofs.YtpggdijhfdddpaaDoor.hashP Go.Proofs.YtpggdijhfdddpaaDoor.hashW Go.Proofs.YtpggdijhfdddpaaDoor.rgW
set_option linter.unusedVariables false
set_option linter.unusedSimpArgs false
set_option maxRecDepth 100000 in
set_option maxHeartbeats 2000000 in
theorem words_out (l : Int) (B : Option Addr) (m d : Nat) (c : Int) (w : World) (hT : Tab w) (h : l < 0 ∨ 0 ≤ l ∧ (7 < l ∨ l ≤ 7 ∧ (60 : Int) < m)) :
    Calls Tryd.prog 6 #[.int .i64 l, .slice B m d, .int .u8 c] w fun e w' => e = .returned (.bool true) ∧ Below w.heap.size w w' := by
  have HTT := Lib.hid hT
  clear hT
  rcases h with h | ⟨h1, h | ⟨h2, h⟩⟩
  · (go_enter Tryd.func6, Tryd.ntmps6; go_wp2_with (go_at_call 21; refine (alive _ HTT.out).mono ?_; rintro e0 wz ⟨rfl, hbz⟩); go_ret; exact ⟨rfl, by (repeat' (first | (with_reducible exact Below.refl _ _) | (with_reducible assumption) | (with_reducible refine below_drewN ?_ _) | (with_reducible refine below_new ?_ _) | (with_reducible refine Below.alloc ?_ ?_ _) | (with_reducible refine Below.drew ?_) | (with_reducible refine Below.setCell ?_ ?_ _) | (with_reducible apply below_at; (case k => (with_reducible assumption)); (case hB => omega)) | (with_reducible apply below_on; (with_reducible assumption)) | (go_size; done) | (with_reducible apply size_of)))⟩)
  · (go_enter Tryd.func6, Tryd.ntmps6; go_wp2_with (go_at_call 21; refine (alive _ HTT.out).mono ?_; rintro e0 wz ⟨rfl, hbz⟩); go_ret; exact ⟨rfl, by (repeat' (first | (with_reducible exact Below.refl _ _) | (with_reducible assumption) | (with_reducible refine below_drewN ?_ _) | (with_reducible refine below_new ?_ _) | (with_reducible refine Below.alloc ?_ ?_ _) | (with_reducible refine Below.drew ?_) | (with_reducible refine Below.setCell ?_ ?_ _) | (with_reducible apply below_at; (case k => (with_reducible assumption)); (case hB => omega)) | (with_reducible apply below_on; (with_reducible assumption)) | (go_size; done) | (with_reducible apply size_of)))⟩)
  · (go_enter Tryd.func6, Tryd.ntmps6; go_wp2_with (go_at_call 21; refine (alive _ HTT.out).mono ?_; rintro e0 wz ⟨rfl, hbz⟩); go_ret; exact ⟨rfl, by (repeat' (first | (with_reducible exact Below.refl _ _) | (with_reducible assumption) | (with_reducible refine below_drewN ?_ _) | (with_reducible refine below_new ?_ _) | (with_reducible refine Below.alloc ?_ ?_ _) | (with_reducible refine Below.drew ?_) | (with_reducible refine Below.setCell ?_ ?_ _) | (with_reducible apply below_at; (case k => (with_reducible assumption)); (case hB => omega)) | (with_reducible apply below_on; (with_reducible assumption)) | (go_size; done) | (with_reducible apply size_of)))⟩)
theorem words_law (l : Int) (B : Option Addr) (m d : Nat) (z : List Int) (c : Int) (w : World) (l1 : -9223372036854775808 ≤ l) (l2 : l ≤ 9223372036854775807) (hB : IsRow .u8 w B m d z) (c1 : 0 ≤ c) (c2 : c ≤ 255) (hT : Tab w) :
    Calls Tryd.prog 6 #[.int .i64 l, .slice B m d, .int .u8 c] w fun e w' => e = .returned (.bool true) ∧ Below w.heap.size w w' := by
  obtain ⟨b1, b2, b3, b4⟩ := has_of_row hB
  by_cases h : (0 ≤ l ∧ l ≤ 7) ∧ m ≤ 60
  · exact words_main l B m d _ c w ((lvB_iff l).2 h.1) b1 b2 (fun y hy => bounds_u8 (b4 y hy)) h.2 c1 c2 hT
  · exact words_out l B m d c w hT (by omega)
end Go.Proofs.YtpggdijhfdddpaaDoor.cxW
