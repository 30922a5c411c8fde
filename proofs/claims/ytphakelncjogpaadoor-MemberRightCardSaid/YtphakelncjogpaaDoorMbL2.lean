/- MemberWrites, by a walk. -/
import Derived.Test.YtphakelncjogpaaDoorMbWr2
import Derived.Test.YtphakelncjogpaaDoorPk0
namespace Go.Proofs.YtphakelncjogpaaDoor.mbW
set_option maxRecDepth 100000
open Go.RowKit Go.Proofs.YtphakelncjogpaaDoor.base Go.Proofs.YtphakelncjogpaaDoor.shP Go.Proofs.YtphakelncjogpaaDoor.shW
open Go.Proofs.YtphakelncjogpaaDoor.trW (IsD sv zd_isD digest_isD z20_at)
set_option linter.unusedVariables false
set_option linter.unusedSimpArgs false
set_option maxRecDepth 100000
theorem recsB {w : World} {A : Option Addr} {n c : Nat} {rs : List Rc} (h : RecsIn w A n c rs) : RecB w A n c rs := ⟨h.h, h.l, h.c1, h.c2, h.z, h.d⟩
theorem memB1 {w : World} {q : Mb} {g : Nat} (hg : w.heap.size = g) (hq : InR w q.r) : MemB (w.alloc (.cells #[.string q.nm, .slice q.r.A q.r.n q.r.c] 37)) (some ⟨g, 0, none⟩) 1 1 [q] := by
  have L := Lies.fresh_at (w := w) (t := 37) (cs := [.string q.nm, .slice q.r.A q.r.n q.r.c]) hg
  refine ⟨rfl, Nat.le_refl _, by omega, .inr ⟨g, 0, rfl, L.lt, fun i hi => ?_⟩, fun x hx => ?_⟩
  · obtain rfl : i = 0 := by simpa using hi
    exact ⟨L.cell 0, L.cell 1⟩
  · simp only [List.mem_cons, List.not_mem_nil, or_false] at hx
    subst hx
    exact hq.below (mb_new w _) (Nat.le_refl _)
set_option maxHeartbeats 12800000 in
theorem writes (P : Option Addr) (m d : Nat) (rs : List Rc) (q : Mb) (s : ByteArray) (w : World) (hR : RecsIn w P m d rs) (hq : q.nm.size ≤ maxLen ∧ InR w q.r) (hs : s.size ≤ maxLen) (hT : Tab w) :
    Calls Tryd.prog 4 #[.slice P m d, .agg #[.string q.nm, .slice q.r.A q.r.n q.r.c], .string s] w fun e w' => e = .returned (.bool true) ∧ Below w.heap.size w w' := by
  have HR := Lib.hid (recsB hR)
  have HT := Lib.hid hT
  have HQ := Lib.hid hq.2
  have HQN : Hid (q.nm.size ≤ 9223372036854775807) := Lib.hid (by have := hq.1; unfold maxLen at this; omega)
  have m1 : (m : Int) ≤ 9223372036854775807 := by have := hR.c1; have := hR.c2; omega
  have HL := Lib.hid hR.l
  have HVA := Lib.hid (fun (w' : World) (h : Below w.heap.size w w') => Valid_any rs P m d w' (HT.out.below h (Nat.le_refl _)) (HR.out.below h (Nat.le_refl _)))
  have HVB := Lib.hid (fun (w' : World) (h : Below w.heap.size w w') => rValid_any rs P m d w' (HR.out.below h (Nat.le_refl _)))
  have HWA := Lib.hid (fun (w' : World) (h : Below w.heap.size w w') => Write_any rs P m d w' (HT.out.below h (Nat.le_refl _)) (HR.out.below h (Nat.le_refl _)))
  have HWB := Lib.hid (fun (w' : World) (h : Below w.heap.size w w') => rWrite_any rs P m d w' (HR.out.below h (Nat.le_refl _)))
  have HFA := Lib.hid (fun (w' : World) (h : Below w.heap.size w w') => Find_any rs s P m d w' (HT.out.below h (Nat.le_refl _)) (HR.out.below h (Nat.le_refl _)))
  have HFB := Lib.hid (fun (w' : World) (h : Below w.heap.size w w') => rFind_any rs s P m d w' (HR.out.below h (Nat.le_refl _)))
  have G1 := mb_new w (.cells #[.string q.nm, .slice q.r.A q.r.n q.r.c] 37)
  have L1 := Lib.hid (Lies.fresh w 37 [.string q.nm, .slice q.r.A q.r.n q.r.c])
  have B1 := Lib.hid G1
  clear hR hq hs hT G1
  go_enter Tryd.func4, Tryd.ntmps4
  go_wp2_with fail
  generalize (w.alloc (.cells #[.string q.nm, .slice q.r.A q.r.n q.r.c] 37)) = w1 at *
  refine (GreatR_any rs P m d w1 (HR.out.below B1.out (Nat.le_refl _))).mono ?_
  rintro e _ ⟨⟨b, rfl, hb⟩, rfl⟩
  rename World => w1
  cases b
  case true =>
    go_wp2_with fail
    go_ret
    exact ⟨rfl, B1.out⟩
  have HG := Lib.hid (hb rfl)
  clear hb
  have x0 : w1.cell? ⟨w.heap.size, 0, none⟩ = some (.string q.nm) := L1.out.cell 0
  have x1 : w1.cell? ⟨w.heap.size, 1, none⟩ = some (.slice q.r.A q.r.n q.r.c) := L1.out.cell 1
  have HG1 := Lib.hid (Great_any [q] (some ⟨w1.heap.size, 0, none⟩) 1 1 (w1.alloc (.cells #[.string q.nm, .slice q.r.A q.r.n q.r.c] 37)) (memB1 rfl (HQ.out.below B1.out (Nat.le_refl _))))
  have G2 := mb_new w1 (.cells #[.string q.nm, .slice q.r.A q.r.n q.r.c] 37)
  have L2 := Lib.hid (L1.out.past G2)
  have B2 := Lib.hid (mb_bb B1.out G2)
  clear G2
  go_wp2_with fail
  generalize (w1.alloc (.cells #[.string q.nm, .slice q.r.A q.r.n q.r.c] 37)) = w2 at *
  refine HG1.out.mono ?_
  rintro e _ ⟨⟨b, rfl, hb⟩, rfl⟩
  rename World => w2
  clear x0 x1 L1 HG1 B1
  cases b
  case true =>
    go_wp2_with fail
    go_ret
    exact ⟨rfl, B2.out⟩
  have HGQ : Hid (q.nm.size ≤ 100 ∧ q.r.n ≤ 10000) := Lib.hid ((hb rfl).2 0 (by decide))
  clear hb
  by_cases cs : (100 : Int) < s.size
  · go_wp2_with fail
    go_ret
    exact ⟨rfl, B2.out⟩
  go_wp2_with fail
  refine (HWA.out w2 B2.out).mono ?_
  rintro e w3 ⟨A3, n3, c3, rfl, hn3, -, -, hh3, b3⟩
  have B3 := Lib.hid (mb_bb B2.out b3)
  have L3 := Lib.hid (L2.out.past b3)
  have H3 := Lib.hid hh3
  have N3 := Lib.hid hn3
  clear b3 hh3 hn3 L2
  go_wp2_with fail
  refine (HWB.out w3 B3.out).mono ?_
  rintro e w4 ⟨A4, n4, c4, rfl, hn4, -, -, hh4, b4⟩
  have B4 := Lib.hid (mb_bb B3.out b4)
  have L4 := Lib.hid (L3.out.past b4)
  have H34 := Lib.hid (H3.out.below b4 (Nat.le_refl _))
  have H4 := Lib.hid hh4
  have N4 := Lib.hid hn4
  clear b4 hh4 hn4 L3 H3
  go_wp2_with fail
  refine (HFA.out w4 B4.out).mono ?_
  rintro e w5 ⟨rfl, b5⟩
  have B5 := Lib.hid (mb_bb B4.out b5)
  have L5 := Lib.hid (L4.out.past b5)
  have H35 := Lib.hid (H34.out.below b5 (Nat.le_refl _))
  have H45 := Lib.hid (H4.out.below b5 (Nat.le_refl _))
  clear b5 L4 H34 H4
  go_wp2_with fail
  refine (HFB.out w5 B5.out).mono ?_
  rintro e w6 ⟨rfl, b6⟩
  have B6 := Lib.hid (mb_bb B5.out b6)
  have L6 := Lib.hid (L5.out.past b6)
  have H36 := Lib.hid (H35.out.below b6 (Nat.le_refl _))
  have H46 := Lib.hid (H45.out.below b6 (Nat.le_refl _))
  clear b6 L5 H35 H45
  go_wp2_with fail
  refine (HVA.out w6 B6.out).mono ?_
  rintro e w7 ⟨rfl, b7⟩
  have B7 := Lib.hid (mb_bb B6.out b7)
  have L7 := Lib.hid (L6.out.past b7)
  have H37 := Lib.hid (H36.out.below b7 (Nat.le_refl _))
  have H47 := Lib.hid (H46.out.below b7 (Nat.le_refl _))
  clear b7 L6 H36 H46
  go_wp2_with fail
  refine (HVB.out w7 B7.out).mono ?_
  rintro e w8 ⟨rfl, b8⟩
  have B8 := Lib.hid (mb_bb B7.out b8)
  have L8 := Lib.hid (L7.out.past b8)
  have cv1 := conv8 (n := n3) (c := c3) (H37.out.below b8 (Nat.le_refl _)) N3.out.symm
  have cv2 := conv8 (n := n4) (c := c4) (H47.out.below b8 (Nat.le_refl _)) N4.out.symm
  clear b8 L7 H37 H47 HWA HWB HFA HFB HVA HVB
  by_cases c0 : m = 0
  · subst c0
    go_wp2_with fail
    go_ret
    exact ⟨rfl, B8.out⟩
  have hp : 0 < m := by omega
  have m0 : ¬ (m : Int) = 0 := by omega
  have m2 : 0 < (m : Int) := by omega
  obtain ⟨b, off, rfl, hbb⟩ := HR.out.h.some (by rw [HL.out]; omega)
  have hmem : rs.getD 0 rc0 ∈ rs := by rw [List.getD_eq_getElem?_getD, List.getElem?_eq_getElem (by rw [HL.out]; exact hp)]; exact List.getElem_mem _
  have HZ := Lib.hid (HR.out.z _ hmem)
  have HD := Lib.hid (HR.out.d _ hmem)
  have RX : Hid (∀ x', Below w.heap.size w x' → x'.rangeAt b (off + 0 * 22) (RE.enc (rs.getD 0 rc0))) := Lib.hid (fun x' h => (HR.out.h.past h).rng (i := 0) (by rw [HL.out]; exact hp))
  generalize rs.getD 0 rc0 = r at *
  clear hmem hbb c0
  go_upto_region 11 with fail
  clear cv1 cv2
  have HRA := Lib.hid (fun (w' : World) (h : Below w.heap.size w w') => Right_any r q w' (HT.out.below h (Nat.le_refl _)) HZ.out HD.out (HQ.out.below h (Nat.le_refl _)) (by have := HGQ.out.2; omega))
  have HRB := Lib.hid (fun (w' : World) (h : Below w.heap.size w w') => rRight_any r q w' HZ.out HD.out (HQ.out.below h (Nat.le_refl _)) (by have := HGQ.out.2; omega) HQN.out)
  (have RD := grows_roads (S := fun x' => Below w8.heap.size w8 x') (fun a b h1 h2 => h2.trans (h1.mono h2.size))); refine region_ord _ Grows RD (Below.drew (Below.refl _ _)) (by kernel_rfl) ?_; intro ops Q' hops hPQ hN; (have HNS : Hid (Region.noSelect ops = true) := Lib.hid (by rw [hops]; kernel_rfl)); (have hsz : ops.size = 10 := (by rw [hops]; rfl)); have HOP := Lib.hid hops; have HPQ := Lib.hid hPQ; have HN := Lib.hid hN; rw [hsz]; clear hops hsz hPQ hN
  refine ord_take RD 0 (at_list (by rw [HOP.out]; rfl)) HNS.out HPQ.out (by rw [HOP.out]; kernel_rfl) (by rw [HOP.out]; kernel_rfl) (by rw [HOP.out]; rfl) (fun K hK => ?_); apply Exists.intro; refine ⟨fun W hSW => ?_, hK _ ?_⟩; (focus ((try dsimp only at hSW); go_simp; try with_reducible rfl)); clear hK K; (try simp only [Act.put, List.setIfInBounds_toArray, List.set_cons_zero, List.set_cons_succ])
  refine ord_take RD 1 (at_list (by rw [HOP.out]; rfl)) HNS.out HPQ.out (by rw [HOP.out]; kernel_rfl) (by rw [HOP.out]; kernel_rfl) (by rw [HOP.out]; rfl) (fun K hK => ?_); apply Exists.intro; refine ⟨fun W hSW => ?_, hK _ ?_⟩; (focus ((try dsimp only at hSW); go_simp; try with_reducible rfl)); clear hK K; (try simp only [Act.put, List.setIfInBounds_toArray, List.set_cons_zero, List.set_cons_succ])
  refine ord_take RD 2 (at_list (by rw [HOP.out]; rfl)) HNS.out HPQ.out (by rw [HOP.out]; kernel_rfl) (by rw [HOP.out]; kernel_rfl) (by rw [HOP.out]; rfl) (fun K hK => ?_); apply Exists.intro; refine ⟨fun W hSW => ?_, hK _ ?_⟩; (focus ((try dsimp only at hSW); exact Enc.quiet_ld RE (x := r) (P := Tryd.prog) Tryd.underlying54 rfl info22 _ rfl (RX.out _ (mb_bb B8.out hSW)) rfl)); clear hK K; (try simp only [Act.put, List.setIfInBounds_toArray, List.set_cons_zero, List.set_cons_succ])
  refine ord_take RD 3 (at_list (by rw [HOP.out]; rfl)) HNS.out HPQ.out (by rw [HOP.out]; kernel_rfl) (by rw [HOP.out]; kernel_rfl) (by rw [HOP.out]; rfl) (fun K hK => ?_); apply Exists.intro; refine ⟨fun W hSW => ?_, hK _ ?_⟩; (focus ((try dsimp only at hSW); have x0 : W.cell? ⟨w.heap.size, 0, none⟩ = some (.string q.nm) := (L8.out.past hSW).cell 0; have x1 : W.cell? ⟨w.heap.size, 1, none⟩ = some (.slice q.r.A q.r.n q.r.c) := (L8.out.past hSW).cell 1; go_simp; try with_reducible rfl)); clear hK K; (try simp only [Act.put, List.setIfInBounds_toArray, List.set_cons_zero, List.set_cons_succ])
  refine ord_one RD 4 (by rw [HOP.out]; kernel_rfl) (at_list (by rw [HOP.out]; rfl)) (by rw [HOP.out]; rfl) (fun W1 hWW hSW K hK => ?_); (try dsimp only at hSW)
  go_simp
  refine (HRA.out W1 (mb_bb B8.out hSW)).mono ?_
  rintro e w9 ⟨rfl, b9⟩
  refine hK _ _ (mb_bb hSW b9) ?_
  clear hSW hWW b9
  clear hK K; (try simp only [Act.put, List.setIfInBounds_toArray, List.set_cons_zero, List.set_cons_succ])
  refine ord_take RD 5 (at_list (by rw [HOP.out]; rfl)) HNS.out HPQ.out (by rw [HOP.out]; kernel_rfl) (by rw [HOP.out]; kernel_rfl) (by rw [HOP.out]; rfl) (fun K hK => ?_); apply Exists.intro; refine ⟨fun W hSW => ?_, hK _ ?_⟩; (focus ((try dsimp only at hSW); go_simp; try with_reducible rfl)); clear hK K; (try simp only [Act.put, List.setIfInBounds_toArray, List.set_cons_zero, List.set_cons_succ])
  refine ord_take RD 6 (at_list (by rw [HOP.out]; rfl)) HNS.out HPQ.out (by rw [HOP.out]; kernel_rfl) (by rw [HOP.out]; kernel_rfl) (by rw [HOP.out]; rfl) (fun K hK => ?_); apply Exists.intro; refine ⟨fun W hSW => ?_, hK _ ?_⟩; (focus ((try dsimp only at hSW); go_simp; try with_reducible rfl)); clear hK K; (try simp only [Act.put, List.setIfInBounds_toArray, List.set_cons_zero, List.set_cons_succ])
  refine ord_take RD 7 (at_list (by rw [HOP.out]; rfl)) HNS.out HPQ.out (by rw [HOP.out]; kernel_rfl) (by rw [HOP.out]; kernel_rfl) (by rw [HOP.out]; rfl) (fun K hK => ?_); apply Exists.intro; refine ⟨fun W hSW => ?_, hK _ ?_⟩; (focus ((try dsimp only at hSW); go_simp; try with_reducible rfl)); clear hK K; (try simp only [Act.put, List.setIfInBounds_toArray, List.set_cons_zero, List.set_cons_succ])
  refine ord_take RD 8 (at_list (by rw [HOP.out]; rfl)) HNS.out HPQ.out (by rw [HOP.out]; kernel_rfl) (by rw [HOP.out]; kernel_rfl) (by rw [HOP.out]; rfl) (fun K hK => ?_); apply Exists.intro; refine ⟨fun W hSW => ?_, hK _ ?_⟩; (focus ((try dsimp only at hSW); go_simp; try with_reducible rfl)); clear hK K; (try simp only [Act.put, List.setIfInBounds_toArray, List.set_cons_zero, List.set_cons_succ])
  refine ord_take RD 9 (at_list (by rw [HOP.out]; rfl)) HNS.out HPQ.out (by rw [HOP.out]; kernel_rfl) (by rw [HOP.out]; kernel_rfl) (by rw [HOP.out]; rfl) (fun K hK => ?_); apply Exists.intro; refine ⟨fun W hSW => ?_, hK _ ?_⟩; (focus ((try dsimp only at hSW); go_simp; try with_reducible rfl)); clear hK K; (try simp only [Act.put, List.setIfInBounds_toArray, List.set_cons_zero, List.set_cons_succ])
  refine ord_done (by rw [HOP.out]; kernel_rfl) (fun Wa hWW hSW => HN.out _ _ ?_); clear HOP HNS HPQ HN RD; (try dsimp only at hSW)
  have Ba := Lib.hid (mb_bb B8.out hSW)
  have La := Lib.hid (L8.out.past hSW)
  clear hSW hWW HRA L8 B8
  go_upto_region 12 with fail
  (have RD := grows_roads (S := fun x' => Below Wa.heap.size Wa x') (fun a b h1 h2 => h2.trans (h1.mono h2.size))); refine region_ord _ Grows RD (Below.drew (Below.refl _ _)) (by kernel_rfl) ?_; intro ops Q' hops hPQ hN; (have HNS : Hid (Region.noSelect ops = true) := Lib.hid (by rw [hops]; kernel_rfl)); (have hsz : ops.size = 10 := (by rw [hops]; rfl)); have HOP := Lib.hid hops; have HPQ := Lib.hid hPQ; have HN := Lib.hid hN; rw [hsz]; clear hops hsz hPQ hN
  refine ord_take RD 0 (at_list (by rw [HOP.out]; rfl)) HNS.out HPQ.out (by rw [HOP.out]; kernel_rfl) (by rw [HOP.out]; kernel_rfl) (by rw [HOP.out]; rfl) (fun K hK => ?_); apply Exists.intro; refine ⟨fun W hSW => ?_, hK _ ?_⟩; (focus ((try dsimp only at hSW); go_simp; try with_reducible rfl)); clear hK K; (try simp only [Act.put, List.setIfInBounds_toArray, List.set_cons_zero, List.set_cons_succ])
  refine ord_take RD 1 (at_list (by rw [HOP.out]; rfl)) HNS.out HPQ.out (by rw [HOP.out]; kernel_rfl) (by rw [HOP.out]; kernel_rfl) (by rw [HOP.out]; rfl) (fun K hK => ?_); apply Exists.intro; refine ⟨fun W hSW => ?_, hK _ ?_⟩; (focus ((try dsimp only at hSW); go_simp; try with_reducible rfl)); clear hK K; (try simp only [Act.put, List.setIfInBounds_toArray, List.set_cons_zero, List.set_cons_succ])
  refine ord_take RD 2 (at_list (by rw [HOP.out]; rfl)) HNS.out HPQ.out (by rw [HOP.out]; kernel_rfl) (by rw [HOP.out]; kernel_rfl) (by rw [HOP.out]; rfl) (fun K hK => ?_); apply Exists.intro; refine ⟨fun W hSW => ?_, hK _ ?_⟩; (focus ((try dsimp only at hSW); exact Enc.quiet_ld RE (x := r) (P := Tryd.prog) Tryd.underlying54 rfl info22 _ rfl (RX.out _ (mb_bb Ba.out hSW)) rfl)); clear hK K; (try simp only [Act.put, List.setIfInBounds_toArray, List.set_cons_zero, List.set_cons_succ])
  refine ord_take RD 3 (at_list (by rw [HOP.out]; rfl)) HNS.out HPQ.out (by rw [HOP.out]; kernel_rfl) (by rw [HOP.out]; kernel_rfl) (by rw [HOP.out]; rfl) (fun K hK => ?_); apply Exists.intro; refine ⟨fun W hSW => ?_, hK _ ?_⟩; (focus ((try dsimp only at hSW); have x0 : W.cell? ⟨w.heap.size, 0, none⟩ = some (.string q.nm) := (La.out.past hSW).cell 0; have x1 : W.cell? ⟨w.heap.size, 1, none⟩ = some (.slice q.r.A q.r.n q.r.c) := (La.out.past hSW).cell 1; go_simp; try with_reducible rfl)); clear hK K; (try simp only [Act.put, List.setIfInBounds_toArray, List.set_cons_zero, List.set_cons_succ])
  refine ord_one RD 4 (by rw [HOP.out]; kernel_rfl) (at_list (by rw [HOP.out]; rfl)) (by rw [HOP.out]; rfl) (fun W1 hWW hSW K hK => ?_); (try dsimp only at hSW)
  go_simp
  refine (HRB.out W1 (mb_bb Ba.out hSW)).mono ?_
  rintro e w9 ⟨rfl, b9⟩
  refine hK _ _ (mb_bb hSW b9) ?_
  clear hSW hWW b9
  clear hK K; (try simp only [Act.put, List.setIfInBounds_toArray, List.set_cons_zero, List.set_cons_succ])
  refine ord_take RD 5 (at_list (by rw [HOP.out]; rfl)) HNS.out HPQ.out (by rw [HOP.out]; kernel_rfl) (by rw [HOP.out]; kernel_rfl) (by rw [HOP.out]; rfl) (fun K hK => ?_); apply Exists.intro; refine ⟨fun W hSW => ?_, hK _ ?_⟩; (focus ((try dsimp only at hSW); go_simp; try with_reducible rfl)); clear hK K; (try simp only [Act.put, List.setIfInBounds_toArray, List.set_cons_zero, List.set_cons_succ])
  refine ord_take RD 6 (at_list (by rw [HOP.out]; rfl)) HNS.out HPQ.out (by rw [HOP.out]; kernel_rfl) (by rw [HOP.out]; kernel_rfl) (by rw [HOP.out]; rfl) (fun K hK => ?_); apply Exists.intro; refine ⟨fun W hSW => ?_, hK _ ?_⟩; (focus ((try dsimp only at hSW); go_simp; try with_reducible rfl)); clear hK K; (try simp only [Act.put, List.setIfInBounds_toArray, List.set_cons_zero, List.set_cons_succ])
  refine ord_take RD 7 (at_list (by rw [HOP.out]; rfl)) HNS.out HPQ.out (by rw [HOP.out]; kernel_rfl) (by rw [HOP.out]; kernel_rfl) (by rw [HOP.out]; rfl) (fun K hK => ?_); apply Exists.intro; refine ⟨fun W hSW => ?_, hK _ ?_⟩; (focus ((try dsimp only at hSW); go_simp; try with_reducible rfl)); clear hK K; (try simp only [Act.put, List.setIfInBounds_toArray, List.set_cons_zero, List.set_cons_succ])
  refine ord_take RD 8 (at_list (by rw [HOP.out]; rfl)) HNS.out HPQ.out (by rw [HOP.out]; kernel_rfl) (by rw [HOP.out]; kernel_rfl) (by rw [HOP.out]; rfl) (fun K hK => ?_); apply Exists.intro; refine ⟨fun W hSW => ?_, hK _ ?_⟩; (focus ((try dsimp only at hSW); go_simp; try with_reducible rfl)); clear hK K; (try simp only [Act.put, List.setIfInBounds_toArray, List.set_cons_zero, List.set_cons_succ])
  refine ord_take RD 9 (at_list (by rw [HOP.out]; rfl)) HNS.out HPQ.out (by rw [HOP.out]; kernel_rfl) (by rw [HOP.out]; kernel_rfl) (by rw [HOP.out]; rfl) (fun K hK => ?_); apply Exists.intro; refine ⟨fun W hSW => ?_, hK _ ?_⟩; (focus ((try dsimp only at hSW); go_simp; try with_reducible rfl)); clear hK K; (try simp only [Act.put, List.setIfInBounds_toArray, List.set_cons_zero, List.set_cons_succ])
  refine ord_done (by rw [HOP.out]; kernel_rfl) (fun Wb hWW hSW => HN.out _ _ ?_); clear HOP HNS HPQ HN RD; (try dsimp only at hSW)
  have Bb := Lib.hid (mb_bb Ba.out hSW)
  clear hSW hWW HRB La Ba
  go_wp2_with fail
  go_ret
  exact ⟨rfl, Bb.out⟩
end Go.Proofs.YtphakelncjogpaaDoor.mbW
