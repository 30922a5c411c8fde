/- The examples of layer 16 hold, by a walk. -/
import Derived.Test.YtjikddndlnimoaaDoorMxW8
namespace Go.Proofs.YtjikddndlnimoaaDoor.mxL
set_option maxRecDepth 100000
open Go.RowKit Go.Proofs.YtjikddndlnimoaaDoor.base Go.Proofs.YtjikddndlnimoaaDoor.rfP Go.Proofs.YtjikddndlnimoaaDoor.mxP Go.Proofs.YtjikddndlnimoaaDoor.mxW Go.Proofs.YtjikddndlnimoaaDoor.sqP Go.Proofs.YtjikddndlnimoaaDoor.sqW
set_option linter.unusedVariables false
set_option linter.unusedSimpArgs false
def givenL : List Int := [400, -100, 0, 0, 0, 0, 0, 256]
def taughtL : List Int := [16642, 16320, 16384, 16384, 16384, 16384, 16384, 16549]
theorem ex_1 : newME 1 = 0 ∧ mixV (newMV 1 16384) 0 givenL = 139 ∧ mixQ (newMV 1 16384) 0 givenL = 2587 ∧ mAskE (newMV 1 16384) 0 givenL = 0 ∧ wrongV 2587 true = 1508 ∧ wrongE 2587 = 0 := by decide +kernel
theorem ex_2 : learnME (newMV 1 16384) 0 givenL 2587 = 0 ∧ learnMV (newMV 1 16384) 0 givenL 2587 true = [taughtL] := by decide +kernel
set_option maxHeartbeats 400000 in
theorem given_any (w : World) : Calls Tryd.prog 37 #[] w fun e w' => e = .returned (.slice (some ⟨w.heap.size, 0, none⟩) 8 8) ∧ OwnI w' w.heap.size 21 .i32 (.slice (some ⟨w.heap.size, 0, none⟩) 8 8) givenL ∧ Below w.heap.size w w' := by
  have ho := OwnI.lit w 21 .i32 givenL w.heap.size (Nat.le_refl _) (by decide)
  have HO : Hid (OwnI (w.alloc (.cells (givenL.map (Value.int .i32)).toArray 21)) w.heap.size 21 .i32 (.slice (some ⟨w.heap.size, 0, none⟩) 8 8) givenL) := Lib.hid ho
  clear ho
  go_enter Tryd.func37, Tryd.ntmps37
  go_wp2_with fail
  go_ret
  exact ⟨rfl, HO.out, by (repeat' (first | (with_reducible exact Below.refl _ _) | (with_reducible assumption) | (with_reducible refine below_drewN ?_ _) | (with_reducible refine below_new ?_ _) | (with_reducible refine Below.alloc ?_ ?_ _) | (with_reducible refine Below.drew ?_) | (with_reducible refine Below.setCell ?_ ?_ _) | (with_reducible apply below_at; (case k => (with_reducible assumption)); (case hB => omega)) | (with_reducible apply below_on; (with_reducible assumption)) | (go_size; done) | (with_reducible apply size_of)))⟩
theorem given_in {w : World} {B : Nat} {g : Nat} (h : OwnI w B 21 .i32 (.slice (some ⟨g, 0, none⟩) 8 8) givenL) : In8 w (some ⟨g, 0, none⟩) 8 8 givenL :=
  ⟨h.has, rfl, Nat.le_refl _, by decide, by decide⟩
set_option maxHeartbeats 1500000 in
theorem alive (w : World) (hT : Tab w) : Calls Tryd.prog 19 #[] w fun e w' => e = .returned (.bool true) ∧ Below w.heap.size w w' := by
  have HT := Lib.hid hT
  clear hT
  go_enter Tryd.func19, Tryd.ntmps19
  go_wp2_with fail
  refine (New_any 1 16384 w (by decide)).mono ?_
  rintro e v1 ⟨A1, n1, d1, q1, rfl, o1, e1, b1⟩
  rw [ex_1.1]
  have E1 := Lib.hid e1
  have S1 : Hid (MxAt (v1.alloc (.cells #[.slice A1 n1 d1] 24)) v1.heap.size A1 n1 d1 q1 ∧ Below w.heap.size w (v1.alloc (.cells #[.slice A1 n1 d1] 24))) := Lib.hid ⟨mxAt_new o1.rows, below_al b1 _⟩
  clear o1 e1 b1
  go_upto_region 2 with fail
  generalize hw1 : (v1.alloc (.cells #[.slice A1 n1 d1] 24)) = w1 at *
  generalize v1.heap.size = g1 at *
  clear hw1
  (have RD := grows_roads (S := fun x' => Below w1.heap.size w1 x') (fun a b h1 h2 => below_bs h2 h1)); refine region_ord _ Grows RD (Below.drew (Below.refl w1.heap.size w1)) (by kernel_rfl) ?_; intro ops Q' hops hPQ hN; (have HNS : Hid (Region.noSelect ops = true) := Lib.hid (by rw [hops]; kernel_rfl)); (have hsz : ops.size = 10 := (by rw [hops]; rfl)); have HOP := Lib.hid hops; have HPQ := Lib.hid hPQ; have HN := Lib.hid hN; rw [hsz]; clear hops hsz hPQ hN
  refine ord_take RD 0 (at_list (by rw [HOP.out]; rfl)) HNS.out HPQ.out (by rw [HOP.out]; kernel_rfl) (by rw [HOP.out]; kernel_rfl) (by rw [HOP.out]; rfl) (fun K hK => ?_); apply Exists.intro; refine ⟨fun W hSW => ?_, hK _ ?_⟩; (focus ((try dsimp only at hSW); (have z1 := (S1.out.1.past hSW).cell); go_simp; try with_reducible rfl)); clear hK K; (try simp only [Act.put, List.setIfInBounds_toArray, List.set_cons_zero, List.set_cons_succ])
  refine ord_one RD 1 (by rw [HOP.out]; kernel_rfl) (at_list (by rw [HOP.out]; rfl)) (by rw [HOP.out]; rfl) (fun W2 hWW hSW K hK => ?_); (try dsimp only at hSW)
  go_simp
  refine (given_any W2).mono ?_
  rintro e wg ⟨rfl, og, bg⟩
  refine hK _ _ (RD.keep bg hSW) ?_
  have HG := Lib.hid (given_in og)
  clear og bg hSW hWW
  clear hK K; (try simp only [Act.put, List.setIfInBounds_toArray, List.set_cons_zero, List.set_cons_succ])
  refine ord_one RD 2 (by rw [HOP.out]; kernel_rfl) (at_list (by rw [HOP.out]; rfl)) (by rw [HOP.out]; rfl) (fun W3 hWW hSW K hK => ?_); (try dsimp only at hSW)
  go_simp
  refine (Mix_any A1 n1 d1 q1 0 _ 8 8 givenL W3 (S1.out.1.past hSW).rows (HG.out.past hWW) (HT.out.below (below_bs S1.out.2 hSW))).mono ?_
  rintro e w4 ⟨rfl, b4⟩
  rw [E1.out, ex_1.2.1, ex_1.2.2.1, ex_1.2.2.2.1]
  refine hK _ _ (RD.keep b4 hSW) ?_
  clear b4 hSW hWW HG
  clear hK K; (try simp only [Act.put, List.setIfInBounds_toArray, List.set_cons_zero, List.set_cons_succ])
  refine ord_take RD 3 (at_list (by rw [HOP.out]; rfl)) HNS.out HPQ.out (by rw [HOP.out]; kernel_rfl) (by rw [HOP.out]; kernel_rfl) (by rw [HOP.out]; rfl) (fun K hK => ?_); apply Exists.intro; refine ⟨fun W hSW => ?_, hK _ ?_⟩; (focus ((try dsimp only at hSW); go_simp; try with_reducible rfl)); clear hK K; (try simp only [Act.put, List.setIfInBounds_toArray, List.set_cons_zero, List.set_cons_succ])
  refine ord_take RD 4 (at_list (by rw [HOP.out]; rfl)) HNS.out HPQ.out (by rw [HOP.out]; kernel_rfl) (by rw [HOP.out]; kernel_rfl) (by rw [HOP.out]; rfl) (fun K hK => ?_); apply Exists.intro; refine ⟨fun W hSW => ?_, hK _ ?_⟩; (focus ((try dsimp only at hSW); go_simp; try with_reducible rfl)); clear hK K; (try simp only [Act.put, List.setIfInBounds_toArray, List.set_cons_zero, List.set_cons_succ])
  refine ord_take RD 5 (at_list (by rw [HOP.out]; rfl)) HNS.out HPQ.out (by rw [HOP.out]; kernel_rfl) (by rw [HOP.out]; kernel_rfl) (by rw [HOP.out]; rfl) (fun K hK => ?_); apply Exists.intro; refine ⟨fun W hSW => ?_, hK _ ?_⟩; (focus ((try dsimp only at hSW); go_simp; try with_reducible rfl)); clear hK K; (try simp only [Act.put, List.setIfInBounds_toArray, List.set_cons_zero, List.set_cons_succ])
  refine ord_take RD 6 (at_list (by rw [HOP.out]; rfl)) HNS.out HPQ.out (by rw [HOP.out]; kernel_rfl) (by rw [HOP.out]; kernel_rfl) (by rw [HOP.out]; rfl) (fun K hK => ?_); apply Exists.intro; refine ⟨fun W hSW => ?_, hK _ ?_⟩; (focus ((try dsimp only at hSW); go_simp; try with_reducible rfl)); clear hK K; (try simp only [Act.put, List.setIfInBounds_toArray, List.set_cons_zero, List.set_cons_succ])
  refine ord_take RD 7 (at_list (by rw [HOP.out]; rfl)) HNS.out HPQ.out (by rw [HOP.out]; kernel_rfl) (by rw [HOP.out]; kernel_rfl) (by rw [HOP.out]; rfl) (fun K hK => ?_); apply Exists.intro; refine ⟨fun W hSW => ?_, hK _ ?_⟩; (focus ((try dsimp only at hSW); go_simp; try with_reducible rfl)); clear hK K; (try simp only [Act.put, List.setIfInBounds_toArray, List.set_cons_zero, List.set_cons_succ])
  refine ord_take RD 8 (at_list (by rw [HOP.out]; rfl)) HNS.out HPQ.out (by rw [HOP.out]; kernel_rfl) (by rw [HOP.out]; kernel_rfl) (by rw [HOP.out]; rfl) (fun K hK => ?_); apply Exists.intro; refine ⟨fun W hSW => ?_, hK _ ?_⟩; (focus ((try dsimp only at hSW); go_simp; try with_reducible rfl)); clear hK K; (try simp only [Act.put, List.setIfInBounds_toArray, List.set_cons_zero, List.set_cons_succ])
  refine ord_take RD 9 (at_list (by rw [HOP.out]; rfl)) HNS.out HPQ.out (by rw [HOP.out]; kernel_rfl) (by rw [HOP.out]; kernel_rfl) (by rw [HOP.out]; rfl) (fun K hK => ?_); apply Exists.intro; refine ⟨fun W hSW => ?_, hK _ ?_⟩; (focus ((try dsimp only at hSW); go_simp; try with_reducible rfl)); clear hK K; (try simp only [Act.put, List.setIfInBounds_toArray, List.set_cons_zero, List.set_cons_succ])
  refine ord_done (by rw [HOP.out]; kernel_rfl) (fun W5 hWW hSW => HN.out _ _ ?_); clear HOP HNS HPQ HN RD; (try dsimp only at hSW)
  have S5 : Hid (MxAt W5 g1 A1 n1 d1 q1 ∧ Below w.heap.size w W5) := Lib.hid ⟨S1.out.1.past hSW, below_bs S1.out.2 hSW⟩
  clear hSW hWW S1
  go_wp2_with fail
  refine (Wrong_any 2587 true W5).mono ?_
  rintro e w6 ⟨rfl, rfl⟩
  rw [ex_1.2.2.2.2.1, ex_1.2.2.2.2.2]
  go_upto_region 4 with fail
  go_cut [8, 9] (fun s8 s9 wx => ∃ g8 A4 d4 q4, s8 = .pointer (some ⟨g8, 0, none⟩) ∧ s9 = .int .i64 0 ∧ Lies wx g8 24 [.slice A4 1 d4] ∧ RowsY wx A4 1 d4 q4 ∧ numsY q4 = [taughtL] ∧ Below w.heap.size w wx)
  case first =>
    (have RD := grows_roads (S := fun x' => Below w6.heap.size w6 x') (fun a b h1 h2 => below_bs h2 h1)); refine region_ord _ Grows RD (Below.drew (Below.refl w6.heap.size w6)) (by kernel_rfl) ?_; intro ops Q' hops hPQ hN; (have HNS : Hid (Region.noSelect ops = true) := Lib.hid (by rw [hops]; kernel_rfl)); (have hsz : ops.size = 10 := (by rw [hops]; rfl)); have HOP := Lib.hid hops; have HPQ := Lib.hid hPQ; have HN := Lib.hid hN; rw [hsz]; clear hops hsz hPQ hN
    refine ord_take RD 0 (at_list (by rw [HOP.out]; rfl)) HNS.out HPQ.out (by rw [HOP.out]; kernel_rfl) (by rw [HOP.out]; kernel_rfl) (by rw [HOP.out]; rfl) (fun K hK => ?_); apply Exists.intro; refine ⟨fun W hSW => ?_, hK _ ?_⟩; (focus ((try dsimp only at hSW); (have z1 := (S5.out.1.past hSW).cell); go_simp; try with_reducible rfl)); clear hK K; (try simp only [Act.put, List.setIfInBounds_toArray, List.set_cons_zero, List.set_cons_succ])
    refine ord_take RD 2 (at_list (by rw [HOP.out]; rfl)) HNS.out HPQ.out (by rw [HOP.out]; kernel_rfl) (by rw [HOP.out]; kernel_rfl) (by rw [HOP.out]; rfl) (fun K hK => ?_); apply Exists.intro; refine ⟨fun W hSW => ?_, hK _ ?_⟩; (focus ((try dsimp only at hSW); go_simp; try with_reducible rfl)); clear hK K; (try simp only [Act.put, List.setIfInBounds_toArray, List.set_cons_zero, List.set_cons_succ])
    refine ord_two RD 1 7 (by rw [HOP.out]; kernel_rfl) (at_list (by rw [HOP.out]; rfl)) (at_list (by rw [HOP.out]; rfl)) (by rw [HOP.out]; rfl) (by rw [HOP.out]; rfl) ?_ ?_
    · intro W1 hWW hSW K hK
      go_simp
      refine (given_any W1).mono ?_
      rintro e wg ⟨rfl, og, bg⟩
      refine hK _ _ (RD.keep bg hSW) ?_
      have HG := Lib.hid (given_in og)
      clear og bg hSW hWW
      clear hK K; (try simp only [Act.put, List.setIfInBounds_toArray, List.set_cons_zero, List.set_cons_succ])
      refine ord_two RD 3 7 (by rw [HOP.out]; kernel_rfl) (at_list (by rw [HOP.out]; rfl)) (at_list (by rw [HOP.out]; rfl)) (by rw [HOP.out]; rfl) (by rw [HOP.out]; rfl) ?_ ?_
      · intro W2 hWW hSW K hK
        go_simp
        refine (Learn_any A1 n1 d1 q1 0 _ 8 8 givenL 2587 true W2 (S5.out.1.past hSW).rows (HG.out.past hWW)).mono ?_
        rintro e w9 ⟨A4, n4, d4, q4, rfl, o4, e4, b4⟩
        rw [E1.out] at e4 ⊢
        rw [ex_2.2] at e4
        rw [ex_2.1]
        obtain rfl : n4 = 1 := by have e1 := o4.rows.l; have e2 := nums_len q4; rw [e4] at e2; simp at e2; omega
        refine hK _ _ (RD.keep b4 hSW) ?_
        have HL4 := Lib.hid (And.intro o4 e4)
        clear o4 e4 b4 hSW hWW
        clear hK K; (try simp only [Act.put, List.setIfInBounds_toArray, List.set_cons_zero, List.set_cons_succ])
        refine ord_take RD 4 (at_list (by rw [HOP.out]; rfl)) HNS.out HPQ.out (by rw [HOP.out]; kernel_rfl) (by rw [HOP.out]; kernel_rfl) (by rw [HOP.out]; rfl) (fun K hK => ?_); apply Exists.intro; refine ⟨fun W hSW => ?_, hK _ ?_⟩; (focus ((try dsimp only at hSW); go_simp; try with_reducible rfl)); clear hK K; (try simp only [Act.put, List.setIfInBounds_toArray, List.set_cons_zero, List.set_cons_succ])
        refine ord_take RD 5 (at_list (by rw [HOP.out]; rfl)) HNS.out HPQ.out (by rw [HOP.out]; kernel_rfl) (by rw [HOP.out]; kernel_rfl) (by rw [HOP.out]; rfl) (fun K hK => ?_); apply Exists.intro; refine ⟨fun W hSW => ?_, hK _ ?_⟩; (focus ((try dsimp only at hSW); go_simp; try with_reducible rfl)); clear hK K; (try simp only [Act.put, List.setIfInBounds_toArray, List.set_cons_zero, List.set_cons_succ])
        refine ord_take RD 6 (at_list (by rw [HOP.out]; rfl)) HNS.out HPQ.out (by rw [HOP.out]; kernel_rfl) (by rw [HOP.out]; kernel_rfl) (by rw [HOP.out]; rfl) (fun K hK => ?_); apply Exists.intro; refine ⟨fun W hSW => ?_, hK _ ?_⟩; (focus ((try dsimp only at hSW); go_simp; try with_reducible rfl)); clear hK K; (try simp only [Act.put, List.setIfInBounds_toArray, List.set_cons_zero, List.set_cons_succ])
        refine ord_one RD 7 (by rw [HOP.out]; kernel_rfl) (at_list (by rw [HOP.out]; rfl)) (by rw [HOP.out]; rfl) (fun W3 hWW hSW K hK => ?_); (try dsimp only at hSW)
        go_simp
        refine hK _ _ (RD.keep (grows_alloc W3 _) hSW) ?_
        have HA : Hid (Lies (W3.alloc (.cells #[.slice none 0 0] 24)) W3.heap.size 24 [.slice none 0 0] ∧ w6.heap.size ≤ W3.heap.size) := Lib.hid ⟨Lies.fresh _ _ _, hSW.size⟩
        have HW3 : Hid (OwnR (W3.alloc (.cells #[.slice none 0 0] 24)) W2.heap.size (.slice A4 1 d4) q4) := Lib.hid ((HL4.out.1.past hWW).alloc _)
        clear hSW hWW
        clear hK K; (try simp only [Act.put, List.setIfInBounds_toArray, List.set_cons_zero, List.set_cons_succ])
        generalize (W3.alloc (.cells #[.slice none 0 0] 24)) = wa at *
        generalize W3.heap.size = g8 at *
        refine ord_one RD 8 (by rw [HOP.out]; kernel_rfl) (at_list (by rw [HOP.out]; rfl)) (by rw [HOP.out]; rfl) (fun W4 hWW hSW K hK => ?_); (try dsimp only at hSW)
        have H6 : Hid (OwnR W4 W2.heap.size (.slice A4 1 d4) q4 ∧ Lies W4 g8 24 [.slice none 0 0]) := Lib.hid ⟨HW3.out.past hWW, HA.out.1.past hWW⟩
        obtain ⟨z3, z4⟩ := H6.out.2.one
        go_simp
        refine hK _ _ (hSW.setCell HA.out.2 _) ?_
        have H7 : Hid (OwnR (W4.setCell ⟨g8, 0, none⟩ (.slice A4 1 d4)) W2.heap.size (.slice A4 1 d4) q4 ∧ Lies (W4.setCell ⟨g8, 0, none⟩ (.slice A4 1 d4)) g8 24 [.slice A4 1 d4]) := Lib.hid ⟨H6.out.1.other H6.out.2 (by decide) (by decide) 0 _, H6.out.2.set 0 _⟩
        clear hSW hWW z3 z4
        clear hK K; (try simp only [Act.put, List.setIfInBounds_toArray, List.set_cons_zero, List.set_cons_succ])
        generalize (W4.setCell ⟨g8, 0, none⟩ (.slice A4 1 d4)) = w7 at *
        refine ord_take RD 9 (at_list (by rw [HOP.out]; rfl)) HNS.out HPQ.out (by rw [HOP.out]; kernel_rfl) (by rw [HOP.out]; kernel_rfl) (by rw [HOP.out]; rfl) (fun K hK => ?_); apply Exists.intro; refine ⟨fun W hSW => ?_, hK _ ?_⟩; (focus ((try dsimp only at hSW); go_simp; try with_reducible rfl)); clear hK K; (try simp only [Act.put, List.setIfInBounds_toArray, List.set_cons_zero, List.set_cons_succ])
        refine ord_done (by rw [HOP.out]; kernel_rfl) (fun W8 hWW hSW => HN.out _ _ ?_); clear HOP HNS HPQ HN RD; (try dsimp only at hSW)
        have HF := Lib.hid (And.intro (H7.out.1.past hWW) (And.intro (H7.out.2.past hWW) hSW))
        clear hSW hWW
        go_wp2_with fail
        go_meet
        exact ⟨g8, A4, d4, q4, rfl, rfl, HF.out.2.1, HF.out.1.rows, HL4.out.2, below_bs S5.out.2 HF.out.2.2⟩
      · intro W2 hWW hSW K hK
        go_simp
        refine hK _ _ (RD.keep (grows_alloc W2 _) hSW) ?_
        have HA : Hid (Lies (W2.alloc (.cells #[.slice none 0 0] 24)) W2.heap.size 24 [.slice none 0 0] ∧ w6.heap.size ≤ W2.heap.size) := Lib.hid ⟨Lies.fresh _ _ _, hSW.size⟩
        have HG2 := Lib.hid ((HG.out.past hWW).past (grows_alloc W2 (.cells #[.slice none 0 0] 24)))
        clear hSW hWW
        clear hK K; (try simp only [Act.put, List.setIfInBounds_toArray, List.set_cons_zero, List.set_cons_succ])
        generalize (W2.alloc (.cells #[.slice none 0 0] 24)) = wa at *
        generalize W2.heap.size = g8 at *
        refine ord_one RD 3 (by rw [HOP.out]; kernel_rfl) (at_list (by rw [HOP.out]; rfl)) (by rw [HOP.out]; rfl) (fun W3 hWW hSW K hK => ?_); (try dsimp only at hSW)
        go_simp
        refine (Learn_any A1 n1 d1 q1 0 _ 8 8 givenL 2587 true W3 (S5.out.1.past hSW).rows (HG2.out.past hWW)).mono ?_
        rintro e w9 ⟨A4, n4, d4, q4, rfl, o4, e4, b4⟩
        rw [E1.out] at e4 ⊢
        rw [ex_2.2] at e4
        rw [ex_2.1]
        obtain rfl : n4 = 1 := by have e1 := o4.rows.l; have e2 := nums_len q4; rw [e4] at e2; simp at e2; omega
        refine hK _ _ (RD.keep b4 hSW) ?_
        have HL4 := Lib.hid (And.intro o4 e4)
        have HLA := Lib.hid ((HA.out.1.past hWW).past b4)
        clear o4 e4 b4 hSW hWW
        clear hK K; (try simp only [Act.put, List.setIfInBounds_toArray, List.set_cons_zero, List.set_cons_succ])
        refine ord_take RD 4 (at_list (by rw [HOP.out]; rfl)) HNS.out HPQ.out (by rw [HOP.out]; kernel_rfl) (by rw [HOP.out]; kernel_rfl) (by rw [HOP.out]; rfl) (fun K hK => ?_); apply Exists.intro; refine ⟨fun W hSW => ?_, hK _ ?_⟩; (focus ((try dsimp only at hSW); go_simp; try with_reducible rfl)); clear hK K; (try simp only [Act.put, List.setIfInBounds_toArray, List.set_cons_zero, List.set_cons_succ])
        refine ord_take RD 5 (at_list (by rw [HOP.out]; rfl)) HNS.out HPQ.out (by rw [HOP.out]; kernel_rfl) (by rw [HOP.out]; kernel_rfl) (by rw [HOP.out]; rfl) (fun K hK => ?_); apply Exists.intro; refine ⟨fun W hSW => ?_, hK _ ?_⟩; (focus ((try dsimp only at hSW); go_simp; try with_reducible rfl)); clear hK K; (try simp only [Act.put, List.setIfInBounds_toArray, List.set_cons_zero, List.set_cons_succ])
        refine ord_take RD 6 (at_list (by rw [HOP.out]; rfl)) HNS.out HPQ.out (by rw [HOP.out]; kernel_rfl) (by rw [HOP.out]; kernel_rfl) (by rw [HOP.out]; rfl) (fun K hK => ?_); apply Exists.intro; refine ⟨fun W hSW => ?_, hK _ ?_⟩; (focus ((try dsimp only at hSW); go_simp; try with_reducible rfl)); clear hK K; (try simp only [Act.put, List.setIfInBounds_toArray, List.set_cons_zero, List.set_cons_succ])
        refine ord_one RD 8 (by rw [HOP.out]; kernel_rfl) (at_list (by rw [HOP.out]; rfl)) (by rw [HOP.out]; rfl) (fun W4 hWW hSW K hK => ?_); (try dsimp only at hSW)
        have H6 : Hid (OwnR W4 W3.heap.size (.slice A4 1 d4) q4 ∧ Lies W4 g8 24 [.slice none 0 0]) := Lib.hid ⟨HL4.out.1.past hWW, HLA.out.past hWW⟩
        obtain ⟨z3, z4⟩ := H6.out.2.one
        go_simp
        refine hK _ _ (hSW.setCell HA.out.2 _) ?_
        have H7 : Hid (OwnR (W4.setCell ⟨g8, 0, none⟩ (.slice A4 1 d4)) W3.heap.size (.slice A4 1 d4) q4 ∧ Lies (W4.setCell ⟨g8, 0, none⟩ (.slice A4 1 d4)) g8 24 [.slice A4 1 d4]) := Lib.hid ⟨H6.out.1.other H6.out.2 (by decide) (by decide) 0 _, H6.out.2.set 0 _⟩
        clear hSW hWW z3 z4
        clear hK K; (try simp only [Act.put, List.setIfInBounds_toArray, List.set_cons_zero, List.set_cons_succ])
        generalize (W4.setCell ⟨g8, 0, none⟩ (.slice A4 1 d4)) = w7 at *
        refine ord_take RD 9 (at_list (by rw [HOP.out]; rfl)) HNS.out HPQ.out (by rw [HOP.out]; kernel_rfl) (by rw [HOP.out]; kernel_rfl) (by rw [HOP.out]; rfl) (fun K hK => ?_); apply Exists.intro; refine ⟨fun W hSW => ?_, hK _ ?_⟩; (focus ((try dsimp only at hSW); go_simp; try with_reducible rfl)); clear hK K; (try simp only [Act.put, List.setIfInBounds_toArray, List.set_cons_zero, List.set_cons_succ])
        refine ord_done (by rw [HOP.out]; kernel_rfl) (fun W8 hWW hSW => HN.out _ _ ?_); clear HOP HNS HPQ HN RD; (try dsimp only at hSW)
        have HF := Lib.hid (And.intro (H7.out.1.past hWW) (And.intro (H7.out.2.past hWW) hSW))
        clear hSW hWW
        go_wp2_with fail
        go_meet
        exact ⟨g8, A4, d4, q4, rfl, rfl, HF.out.2.1, HF.out.1.rows, HL4.out.2, below_bs S5.out.2 HF.out.2.2⟩
    · intro W1 hWW hSW K hK
      go_simp
      refine hK _ _ (RD.keep (grows_alloc W1 _) hSW) ?_
      have HA : Hid (Lies (W1.alloc (.cells #[.slice none 0 0] 24)) W1.heap.size 24 [.slice none 0 0] ∧ w6.heap.size ≤ W1.heap.size) := Lib.hid ⟨Lies.fresh _ _ _, hSW.size⟩
      clear hSW hWW
      clear hK K; (try simp only [Act.put, List.setIfInBounds_toArray, List.set_cons_zero, List.set_cons_succ])
      generalize (W1.alloc (.cells #[.slice none 0 0] 24)) = wa at *
      generalize W1.heap.size = g8 at *
      refine ord_one RD 1 (by rw [HOP.out]; kernel_rfl) (at_list (by rw [HOP.out]; rfl)) (by rw [HOP.out]; rfl) (fun W2 hWW hSW K hK => ?_); (try dsimp only at hSW)
      go_simp
      refine (given_any W2).mono ?_
      rintro e wg ⟨rfl, og, bg⟩
      refine hK _ _ (RD.keep bg hSW) ?_
      have HG := Lib.hid (given_in og)
      have HLA0 := Lib.hid ((HA.out.1.past hWW).past bg)
      clear og bg hSW hWW
      clear hK K; (try simp only [Act.put, List.setIfInBounds_toArray, List.set_cons_zero, List.set_cons_succ])
      refine ord_one RD 3 (by rw [HOP.out]; kernel_rfl) (at_list (by rw [HOP.out]; rfl)) (by rw [HOP.out]; rfl) (fun W3 hWW hSW K hK => ?_); (try dsimp only at hSW)
      go_simp
      refine (Learn_any A1 n1 d1 q1 0 _ 8 8 givenL 2587 true W3 (S5.out.1.past hSW).rows (HG.out.past hWW)).mono ?_
      rintro e w9 ⟨A4, n4, d4, q4, rfl, o4, e4, b4⟩
      rw [E1.out] at e4 ⊢
      rw [ex_2.2] at e4
      rw [ex_2.1]
      obtain rfl : n4 = 1 := by have e1 := o4.rows.l; have e2 := nums_len q4; rw [e4] at e2; simp at e2; omega
      refine hK _ _ (RD.keep b4 hSW) ?_
      have HL4 := Lib.hid (And.intro o4 e4)
      have HLA := Lib.hid ((HLA0.out.past hWW).past b4)
      clear o4 e4 b4 hSW hWW
      clear hK K; (try simp only [Act.put, List.setIfInBounds_toArray, List.set_cons_zero, List.set_cons_succ])
      refine ord_take RD 4 (at_list (by rw [HOP.out]; rfl)) HNS.out HPQ.out (by rw [HOP.out]; kernel_rfl) (by rw [HOP.out]; kernel_rfl) (by rw [HOP.out]; rfl) (fun K hK => ?_); apply Exists.intro; refine ⟨fun W hSW => ?_, hK _ ?_⟩; (focus ((try dsimp only at hSW); go_simp; try with_reducible rfl)); clear hK K; (try simp only [Act.put, List.setIfInBounds_toArray, List.set_cons_zero, List.set_cons_succ])
      refine ord_take RD 5 (at_list (by rw [HOP.out]; rfl)) HNS.out HPQ.out (by rw [HOP.out]; kernel_rfl) (by rw [HOP.out]; kernel_rfl) (by rw [HOP.out]; rfl) (fun K hK => ?_); apply Exists.intro; refine ⟨fun W hSW => ?_, hK _ ?_⟩; (focus ((try dsimp only at hSW); go_simp; try with_reducible rfl)); clear hK K; (try simp only [Act.put, List.setIfInBounds_toArray, List.set_cons_zero, List.set_cons_succ])
      refine ord_take RD 6 (at_list (by rw [HOP.out]; rfl)) HNS.out HPQ.out (by rw [HOP.out]; kernel_rfl) (by rw [HOP.out]; kernel_rfl) (by rw [HOP.out]; rfl) (fun K hK => ?_); apply Exists.intro; refine ⟨fun W hSW => ?_, hK _ ?_⟩; (focus ((try dsimp only at hSW); go_simp; try with_reducible rfl)); clear hK K; (try simp only [Act.put, List.setIfInBounds_toArray, List.set_cons_zero, List.set_cons_succ])
      refine ord_one RD 8 (by rw [HOP.out]; kernel_rfl) (at_list (by rw [HOP.out]; rfl)) (by rw [HOP.out]; rfl) (fun W4 hWW hSW K hK => ?_); (try dsimp only at hSW)
      have H6 : Hid (OwnR W4 W3.heap.size (.slice A4 1 d4) q4 ∧ Lies W4 g8 24 [.slice none 0 0]) := Lib.hid ⟨HL4.out.1.past hWW, HLA.out.past hWW⟩
      obtain ⟨z3, z4⟩ := H6.out.2.one
      go_simp
      refine hK _ _ (hSW.setCell HA.out.2 _) ?_
      have H7 : Hid (OwnR (W4.setCell ⟨g8, 0, none⟩ (.slice A4 1 d4)) W3.heap.size (.slice A4 1 d4) q4 ∧ Lies (W4.setCell ⟨g8, 0, none⟩ (.slice A4 1 d4)) g8 24 [.slice A4 1 d4]) := Lib.hid ⟨H6.out.1.other H6.out.2 (by decide) (by decide) 0 _, H6.out.2.set 0 _⟩
      clear hSW hWW z3 z4
      clear hK K; (try simp only [Act.put, List.setIfInBounds_toArray, List.set_cons_zero, List.set_cons_succ])
      generalize (W4.setCell ⟨g8, 0, none⟩ (.slice A4 1 d4)) = w7 at *
      refine ord_take RD 9 (at_list (by rw [HOP.out]; rfl)) HNS.out HPQ.out (by rw [HOP.out]; kernel_rfl) (by rw [HOP.out]; kernel_rfl) (by rw [HOP.out]; rfl) (fun K hK => ?_); apply Exists.intro; refine ⟨fun W hSW => ?_, hK _ ?_⟩; (focus ((try dsimp only at hSW); go_simp; try with_reducible rfl)); clear hK K; (try simp only [Act.put, List.setIfInBounds_toArray, List.set_cons_zero, List.set_cons_succ])
      refine ord_done (by rw [HOP.out]; kernel_rfl) (fun W8 hWW hSW => HN.out _ _ ?_); clear HOP HNS HPQ HN RD; (try dsimp only at hSW)
      have HF := Lib.hid (And.intro (H7.out.1.past hWW) (And.intro (H7.out.2.past hWW) hSW))
      clear hSW hWW
      go_wp2_with fail
      go_meet
      exact ⟨g8, A4, d4, q4, rfl, rfl, HF.out.2.1, HF.out.1.rows, HL4.out.2, below_bs S5.out.2 HF.out.2.2⟩
  case rest =>
    obtain ⟨g8, A4, d4, q4, rfl, rfl, s9⟩ := hcut
    rename World => wx
    have S9 := Lib.hid s9
    clear s9
    have hq1 : q4.length = 1 := S9.out.2.1.l
    obtain ⟨b, o, rfl, hb, hc⟩ := S9.out.2.1.h.some (by omega)
    have z1 := hc 0 (by omega)
    have HI := Lib.hid (S9.out.2.1.h.get 0 (by omega))
    have HN : Hid ((q4.getD 0 ry0).b = taughtL) := Lib.hid (by rw [← nums_at q4 0 (by omega), S9.out.2.2.1]; rfl)
    rw [Nat.add_zero] at z1
    generalize q4.getD 0 ry0 = r at *
    obtain ⟨A5, n5, d5, y5⟩ := r
    obtain rfl : n5 = 8 := by have e1 : y5.length = n5 := HI.out.e; have e2 : y5 = taughtL := HN.out; rw [e2] at e1; exact e1.symm
    have z0 : wx.cell? ⟨g8, 0, none⟩ = some (.slice (some ⟨b, o, none⟩) 1 d4) := S9.out.1.cell 0
    have zl := S9.out.1.lt
    clear hc
    go_wp2_with fail
    refine (same32_any A5 _ 8 8 d5 8 y5 taughtL _ (HI.out.h.below ((Below.refl _ _).alloc (Nat.le_refl _) _) (Nat.le_refl _)) (HI.out.e) (has_lit (zs := taughtL) rfl (by decide)) rfl (by decide) (by decide)).mono ?_
    rintro e w11 ⟨rfl, hb11⟩
    rw [show decide (y5 = taughtL) = true from decide_eq_true HN.out]
    have HB11 := Lib.hid (below_bs (below_al S9.out.2.2.2 _) hb11)
    clear hb11
    go_wp2_with fail
    go_ret
    exact ⟨rfl, HB11.out⟩
end Go.Proofs.YtjikddndlnimoaaDoor.mxL
