/- TreeNames, by a walk. -/
import Derived.Test.YtjdgobfjpjnhgaaDoorTrN0
namespace Go.Proofs.YtjdgobfjpjnhgaaDoor.trW
set_option maxRecDepth 100000
open Go.RowKit Go.Proofs.YtjdgobfjpjnhgaaDoor.base Go.Proofs.YtjdgobfjpjnhgaaDoor.shP Go.Proofs.YtjdgobfjpjnhgaaDoor.shW Go.Proofs.YtjdgobfjpjnhgaaDoor.trP
set_option linter.unusedVariables false
set_option linter.unusedSimpArgs false
set_option maxRecDepth 100000
set_option maxHeartbeats 16000000 in
theorem names (w : World) (hT : Tab w) : Calls Tryd.prog 5 #[] w fun e w' => e = .returned (.bool true) ∧ Below w.heap.size w w' := by
  have HT := Lib.hid hT
  clear hT
  go_enter Tryd.func5, Tryd.ntmps5
  go_upto_region 4 with fail
  have L8 : Lies (w.alloc (.cells #[.int .i64 0, .int .i64 1, .int .i64 2, .int .i64 2, .int .i64 3, .int .i64 3, .int .i64 3, .int .i64 3] 3)) w.heap.size 3 [.int .i64 0, .int .i64 1, .int .i64 2, .int .i64 2, .int .i64 3, .int .i64 3, .int .i64 3, .int .i64 3] := Lies.fresh w _ _
  have B := Lib.hid (bnew w (.cells #[.int .i64 0, .int .i64 1, .int .i64 2, .int .i64 2, .int .i64 3, .int .i64 3, .int .i64 3, .int .i64 3] 3))
  have HL8 := Lib.hid L8
  clear L8
  generalize (w.alloc (.cells #[.int .i64 0, .int .i64 1, .int .i64 2, .int .i64 2, .int .i64 3, .int .i64 3, .int .i64 3, .int .i64 3] 3)) = w0 at *
  go_loopw [1, 3] (fun wv nv wr => ∃ n : Nat, 1 ≤ n ∧ n ≤ 9 ∧ wv = .bool true ∧ nv = .int .i64 (n : Int) ∧ Below w0.heap.size w0 wr) (fun _ nv _ => 9 - (intOf nv).toNat)
  case atStart => exact ⟨1, Nat.le_refl _, by omega, rfl, rfl, Below.refl _ _⟩
  case round =>
    obtain ⟨n, hn1, hn2, rfl, rfl, acc⟩ := hrel
    have HACC := Lib.hid acc
    by_cases c : n ≤ 8
    · have n8 : (n : Int) ≤ 8 := by omega
      have n1 : 1 ≤ (n : Int) := by omega
      have HN := Lib.hid (And.intro hn1 c)
      obtain ⟨j, hj⟩ : ∃ j, n - 1 = j := ⟨_, rfl⟩
      have z1 : (n : Int) - 1 = (j : Int) := by omega
      have z2 : IntKind.i64.wrap (j : Int) = (j : Int) := IntWalk.i64_in _ (by omega)
      have j0 : 0 ≤ (j : Int) := by omega
      have j8 : (j : Int) < 8 := by omega
      have HW := Lib.hid (ways8 n hn1 c)
      rw [hj] at HW
      have HJ : Hid (j < 8) := Lib.hid (by omega)
      obtain ⟨v, hv⟩ : ∃ v, ([0, 1, 2, 2, 3, 3, 3, 3] : List Nat).getD j 0 = v := ⟨_, rfl⟩
      rw [hv] at HW
      have HCF : Hid (∀ w1, Below w0.heap.size w0 w1 → w1.cell? ⟨w.heap.size, j, none⟩ = some (.int .i64 (v : Int))) := Lib.hid (fun w1 hb => by
        rw [(HL8.out.past hb).cell, ← hv]
        rcases (show j = 0 ∨ j = 1 ∨ j = 2 ∨ j = 3 ∨ j = 4 ∨ j = 5 ∨ j = 6 ∨ j = 7 by omega) with rfl | rfl | rfl | rfl | rfl | rfl | rfl | rfl <;> rfl)
      clear hn1 hn2 c acc hj hv
      go_wp2_with fail
      refine (Steps_any (n : Int) 0 _ (by omega) (by omega) (by omega) (by omega)).mono ?_
      rintro e w1 ⟨rfl, b⟩
      rw [HW.out.1, HW.out.2]
      have BB := Lib.hid (bb HACC.out b)
      have cf := HCF.out _ BB.out
      clear b
      go_wp2_with fail
      go_roundw
      case rel => exact ⟨n + 1, by omega, by have := HN.out; omega, rfl, by go_num, BB.out⟩
      case measure => simp [intOf]; have := HN.out; omega
    · have c1 : ¬ (n : Int) ≤ 8 := by omega
      clear hn1 hn2 c acc HL8
      replace B := Lib.hid (bb B.out HACC.out)
      clear HACC
      rename World => w1
      have H_zd := Lib.hid zd_isD
      have H_s7 := Lib.hid s7_isD
      go_wp2_with fail
      refine (Steps_any 600 599 _ (by decide) (by decide) (by decide) (by decide)).mono ?_
      rintro e w2 ⟨rfl, b⟩
      rw [stA.1, stA.2]
      replace B := Lib.hid (bb B.out b)
      clear b
      go_wp2_with fail
      refine (Steps_any 600 0 _ (by decide) (by decide) (by decide) (by decide)).mono ?_
      rintro e w3 ⟨rfl, b⟩
      rw [stB.1, stB.2]
      replace B := Lib.hid (bb B.out b)
      clear b
      go_wp2_with fail
      refine (Steps_any 5 4 _ (by decide) (by decide) (by decide) (by decide)).mono ?_
      rintro e w4 ⟨rfl, b⟩
      rw [stC.1, stC.2]
      replace B := Lib.hid (bb B.out b)
      clear b
      go_wp2_with fail
      refine (Steps_any 0 0 _ (by decide) (by decide) (by decide) (by decide)).mono ?_
      rintro e w5 ⟨rfl, b⟩
      rw [(stn (n := 0) (i := 0) (by decide)).1, (stn (n := 0) (i := 0) (by decide)).2]
      replace B := Lib.hid (bb B.out b)
      clear b
      go_wp2_with fail
      refine (Steps_any 601 0 _ (by decide) (by decide) (by decide) (by decide)).mono ?_
      rintro e w6 ⟨rfl, b⟩
      rw [(stn (n := 601) (i := 0) (by decide)).1, (stn (n := 601) (i := 0) (by decide)).2]
      replace B := Lib.hid (bb B.out b)
      clear b
      go_wp2_with fail
      refine (Steps_any 3 3 _ (by decide) (by decide) (by decide) (by decide)).mono ?_
      rintro e w7 ⟨rfl, b⟩
      rw [(stn (n := 3) (i := 3) (by decide)).1, (stn (n := 3) (i := 3) (by decide)).2]
      replace B := Lib.hid (bb B.out b)
      clear b
      go_wp2_with fail
      refine (Steps_any 3 (-1) _ (by decide) (by decide) (by decide) (by decide)).mono ?_
      rintro e w8 ⟨rfl, b⟩
      rw [(stn (n := 3) (i := (-1)) (by decide)).1, (stn (n := 3) (i := (-1)) (by decide)).2]
      replace B := Lib.hid (bb B.out b)
      clear b
      have kz : ∀ W : World, (Instr.makeSlice 23 (.int .i64 10001) (.int .i64 10001)).run Tryd.prog W = .ok (.slice (some ⟨W.heap.size, 0, none⟩) 10001 10001) (W.alloc (.cells (zCells 10001) 5)) := fun W => mk8 10001 (by omega) W
      go_wp2_with fail
      clear kz
      have HZ : Hid (Has .u8 (w8.alloc (.cells (zCells 10001) 5)) (some ⟨w8.heap.size, 0, none⟩) z5) := Lib.hid (by have := has_z w8 5 10001 (by simp [maxLen]) (g := w8.heap.size) rfl; unfold z5; exact this)
      have G := bnew w8 (.cells (zCells 10001) 5)
      replace B := Lib.hid (bb B.out G)
      clear G
      refine (Leaf_any z5 _ 10001 10001 _ (HT.out.below B.out (Nat.le_refl _)) HZ.out z5_len (Nat.le_refl _) (by decide) z5_bd).mono ?_
      rintro e w9 ⟨rfl, b⟩
      rw [lf5.1, lf5.2]
      clear HZ
      replace B := Lib.hid (bb B.out b)
      clear b
      have Y := Lib.hid (z20_at w9 rfl)
      have G := bnew w9 (.cells #[.int .u8 0, .int .u8 0, .int .u8 0, .int .u8 0, .int .u8 0, .int .u8 0, .int .u8 0, .int .u8 0, .int .u8 0, .int .u8 0, .int .u8 0, .int .u8 0, .int .u8 0, .int .u8 0, .int .u8 0, .int .u8 0, .int .u8 0, .int .u8 0, .int .u8 0, .int .u8 0] 26)
      have LEB := Lib.hid B.out.size
      replace B := Lib.hid (bb B.out G)
      clear G
      have ks : ∀ W : World, (Instr.makeSlice 22 (.int .i64 601) (.int .i64 601)).run Tryd.prog W = .ok (.slice (some ⟨W.heap.size, 0, none⟩) 601 601) (W.alloc (.cells (sCells 601) 23)) := fun W => mkS 601 (by omega) W
      go_wp2_with (first | (show wpList _ _ _ ({ dst := none, op := Op.store 26 (.tmp 20) _, type := _, pos := _, after := _, guard := _ } :: _) _ _; go_must (refine trW.wp_st (g := w9.heap.size) (l := zd) (by rfl) _ _ rfl (Y.out) (zd_isD.len) (H_zd.out.len) rfl rfl ?_); intro w9s hR hg hb hz; have D20 := Lib.hid hR; replace B := Lib.hid (B.out.trans (hb.mono LEB.out)); clear hR hg hb hz Y LEB ))
      clear ks
      have HS : Hid (RowsB (w9s.alloc (.cells (sCells 601) 23)) (some ⟨w9s.heap.size, 0, none⟩) 601 601 (rep 601)) := Lib.hid (by have := rows_s w9s 601 (by omega) (g := w9s.heap.size) rfl; unfold rep; exact this)
      have G := bnew w9s (.cells (sCells 601) 23)
      replace B := Lib.hid (bb B.out G)
      clear G
      refine (Root_any (rep 601) _ 601 601 _ (HT.out.below B.out (Nat.le_refl _)) HS.out).mono ?_
      rintro e w10 ⟨rfl, b⟩
      rw [r601.1, r601.2]
      clear HS
      replace B := Lib.hid (bb B.out b)
      clear b
      have Y := Lib.hid (z20_at w10 rfl)
      have G := bnew w10 (.cells #[.int .u8 0, .int .u8 0, .int .u8 0, .int .u8 0, .int .u8 0, .int .u8 0, .int .u8 0, .int .u8 0, .int .u8 0, .int .u8 0, .int .u8 0, .int .u8 0, .int .u8 0, .int .u8 0, .int .u8 0, .int .u8 0, .int .u8 0, .int .u8 0, .int .u8 0, .int .u8 0] 26)
      have LEB := Lib.hid B.out.size
      replace B := Lib.hid (bb B.out G)
      clear G
      have kz : ∀ W : World, (Instr.makeSlice 23 (.int .i64 10001) (.int .i64 10001)).run Tryd.prog W = .ok (.slice (some ⟨W.heap.size, 0, none⟩) 10001 10001) (W.alloc (.cells (zCells 10001) 5)) := fun W => mk8 10001 (by omega) W
      go_wp2_with (first | (show wpList _ _ _ ({ dst := none, op := Op.store 26 (.tmp 22) _, type := _, pos := _, after := _, guard := _ } :: _) _ _; go_must (refine trW.wp_st (g := w10.heap.size) (l := zd) (by rfl) _ _ rfl (Y.out) (zd_isD.len) (H_zd.out.len) rfl rfl ?_); intro w10s hR hg hb hz; have D22 := Lib.hid hR; replace B := Lib.hid (B.out.trans (hb.mono LEB.out)); clear hR hg hb hz Y LEB ))
      clear kz
      have HZ : Hid (Has .u8 (w10s.alloc (.cells (zCells 10001) 5)) (some ⟨w10s.heap.size, 0, none⟩) z5) := Lib.hid (by have := has_z w10s 5 10001 (by simp [maxLen]) (g := w10s.heap.size) rfl; unfold z5; exact this)
      have G := bnew w10s (.cells (zCells 10001) 5)
      replace B := Lib.hid (bb B.out G)
      clear G
      have HR2 := Lib.hid (rows_lit (w10s.alloc (.cells (zCells 10001) 5)) [r80, ⟨some ⟨w10s.heap.size, 0, none⟩, 10001, 10001, z5⟩] (by intro r hr; rcases List.mem_cons.1 hr with rfl | hr; exact inr_nil _; rcases List.mem_cons.1 hr with rfl | hr; exact ⟨HZ.out, z5_len, Nat.le_refl _, (by decide : 10001 ≤ 9223372036854775807), z5_bd⟩; cases hr) (by simp) (g := w10s.heap.size + 1) (by simp) rfl)
      have G := bnew (w10s.alloc (.cells (zCells 10001) 5)) (.cells #[.slice none 0 0, .slice (some ⟨w10s.heap.size, 0, none⟩) 10001 10001] 23)
      replace B := Lib.hid (bb B.out G)
      clear G
      refine (Root_any [r80, ⟨some ⟨w10s.heap.size, 0, none⟩, 10001, 10001, z5⟩] _ 2 2 _ (HT.out.below B.out (Nat.le_refl _)) HR2.out).mono ?_
      rintro e w11 ⟨rfl, b⟩
      rw [(two_bad rfl).1, (two_bad rfl).2]
      clear HR2 HZ
      replace B := Lib.hid (bb B.out b)
      clear b
      have Y := Lib.hid (z20_at w11 rfl)
      have G := bnew w11 (.cells #[.int .u8 0, .int .u8 0, .int .u8 0, .int .u8 0, .int .u8 0, .int .u8 0, .int .u8 0, .int .u8 0, .int .u8 0, .int .u8 0, .int .u8 0, .int .u8 0, .int .u8 0, .int .u8 0, .int .u8 0, .int .u8 0, .int .u8 0, .int .u8 0, .int .u8 0, .int .u8 0] 26)
      have LEB := Lib.hid B.out.size
      replace B := Lib.hid (bb B.out G)
      clear G
      have ks : ∀ W : World, (Instr.makeSlice 22 (.int .i64 601) (.int .i64 601)).run Tryd.prog W = .ok (.slice (some ⟨W.heap.size, 0, none⟩) 601 601) (W.alloc (.cells (sCells 601) 23)) := fun W => mkS 601 (by omega) W
      go_wp2_with (first | (show wpList _ _ _ ({ dst := none, op := Op.store 26 (.tmp 24) _, type := _, pos := _, after := _, guard := _ } :: _) _ _; go_must (refine trW.wp_st (g := w11.heap.size) (l := zd) (by rfl) _ _ rfl (Y.out) (zd_isD.len) (H_zd.out.len) rfl rfl ?_); intro w11s hR hg hb hz; have D24 := Lib.hid hR; replace B := Lib.hid (B.out.trans (hb.mono LEB.out)); clear hR hg hb hz Y LEB ))
      clear ks
      have HS : Hid (RowsB (w11s.alloc (.cells (sCells 601) 23)) (some ⟨w11s.heap.size, 0, none⟩) 601 601 (rep 601)) := Lib.hid (by have := rows_s w11s 601 (by omega) (g := w11s.heap.size) rfl; unfold rep; exact this)
      have G := bnew w11s (.cells (sCells 601) 23)
      replace B := Lib.hid (bb B.out G)
      clear G
      refine (Prove_any (rep 601) (-1) _ 601 601 _ (HT.out.below B.out (Nat.le_refl _)) HS.out (by decide) (by decide)).mono ?_
      rintro e w12 ⟨⟨A26, c26, rfl, o26⟩, b⟩
      rw [p601.1, p601.2]
      clear o26
      replace B := Lib.hid (bb B.out b)
      clear b
      rw [show ([] : List (List Int)).length = 0 from rfl]
      clear HS
      go_wp2_with fail
      refine (Prove_any [] 0 none 0 0 _ (HT.out.below B.out (Nat.le_refl _)) (rows_none _) (by decide) (by decide)).mono ?_
      rintro e w13 ⟨⟨A28, c28, rfl, o28⟩, b⟩
      rw [p0.1, p0.2]
      clear o28
      replace B := Lib.hid (bb B.out b)
      clear b
      rw [show ([] : List (List Int)).length = 0 from rfl]
      have ks : ∀ W : World, (Instr.makeSlice 22 (.int .i64 2) (.int .i64 2)).run Tryd.prog W = .ok (.slice (some ⟨W.heap.size, 0, none⟩) 2 2) (W.alloc (.cells (sCells 2) 23)) := fun W => mkS 2 (by omega) W
      go_wp2_with fail
      clear ks
      have HS : Hid (RowsB (w13.alloc (.cells (sCells 2) 23)) (some ⟨w13.heap.size, 0, none⟩) 2 2 (rep 2)) := Lib.hid (by have := rows_s w13 2 (by omega) (g := w13.heap.size) rfl; unfold rep; exact this)
      have G := bnew w13 (.cells (sCells 2) 23)
      replace B := Lib.hid (bb B.out G)
      clear G
      refine (Prove_any (rep 2) 2 _ 2 2 _ (HT.out.below B.out (Nat.le_refl _)) HS.out (by decide) (by decide)).mono ?_
      rintro e w14 ⟨⟨A30, c30, rfl, o30⟩, b⟩
      rw [p2.1, p2.2]
      clear o30
      replace B := Lib.hid (bb B.out b)
      clear b
      rw [show ([] : List (List Int)).length = 0 from rfl]
      clear HS
      have ks : ∀ W : World, (Instr.makeSlice 22 (.int .i64 1) (.int .i64 1)).run Tryd.prog W = .ok (.slice (some ⟨W.heap.size, 0, none⟩) 1 1) (W.alloc (.cells (sCells 1) 23)) := fun W => mkS 1 (by omega) W
      go_wp2_with fail
      clear ks
      have HS : Hid (RowsB (w14.alloc (.cells (sCells 1) 23)) (some ⟨w14.heap.size, 0, none⟩) 1 1 (rep 1)) := Lib.hid (by have := rows_s w14 1 (by omega) (g := w14.heap.size) rfl; unfold rep; exact this)
      have G := bnew w14 (.cells (sCells 1) 23)
      replace B := Lib.hid (bb B.out G)
      clear G
      refine (Prove_any (rep 1) 0 _ 1 1 _ (HT.out.below B.out (Nat.le_refl _)) HS.out (by decide) (by decide)).mono ?_
      rintro e w15 ⟨⟨A32, c32, rfl, o32⟩, b⟩
      rw [p1.1, p1.2]
      clear o32
      replace B := Lib.hid (bb B.out b)
      clear b
      rw [show ([] : List (List Int)).length = 0 from rfl]
      clear HS
      go_wp2_with fail
      refine (Up_any 3 3 zd [] none 0 0 _ (HT.out.below B.out (Nat.le_refl _)) (by decide) (by decide) (by decide) (by decide) zd_isD ⟨.inl rfl, AllD.nil⟩ rfl (Nat.le_refl 0) (by decide)).mono ?_
      rintro e w16 ⟨rfl, b⟩
      rw [u33.1, u33.2]
      replace B := Lib.hid (bb B.out b)
      clear b
      have Y := Lib.hid (z20_at w16 rfl)
      have G := bnew w16 (.cells #[.int .u8 0, .int .u8 0, .int .u8 0, .int .u8 0, .int .u8 0, .int .u8 0, .int .u8 0, .int .u8 0, .int .u8 0, .int .u8 0, .int .u8 0, .int .u8 0, .int .u8 0, .int .u8 0, .int .u8 0, .int .u8 0, .int .u8 0, .int .u8 0, .int .u8 0, .int .u8 0] 26)
      have LEB := Lib.hid B.out.size
      replace B := Lib.hid (bb B.out G)
      clear G
      go_wp2_with (first | (show wpList _ _ _ ({ dst := none, op := Op.store 26 (.tmp 34) _, type := _, pos := _, after := _, guard := _ } :: _) _ _; go_must (refine trW.wp_st (g := w16.heap.size) (l := zd) (by rfl) _ _ rfl (Y.out) (zd_isD.len) (H_zd.out.len) rfl rfl ?_); intro w16s hR hg hb hz; have D34 := Lib.hid hR; replace B := Lib.hid (B.out.trans (hb.mono LEB.out)); clear hR hg hb hz Y LEB ))
      refine (Up_any 3 2 zd [] none 0 0 _ (HT.out.below B.out (Nat.le_refl _)) (by decide) (by decide) (by decide) (by decide) zd_isD ⟨.inl rfl, AllD.nil⟩ rfl (Nat.le_refl 0) (by decide)).mono ?_
      rintro e w17 ⟨rfl, b⟩
      rw [u32.1, u32.2]
      replace B := Lib.hid (bb B.out b)
      clear b
      have Y := Lib.hid (z20_at w17 rfl)
      have G := bnew w17 (.cells #[.int .u8 0, .int .u8 0, .int .u8 0, .int .u8 0, .int .u8 0, .int .u8 0, .int .u8 0, .int .u8 0, .int .u8 0, .int .u8 0, .int .u8 0, .int .u8 0, .int .u8 0, .int .u8 0, .int .u8 0, .int .u8 0, .int .u8 0, .int .u8 0, .int .u8 0, .int .u8 0] 26)
      have LEB := Lib.hid B.out.size
      replace B := Lib.hid (bb B.out G)
      clear G
      have kd : ∀ W : World, (Instr.makeSlice 34 (.int .i64 1) (.int .i64 1)).run Tryd.prog W = .ok (.slice (some ⟨W.heap.size, 0, none⟩) 1 1) (W.alloc (.cells (zSv 1) 26)) := fun W => mkD 1 (by omega) W
      go_wp2_with (first | (show wpList _ _ _ ({ dst := none, op := Op.store 26 (.tmp 36) _, type := _, pos := _, after := _, guard := _ } :: _) _ _; go_must (refine trW.wp_st (g := w17.heap.size) (l := zd) (by rfl) _ _ rfl (Y.out) (zd_isD.len) (H_zd.out.len) rfl rfl ?_); intro w17s hR hg hb hz; have D36 := Lib.hid hR; replace B := Lib.hid (B.out.trans (hb.mono LEB.out)); clear hR hg hb hz Y LEB ))
      clear kd
      have HD1 := Lib.hid (own_zS w17s 1 (by decide) (Nat.le_refl _) rfl).has
      have G := bnew w17s (.cells (zSv 1) 26)
      replace B := Lib.hid (bb B.out G)
      clear G
      refine (Up_any 1 0 zd [zd] _ 1 1 _ (HT.out.below B.out (Nat.le_refl _)) (by decide) (by decide) (by decide) (by decide) zd_isD HD1.out rfl (Nat.le_refl _) (by decide)).mono ?_
      rintro e w18 ⟨rfl, b⟩
      rw [u1.1, u1.2]
      clear HD1
      replace B := Lib.hid (bb B.out b)
      clear b
      have Y := Lib.hid (z20_at w18 rfl)
      have G := bnew w18 (.cells #[.int .u8 0, .int .u8 0, .int .u8 0, .int .u8 0, .int .u8 0, .int .u8 0, .int .u8 0, .int .u8 0, .int .u8 0, .int .u8 0, .int .u8 0, .int .u8 0, .int .u8 0, .int .u8 0, .int .u8 0, .int .u8 0, .int .u8 0, .int .u8 0, .int .u8 0, .int .u8 0] 26)
      have LEB := Lib.hid B.out.size
      replace B := Lib.hid (bb B.out G)
      clear G
      go_wp2_with (first | (show wpList _ _ _ ({ dst := none, op := Op.store 26 (.tmp 38) _, type := _, pos := _, after := _, guard := _ } :: _) _ _; go_must (refine trW.wp_st (g := w18.heap.size) (l := zd) (by rfl) _ _ rfl (Y.out) (zd_isD.len) (H_zd.out.len) rfl rfl ?_); intro w18s hR hg hb hz; have D38 := Lib.hid hR; replace B := Lib.hid (B.out.trans (hb.mono LEB.out)); clear hR hg hb hz Y LEB ))
      refine (Up_any 1 0 s7 [] none 0 0 _ (HT.out.below B.out (Nat.le_refl _)) (by decide) (by decide) (by decide) (by decide) s7_isD ⟨.inl rfl, AllD.nil⟩ rfl (Nat.le_refl 0) (by decide)).mono ?_
      rintro e w19 ⟨rfl, b⟩
      rw [(u7 s7).1, (u7 s7).2]
      replace B := Lib.hid (bb B.out b)
      clear b
      have Y := Lib.hid (z20_at w19 rfl)
      have G := bnew w19 (.cells #[.int .u8 0, .int .u8 0, .int .u8 0, .int .u8 0, .int .u8 0, .int .u8 0, .int .u8 0, .int .u8 0, .int .u8 0, .int .u8 0, .int .u8 0, .int .u8 0, .int .u8 0, .int .u8 0, .int .u8 0, .int .u8 0, .int .u8 0, .int .u8 0, .int .u8 0, .int .u8 0] 26)
      have LEB := Lib.hid B.out.size
      replace B := Lib.hid (bb B.out G)
      clear G
      have kz : ∀ W : World, (Instr.makeSlice 23 (.int .i64 10001) (.int .i64 10001)).run Tryd.prog W = .ok (.slice (some ⟨W.heap.size, 0, none⟩) 10001 10001) (W.alloc (.cells (zCells 10001) 5)) := fun W => mk8 10001 (by omega) W
      go_wp2_with (first | (show wpList _ _ _ ({ dst := none, op := Op.store 26 (.tmp 40) _, type := _, pos := _, after := _, guard := _ } :: _) _ _; go_must (refine trW.wp_st (g := w19.heap.size) (l := s7) (by rfl) _ _ rfl (Y.out) (zd_isD.len) (H_s7.out.len) rfl rfl ?_); intro w19s hR hg hb hz; have D40 := Lib.hid hR; replace B := Lib.hid (B.out.trans (hb.mono LEB.out)); clear hR hg hb hz Y LEB ))
      clear kz
      have HZ : Hid (Has .u8 (w19s.alloc (.cells (zCells 10001) 5)) (some ⟨w19s.heap.size, 0, none⟩) z5) := Lib.hid (by have := has_z w19s 5 10001 (by simp [maxLen]) (g := w19s.heap.size) rfl; unfold z5; exact this)
      have G := bnew w19s (.cells (zCells 10001) 5)
      replace D40 := Lib.hid (D40.out.past G)
      replace B := Lib.hid (bb B.out G)
      clear G
      refine (Verify_any zd 0 0 z5 [] _ 10001 10001 none 0 0 _ (HT.out.below B.out (Nat.le_refl _)) zd_isD (by decide) (by decide) (by decide) (by decide) HZ.out z5_len (Nat.le_refl _) (by decide) z5_bd ⟨.inl rfl, AllD.nil⟩ rfl (Nat.le_refl 0) (by decide)).mono ?_
      rintro e w20 ⟨rfl, b⟩
      rw [v5.1, v5.2]
      clear HZ
      replace D40 := Lib.hid (D40.out.past b)
      replace B := Lib.hid (bb B.out b)
      clear b
      go_wp2_with fail
      refine (Verify_any zd 0 0 [] [] none 0 0 none 0 0 _ (HT.out.below B.out (Nat.le_refl _)) zd_isD (by decide) (by decide) (by decide) (by decide) (.inl rfl) rfl (Nat.le_refl 0) (by decide) (by simp) ⟨.inl rfl, AllD.nil⟩ rfl (Nat.le_refl 0) (by decide)).mono ?_
      rintro e w21 ⟨rfl, b⟩
      rw [v0.1, v0.2]
      replace D40 := Lib.hid (D40.out.past b)
      replace B := Lib.hid (bb B.out b)
      clear b
      go_wp2_with fail
      refine (Verify_any zd 2 0 [] [] none 0 0 none 0 0 _ (HT.out.below B.out (Nat.le_refl _)) zd_isD (by decide) (by decide) (by decide) (by decide) (.inl rfl) rfl (Nat.le_refl 0) (by decide) (by simp) ⟨.inl rfl, AllD.nil⟩ rfl (Nat.le_refl 0) (by decide)).mono ?_
      rintro e w22 ⟨rfl, b⟩
      rw [v2.1, v2.2]
      replace D40 := Lib.hid (D40.out.past b)
      replace B := Lib.hid (bb B.out b)
      clear b
      obtain ⟨xw, qw⟩ : ∃ x, rtV (rep 600) = x := ⟨_, rfl⟩
      have H_xw : Hid (IsD xw) := Lib.hid (by rw [← qw]; exact rtV_isD _)
      have QW : Hid (rtV (rep 600) = xw ∧ chE (rep 600) = 0) := Lib.hid ⟨qw, chE_yes (rep_ch 600 (by decide))⟩
      obtain ⟨xo, qo⟩ : ∃ x, leafD [] = x := ⟨_, rfl⟩
      have H_xo : Hid (IsD xo) := Lib.hid (by rw [← qo]; exact leaf_isD _)
      have QO : Hid (rtV (rep 1) = xo ∧ chE (rep 1) = 0) := Lib.hid ⟨by rw [root_rep1.1]; exact qo, root_rep1.2⟩
      obtain ⟨bv, qbv⟩ : ∃ b, decide (xo = xw) = b := ⟨_, rfl⟩
      have HBV : Hid (decide (xw = xo) = bv) := Lib.hid (by rw [← qbv]; exact decide_eq_decide.2 eq_comm)
      have VW : Hid (vE 1 0 [] [] = 0 ∧ vB xw 1 0 [] [] = bv) := Lib.hid ⟨(v1 xw).1, by rw [(v1 xw).2, qo]; exact qbv⟩
      have VO : Hid (vE 1 0 [] [] = 0 ∧ vB xo 1 0 [] [] = true) := Lib.hid ⟨(v1 xo).1, by rw [(v1 xo).2, qo]; exact decide_eq_true rfl⟩
      clear qw qo qbv
      have ks : ∀ W : World, (Instr.makeSlice 22 (.int .i64 600) (.int .i64 600)).run Tryd.prog W = .ok (.slice (some ⟨W.heap.size, 0, none⟩) 600 600) (W.alloc (.cells (sCells 600) 23)) := fun W => mkS 600 (by omega) W
      go_wp2_with fail
      clear ks
      have HS : Hid (RowsB (w22.alloc (.cells (sCells 600) 23)) (some ⟨w22.heap.size, 0, none⟩) 600 600 (rep 600)) := Lib.hid (by have := rows_s w22 600 (by omega) (g := w22.heap.size) rfl; unfold rep; exact this)
      have G := bnew w22 (.cells (sCells 600) 23)
      replace D40 := Lib.hid (D40.out.past G)
      replace B := Lib.hid (bb B.out G)
      clear G
      refine (Root_any (rep 600) _ 600 600 _ (HT.out.below B.out (Nat.le_refl _)) HS.out).mono ?_
      rintro e w23 ⟨rfl, b⟩
      rw [QW.out.1, QW.out.2]
      clear HS
      replace D40 := Lib.hid (D40.out.past b)
      replace B := Lib.hid (bb B.out b)
      clear b
      have Y := Lib.hid (z20_at w23 rfl)
      have G := bnew w23 (.cells #[.int .u8 0, .int .u8 0, .int .u8 0, .int .u8 0, .int .u8 0, .int .u8 0, .int .u8 0, .int .u8 0, .int .u8 0, .int .u8 0, .int .u8 0, .int .u8 0, .int .u8 0, .int .u8 0, .int .u8 0, .int .u8 0, .int .u8 0, .int .u8 0, .int .u8 0, .int .u8 0] 26)
      have LEB := Lib.hid B.out.size
      have LD40 := Lib.hid D40.out.lt
      replace D40 := Lib.hid (D40.out.past G)
      replace B := Lib.hid (bb B.out G)
      clear G
      have ks : ∀ W : World, (Instr.makeSlice 22 (.int .i64 1) (.int .i64 1)).run Tryd.prog W = .ok (.slice (some ⟨W.heap.size, 0, none⟩) 1 1) (W.alloc (.cells (sCells 1) 23)) := fun W => mkS 1 (by omega) W
      go_wp2_with (first | (show wpList _ _ _ ({ dst := none, op := Op.store 26 (.tmp 48) _, type := _, pos := _, after := _, guard := _ } :: _) _ _; go_must (refine trW.wp_st (g := w23.heap.size) (l := xw) (by rfl) _ _ rfl (Y.out) (zd_isD.len) (H_xw.out.len) rfl rfl ?_); intro w23s hR hg hb hz; have D48 := Lib.hid hR; replace D40 := Lib.hid (D40.out.far hg (show w19.heap.size ≠ w23.heap.size by have := LD40.out; omega)); replace B := Lib.hid (B.out.trans (hb.mono LEB.out)); clear hR hg hb hz Y LEB LD40))
      clear ks
      have HS : Hid (RowsB (w23s.alloc (.cells (sCells 1) 23)) (some ⟨w23s.heap.size, 0, none⟩) 1 1 (rep 1)) := Lib.hid (by have := rows_s w23s 1 (by omega) (g := w23s.heap.size) rfl; unfold rep; exact this)
      have G := bnew w23s (.cells (sCells 1) 23)
      replace D40 := Lib.hid (D40.out.past G)
      replace D48 := Lib.hid (D48.out.past G)
      replace B := Lib.hid (bb B.out G)
      clear G
      refine (Root_any (rep 1) _ 1 1 _ (HT.out.below B.out (Nat.le_refl _)) HS.out).mono ?_
      rintro e w24 ⟨rfl, b⟩
      rw [QO.out.1, QO.out.2]
      clear HS
      replace D40 := Lib.hid (D40.out.past b)
      replace D48 := Lib.hid (D48.out.past b)
      replace B := Lib.hid (bb B.out b)
      clear b
      have Y := Lib.hid (z20_at w24 rfl)
      have G := bnew w24 (.cells #[.int .u8 0, .int .u8 0, .int .u8 0, .int .u8 0, .int .u8 0, .int .u8 0, .int .u8 0, .int .u8 0, .int .u8 0, .int .u8 0, .int .u8 0, .int .u8 0, .int .u8 0, .int .u8 0, .int .u8 0, .int .u8 0, .int .u8 0, .int .u8 0, .int .u8 0, .int .u8 0] 26)
      have LEB := Lib.hid B.out.size
      have LD40 := Lib.hid D40.out.lt
      have LD48 := Lib.hid D48.out.lt
      replace D40 := Lib.hid (D40.out.past G)
      replace D48 := Lib.hid (D48.out.past G)
      replace B := Lib.hid (bb B.out G)
      clear G
      go_wp2_with (first | (show wpList _ _ _ ({ dst := none, op := Op.store 26 (.tmp 50) _, type := _, pos := _, after := _, guard := _ } :: _) _ _; go_must (refine trW.wp_st (g := w24.heap.size) (l := xo) (by rfl) _ _ rfl (Y.out) (zd_isD.len) (H_xo.out.len) rfl rfl ?_); intro w24s hR hg hb hz; have D50 := Lib.hid hR; replace D40 := Lib.hid (D40.out.far hg (show w19.heap.size ≠ w24.heap.size by have := LD40.out; omega)); replace D48 := Lib.hid (D48.out.far hg (show w23.heap.size ≠ w24.heap.size by have := LD48.out; omega)); replace B := Lib.hid (B.out.trans (hb.mono LEB.out)); clear hR hg hb hz Y LEB LD40 LD48) | (show wpList _ _ _ ({ dst := _, op := Op.load 26 (.tmp 48), type := _, pos := _, after := _, guard := _ } :: _) _ _; go_must (refine trW.wp_l0 (l := xw) (by rfl) _ rfl (D48.out) (H_xw.out.len) rfl ?_)))
      refine (Verify_any xw 1 0 [] [] none 0 0 none 0 0 _ (HT.out.below B.out (Nat.le_refl _)) H_xw.out (by decide) (by decide) (by decide) (by decide) (.inl rfl) rfl (Nat.le_refl 0) (by decide) (by simp) ⟨.inl rfl, AllD.nil⟩ rfl (Nat.le_refl 0) (by decide)).mono ?_
      rintro e w25 ⟨rfl, b⟩
      rw [VW.out.1, VW.out.2]
      replace D40 := Lib.hid (D40.out.past b)
      replace D48 := Lib.hid (D48.out.past b)
      replace D50 := Lib.hid (D50.out.past b)
      replace B := Lib.hid (bb B.out b)
      clear b
      go_wp2_with (first | (show wpList _ _ _ ({ dst := _, op := Op.load 26 (.tmp 50), type := _, pos := _, after := _, guard := _ } :: _) _ _; go_must (refine trW.wp_l0 (l := xo) (by rfl) _ rfl (D50.out) (H_xo.out.len) rfl ?_)))
      refine (Verify_any xo 1 0 [] [] none 0 0 none 0 0 _ (HT.out.below B.out (Nat.le_refl _)) H_xo.out (by decide) (by decide) (by decide) (by decide) (.inl rfl) rfl (Nat.le_refl 0) (by decide) (by simp) ⟨.inl rfl, AllD.nil⟩ rfl (Nat.le_refl 0) (by decide)).mono ?_
      rintro e w26 ⟨rfl, b⟩
      rw [VO.out.1, VO.out.2]
      replace D40 := Lib.hid (D40.out.past b)
      replace D48 := Lib.hid (D48.out.past b)
      replace D50 := Lib.hid (D50.out.past b)
      replace B := Lib.hid (bb B.out b)
      clear b
      go_upto_region 33 with fail
      refine wp_region_lit ?_
      iterate 39 ((refine wpList_step fun K hK => ?_; go_simp; refine hK _ _ ?_; clear hK K))
      go_upto_region 34 with fail
      refine wp_region_lit ?_
      iterate 65 (first | (show wpList _ _ _ ({ dst := _, op := Op.load 26 (.tmp 40), type := _, pos := _, after := _, guard := _ } :: _) _ _; go_must (refine trW.wp_l0 (l := s7) (by rfl) _ rfl (D40.out) (H_s7.out.len) rfl ?_)) | (show wpList _ _ _ ({ dst := _, op := Op.binOp .eql 26 _ _ _, type := _, pos := _, after := _, guard := _ } :: _) _ _; refine trW.wp_eqs (l := s7) (by rfl) _ _ _ rfl H_s7.out rfl rfl ?_) | (refine wpList_step fun K hK => ?_; go_simp; refine hK _ _ ?_; clear hK K))
      cases bv
      case false =>
        go_upto_region 35 with fail
        refine wp_region_lit ?_
        iterate 36 (first | (show wpList _ _ _ ({ dst := _, op := Op.load 26 (.tmp 48), type := _, pos := _, after := _, guard := _ } :: _) _ _; go_must (refine trW.wp_l0 (l := xw) (by rfl) _ rfl (D48.out) (H_xw.out.len) rfl ?_)) | (show wpList _ _ _ ({ dst := _, op := Op.load 26 (.tmp 50), type := _, pos := _, after := _, guard := _ } :: _) _ _; go_must (refine trW.wp_l0 (l := xo) (by rfl) _ rfl (D50.out) (H_xo.out.len) rfl ?_)) | ((show wpList _ _ _ ({ dst := _, op := Op.binOp .eql 26 _ _ _, type := _, pos := _, after := _, guard := _ } :: _) _ _; go_must (refine trW.wp_eql (l := xw) (m := xo) (by rfl) _ _ _ rfl (H_xw.out) (H_xo.out) rfl rfl ?_)); rw [HBV.out]) | (refine wpList_step fun K hK => ?_; go_simp; refine hK _ _ ?_; clear hK K))
        refine wpList_step fun K hK => ?_
        go_simp
        refine (alive_yes _ (HT.out.below B.out (Nat.le_refl _))).mono ?_
        rintro e wz ⟨rfl, b⟩
        refine hK _ _ ?_
        clear hK K
        go_wp2_with fail
        go_ret
        exact ⟨rfl, bb B.out b⟩
      case true =>
        go_upto_region 35 with fail
        refine wp_region_lit ?_
        iterate 36 (first | (show wpList _ _ _ ({ dst := _, op := Op.load 26 (.tmp 48), type := _, pos := _, after := _, guard := _ } :: _) _ _; go_must (refine trW.wp_l0 (l := xw) (by rfl) _ rfl (D48.out) (H_xw.out.len) rfl ?_)) | (show wpList _ _ _ ({ dst := _, op := Op.load 26 (.tmp 50), type := _, pos := _, after := _, guard := _ } :: _) _ _; go_must (refine trW.wp_l0 (l := xo) (by rfl) _ rfl (D50.out) (H_xo.out.len) rfl ?_)) | ((show wpList _ _ _ ({ dst := _, op := Op.binOp .eql 26 _ _ _, type := _, pos := _, after := _, guard := _ } :: _) _ _; go_must (refine trW.wp_eql (l := xw) (m := xo) (by rfl) _ _ _ rfl (H_xw.out) (H_xo.out) rfl rfl ?_)); rw [HBV.out]) | (refine wpList_step fun K hK => ?_; go_simp; refine hK _ _ ?_; clear hK K))
        refine wpList_step fun K hK => ?_
        go_simp
        refine (alive_yes _ (HT.out.below B.out (Nat.le_refl _))).mono ?_
        rintro e wz ⟨rfl, b⟩
        refine hK _ _ ?_
        clear hK K
        go_wp2_with fail
        go_ret
        exact ⟨rfl, bb B.out b⟩
end Go.Proofs.YtjdgobfjpjnhgaaDoor.trW
