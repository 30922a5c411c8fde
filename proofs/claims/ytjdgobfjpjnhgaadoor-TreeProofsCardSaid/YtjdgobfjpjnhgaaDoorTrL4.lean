/- TreeProofs, by a walk. -/
import Derived.Test.YtjdgobfjpjnhgaaDoorTrRd
namespace Go.Proofs.YtjdgobfjpjnhgaaDoor.trW
set_option maxRecDepth 100000
open Go.RowKit Go.Proofs.YtjdgobfjpjnhgaaDoor.base Go.Proofs.YtjdgobfjpjnhgaaDoor.shP Go.Proofs.YtjdgobfjpjnhgaaDoor.shW Go.Proofs.YtjdgobfjpjnhgaaDoor.trP
set_option linter.unusedVariables false
set_option linter.unusedSimpArgs false
set_option maxRecDepth 100000
set_option maxHeartbeats 8000000 in
theorem proofs (r : List Int) (n i : Int) (d : List Int) (a : Option Addr) (len cap : Nat) (z : List Int) (A : Option Addr) (L c : Nat) (ls : List (List Int)) (w : World) (hr : IsD r) (hn1 : -9223372036854775808 ≤ n) (hn2 : n ≤ 9223372036854775807) (hi1 : -9223372036854775808 ≤ i) (hi2 : i ≤ 9223372036854775807) (hd : IsD d) (hz : IsRow .u8 w a len cap z) (hs : SumsIn w A L c ls) (hT : Tab w) :
    Calls Tryd.prog 4 #[.agg (darr r), .int .i64 n, .int .i64 i, .agg (darr d), .slice a len cap, .slice A L c] w fun e w' => e = .returned (.bool true) ∧ Below w.heap.size w w' := by
  have hin := inr_of hz
  obtain ⟨p, hp⟩ : ∃ p, z.take len = p := ⟨_, rfl⟩
  rw [hp] at hin
  have HIN := Lib.hid hin
  have HS := Lib.hid hs
  have HT := Lib.hid hT
  have H_r := Lib.hid hr
  have H_d := Lib.hid hd
  have HNI := Lib.hid (And.intro hn1 (And.intro hn2 (And.intro hi1 hi2)))
  have l1 : (len : Int) ≤ 9223372036854775807 := by have h1 := hin.c1; have h2 := hin.c2; dsimp only at h1 h2; omega
  have L1 : (L : Int) ≤ 9223372036854775807 := by have h1 := hs.c1; have h2 := hs.c2; omega
  obtain ⟨xu, qu⟩ : ∃ x, goV n i d ls = x := ⟨_, rfl⟩
  obtain ⟨xe, qe⟩ : ∃ x, goE n i ls = x := ⟨_, rfl⟩
  have H_xu : Hid (IsD xu) := Lib.hid (by rw [← qu]; exact goV_isD n i hd ls)
  obtain ⟨xb, qb⟩ : ∃ x, vB r n i p ls = x := ⟨_, rfl⟩
  obtain ⟨xv, qv⟩ : ∃ x, vE n i p ls = x := ⟨_, rfl⟩
  have Q := Lib.hid (And.intro qu (And.intro qe (And.intro qb qv)))
  have G1 := bnew w (.cells (darr r) 26)
  have S1 : (w.alloc (.cells (darr r) 26)).heap.size = w.heap.size + 1 := by simp
  have G2 := bnew (w.alloc (.cells (darr r) 26)) (.cells (darr d) 26)
  have D6 := Lib.hid ((at_box (w := w) (d := r) rfl).past G2)
  have D9 := Lib.hid (at_box (w := w.alloc (.cells (darr r) 26)) (d := d) S1)
  have B := Lib.hid (bb G1 G2)
  clear hz hp hin hs z hT hr hd qu qe qb qv G1 G2 S1 hn1 hn2 hi1 hi2
  go_enter Tryd.func4, Tryd.ntmps4
  go_upto_region 1 with fail
  generalize ((w.alloc (.cells (darr r) 26)).alloc (.cells (darr d) 26)) = w0 at *
  by_cases c1 : 30 < (L : Int)
  · go_wp2_with fail
    go_ret
    exact ⟨rfl, B.out⟩
  have m1 : (L : Int) ≤ 30 := by omega
  by_cases c2 : 600 < (len : Int)
  · by_cases c3 : (len : Int) ≤ 10000
    · go_wp2_with fail
      go_ret
      exact ⟨rfl, B.out⟩
    · by_cases c4 : 10100 < (len : Int)
      · go_wp2_with fail
        go_ret
        exact ⟨rfl, B.out⟩
      · go_wp2_with (first | (show wpList _ _ _ ({ dst := _, op := Op.load 26 (.tmp 9), type := _, pos := _, after := _, guard := _ } :: _) _ _; go_must (refine trW.wp_l0 (l := d) (by rfl) _ rfl (D9.out) (H_d.out.len) rfl ?_)))
        refine (Up_any n i d ls A L c _ (HT.out.below B.out (Nat.le_refl _)) HNI.out.1 HNI.out.2.1 HNI.out.2.2.1 HNI.out.2.2.2 H_d.out (HS.out.h.below B.out (Nat.le_refl _)) HS.out.l HS.out.c1 HS.out.c2).mono ?_
        rintro e w1 ⟨rfl, b⟩
        rw [Q.out.1, Q.out.2.1]
        replace D6 := Lib.hid (D6.out.past b)
        replace D9 := Lib.hid (D9.out.past b)
        replace B := Lib.hid (bb B.out b)
        clear b
        have Y := Lib.hid (z20_at w1 rfl)
        have G := bnew w1 (.cells #[.int .u8 0, .int .u8 0, .int .u8 0, .int .u8 0, .int .u8 0, .int .u8 0, .int .u8 0, .int .u8 0, .int .u8 0, .int .u8 0, .int .u8 0, .int .u8 0, .int .u8 0, .int .u8 0, .int .u8 0, .int .u8 0, .int .u8 0, .int .u8 0, .int .u8 0, .int .u8 0] 26)
        have LEB := Lib.hid B.out.size
        have LD6 := Lib.hid D6.out.lt
        have LD9 := Lib.hid D9.out.lt
        replace D6 := Lib.hid (D6.out.past G)
        replace D9 := Lib.hid (D9.out.past G)
        replace B := Lib.hid (bb B.out G)
        clear G
        go_wp2_with (first | (show wpList _ _ _ ({ dst := none, op := Op.store 26 (.tmp 13) _, type := _, pos := _, after := _, guard := _ } :: _) _ _; go_must (refine trW.wp_st (g := w1.heap.size) (l := xu) (by rfl) _ _ rfl (Y.out) (zd_isD.len) (H_xu.out.len) rfl rfl ?_); intro w1s hR hg hb hz; have D13 := Lib.hid hR; replace D6 := Lib.hid (D6.out.far hg (show w.heap.size ≠ w1.heap.size by have := LD6.out; omega)); replace D9 := Lib.hid (D9.out.far hg (show (w.heap.size + 1) ≠ w1.heap.size by have := LD9.out; omega)); replace B := Lib.hid (B.out.trans (hb.mono LEB.out)); clear hR hg hb hz Y LEB LD6 LD9) | (show wpList _ _ _ ({ dst := _, op := Op.load 26 (.tmp 9), type := _, pos := _, after := _, guard := _ } :: _) _ _; go_must (refine trW.wp_l0 (l := d) (by rfl) _ rfl (D9.out) (H_d.out.len) rfl ?_)))
        refine (rUp_any n i d ls A L c _ HNI.out.1 HNI.out.2.1 HNI.out.2.2.1 HNI.out.2.2.2 H_d.out (HS.out.h.below B.out (Nat.le_refl _)) HS.out.l HS.out.c1 HS.out.c2).mono ?_
        rintro e w2 ⟨rfl, b⟩
        rw [Q.out.1, Q.out.2.1]
        replace D6 := Lib.hid (D6.out.past b)
        replace D9 := Lib.hid (D9.out.past b)
        replace D13 := Lib.hid (D13.out.past b)
        replace B := Lib.hid (bb B.out b)
        clear b
        have Y := Lib.hid (z20_at w2 rfl)
        have G := bnew w2 (.cells #[.int .u8 0, .int .u8 0, .int .u8 0, .int .u8 0, .int .u8 0, .int .u8 0, .int .u8 0, .int .u8 0, .int .u8 0, .int .u8 0, .int .u8 0, .int .u8 0, .int .u8 0, .int .u8 0, .int .u8 0, .int .u8 0, .int .u8 0, .int .u8 0, .int .u8 0, .int .u8 0] 26)
        have LEB := Lib.hid B.out.size
        have LD6 := Lib.hid D6.out.lt
        have LD9 := Lib.hid D9.out.lt
        have LD13 := Lib.hid D13.out.lt
        replace D6 := Lib.hid (D6.out.past G)
        replace D9 := Lib.hid (D9.out.past G)
        replace D13 := Lib.hid (D13.out.past G)
        replace B := Lib.hid (bb B.out G)
        clear G
        go_wp2_with (first | (show wpList _ _ _ ({ dst := none, op := Op.store 26 (.tmp 15) _, type := _, pos := _, after := _, guard := _ } :: _) _ _; go_must (refine trW.wp_st (g := w2.heap.size) (l := xu) (by rfl) _ _ rfl (Y.out) (zd_isD.len) (H_xu.out.len) rfl rfl ?_); intro w2s hR hg hb hz; have D15 := Lib.hid hR; replace D6 := Lib.hid (D6.out.far hg (show w.heap.size ≠ w2.heap.size by have := LD6.out; omega)); replace D9 := Lib.hid (D9.out.far hg (show (w.heap.size + 1) ≠ w2.heap.size by have := LD9.out; omega)); replace D13 := Lib.hid (D13.out.far hg (show w1.heap.size ≠ w2.heap.size by have := LD13.out; omega)); replace B := Lib.hid (B.out.trans (hb.mono LEB.out)); clear hR hg hb hz Y LEB LD6 LD9 LD13) | (show wpList _ _ _ ({ dst := _, op := Op.load 26 (.tmp 6), type := _, pos := _, after := _, guard := _ } :: _) _ _; go_must (refine trW.wp_l0 (l := r) (by rfl) _ rfl (D6.out) (H_r.out.len) rfl ?_)))
        refine (Verify_any r n i p ls a len cap A L c _ (HT.out.below B.out (Nat.le_refl _)) H_r.out HNI.out.1 HNI.out.2.1 HNI.out.2.2.1 HNI.out.2.2.2 (HIN.out.h.below B.out (Nat.le_refl _)) HIN.out.e HIN.out.c1 HIN.out.c2 HIN.out.b (HS.out.h.below B.out (Nat.le_refl _)) HS.out.l HS.out.c1 HS.out.c2).mono ?_
        rintro e w3 ⟨rfl, b⟩
        rw [Q.out.2.2.1, Q.out.2.2.2]
        replace D6 := Lib.hid (D6.out.past b)
        replace D9 := Lib.hid (D9.out.past b)
        replace D13 := Lib.hid (D13.out.past b)
        replace D15 := Lib.hid (D15.out.past b)
        replace B := Lib.hid (bb B.out b)
        clear b
        go_wp2_with (first | (show wpList _ _ _ ({ dst := _, op := Op.load 26 (.tmp 6), type := _, pos := _, after := _, guard := _ } :: _) _ _; go_must (refine trW.wp_l0 (l := r) (by rfl) _ rfl (D6.out) (H_r.out.len) rfl ?_)))
        refine (rVerify_any r n i p ls a len cap A L c _ H_r.out HNI.out.1 HNI.out.2.1 HNI.out.2.2.1 HNI.out.2.2.2 (HIN.out.h.below B.out (Nat.le_refl _)) HIN.out.e HIN.out.c1 HIN.out.c2 HIN.out.b (HS.out.h.below B.out (Nat.le_refl _)) HS.out.l HS.out.c1 HS.out.c2).mono ?_
        rintro e w4 ⟨rfl, b⟩
        rw [Q.out.2.2.1, Q.out.2.2.2]
        replace D6 := Lib.hid (D6.out.past b)
        replace D9 := Lib.hid (D9.out.past b)
        replace D13 := Lib.hid (D13.out.past b)
        replace D15 := Lib.hid (D15.out.past b)
        replace B := Lib.hid (bb B.out b)
        clear b
        go_wp2_with (first | (show wpList _ _ _ ({ dst := _, op := Op.load 26 (.tmp 13), type := _, pos := _, after := _, guard := _ } :: _) _ _; go_must (refine trW.wp_l0 (l := xu) (by rfl) _ rfl (D13.out) (H_xu.out.len) rfl ?_)) | (show wpList _ _ _ ({ dst := _, op := Op.load 26 (.tmp 15), type := _, pos := _, after := _, guard := _ } :: _) _ _; go_must (refine trW.wp_l0 (l := xu) (by rfl) _ rfl (D15.out) (H_xu.out.len) rfl ?_)) | (show wpList _ _ _ ({ dst := _, op := Op.binOp .eql 26 _ _ _, type := _, pos := _, after := _, guard := _ } :: _) _ _; refine trW.wp_eqs (l := xu) (by rfl) _ _ _ rfl H_xu.out rfl rfl ?_))
        go_ret
        exact ⟨rfl, B.out⟩
  · have c4 : ¬ 10100 < (len : Int) := by omega
    go_wp2_with (first | (show wpList _ _ _ ({ dst := _, op := Op.load 26 (.tmp 9), type := _, pos := _, after := _, guard := _ } :: _) _ _; go_must (refine trW.wp_l0 (l := d) (by rfl) _ rfl (D9.out) (H_d.out.len) rfl ?_)))
    refine (Up_any n i d ls A L c _ (HT.out.below B.out (Nat.le_refl _)) HNI.out.1 HNI.out.2.1 HNI.out.2.2.1 HNI.out.2.2.2 H_d.out (HS.out.h.below B.out (Nat.le_refl _)) HS.out.l HS.out.c1 HS.out.c2).mono ?_
    rintro e w1 ⟨rfl, b⟩
    rw [Q.out.1, Q.out.2.1]
    replace D6 := Lib.hid (D6.out.past b)
    replace D9 := Lib.hid (D9.out.past b)
    replace B := Lib.hid (bb B.out b)
    clear b
    have Y := Lib.hid (z20_at w1 rfl)
    have G := bnew w1 (.cells #[.int .u8 0, .int .u8 0, .int .u8 0, .int .u8 0, .int .u8 0, .int .u8 0, .int .u8 0, .int .u8 0, .int .u8 0, .int .u8 0, .int .u8 0, .int .u8 0, .int .u8 0, .int .u8 0, .int .u8 0, .int .u8 0, .int .u8 0, .int .u8 0, .int .u8 0, .int .u8 0] 26)
    have LEB := Lib.hid B.out.size
    have LD6 := Lib.hid D6.out.lt
    have LD9 := Lib.hid D9.out.lt
    replace D6 := Lib.hid (D6.out.past G)
    replace D9 := Lib.hid (D9.out.past G)
    replace B := Lib.hid (bb B.out G)
    clear G
    go_wp2_with (first | (show wpList _ _ _ ({ dst := none, op := Op.store 26 (.tmp 13) _, type := _, pos := _, after := _, guard := _ } :: _) _ _; go_must (refine trW.wp_st (g := w1.heap.size) (l := xu) (by rfl) _ _ rfl (Y.out) (zd_isD.len) (H_xu.out.len) rfl rfl ?_); intro w1s hR hg hb hz; have D13 := Lib.hid hR; replace D6 := Lib.hid (D6.out.far hg (show w.heap.size ≠ w1.heap.size by have := LD6.out; omega)); replace D9 := Lib.hid (D9.out.far hg (show (w.heap.size + 1) ≠ w1.heap.size by have := LD9.out; omega)); replace B := Lib.hid (B.out.trans (hb.mono LEB.out)); clear hR hg hb hz Y LEB LD6 LD9) | (show wpList _ _ _ ({ dst := _, op := Op.load 26 (.tmp 9), type := _, pos := _, after := _, guard := _ } :: _) _ _; go_must (refine trW.wp_l0 (l := d) (by rfl) _ rfl (D9.out) (H_d.out.len) rfl ?_)))
    refine (rUp_any n i d ls A L c _ HNI.out.1 HNI.out.2.1 HNI.out.2.2.1 HNI.out.2.2.2 H_d.out (HS.out.h.below B.out (Nat.le_refl _)) HS.out.l HS.out.c1 HS.out.c2).mono ?_
    rintro e w2 ⟨rfl, b⟩
    rw [Q.out.1, Q.out.2.1]
    replace D6 := Lib.hid (D6.out.past b)
    replace D9 := Lib.hid (D9.out.past b)
    replace D13 := Lib.hid (D13.out.past b)
    replace B := Lib.hid (bb B.out b)
    clear b
    have Y := Lib.hid (z20_at w2 rfl)
    have G := bnew w2 (.cells #[.int .u8 0, .int .u8 0, .int .u8 0, .int .u8 0, .int .u8 0, .int .u8 0, .int .u8 0, .int .u8 0, .int .u8 0, .int .u8 0, .int .u8 0, .int .u8 0, .int .u8 0, .int .u8 0, .int .u8 0, .int .u8 0, .int .u8 0, .int .u8 0, .int .u8 0, .int .u8 0] 26)
    have LEB := Lib.hid B.out.size
    have LD6 := Lib.hid D6.out.lt
    have LD9 := Lib.hid D9.out.lt
    have LD13 := Lib.hid D13.out.lt
    replace D6 := Lib.hid (D6.out.past G)
    replace D9 := Lib.hid (D9.out.past G)
    replace D13 := Lib.hid (D13.out.past G)
    replace B := Lib.hid (bb B.out G)
    clear G
    go_wp2_with (first | (show wpList _ _ _ ({ dst := none, op := Op.store 26 (.tmp 15) _, type := _, pos := _, after := _, guard := _ } :: _) _ _; go_must (refine trW.wp_st (g := w2.heap.size) (l := xu) (by rfl) _ _ rfl (Y.out) (zd_isD.len) (H_xu.out.len) rfl rfl ?_); intro w2s hR hg hb hz; have D15 := Lib.hid hR; replace D6 := Lib.hid (D6.out.far hg (show w.heap.size ≠ w2.heap.size by have := LD6.out; omega)); replace D9 := Lib.hid (D9.out.far hg (show (w.heap.size + 1) ≠ w2.heap.size by have := LD9.out; omega)); replace D13 := Lib.hid (D13.out.far hg (show w1.heap.size ≠ w2.heap.size by have := LD13.out; omega)); replace B := Lib.hid (B.out.trans (hb.mono LEB.out)); clear hR hg hb hz Y LEB LD6 LD9 LD13) | (show wpList _ _ _ ({ dst := _, op := Op.load 26 (.tmp 6), type := _, pos := _, after := _, guard := _ } :: _) _ _; go_must (refine trW.wp_l0 (l := r) (by rfl) _ rfl (D6.out) (H_r.out.len) rfl ?_)))
    refine (Verify_any r n i p ls a len cap A L c _ (HT.out.below B.out (Nat.le_refl _)) H_r.out HNI.out.1 HNI.out.2.1 HNI.out.2.2.1 HNI.out.2.2.2 (HIN.out.h.below B.out (Nat.le_refl _)) HIN.out.e HIN.out.c1 HIN.out.c2 HIN.out.b (HS.out.h.below B.out (Nat.le_refl _)) HS.out.l HS.out.c1 HS.out.c2).mono ?_
    rintro e w3 ⟨rfl, b⟩
    rw [Q.out.2.2.1, Q.out.2.2.2]
    replace D6 := Lib.hid (D6.out.past b)
    replace D9 := Lib.hid (D9.out.past b)
    replace D13 := Lib.hid (D13.out.past b)
    replace D15 := Lib.hid (D15.out.past b)
    replace B := Lib.hid (bb B.out b)
    clear b
    go_wp2_with (first | (show wpList _ _ _ ({ dst := _, op := Op.load 26 (.tmp 6), type := _, pos := _, after := _, guard := _ } :: _) _ _; go_must (refine trW.wp_l0 (l := r) (by rfl) _ rfl (D6.out) (H_r.out.len) rfl ?_)))
    refine (rVerify_any r n i p ls a len cap A L c _ H_r.out HNI.out.1 HNI.out.2.1 HNI.out.2.2.1 HNI.out.2.2.2 (HIN.out.h.below B.out (Nat.le_refl _)) HIN.out.e HIN.out.c1 HIN.out.c2 HIN.out.b (HS.out.h.below B.out (Nat.le_refl _)) HS.out.l HS.out.c1 HS.out.c2).mono ?_
    rintro e w4 ⟨rfl, b⟩
    rw [Q.out.2.2.1, Q.out.2.2.2]
    replace D6 := Lib.hid (D6.out.past b)
    replace D9 := Lib.hid (D9.out.past b)
    replace D13 := Lib.hid (D13.out.past b)
    replace D15 := Lib.hid (D15.out.past b)
    replace B := Lib.hid (bb B.out b)
    clear b
    go_wp2_with (first | (show wpList _ _ _ ({ dst := _, op := Op.load 26 (.tmp 13), type := _, pos := _, after := _, guard := _ } :: _) _ _; go_must (refine trW.wp_l0 (l := xu) (by rfl) _ rfl (D13.out) (H_xu.out.len) rfl ?_)) | (show wpList _ _ _ ({ dst := _, op := Op.load 26 (.tmp 15), type := _, pos := _, after := _, guard := _ } :: _) _ _; go_must (refine trW.wp_l0 (l := xu) (by rfl) _ rfl (D15.out) (H_xu.out.len) rfl ?_)) | (show wpList _ _ _ ({ dst := _, op := Op.binOp .eql 26 _ _ _, type := _, pos := _, after := _, guard := _ } :: _) _ _; refine trW.wp_eqs (l := xu) (by rfl) _ _ _ rfl H_xu.out rfl rfl ?_))
    go_ret
    exact ⟨rfl, B.out⟩
end Go.Proofs.YtjdgobfjpjnhgaaDoor.trW
