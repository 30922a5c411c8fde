/- The chapter's examples. -/
import Derived.Test.YtjdgobfjpjnhgaaDoorPk0
import Derived.Test.YtjdgobfjpjnhgaaDoorTrR
namespace Go.Proofs.YtjdgobfjpjnhgaaDoor.trW
set_option maxRecDepth 100000
open Go.RowKit Go.Proofs.YtjdgobfjpjnhgaaDoor.base Go.Proofs.YtjdgobfjpjnhgaaDoor.shP Go.Proofs.YtjdgobfjpjnhgaaDoor.shW Go.Proofs.YtjdgobfjpjnhgaaDoor.trP
set_option linter.unusedVariables false
set_option linter.unusedSimpArgs false
set_option maxRecDepth 100000
set_option maxHeartbeats 6400000 in
theorem alive_yes (w : World) (hT : Tab w) : Calls Tryd.prog 23 #[] w fun e w' => e = .returned (.bool true) ∧ Below w.heap.size w w' := by
  have kc := fun (w : World) (C : Array Value) (n c g : Nat) (hg : g = w.heap.size) => Joins.run_convert_bytes_const_at (P := Tryd.prog) w 23 5 C n c g hg Tryd.underlying23 Tryd.underlying5
  have HT := Lib.hid hT
  clear hT
  go_enter Tryd.func23, Tryd.ntmps23
  go_upto_region 2 with fail
  have G1 := bnew w (.cells #[.int .u8 97] 5 (1, 2))
  have G2 := bnew (w.alloc (.cells #[.int .u8 97] 5 (1, 2))) (.cells #[.int .u8 98] 5 (1, 2))
  have G3 := bnew ((w.alloc (.cells #[.int .u8 97] 5 (1, 2))).alloc (.cells #[.int .u8 98] 5 (1, 2))) (.cells #[.int .u8 99] 5 (1, 2))
  have G4 := bnew (((w.alloc (.cells #[.int .u8 97] 5 (1, 2))).alloc (.cells #[.int .u8 98] 5 (1, 2))).alloc (.cells #[.int .u8 99] 5 (1, 2))) (.cells #[.slice (some ⟨w.heap.size, 0, none⟩) 1 1, .slice (some ⟨w.heap.size + 1, 0, none⟩) 1 1, .slice (some ⟨w.heap.size + 2, 0, none⟩) 1 1] 23)
  have B := Lib.hid (bb (bb (bb G1 G2) G3) G4)
  have I1 : InR (((w.alloc (.cells #[.int .u8 97] 5 (1, 2))).alloc (.cells #[.int .u8 98] 5 (1, 2))).alloc (.cells #[.int .u8 99] 5 (1, 2))) ⟨some ⟨w.heap.size, 0, none⟩, 1, 1, [97]⟩ := ((inr_mark w [97] (1, 2) (by simp) (by simp) rfl rfl).below G2 (Nat.le_refl _)).below G3 (Nat.le_refl _)
  have I2 : InR (((w.alloc (.cells #[.int .u8 97] 5 (1, 2))).alloc (.cells #[.int .u8 98] 5 (1, 2))).alloc (.cells #[.int .u8 99] 5 (1, 2))) ⟨some ⟨w.heap.size + 1, 0, none⟩, 1, 1, [98]⟩ := (inr_mark (w.alloc (.cells #[.int .u8 97] 5 (1, 2))) [98] (1, 2) (by simp) (by simp) (by simp) rfl).below G3 (Nat.le_refl _)
  have I3 : InR (((w.alloc (.cells #[.int .u8 97] 5 (1, 2))).alloc (.cells #[.int .u8 98] 5 (1, 2))).alloc (.cells #[.int .u8 99] 5 (1, 2))) ⟨some ⟨w.heap.size + 2, 0, none⟩, 1, 1, [99]⟩ := inr_mark ((w.alloc (.cells #[.int .u8 97] 5 (1, 2))).alloc (.cells #[.int .u8 98] 5 (1, 2))) [99] (1, 2) (by simp) (by simp) (by simp) rfl
  have HLL := hasL_lit (w := (((w.alloc (.cells #[.int .u8 97] 5 (1, 2))).alloc (.cells #[.int .u8 98] 5 (1, 2))).alloc (.cells #[.int .u8 99] 5 (1, 2)))) (rs := ([⟨some ⟨w.heap.size, 0, none⟩, 1, 1, [97]⟩, ⟨some ⟨w.heap.size + 1, 0, none⟩, 1, 1, [98]⟩, ⟨some ⟨w.heap.size + 2, 0, none⟩, 1, 1, [99]⟩] : List R8)) (g := w.heap.size + 3) 23 (by simp) (by intro q hq; simp only [List.mem_cons, List.not_mem_nil, or_false] at hq; rcases hq with rfl | rfl | rfl; exact I1; exact I2; exact I3)
  have HR := Lib.hid (show RowsB ((((w.alloc (.cells #[.int .u8 97] 5 (1, 2))).alloc (.cells #[.int .u8 98] 5 (1, 2))).alloc (.cells #[.int .u8 99] 5 (1, 2))).alloc (.cells #[.slice (some ⟨w.heap.size, 0, none⟩) 1 1, .slice (some ⟨w.heap.size + 1, 0, none⟩) 1 1, .slice (some ⟨w.heap.size + 2, 0, none⟩) 1 1] 23)) (some ⟨w.heap.size + 3, 0, none⟩) 3 3 ([⟨some ⟨w.heap.size, 0, none⟩, 1, 1, [97]⟩, ⟨some ⟨w.heap.size + 1, 0, none⟩, 1, 1, [98]⟩, ⟨some ⟨w.heap.size + 2, 0, none⟩, 1, 1, [99]⟩] : List R8) from ⟨rfl, by decide, by decide, HLL⟩)
  have H1 := Lib.hid (show RowsB ((((w.alloc (.cells #[.int .u8 97] 5 (1, 2))).alloc (.cells #[.int .u8 98] 5 (1, 2))).alloc (.cells #[.int .u8 99] 5 (1, 2))).alloc (.cells #[.slice (some ⟨w.heap.size, 0, none⟩) 1 1, .slice (some ⟨w.heap.size + 1, 0, none⟩) 1 1, .slice (some ⟨w.heap.size + 2, 0, none⟩) 1 1] 23)) (some ⟨w.heap.size + 3, 0, none⟩) 1 3 ([⟨some ⟨w.heap.size, 0, none⟩, 1, 1, [97]⟩] : List R8) from ⟨rfl, by decide, by decide, hasL_take HLL 1⟩)
  clear kc G1 G2 G3 G4 I1 I2 I3 HLL
  generalize ((((w.alloc (.cells #[.int .u8 97] 5 (1, 2))).alloc (.cells #[.int .u8 98] 5 (1, 2))).alloc (.cells #[.int .u8 99] 5 (1, 2))).alloc (.cells #[.slice (some ⟨w.heap.size, 0, none⟩) 1 1, .slice (some ⟨w.heap.size + 1, 0, none⟩) 1 1, .slice (some ⟨w.heap.size + 2, 0, none⟩) 1 1] 23)) = w0 at *
  obtain ⟨xa, qxa⟩ : ∃ xa, leafD [97] = xa := ⟨_, rfl⟩
  have H_xa : Hid (IsD xa) := Lib.hid (by rw [← qxa]; exact leaf_isD _)
  obtain ⟨xb, qxb⟩ : ∃ xb, leafD [98] = xb := ⟨_, rfl⟩
  have H_xb : Hid (IsD xb) := Lib.hid (by rw [← qxb]; exact leaf_isD _)
  obtain ⟨xc, qxc⟩ : ∃ xc, leafD [99] = xc := ⟨_, rfl⟩
  have H_xc : Hid (IsD xc) := Lib.hid (by rw [← qxc]; exact leaf_isD _)
  obtain ⟨xn, qxn⟩ : ∃ xn, nodeD xa xb = xn := ⟨_, rfl⟩
  have H_xn : Hid (IsD xn) := Lib.hid (by rw [← qxn]; exact node_isD _ _)
  obtain ⟨xr, qxr⟩ : ∃ xr, nodeD xn xc = xr := ⟨_, rfl⟩
  have H_xr : Hid (IsD xr) := Lib.hid (by rw [← qxr]; exact node_isD _ _)
  have H_zd := Lib.hid zd_isD
  have V1 : Hid (rtV [⟨some ⟨w.heap.size, 0, none⟩, 1, 1, [97]⟩] = xa ∧ chE [⟨some ⟨w.heap.size, 0, none⟩, 1, 1, [97]⟩] = 0) := Lib.hid ⟨by rw [(root1 (r := ⟨some ⟨w.heap.size, 0, none⟩, 1, 1, [97]⟩) (by simp)).1]; exact qxa, (root1 (by simp)).2⟩
  have V3 : Hid (rtV ([⟨some ⟨w.heap.size, 0, none⟩, 1, 1, [97]⟩, ⟨some ⟨w.heap.size + 1, 0, none⟩, 1, 1, [98]⟩, ⟨some ⟨w.heap.size + 2, 0, none⟩, 1, 1, [99]⟩] : List R8) = xr ∧ chE ([⟨some ⟨w.heap.size, 0, none⟩, 1, 1, [97]⟩, ⟨some ⟨w.heap.size + 1, 0, none⟩, 1, 1, [98]⟩, ⟨some ⟨w.heap.size + 2, 0, none⟩, 1, 1, [99]⟩] : List R8) = 0) := Lib.hid ⟨by rw [(root3 (r := ⟨some ⟨w.heap.size, 0, none⟩, 1, 1, [97]⟩) (s := ⟨some ⟨w.heap.size + 1, 0, none⟩, 1, 1, [98]⟩) (t := ⟨some ⟨w.heap.size + 2, 0, none⟩, 1, 1, [99]⟩) (by simp) (by simp) (by simp)).1]; show nodeD (nodeD (leafD [97]) (leafD [98])) (leafD [99]) = xr; rw [qxa, qxb, qxc, qxn, qxr], (root3 (by simp) (by simp) (by simp)).2⟩
  have VLxa : Hid (lfV [97] = xa ∧ lfE [97] = 0) := Lib.hid ⟨by rw [(lf_yes (b := [97]) (by decide)).2]; exact qxa, (lf_yes (by decide)).1⟩
  have VLxb : Hid (lfV [98] = xb ∧ lfE [98] = 0) := Lib.hid ⟨by rw [(lf_yes (b := [98]) (by decide)).2]; exact qxb, (lf_yes (by decide)).1⟩
  have VLxc : Hid (lfV [99] = xc ∧ lfE [99] = 0) := Lib.hid ⟨by rw [(lf_yes (b := [99]) (by decide)).2]; exact qxc, (lf_yes (by decide)).1⟩
  have VS : Hid (sumV [0, 97] = xa ∧ sumE [0, 97] = 0) := Lib.hid ⟨by rw [(sum_ok (b := [0, 97]) (by decide)).2]; exact qxa, (sum_ok (by decide)).1⟩
  have QN := Lib.hid (And.intro qxn qxr)
  clear qxa qxb qxc qxn qxr
  have B0 := Lib.hid (Below.refl w0.heap.size w0)
  go_wp2_with fail
  refine (Root_any [] none 0 0 _ (HT.out.below B.out (Nat.le_refl _)) ⟨rfl, Nat.le_refl 0, by decide, ⟨.inl rfl, by simp⟩⟩).mono ?_
  rintro e w1 ⟨rfl, b⟩
  rw [root0.1, root0.2]
  replace B := Lib.hid (bb B.out b)
  replace B0 := Lib.hid (bb B0.out b)
  clear b
  have Y := Lib.hid (z20_at w1 rfl)
  have G := bnew w1 (.cells #[.int .u8 0, .int .u8 0, .int .u8 0, .int .u8 0, .int .u8 0, .int .u8 0, .int .u8 0, .int .u8 0, .int .u8 0, .int .u8 0, .int .u8 0, .int .u8 0, .int .u8 0, .int .u8 0, .int .u8 0, .int .u8 0, .int .u8 0, .int .u8 0, .int .u8 0, .int .u8 0] 26)
  have LEB := Lib.hid B.out.size
  have LEB0 := Lib.hid B0.out.size
  replace B := Lib.hid (bb B.out G)
  replace B0 := Lib.hid (bb B0.out G)
  clear G
  go_wp2_with (first | (show wpList _ _ _ ({ dst := none, op := Op.store 26 (.tmp 2) _, type := _, pos := _, after := _, guard := _ } :: _) _ _; go_must (refine trW.wp_st (g := w1.heap.size) (l := zd) (by rfl) _ _ rfl (Y.out) (zd_isD.len) (H_zd.out.len) rfl rfl ?_); intro w1s hR hg hb hz; have D2 := Lib.hid hR; replace B := Lib.hid (B.out.trans (hb.mono LEB.out)); replace B0 := Lib.hid (B0.out.trans (hb.mono LEB0.out)); clear hR hg hb hz Y LEB LEB0 ))
  refine (Root_any [⟨some ⟨w.heap.size, 0, none⟩, 1, 1, [97]⟩] (some ⟨w.heap.size + 3, 0, none⟩) 1 3 _ (HT.out.below B.out (Nat.le_refl _)) (H1.out.below B0.out (Nat.le_refl _))).mono ?_
  rintro e w2 ⟨rfl, b⟩
  rw [V1.out.1, V1.out.2]
  replace D2 := Lib.hid (D2.out.past b)
  replace B := Lib.hid (bb B.out b)
  replace B0 := Lib.hid (bb B0.out b)
  clear b
  have Y := Lib.hid (z20_at w2 rfl)
  have G := bnew w2 (.cells #[.int .u8 0, .int .u8 0, .int .u8 0, .int .u8 0, .int .u8 0, .int .u8 0, .int .u8 0, .int .u8 0, .int .u8 0, .int .u8 0, .int .u8 0, .int .u8 0, .int .u8 0, .int .u8 0, .int .u8 0, .int .u8 0, .int .u8 0, .int .u8 0, .int .u8 0, .int .u8 0] 26)
  have LEB := Lib.hid B.out.size
  have LEB0 := Lib.hid B0.out.size
  have LD2 := Lib.hid D2.out.lt
  replace D2 := Lib.hid (D2.out.past G)
  replace B := Lib.hid (bb B.out G)
  replace B0 := Lib.hid (bb B0.out G)
  clear G
  go_wp2_with (first | (show wpList _ _ _ ({ dst := none, op := Op.store 26 (.tmp 4) _, type := _, pos := _, after := _, guard := _ } :: _) _ _; go_must (refine trW.wp_st (g := w2.heap.size) (l := xa) (by rfl) _ _ rfl (Y.out) (zd_isD.len) (H_xa.out.len) rfl rfl ?_); intro w2s hR hg hb hz; have D4 := Lib.hid hR; replace D2 := Lib.hid (D2.out.far hg (show w1.heap.size ≠ w2.heap.size by have := LD2.out; omega)); replace B := Lib.hid (B.out.trans (hb.mono LEB.out)); replace B0 := Lib.hid (B0.out.trans (hb.mono LEB0.out)); clear hR hg hb hz Y LEB LEB0 LD2; have cf := rowCell HR.out 0 (by decide) _ B0.out))
  clear cf
  refine (Leaf_any [97] _ 1 1 _ (HT.out.below B.out (Nat.le_refl _)) ((HR.out.h.all ⟨some ⟨w.heap.size, 0, none⟩, 1, 1, [97]⟩ (by simp)).h.below B0.out (Nat.le_refl _)) rfl (Nat.le_refl 1) (by decide) (by intro z hz; simp at hz; omega)).mono ?_
  rintro e w3 ⟨rfl, b⟩
  rw [VLxa.out.1, VLxa.out.2]
  replace D2 := Lib.hid (D2.out.past b)
  replace D4 := Lib.hid (D4.out.past b)
  replace B := Lib.hid (bb B.out b)
  replace B0 := Lib.hid (bb B0.out b)
  clear b
  have Y := Lib.hid (z20_at w3 rfl)
  have G := bnew w3 (.cells #[.int .u8 0, .int .u8 0, .int .u8 0, .int .u8 0, .int .u8 0, .int .u8 0, .int .u8 0, .int .u8 0, .int .u8 0, .int .u8 0, .int .u8 0, .int .u8 0, .int .u8 0, .int .u8 0, .int .u8 0, .int .u8 0, .int .u8 0, .int .u8 0, .int .u8 0, .int .u8 0] 26)
  have LEB := Lib.hid B.out.size
  have LEB0 := Lib.hid B0.out.size
  have LD2 := Lib.hid D2.out.lt
  have LD4 := Lib.hid D4.out.lt
  replace D2 := Lib.hid (D2.out.past G)
  replace D4 := Lib.hid (D4.out.past G)
  replace B := Lib.hid (bb B.out G)
  replace B0 := Lib.hid (bb B0.out G)
  clear G
  go_wp2_with (first | (show wpList _ _ _ ({ dst := none, op := Op.store 26 (.tmp 6) _, type := _, pos := _, after := _, guard := _ } :: _) _ _; go_must (refine trW.wp_st (g := w3.heap.size) (l := xa) (by rfl) _ _ rfl (Y.out) (zd_isD.len) (H_xa.out.len) rfl rfl ?_); intro w3s hR hg hb hz; have D6 := Lib.hid hR; replace D2 := Lib.hid (D2.out.far hg (show w1.heap.size ≠ w3.heap.size by have := LD2.out; omega)); replace D4 := Lib.hid (D4.out.far hg (show w2.heap.size ≠ w3.heap.size by have := LD4.out; omega)); replace B := Lib.hid (B.out.trans (hb.mono LEB.out)); replace B0 := Lib.hid (B0.out.trans (hb.mono LEB0.out)); clear hR hg hb hz Y LEB LEB0 LD2 LD4; have cf := rowCell HR.out 1 (by decide) _ B0.out))
  clear cf
  refine (Leaf_any [98] _ 1 1 _ (HT.out.below B.out (Nat.le_refl _)) ((HR.out.h.all ⟨some ⟨w.heap.size + 1, 0, none⟩, 1, 1, [98]⟩ (by simp)).h.below B0.out (Nat.le_refl _)) rfl (Nat.le_refl 1) (by decide) (by intro z hz; simp at hz; omega)).mono ?_
  rintro e w4 ⟨rfl, b⟩
  rw [VLxb.out.1, VLxb.out.2]
  replace D2 := Lib.hid (D2.out.past b)
  replace D4 := Lib.hid (D4.out.past b)
  replace D6 := Lib.hid (D6.out.past b)
  replace B := Lib.hid (bb B.out b)
  replace B0 := Lib.hid (bb B0.out b)
  clear b
  have Y := Lib.hid (z20_at w4 rfl)
  have G := bnew w4 (.cells #[.int .u8 0, .int .u8 0, .int .u8 0, .int .u8 0, .int .u8 0, .int .u8 0, .int .u8 0, .int .u8 0, .int .u8 0, .int .u8 0, .int .u8 0, .int .u8 0, .int .u8 0, .int .u8 0, .int .u8 0, .int .u8 0, .int .u8 0, .int .u8 0, .int .u8 0, .int .u8 0] 26)
  have LEB := Lib.hid B.out.size
  have LEB0 := Lib.hid B0.out.size
  have LD2 := Lib.hid D2.out.lt
  have LD4 := Lib.hid D4.out.lt
  have LD6 := Lib.hid D6.out.lt
  replace D2 := Lib.hid (D2.out.past G)
  replace D4 := Lib.hid (D4.out.past G)
  replace D6 := Lib.hid (D6.out.past G)
  replace B := Lib.hid (bb B.out G)
  replace B0 := Lib.hid (bb B0.out G)
  clear G
  go_wp2_with (first | (show wpList _ _ _ ({ dst := none, op := Op.store 26 (.tmp 8) _, type := _, pos := _, after := _, guard := _ } :: _) _ _; go_must (refine trW.wp_st (g := w4.heap.size) (l := xb) (by rfl) _ _ rfl (Y.out) (zd_isD.len) (H_xb.out.len) rfl rfl ?_); intro w4s hR hg hb hz; have D8 := Lib.hid hR; replace D2 := Lib.hid (D2.out.far hg (show w1.heap.size ≠ w4.heap.size by have := LD2.out; omega)); replace D4 := Lib.hid (D4.out.far hg (show w2.heap.size ≠ w4.heap.size by have := LD4.out; omega)); replace D6 := Lib.hid (D6.out.far hg (show w3.heap.size ≠ w4.heap.size by have := LD6.out; omega)); replace B := Lib.hid (B.out.trans (hb.mono LEB.out)); replace B0 := Lib.hid (B0.out.trans (hb.mono LEB0.out)); clear hR hg hb hz Y LEB LEB0 LD2 LD4 LD6; have cf := rowCell HR.out 2 (by decide) _ B0.out))
  clear cf
  refine (Leaf_any [99] _ 1 1 _ (HT.out.below B.out (Nat.le_refl _)) ((HR.out.h.all ⟨some ⟨w.heap.size + 2, 0, none⟩, 1, 1, [99]⟩ (by simp)).h.below B0.out (Nat.le_refl _)) rfl (Nat.le_refl 1) (by decide) (by intro z hz; simp at hz; omega)).mono ?_
  rintro e w5 ⟨rfl, b⟩
  rw [VLxc.out.1, VLxc.out.2]
  replace D2 := Lib.hid (D2.out.past b)
  replace D4 := Lib.hid (D4.out.past b)
  replace D6 := Lib.hid (D6.out.past b)
  replace D8 := Lib.hid (D8.out.past b)
  replace B := Lib.hid (bb B.out b)
  replace B0 := Lib.hid (bb B0.out b)
  clear b
  have Y := Lib.hid (z20_at w5 rfl)
  have G := bnew w5 (.cells #[.int .u8 0, .int .u8 0, .int .u8 0, .int .u8 0, .int .u8 0, .int .u8 0, .int .u8 0, .int .u8 0, .int .u8 0, .int .u8 0, .int .u8 0, .int .u8 0, .int .u8 0, .int .u8 0, .int .u8 0, .int .u8 0, .int .u8 0, .int .u8 0, .int .u8 0, .int .u8 0] 26)
  have LEB := Lib.hid B.out.size
  have LEB0 := Lib.hid B0.out.size
  have LD2 := Lib.hid D2.out.lt
  have LD4 := Lib.hid D4.out.lt
  have LD6 := Lib.hid D6.out.lt
  have LD8 := Lib.hid D8.out.lt
  replace D2 := Lib.hid (D2.out.past G)
  replace D4 := Lib.hid (D4.out.past G)
  replace D6 := Lib.hid (D6.out.past G)
  replace D8 := Lib.hid (D8.out.past G)
  replace B := Lib.hid (bb B.out G)
  replace B0 := Lib.hid (bb B0.out G)
  clear G
  go_wp2_with (first | (show wpList _ _ _ ({ dst := none, op := Op.store 26 (.tmp 10) _, type := _, pos := _, after := _, guard := _ } :: _) _ _; go_must (refine trW.wp_st (g := w5.heap.size) (l := xc) (by rfl) _ _ rfl (Y.out) (zd_isD.len) (H_xc.out.len) rfl rfl ?_); intro w5s hR hg hb hz; have D10 := Lib.hid hR; replace D2 := Lib.hid (D2.out.far hg (show w1.heap.size ≠ w5.heap.size by have := LD2.out; omega)); replace D4 := Lib.hid (D4.out.far hg (show w2.heap.size ≠ w5.heap.size by have := LD4.out; omega)); replace D6 := Lib.hid (D6.out.far hg (show w3.heap.size ≠ w5.heap.size by have := LD6.out; omega)); replace D8 := Lib.hid (D8.out.far hg (show w4.heap.size ≠ w5.heap.size by have := LD8.out; omega)); replace B := Lib.hid (B.out.trans (hb.mono LEB.out)); replace B0 := Lib.hid (B0.out.trans (hb.mono LEB0.out)); clear hR hg hb hz Y LEB LEB0 LD2 LD4 LD6 LD8))
  have G := bnew w5s (.cells #[.int .u8 0, .int .u8 97] 5)
  have HS := Lib.hid (has_lit (k := .u8) (w := w5s) (e := 5) (zs := [0, 97]) rfl (by simp [maxLen]))
  replace D2 := Lib.hid (D2.out.past G)
  replace D4 := Lib.hid (D4.out.past G)
  replace D6 := Lib.hid (D6.out.past G)
  replace D8 := Lib.hid (D8.out.past G)
  replace D10 := Lib.hid (D10.out.past G)
  replace B := Lib.hid (bb B.out G)
  replace B0 := Lib.hid (bb B0.out G)
  clear G
  refine (Sum_any [0, 97] _ 2 2 _ (HT.out.below B.out (Nat.le_refl _)) HS.out rfl (by omega) (by omega) (by intro z hz; simp at hz; omega)).mono ?_
  rintro e w6 ⟨rfl, b⟩
  rw [VS.out.1, VS.out.2]
  clear HS
  replace D2 := Lib.hid (D2.out.past b)
  replace D4 := Lib.hid (D4.out.past b)
  replace D6 := Lib.hid (D6.out.past b)
  replace D8 := Lib.hid (D8.out.past b)
  replace D10 := Lib.hid (D10.out.past b)
  replace B := Lib.hid (bb B.out b)
  replace B0 := Lib.hid (bb B0.out b)
  clear b
  have Y := Lib.hid (z20_at w6 rfl)
  have G := bnew w6 (.cells #[.int .u8 0, .int .u8 0, .int .u8 0, .int .u8 0, .int .u8 0, .int .u8 0, .int .u8 0, .int .u8 0, .int .u8 0, .int .u8 0, .int .u8 0, .int .u8 0, .int .u8 0, .int .u8 0, .int .u8 0, .int .u8 0, .int .u8 0, .int .u8 0, .int .u8 0, .int .u8 0] 26)
  have LEB := Lib.hid B.out.size
  have LEB0 := Lib.hid B0.out.size
  have LD2 := Lib.hid D2.out.lt
  have LD4 := Lib.hid D4.out.lt
  have LD6 := Lib.hid D6.out.lt
  have LD8 := Lib.hid D8.out.lt
  have LD10 := Lib.hid D10.out.lt
  replace D2 := Lib.hid (D2.out.past G)
  replace D4 := Lib.hid (D4.out.past G)
  replace D6 := Lib.hid (D6.out.past G)
  replace D8 := Lib.hid (D8.out.past G)
  replace D10 := Lib.hid (D10.out.past G)
  replace B := Lib.hid (bb B.out G)
  replace B0 := Lib.hid (bb B0.out G)
  clear G
  go_wp2_with (first | (show wpList _ _ _ ({ dst := none, op := Op.store 26 (.tmp 12) _, type := _, pos := _, after := _, guard := _ } :: _) _ _; go_must (refine trW.wp_st (g := w6.heap.size) (l := xa) (by rfl) _ _ rfl (Y.out) (zd_isD.len) (H_xa.out.len) rfl rfl ?_); intro w6s hR hg hb hz; have D12 := Lib.hid hR; replace D2 := Lib.hid (D2.out.far hg (show w1.heap.size ≠ w6.heap.size by have := LD2.out; omega)); replace D4 := Lib.hid (D4.out.far hg (show w2.heap.size ≠ w6.heap.size by have := LD4.out; omega)); replace D6 := Lib.hid (D6.out.far hg (show w3.heap.size ≠ w6.heap.size by have := LD6.out; omega)); replace D8 := Lib.hid (D8.out.far hg (show w4.heap.size ≠ w6.heap.size by have := LD8.out; omega)); replace D10 := Lib.hid (D10.out.far hg (show w5.heap.size ≠ w6.heap.size by have := LD10.out; omega)); replace B := Lib.hid (B.out.trans (hb.mono LEB.out)); replace B0 := Lib.hid (B0.out.trans (hb.mono LEB0.out)); clear hR hg hb hz Y LEB LEB0 LD2 LD4 LD6 LD8 LD10) | (show wpList _ _ _ ({ dst := _, op := Op.load 26 (.tmp 6), type := _, pos := _, after := _, guard := _ } :: _) _ _; go_must (refine trW.wp_l0 (l := xa) (by rfl) _ rfl (D6.out) (H_xa.out.len) rfl ?_)) | (show wpList _ _ _ ({ dst := _, op := Op.load 26 (.tmp 8), type := _, pos := _, after := _, guard := _ } :: _) _ _; go_must (refine trW.wp_l0 (l := xb) (by rfl) _ rfl (D8.out) (H_xb.out.len) rfl ?_)))
  refine (lnode_any xa xb _ (HT.out.below B.out (Nat.le_refl _)) H_xa.out H_xb.out).mono ?_
  rintro e w7 ⟨rfl, b⟩
  rw [QN.out.1]
  replace D2 := Lib.hid (D2.out.past b)
  replace D4 := Lib.hid (D4.out.past b)
  replace D6 := Lib.hid (D6.out.past b)
  replace D8 := Lib.hid (D8.out.past b)
  replace D10 := Lib.hid (D10.out.past b)
  replace D12 := Lib.hid (D12.out.past b)
  replace B := Lib.hid (bb B.out b)
  replace B0 := Lib.hid (bb B0.out b)
  clear b
  have Y := Lib.hid (z20_at w7 rfl)
  have G := bnew w7 (.cells #[.int .u8 0, .int .u8 0, .int .u8 0, .int .u8 0, .int .u8 0, .int .u8 0, .int .u8 0, .int .u8 0, .int .u8 0, .int .u8 0, .int .u8 0, .int .u8 0, .int .u8 0, .int .u8 0, .int .u8 0, .int .u8 0, .int .u8 0, .int .u8 0, .int .u8 0, .int .u8 0] 26)
  have LEB := Lib.hid B.out.size
  have LEB0 := Lib.hid B0.out.size
  have LD2 := Lib.hid D2.out.lt
  have LD4 := Lib.hid D4.out.lt
  have LD6 := Lib.hid D6.out.lt
  have LD8 := Lib.hid D8.out.lt
  have LD10 := Lib.hid D10.out.lt
  have LD12 := Lib.hid D12.out.lt
  replace D2 := Lib.hid (D2.out.past G)
  replace D4 := Lib.hid (D4.out.past G)
  replace D6 := Lib.hid (D6.out.past G)
  replace D8 := Lib.hid (D8.out.past G)
  replace D10 := Lib.hid (D10.out.past G)
  replace D12 := Lib.hid (D12.out.past G)
  replace B := Lib.hid (bb B.out G)
  replace B0 := Lib.hid (bb B0.out G)
  clear G
  go_wp2_with (first | (show wpList _ _ _ ({ dst := none, op := Op.store 26 (.tmp 14) _, type := _, pos := _, after := _, guard := _ } :: _) _ _; go_must (refine trW.wp_st (g := w7.heap.size) (l := xn) (by rfl) _ _ rfl (Y.out) (zd_isD.len) (H_xn.out.len) rfl rfl ?_); intro w7s hR hg hb hz; have D14 := Lib.hid hR; replace D2 := Lib.hid (D2.out.far hg (show w1.heap.size ≠ w7.heap.size by have := LD2.out; omega)); replace D4 := Lib.hid (D4.out.far hg (show w2.heap.size ≠ w7.heap.size by have := LD4.out; omega)); replace D6 := Lib.hid (D6.out.far hg (show w3.heap.size ≠ w7.heap.size by have := LD6.out; omega)); replace D8 := Lib.hid (D8.out.far hg (show w4.heap.size ≠ w7.heap.size by have := LD8.out; omega)); replace D10 := Lib.hid (D10.out.far hg (show w5.heap.size ≠ w7.heap.size by have := LD10.out; omega)); replace D12 := Lib.hid (D12.out.far hg (show w6.heap.size ≠ w7.heap.size by have := LD12.out; omega)); replace B := Lib.hid (B.out.trans (hb.mono LEB.out)); replace B0 := Lib.hid (B0.out.trans (hb.mono LEB0.out)); clear hR hg hb hz Y LEB LEB0 LD2 LD4 LD6 LD8 LD10 LD12) | (show wpList _ _ _ ({ dst := _, op := Op.load 26 (.tmp 14), type := _, pos := _, after := _, guard := _ } :: _) _ _; go_must (refine trW.wp_l0 (l := xn) (by rfl) _ rfl (D14.out) (H_xn.out.len) rfl ?_)) | (show wpList _ _ _ ({ dst := _, op := Op.load 26 (.tmp 10), type := _, pos := _, after := _, guard := _ } :: _) _ _; go_must (refine trW.wp_l0 (l := xc) (by rfl) _ rfl (D10.out) (H_xc.out.len) rfl ?_)))
  refine (lnode_any xn xc _ (HT.out.below B.out (Nat.le_refl _)) H_xn.out H_xc.out).mono ?_
  rintro e w8 ⟨rfl, b⟩
  rw [QN.out.2]
  replace D2 := Lib.hid (D2.out.past b)
  replace D4 := Lib.hid (D4.out.past b)
  replace D6 := Lib.hid (D6.out.past b)
  replace D8 := Lib.hid (D8.out.past b)
  replace D10 := Lib.hid (D10.out.past b)
  replace D12 := Lib.hid (D12.out.past b)
  replace D14 := Lib.hid (D14.out.past b)
  replace B := Lib.hid (bb B.out b)
  replace B0 := Lib.hid (bb B0.out b)
  clear b
  have Y := Lib.hid (z20_at w8 rfl)
  have G := bnew w8 (.cells #[.int .u8 0, .int .u8 0, .int .u8 0, .int .u8 0, .int .u8 0, .int .u8 0, .int .u8 0, .int .u8 0, .int .u8 0, .int .u8 0, .int .u8 0, .int .u8 0, .int .u8 0, .int .u8 0, .int .u8 0, .int .u8 0, .int .u8 0, .int .u8 0, .int .u8 0, .int .u8 0] 26)
  have LEB := Lib.hid B.out.size
  have LEB0 := Lib.hid B0.out.size
  have LD2 := Lib.hid D2.out.lt
  have LD4 := Lib.hid D4.out.lt
  have LD6 := Lib.hid D6.out.lt
  have LD8 := Lib.hid D8.out.lt
  have LD10 := Lib.hid D10.out.lt
  have LD12 := Lib.hid D12.out.lt
  have LD14 := Lib.hid D14.out.lt
  replace D2 := Lib.hid (D2.out.past G)
  replace D4 := Lib.hid (D4.out.past G)
  replace D6 := Lib.hid (D6.out.past G)
  replace D8 := Lib.hid (D8.out.past G)
  replace D10 := Lib.hid (D10.out.past G)
  replace D12 := Lib.hid (D12.out.past G)
  replace D14 := Lib.hid (D14.out.past G)
  replace B := Lib.hid (bb B.out G)
  replace B0 := Lib.hid (bb B0.out G)
  clear G
  go_wp2_with (first | (show wpList _ _ _ ({ dst := none, op := Op.store 26 (.tmp 16) _, type := _, pos := _, after := _, guard := _ } :: _) _ _; go_must (refine trW.wp_st (g := w8.heap.size) (l := xr) (by rfl) _ _ rfl (Y.out) (zd_isD.len) (H_xr.out.len) rfl rfl ?_); intro w8s hR hg hb hz; have D16 := Lib.hid hR; replace D2 := Lib.hid (D2.out.far hg (show w1.heap.size ≠ w8.heap.size by have := LD2.out; omega)); replace D4 := Lib.hid (D4.out.far hg (show w2.heap.size ≠ w8.heap.size by have := LD4.out; omega)); replace D6 := Lib.hid (D6.out.far hg (show w3.heap.size ≠ w8.heap.size by have := LD6.out; omega)); replace D8 := Lib.hid (D8.out.far hg (show w4.heap.size ≠ w8.heap.size by have := LD8.out; omega)); replace D10 := Lib.hid (D10.out.far hg (show w5.heap.size ≠ w8.heap.size by have := LD10.out; omega)); replace D12 := Lib.hid (D12.out.far hg (show w6.heap.size ≠ w8.heap.size by have := LD12.out; omega)); replace D14 := Lib.hid (D14.out.far hg (show w7.heap.size ≠ w8.heap.size by have := LD14.out; omega)); replace B := Lib.hid (B.out.trans (hb.mono LEB.out)); replace B0 := Lib.hid (B0.out.trans (hb.mono LEB0.out)); clear hR hg hb hz Y LEB LEB0 LD2 LD4 LD6 LD8 LD10 LD12 LD14))
  refine (Root_any ([⟨some ⟨w.heap.size, 0, none⟩, 1, 1, [97]⟩, ⟨some ⟨w.heap.size + 1, 0, none⟩, 1, 1, [98]⟩, ⟨some ⟨w.heap.size + 2, 0, none⟩, 1, 1, [99]⟩] : List R8) (some ⟨w.heap.size + 3, 0, none⟩) 3 3 _ (HT.out.below B.out (Nat.le_refl _)) (HR.out.below B0.out (Nat.le_refl _))).mono ?_
  rintro e w9 ⟨rfl, b⟩
  rw [V3.out.1, V3.out.2]
  replace D2 := Lib.hid (D2.out.past b)
  replace D4 := Lib.hid (D4.out.past b)
  replace D6 := Lib.hid (D6.out.past b)
  replace D8 := Lib.hid (D8.out.past b)
  replace D10 := Lib.hid (D10.out.past b)
  replace D12 := Lib.hid (D12.out.past b)
  replace D14 := Lib.hid (D14.out.past b)
  replace D16 := Lib.hid (D16.out.past b)
  replace B := Lib.hid (bb B.out b)
  replace B0 := Lib.hid (bb B0.out b)
  clear b
  have Y := Lib.hid (z20_at w9 rfl)
  have G := bnew w9 (.cells #[.int .u8 0, .int .u8 0, .int .u8 0, .int .u8 0, .int .u8 0, .int .u8 0, .int .u8 0, .int .u8 0, .int .u8 0, .int .u8 0, .int .u8 0, .int .u8 0, .int .u8 0, .int .u8 0, .int .u8 0, .int .u8 0, .int .u8 0, .int .u8 0, .int .u8 0, .int .u8 0] 26)
  have LEB := Lib.hid B.out.size
  have LEB0 := Lib.hid B0.out.size
  have LD2 := Lib.hid D2.out.lt
  have LD4 := Lib.hid D4.out.lt
  have LD6 := Lib.hid D6.out.lt
  have LD8 := Lib.hid D8.out.lt
  have LD10 := Lib.hid D10.out.lt
  have LD12 := Lib.hid D12.out.lt
  have LD14 := Lib.hid D14.out.lt
  have LD16 := Lib.hid D16.out.lt
  replace D2 := Lib.hid (D2.out.past G)
  replace D4 := Lib.hid (D4.out.past G)
  replace D6 := Lib.hid (D6.out.past G)
  replace D8 := Lib.hid (D8.out.past G)
  replace D10 := Lib.hid (D10.out.past G)
  replace D12 := Lib.hid (D12.out.past G)
  replace D14 := Lib.hid (D14.out.past G)
  replace D16 := Lib.hid (D16.out.past G)
  replace B := Lib.hid (bb B.out G)
  replace B0 := Lib.hid (bb B0.out G)
  clear G
  go_wp2_with (first | (show wpList _ _ _ ({ dst := none, op := Op.store 26 (.tmp 18) _, type := _, pos := _, after := _, guard := _ } :: _) _ _; go_must (refine trW.wp_st (g := w9.heap.size) (l := xr) (by rfl) _ _ rfl (Y.out) (zd_isD.len) (H_xr.out.len) rfl rfl ?_); intro w9s hR hg hb hz; have D18 := Lib.hid hR; replace D2 := Lib.hid (D2.out.far hg (show w1.heap.size ≠ w9.heap.size by have := LD2.out; omega)); replace D4 := Lib.hid (D4.out.far hg (show w2.heap.size ≠ w9.heap.size by have := LD4.out; omega)); replace D6 := Lib.hid (D6.out.far hg (show w3.heap.size ≠ w9.heap.size by have := LD6.out; omega)); replace D8 := Lib.hid (D8.out.far hg (show w4.heap.size ≠ w9.heap.size by have := LD8.out; omega)); replace D10 := Lib.hid (D10.out.far hg (show w5.heap.size ≠ w9.heap.size by have := LD10.out; omega)); replace D12 := Lib.hid (D12.out.far hg (show w6.heap.size ≠ w9.heap.size by have := LD12.out; omega)); replace D14 := Lib.hid (D14.out.far hg (show w7.heap.size ≠ w9.heap.size by have := LD14.out; omega)); replace D16 := Lib.hid (D16.out.far hg (show w8.heap.size ≠ w9.heap.size by have := LD16.out; omega)); replace B := Lib.hid (B.out.trans (hb.mono LEB.out)); replace B0 := Lib.hid (B0.out.trans (hb.mono LEB0.out)); clear hR hg hb hz Y LEB LEB0 LD2 LD4 LD6 LD8 LD10 LD12 LD14 LD16))
  refine (Steps_any 3 0 _ (by decide) (by decide) (by decide) (by decide)).mono ?_
  rintro e w10 ⟨rfl, b⟩
  rw [st30.1, st30.2]
  replace D2 := Lib.hid (D2.out.past b)
  replace D4 := Lib.hid (D4.out.past b)
  replace D6 := Lib.hid (D6.out.past b)
  replace D8 := Lib.hid (D8.out.past b)
  replace D10 := Lib.hid (D10.out.past b)
  replace D12 := Lib.hid (D12.out.past b)
  replace D14 := Lib.hid (D14.out.past b)
  replace D16 := Lib.hid (D16.out.past b)
  replace D18 := Lib.hid (D18.out.past b)
  replace B := Lib.hid (bb B.out b)
  replace B0 := Lib.hid (bb B0.out b)
  clear b
  go_wp2_with fail
  refine (Steps_any 3 1 _ (by decide) (by decide) (by decide) (by decide)).mono ?_
  rintro e w11 ⟨rfl, b⟩
  rw [st31.1, st31.2]
  replace D2 := Lib.hid (D2.out.past b)
  replace D4 := Lib.hid (D4.out.past b)
  replace D6 := Lib.hid (D6.out.past b)
  replace D8 := Lib.hid (D8.out.past b)
  replace D10 := Lib.hid (D10.out.past b)
  replace D12 := Lib.hid (D12.out.past b)
  replace D14 := Lib.hid (D14.out.past b)
  replace D16 := Lib.hid (D16.out.past b)
  replace D18 := Lib.hid (D18.out.past b)
  replace B := Lib.hid (bb B.out b)
  replace B0 := Lib.hid (bb B0.out b)
  clear b
  go_wp2_with fail
  refine (Steps_any 3 2 _ (by decide) (by decide) (by decide) (by decide)).mono ?_
  rintro e w12 ⟨rfl, b⟩
  rw [st32.1, st32.2]
  replace D2 := Lib.hid (D2.out.past b)
  replace D4 := Lib.hid (D4.out.past b)
  replace D6 := Lib.hid (D6.out.past b)
  replace D8 := Lib.hid (D8.out.past b)
  replace D10 := Lib.hid (D10.out.past b)
  replace D12 := Lib.hid (D12.out.past b)
  replace D14 := Lib.hid (D14.out.past b)
  replace D16 := Lib.hid (D16.out.past b)
  replace D18 := Lib.hid (D18.out.past b)
  replace B := Lib.hid (bb B.out b)
  replace B0 := Lib.hid (bb B0.out b)
  clear b
  go_upto_region 14 with fail
  refine wp_region_lit ?_
  iterate 79 (first | (show wpList _ _ _ ({ dst := _, op := Op.load 26 (.tmp 2), type := _, pos := _, after := _, guard := _ } :: _) _ _; go_must (refine trW.wp_l0 (l := zd) (by rfl) _ rfl (D2.out) (H_zd.out.len) rfl ?_)) | (show wpList _ _ _ ({ dst := _, op := Op.load 26 (.tmp 4), type := _, pos := _, after := _, guard := _ } :: _) _ _; go_must (refine trW.wp_l0 (l := xa) (by rfl) _ rfl (D4.out) (H_xa.out.len) rfl ?_)) | (show wpList _ _ _ ({ dst := _, op := Op.load 26 (.tmp 6), type := _, pos := _, after := _, guard := _ } :: _) _ _; go_must (refine trW.wp_l0 (l := xa) (by rfl) _ rfl (D6.out) (H_xa.out.len) rfl ?_)) | (show wpList _ _ _ ({ dst := _, op := Op.load 26 (.tmp 12), type := _, pos := _, after := _, guard := _ } :: _) _ _; go_must (refine trW.wp_l0 (l := xa) (by rfl) _ rfl (D12.out) (H_xa.out.len) rfl ?_)) | (show wpList _ _ _ ({ dst := _, op := Op.load 26 (.tmp 18), type := _, pos := _, after := _, guard := _ } :: _) _ _; go_must (refine trW.wp_l0 (l := xr) (by rfl) _ rfl (D18.out) (H_xr.out.len) rfl ?_)) | (show wpList _ _ _ ({ dst := _, op := Op.load 26 (.tmp 16), type := _, pos := _, after := _, guard := _ } :: _) _ _; go_must (refine trW.wp_l0 (l := xr) (by rfl) _ rfl (D16.out) (H_xr.out.len) rfl ?_)) | (show wpList _ _ _ ({ dst := _, op := Op.binOp .eql 26 _ _ _, type := _, pos := _, after := _, guard := _ } :: _) _ _; refine trW.wp_eqs (by rfl) _ _ _ rfl ?hl rfl rfl ?_; (case hl => first | exact H_zd.out | exact H_xa.out | exact H_xr.out)) | (refine wpList_step fun K hK => ?_; go_simp; refine hK _ _ ?_; clear hK K))
  go_wp2_with fail
  go_ret
  exact ⟨rfl, B.out⟩
end Go.Proofs.YtjdgobfjpjnhgaaDoor.trW
