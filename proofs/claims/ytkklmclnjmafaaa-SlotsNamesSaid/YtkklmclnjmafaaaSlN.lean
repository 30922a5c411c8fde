/- New of both, by walks. -/
import Derived.Test.YtkklmclnjmafaaaSlM
namespace Go.Proofs.Ytkklmclnjmafaaa.slP
set_option maxRecDepth 100000
set_option linter.unusedVariables false
def nwE (lv : Int) : Int := if lvB lv = true then 0 else 2
def nwT (lv : Int) : TV := if lvB lv = true then ⟨lv, szN lv, List.replicate (szN lv * 16) 0⟩ else zT
theorem lv_iff {lv : Int} (h : lvB lv = true) : 0 ≤ lv ∧ lv ≤ 7 := by simpa [lvB] using h
theorem nw_ok {lv : Int} (h : lvB lv = true) : nwE lv = 0 ∧ nwT lv = ⟨lv, szN lv, List.replicate (szN lv * 16) 0⟩ := ⟨if_pos h, if_pos h⟩
theorem nw_bad {lv : Int} (h : ¬ lvB lv = true) : nwE lv = 2 ∧ nwT lv = zT := ⟨if_neg h, if_neg h⟩
end Go.Proofs.Ytkklmclnjmafaaa.slP
namespace Go.Proofs.Ytkklmclnjmafaaa.slW
set_option maxRecDepth 100000
open Go.RowKit Go.Proofs.Ytkklmclnjmafaaa.base Go.Proofs.Ytkklmclnjmafaaa.slP
set_option linter.unusedVariables false
set_option linter.unusedSimpArgs false
set_option maxRecDepth 100000
set_option maxHeartbeats 800000 in
theorem New_any (lv : Int) (w : World) (l1 : -9223372036854775808 ≤ lv) (l2 : lv ≤ 9223372036854775807) :
    Calls Try.prog 9 #[.int .i64 lv] w fun e w' => ∃ A' c', e = .returned (.tuple #[.agg #[.int .i64 (nwT lv).lv, .slice A' (nwT lv).n c'], .int .i64 (nwE lv)]) ∧ OwnS w' w.heap.size (.slice A' (nwT lv).n c') (nwT lv).n (nwT lv).fl ∧ Below w.heap.size w w' := by
  have R0 := tb_new w 0 none 0 0
  have B0 := Lib.hid (tb_box w 0 none 0 0)
  have HR0 := Lib.hid R0
  clear R0
  go_enter Try.func9, Try.ntmps9
  go_upto_region 1 with fail
  generalize (w.alloc (.cells #[.int .i64 0, .slice none 0 0] 24)) = w0 at *
  by_cases hl : lvB lv = true
  · have HF := Lib.hid (nw_ok hl)
    have HL := Lib.hid (lv_iff hl)
    obtain ⟨n, hn⟩ : ∃ n, szN lv = n := ⟨_, rfl⟩
    have HN := Lib.hid hn
    have HM : Hid (n ≤ 1000000) := Lib.hid (by have := sz_le HL.out.2; omega)
    go_wp2_with fail
    refine (isLevel_any lv w0 true hl).mono ?_
    rintro e w1 ⟨rfl, b1⟩
    have B1 := Lib.hid (below_bs (B0.out) b1)
    have R1 := Lib.hid (HR0.out.past b1)
    clear b1 B0 HR0 hl hn
    go_wp2_with fail
    refine (size_any lv n w1 HL.out.1 HL.out.2 HN.out).mono ?_
    rintro e w2 ⟨rfl, b2⟩
    have B2 := Lib.hid (below_bs B1.out b2)
    have R2 := Lib.hid (R1.out.past b2)
    clear b2 B1 R1
    have mk := mkS n HM.out w2
    have G3 := (Below.refl w2.heap.size w2).alloc (Nat.le_refl _) (.cells (zS n) 31)
    have R3 := Lib.hid (R2.out.past G3)
    have O3 := Lib.hid (own_zS w2 n HM.out (Nat.le_refl w2.heap.size) rfl)
    have B3 := Lib.hid (below_bs B2.out G3)
    have HLT : Hid (w.heap.size < w2.heap.size) := Lib.hid (Lies.lt R2.out)
    clear G3 R2 B2
    have z0 := R3.out.c0
    have z1 := R3.out.c1
    have z2 := R3.out.f0
    have z3 := R3.out.f1
    have R9 := Lib.hid (tb_set (lv := lv) (A := some ⟨w2.heap.size, 0, none⟩) (n := n) (c := n) R3.out)
    have r0 := R9.out.c0
    have r1 := R9.out.c1
    go_wp2_with fail
    refine bodyPost_ret (by simp [results, Try.results9, go_sem, r0, r1]; try rfl) rfl ?_
    exact ⟨some ⟨w2.heap.size, 0, none⟩, n, by rw [HF.out.1, HF.out.2, HN.out], by rw [HF.out.2, HN.out]; exact own_other (own_other (O3.out.mono (by have := HLT.out; omega)) ⟨w.heap.size, 0, none⟩ (by have := HLT.out; simp; omega) _) ⟨w.heap.size, 1, none⟩ (by have := HLT.out; simp; omega) _, below_set2 B3.out (Nat.le_refl _) _ _⟩
  · have HF := Lib.hid (nw_bad hl)
    have hl' : lvB lv = false := by simpa using hl
    go_wp2_with fail
    refine (isLevel_any lv w0 false hl').mono ?_
    rintro e w1 ⟨rfl, b1⟩
    have B1 := Lib.hid (below_bs (B0.out) b1)
    have R1 := Lib.hid (HR0.out.past b1)
    clear b1 B0 HR0 hl hl'
    have z0 := R1.out.c0
    have z1 := R1.out.c1
    have z2 := R1.out.f0
    have z3 := R1.out.f1
    have R9 := Lib.hid (tb_set (lv := 0) (A := none) (n := 0) (c := 0) R1.out)
    have r0 := R9.out.c0
    have r1 := R9.out.c1
    go_wp2_with fail
    refine bodyPost_ret (by simp [results, Try.results9, go_sem, r0, r1]; try rfl) rfl ?_
    exact ⟨none, 0, by rw [HF.out.1, HF.out.2]; rfl, by rw [HF.out.2]; exact own_zero _ _, below_set2 B1.out (Nat.le_refl _) _ _⟩
set_option maxHeartbeats 800000 in
theorem rBegin (lv : Int) (n : Nat) (w : World) (h0 : 0 ≤ lv) (h7 : lv ≤ 7) (hn : szN lv = n) :
    Calls Try.prog 39 #[.int .i64 lv] w fun e w' => ∃ A' c', e = .returned (.agg #[.int .i64 lv, .slice A' n c']) ∧ OwnS w' w.heap.size (.slice A' n c') n (List.replicate (n * 16) 0) ∧ Below w.heap.size w w' := by
  have R0 := tb_new w 0 none 0 0
  have B0 := Lib.hid (tb_box w 0 none 0 0)
  have HR0 := Lib.hid R0
  have HN := Lib.hid hn
  have HL := Lib.hid (And.intro h0 h7)
  have HM : Hid (n ≤ 1000000) := Lib.hid (by have := sz_le HL.out.2; omega)
  clear R0 hn
  go_enter Try.func39, Try.ntmps39
  go_upto_region 1 with fail
  generalize (w.alloc (.cells #[.int .i64 0, .slice none 0 0] 24)) = w0 at *
  go_wp2_with fail
  refine (rSize lv n w0 HL.out.1 HL.out.2 HN.out).mono ?_
  rintro e w2 ⟨rfl, b2⟩
  have B2 := Lib.hid (below_bs B0.out b2)
  have R2 := Lib.hid (HR0.out.past b2)
  clear b2 B0 HR0
  have mk := mkS n HM.out w2
  have G3 := (Below.refl w2.heap.size w2).alloc (Nat.le_refl _) (.cells (zS n) 31)
  have R3 := Lib.hid (R2.out.past G3)
  have O3 := Lib.hid (own_zS w2 n HM.out (Nat.le_refl w2.heap.size) rfl)
  have B3 := Lib.hid (below_bs B2.out G3)
  have HLT : Hid (w.heap.size < w2.heap.size) := Lib.hid (Lies.lt R2.out)
  clear G3 R2 B2
  have z0 := R3.out.c0
  have z1 := R3.out.c1
  have z2 := R3.out.f0
  have z3 := R3.out.f1
  have R9 := Lib.hid (tb_set (lv := lv) (A := some ⟨w2.heap.size, 0, none⟩) (n := n) (c := n) R3.out)
  have r0 := R9.out.c0
  have r1 := R9.out.c1
  go_wp2_with fail
  refine bodyPost_ret (by simp [results, Try.results39, go_sem, r0, r1]; try rfl) rfl ?_
  exact ⟨some ⟨w2.heap.size, 0, none⟩, n, rfl, own_other (own_other (O3.out.mono (by have := HLT.out; omega)) ⟨w.heap.size, 0, none⟩ (by have := HLT.out; simp; omega) _) ⟨w.heap.size, 1, none⟩ (by have := HLT.out; simp; omega) _, below_set2 B3.out (Nat.le_refl _) _ _⟩
set_option maxHeartbeats 800000 in
theorem rNew (lv : Int) (w : World) (l1 : -9223372036854775808 ≤ lv) (l2 : lv ≤ 9223372036854775807) :
    Calls Try.prog 19 #[.int .i64 lv] w fun e w' => ∃ A' c', e = .returned (.tuple #[.agg #[.int .i64 (nwT lv).lv, .slice A' (nwT lv).n c'], .int .i64 (nwE lv)]) ∧ OwnS w' w.heap.size (.slice A' (nwT lv).n c') (nwT lv).n (nwT lv).fl ∧ Below w.heap.size w w' := by
  have R0 := tb_new w 0 none 0 0
  have B0 := Lib.hid (tb_box w 0 none 0 0)
  have HR0 := Lib.hid R0
  clear R0
  go_enter Try.func19, Try.ntmps19
  go_upto_region 1 with fail
  generalize (w.alloc (.cells #[.int .i64 0, .slice none 0 0] 24)) = w0 at *
  by_cases hl : lvB lv = true
  · have HF := Lib.hid (nw_ok hl)
    have HL := Lib.hid (lv_iff hl)
    obtain ⟨n, hn⟩ : ∃ n, szN lv = n := ⟨_, rfl⟩
    have HN := Lib.hid hn
    have HM : Hid (n ≤ 1000000) := Lib.hid (by have := sz_le HL.out.2; omega)
    go_wp2_with fail
    refine (rLevel lv w0 true hl).mono ?_
    rintro e w1 ⟨rfl, b1⟩
    have B1 := Lib.hid (below_bs (B0.out) b1)
    have R1 := Lib.hid (HR0.out.past b1)
    clear b1 B0 HR0 hl hn
    go_wp2_with fail
    refine (rBegin lv n w1 HL.out.1 HL.out.2 HN.out).mono ?_
    rintro e w3 ⟨A3, c3, rfl, o3, b3⟩
    obtain ⟨g, e, hg1, hg2⟩ := o3.form (by have := HN.out; have := sz_le HL.out.2; omega)
    subst e
    have B3 := Lib.hid (below_bs B1.out b3)
    have R3 := Lib.hid (R1.out.past b3)
    have O3 := Lib.hid o3
    have HLT : Hid (w.heap.size < w1.heap.size ∧ w1.heap.size ≤ g) := Lib.hid ⟨Lies.lt R1.out, hg1⟩
    clear b3 o3 R1 B1 hg1 hg2
    have z0 := R3.out.c0
    have z1 := R3.out.c1
    have z2 := R3.out.f0
    have z3 := R3.out.f1
    have R9 := Lib.hid (tb_set (lv := lv) (A := some ⟨g, 0, none⟩) (n := n) (c := c3) R3.out)
    have r0 := R9.out.c0
    have r1 := R9.out.c1
    go_wp2_with fail
    refine bodyPost_ret (by simp [results, Try.results19, go_sem, r0, r1]; try rfl) rfl ?_
    exact ⟨some ⟨g, 0, none⟩, c3, by rw [HF.out.1, HF.out.2, HN.out], by rw [HF.out.2, HN.out]; exact own_other (own_other (O3.out.mono (by have := HLT.out; omega)) ⟨w.heap.size, 0, none⟩ (by have := HLT.out; simp; omega) _) ⟨w.heap.size, 1, none⟩ (by have := HLT.out; simp; omega) _, below_set2 B3.out (Nat.le_refl _) _ _⟩
  · have HF := Lib.hid (nw_bad hl)
    have hl' : lvB lv = false := by simpa using hl
    go_wp2_with fail
    refine (rLevel lv w0 false hl').mono ?_
    rintro e w1 ⟨rfl, b1⟩
    have B1 := Lib.hid (below_bs (B0.out) b1)
    have R1 := Lib.hid (HR0.out.past b1)
    clear b1 B0 HR0 hl hl'
    have z0 := R1.out.c0
    have z1 := R1.out.c1
    have z2 := R1.out.f0
    have z3 := R1.out.f1
    have R9 := Lib.hid (tb_set (lv := 0) (A := none) (n := 0) (c := 0) R1.out)
    have r0 := R9.out.c0
    have r1 := R9.out.c1
    go_wp2_with fail
    refine bodyPost_ret (by simp [results, Try.results19, go_sem, r0, r1]; try rfl) rfl ?_
    exact ⟨none, 0, by rw [HF.out.1, HF.out.2]; rfl, by rw [HF.out.2]; exact own_zero _ _, below_set2 B1.out (Nat.le_refl _) _ _⟩
end Go.Proofs.Ytkklmclnjmafaaa.slW
