/- The reference's With, by a walk. -/
import Derived.Test.YtkklmclnjmafaaaSlW6
namespace Go.Proofs.Ytkklmclnjmafaaa.slW
set_option maxRecDepth 100000
open Go.RowKit Go.Proofs.Ytkklmclnjmafaaa.base Go.Proofs.Ytkklmclnjmafaaa.slP
set_option linter.unusedVariables false
set_option linter.unusedSimpArgs false
set_option maxHeartbeats 1600000 in
theorem rWith (lv : Int) (A : Option Addr) (n c : Nat) (fl : List Int) (pn kn : Nat) (x : Int) (w : World) (hi : InS w A n c fl) (hm : n ≤ 1000000) (hp : pn < n) (hk : kn < 15) :
    Calls Try.prog 42 #[.agg #[.int .i64 lv, .slice A n c], .int .i64 pn, .int .i64 ((kn : Int) + 1), .int .u8 x] w fun e w' => ∃ A' c', e = .returned (.agg #[.int .i64 lv, .slice A' n c']) ∧ OwnS w' w.heap.size (.slice A' n c') n (fl.set (pn * 16 + 1 + kn) x) ∧ Below w.heap.size w w' := by
  have n9 : (n : Int) ≤ 9223372036854775807 := by have := hi.c1; have := hi.c2; omega
  have HNM := Lib.hid hm
  have p1 : (pn : Int) < n := by omega
  have k1 : (kn : Int) < 15 := by omega
  have j1 : IntKind.i64.wrap ((kn : Int) + 1 - 1) = (kn : Int) := by
    rw [show (kn : Int) + 1 - 1 = (kn : Int) by omega]; exact IntWalk.i64_in _ (by omega)
  have j2 : IntKind.i64.wrap (kn : Int) = (kn : Int) := IntWalk.i64_in _ (by omega)
  have HP1 : Hid (pn < n ∧ kn < 15) := Lib.hid (by omega)
  have HPN : Hid (0 < n) := Lib.hid (by omega)
  have HI := Lib.hid hi
  have G0 := tb_box w lv A n c
  have S0 : (w.alloc (.cells #[.int .i64 lv, .slice A n c] 24)).heap.size = w.heap.size + 1 := by simp
  have R0 := tb_new (w.alloc (.cells #[.int .i64 lv, .slice A n c] 24)) 0 none 0 0
  have G1 := tb_box (w.alloc (.cells #[.int .i64 lv, .slice A n c] 24)) 0 none 0 0
  rw [S0] at R0
  have T0 := (tb_new w lv A n c).past G1
  have t0 := T0.c0
  have t1 := T0.c1
  have HT0 := Lib.hid T0
  have HR0 := Lib.hid R0
  have B0 := Lib.hid (below_bs G0 G1)
  clear hm hp hk
  clear hi G0 G1 S0 R0 T0
  go_enter Try.func42, Try.ntmps42
  go_upto_region 1 with fail
  generalize ((w.alloc (.cells #[.int .i64 lv, .slice A n c] 24)).alloc (.cells #[.int .i64 0, .slice none 0 0] 24)) = w0 at *
  have HGR : Hid (w.heap.size ≤ w.heap.size + 1) := Lib.hid (Nat.le_succ _)
  have HNE : Hid (w.heap.size ≠ w.heap.size + 1) := Lib.hid (by omega)
  generalize w.heap.size + 1 = gr at *
  have HWW : Hid (w.heap.size ≤ w0.heap.size) := Lib.hid B0.out.size
  have R1 := HR0
  go_wp2_with fail
  refine (Twin_any lv A n c fl w0 (HI.out.past B0.out) HNM.out).mono ?_
  rintro e w3 ⟨A3, c3, rfl, o3, i3, b3⟩
  have O3 : Hid (OwnS w3 w0.heap.size (.slice A3 n c3) n fl) := Lib.hid (by
    rcases o3 with h | h
    · have := HPN.out; omega
    · exact h)
  have B3 := Lib.hid (below_bs B0.out b3)
  have R3 := Lib.hid (HR0.out.past b3)
  have HSZ := Lib.hid b3.size
  clear o3 i3 b3 t0 t1 HT0 HI B0
  have HGF : Hid (∃ g, A3 = some ⟨g, 0, none⟩ ∧ w0.heap.size ≤ g) := Lib.hid (by
    obtain ⟨g, e, h1, h2⟩ := O3.out.form HPN.out; exact ⟨g, e, h1⟩)
  obtain ⟨g, rfl, hg⟩ := HGF.out
  have HG := Lib.hid hg
  have G4 := tb_box w3 lv (some ⟨g, 0, none⟩) n c3
  have T4 := Lib.hid (tb_new w3 lv (some ⟨g, 0, none⟩) n c3)
  have O4 := Lib.hid (O3.out.past G4)
  have R4 := Lib.hid (R3.out.past G4)
  have B4 := Lib.hid (below_bs B3.out G4)
  have HW3 : Hid (w0.heap.size ≤ w3.heap.size ∧ gr < w0.heap.size ∧ g < w3.heap.size) := Lib.hid ⟨HSZ.out, Lies.lt R1.out, by
    obtain ⟨g', e, h1, h2⟩ := O3.out.form HPN.out
    injection e with e; injection e with e; rw [e]; exact h2⟩
  clear hg HGF G4 R3 B3 O3
  go_upto_region 2 with fail
  generalize (w3.alloc (.cells #[.int .i64 lv, .slice (some ⟨g, 0, none⟩) n c3] 24)) = w4 at *
  generalize hgt : w3.heap.size = gt at *
  have t5 := T4.out.c1
  have hlen := O4.out.len
  have hcl := O4.out.cell (16 * pn + 1 + kn) (by rw [hlen]; have := HP1.out; omega)
  have hfr := O4.out.frozen (16 * pn + 1 + kn)
  rw [show 16 * pn + 1 + kn = pn * 16 + 1 + kn by omega] at hcl hfr
  generalize fl.getD (pn * 16 + 1 + kn) 0 = oldv at *
  clear hlen
  go_upto_region 3 with fail
  have O5 := Lib.hid (O4.out.store (pn * 16 + 1 + kn) x)
  have hne1 : g ≠ gt := by have := HW3.out; omega
  have hne2 : g ≠ gr := by have := HW3.out; have := HG.out; omega
  have T5 := Lib.hid (tb_own (g := 0) T4.out ⟨g, pn * 16 + 1 + kn, none⟩ hne1 (.int .u8 x))
  have R5 := Lib.hid (tb_own (g := 0) R4.out ⟨g, pn * 16 + 1 + kn, none⟩ hne2 (.int .u8 x))
  have B5 := Lib.hid (Below.setCell B4.out (p := ⟨g, pn * 16 + 1 + kn, none⟩) (by have := HW3.out; have := HG.out; have := HWW.out; simp; omega) (.int .u8 x))
  clear T4 R4 B4 O4 hcl hfr t5
  generalize (w4.setCell ⟨g, pn * 16 + 1 + kn, none⟩ (.int .u8 x)) = w5 at *
  have u0 := T5.out.c0
  have u1 := T5.out.c1
  have z0 := R5.out.c0
  have z1 := R5.out.c1
  have z2 := R5.out.f0
  have z3 := R5.out.f1
  have R9 := Lib.hid (tb_set (lv := lv) (A := some ⟨g, 0, none⟩) (n := n) (c := c3) R5.out)
  have r0 := R9.out.c0
  have r1 := R9.out.c1
  go_wp2_with fail
  refine bodyPost_ret (by simp [results, Try.results42, go_sem, r0, r1]; try rfl) rfl ?_
  exact ⟨some ⟨g, 0, none⟩, c3, rfl, (own_other (own_other (O5.out.mono (by have := HWW.out; omega)) ⟨gr, 0, none⟩ (fun e => hne2 e.symm) _) ⟨gr, 1, none⟩ (fun e => hne2 e.symm) _), below_set2 B5.out HGR.out _ _⟩
end Go.Proofs.Ytkklmclnjmafaaa.slW
