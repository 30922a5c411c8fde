/- Bit, by a walk. -/
import Derived.Test.YtkklmclnjmafaaaSlW5
namespace Go.Proofs.Ytkklmclnjmafaaa.slP
set_option maxRecDepth 100000
def bitE (lv : Int) (n : Nat) (fl : List Int) (p k x : Int) : Int := if atE lv n fl p k = 0 then (if x ≤ 1 then 0 else 2) else atE lv n fl p k
def bitT (lv : Int) (n : Nat) (fl : List Int) (p k x : Int) : TV := if bitE lv n fl p k x = 0 then wiT lv n fl p k (stP.sNext (stA fl p.toNat (k.toNat - 1)) x) else zT
theorem bit_ok {lv : Int} {n : Nat} {fl : List Int} {p k x : Int} (h : atE lv n fl p k = 0) (hx : x ≤ 1) : bitE lv n fl p k x = 0 ∧ bitT lv n fl p k x = wiT lv n fl p k (stP.sNext (stA fl p.toNat (k.toNat - 1)) x) := by
  have e : bitE lv n fl p k x = 0 := by rw [bitE, if_pos h, if_pos hx]
  exact ⟨e, if_pos e⟩
theorem bit_arg {lv : Int} {n : Nat} {fl : List Int} {p k x : Int} (h : atE lv n fl p k = 0) (hx : ¬ x ≤ 1) : bitE lv n fl p k x = 2 ∧ bitT lv n fl p k x = zT := by
  have e : bitE lv n fl p k x = 2 := by rw [bitE, if_pos h, if_neg hx]
  exact ⟨e, if_neg (by rw [e]; decide)⟩
theorem bit_bad {lv : Int} {n : Nat} {fl : List Int} {p k x : Int} (h : ¬ atE lv n fl p k = 0) : bitE lv n fl p k x = atE lv n fl p k ∧ bitT lv n fl p k x = zT := by
  have e : bitE lv n fl p k x = atE lv n fl p k := by rw [bitE, if_neg h]
  exact ⟨e, if_neg (by rw [e]; exact h)⟩
end Go.Proofs.Ytkklmclnjmafaaa.slP
namespace Go.Proofs.Ytkklmclnjmafaaa.slW
set_option maxRecDepth 100000
open Go.RowKit Go.Proofs.Ytkklmclnjmafaaa.base Go.Proofs.Ytkklmclnjmafaaa.slP
set_option linter.unusedVariables false
set_option linter.unusedSimpArgs false
set_option maxHeartbeats 1600000 in
theorem Bit_any (lv : Int) (A : Option Addr) (n c : Nat) (fl : List Int) (p k x : Int) (w : World) (l1 : -9223372036854775808 ≤ lv) (l2 : lv ≤ 9223372036854775807) (hi : InS w A n c fl) (x0 : 0 ≤ x) (x1 : x ≤ 255) :
    Calls Try.prog 14 #[.agg #[.int .i64 lv, .slice A n c], .int .i64 p, .int .i64 k, .int .u8 x] w fun e w' => ∃ A' c', e = .returned (.tuple #[.agg #[.int .i64 (bitT lv n fl p k x).lv, .slice A' (bitT lv n fl p k x).n c'], .int .i64 (bitE lv n fl p k x)]) ∧ OwnS w' w.heap.size (.slice A' (bitT lv n fl p k x).n c') (bitT lv n fl p k x).n (bitT lv n fl p k x).fl ∧ Below w.heap.size w w' := by
  have n9 : (n : Int) ≤ 9223372036854775807 := by have := hi.c1; have := hi.c2; omega
  have HI := Lib.hid hi
  have G0 := tb_box w lv A n c
  have S0 : (w.alloc (.cells #[.int .i64 lv, .slice A n c] 24)).heap.size = w.heap.size + 1 := by simp
  have R0 := tb_new (w.alloc (.cells #[.int .i64 lv, .slice A n c] 24)) 0 none 0 0
  have G1 := tb_box (w.alloc (.cells #[.int .i64 lv, .slice A n c] 24)) 0 none 0 0
  rw [S0] at R0
  have T0 := (tb_new w lv A n c).past G1
  have t0 := T0.c0
  have t1 := T0.c1
  have HT0 := Lib.hid T0
  have HR0 := Lib.hid R0
  have B0 := Lib.hid (below_bs G0 G1)
  clear hi G0 G1 S0 R0 T0
  go_enter Try.func14, Try.ntmps14
  go_upto_region 1 with fail
  generalize ((w.alloc (.cells #[.int .i64 lv, .slice A n c] 24)).alloc (.cells #[.int .i64 0, .slice none 0 0] 24)) = w0 at *
  have HGR : Hid (w.heap.size ≤ w.heap.size + 1) := Lib.hid (Nat.le_succ _)
  have HNE : Hid (w.heap.size ≠ w.heap.size + 1) := Lib.hid (by omega)
  generalize w.heap.size + 1 = gr at *
  go_wp2_with fail
  refine (checkAt_any lv A n c fl p k w0 l1 l2 (HI.out.past B0.out)).mono ?_
  rintro e w1 ⟨rfl, b1⟩
  have B1 := Lib.hid (below_bs B0.out b1)
  have T1 := Lib.hid (HT0.out.past b1)
  have R1 := Lib.hid (HR0.out.past b1)
  have HI1 := Lib.hid ((HI.out.past B0.out).past b1)
  have HWW : Hid (w.heap.size ≤ w1.heap.size) := Lib.hid B1.out.size
  clear t0 t1 HT0 HR0 B0 b1 HI
  by_cases hz : atE lv n fl p k = 0
  · rw [hz]
    have hp := (at_zero hz).2
    unfold posB at hp
    obtain ⟨pn, rfl⟩ := Int.eq_ofNat_of_zero_le hp.1
    obtain ⟨kn, hk⟩ : ∃ kn : Nat, k = (kn : Int) + 1 := ⟨(k - 1).toNat, by omega⟩
    subst hk
    have p1 : (pn : Int) < n := by omega
    have k1 : (kn : Int) < 15 := by omega
    have j1 : IntKind.i64.wrap ((kn : Int) + 1 - 1) = (kn : Int) := by
      rw [show (kn : Int) + 1 - 1 = (kn : Int) by omega]; exact IntWalk.i64_in _ (by omega)
    have j2 : IntKind.i64.wrap (kn : Int) = (kn : Int) := IntWalk.i64_in _ (by omega)
    have HP1 : Hid (pn < n ∧ kn < 15) := Lib.hid (by omega)
    have HPN : Hid (0 < n) := Lib.hid (by omega)
    have HNM : Hid (n ≤ 1000000) := Lib.hid (by
      have h := ((ok_iff lv n fl).1 (at_zero hz).1)
      have := sz_le h.1.2; omega)
    have HS193 : Hid (stA fl pn kn < 193) := Lib.hid (((ok_iff lv n fl).1 (at_zero hz).1).2.2 pn HP1.out.1 kn HP1.out.2)
    have HSB : Hid (0 ≤ stA fl pn kn ∧ stA fl pn kn ≤ 255) := Lib.hid (HI1.out.bd _)
    have HZ := Lib.hid hz
    have q1 := T1.out.c1
    obtain ⟨b, off, hA, hb, hc⟩ := HI1.out.at_ HPN.out
    have hcl := hc (16 * pn + 1 + kn) (by have := HP1.out; omega)
    rw [show off + (16 * pn + 1 + kn) = off + pn * 16 + 1 + kn by omega, show fl.getD (16 * pn + 1 + kn) 0 = stA fl pn kn from rfl] at hcl
    subst hA
    obtain ⟨s, hs⟩ : ∃ s, stA fl pn kn = s := ⟨_, rfl⟩
    rw [hs] at hcl HS193 HSB
    have HSE := Lib.hid hs
    clear hz hp hc hs hb
    go_wp2_with fail
    refine (stW.NextS_any s x w1 HSB.out.1 HSB.out.2 x0 x1).mono ?_
    rintro e w2 ⟨rfl, b2⟩
    have B2 := Lib.hid (below_bs B1.out b2)
    have T2 := Lib.hid (T1.out.past b2)
    have R2 := Lib.hid (R1.out.past b2)
    have HI2 := Lib.hid (HI1.out.past b2)
    clear b2 hcl q1 T1 R1 HI1 B1
    by_cases hx : x ≤ 1
    · have HS := Lib.hid (bit_ok (x := x) HZ.out hx)
      rw [show stP.stE s x = 0 by rw [stP.stE, if_pos HS193.out, if_pos hx], show stP.stN s x = stP.sNext s x by rw [stP.stN, if_pos HS193.out, if_pos hx]]
      obtain ⟨v, hv⟩ : ∃ v, stP.sNext s x = v := ⟨_, rfl⟩
      rw [hv]
      have HVE := Lib.hid hv
      clear hv
      have q0 := T2.out.c0
      have q1 := T2.out.c1
      clear hx
      go_wp2_with fail
      refine (clone_any lv (some ⟨b, off, none⟩) n c fl w2 HI2.out HNM.out HPN.out).mono ?_
      rintro e w3 ⟨g3, c3, rfl, o3, b3⟩
      obtain ⟨A3, hA3⟩ : ∃ A3, A3 = some (⟨g3, 0, none⟩ : Addr) := ⟨_, rfl⟩
      rw [← hA3] at o3 ⊢
      have O3 := Lib.hid o3
      have B3 := Lib.hid (below_bs B2.out b3)
      have R3 := Lib.hid (R2.out.past b3)
      have HSZ := Lib.hid b3.size
      have HW12 : Hid (w.heap.size ≤ w2.heap.size) := Lib.hid B2.out.size
      clear hA3 o3 b3 q0 q1 T2
      have HGF : Hid (∃ g, A3 = some ⟨g, 0, none⟩ ∧ w2.heap.size ≤ g) := Lib.hid (by
        obtain ⟨g, e, h1, h2⟩ := O3.out.form HPN.out; exact ⟨g, e, h1⟩)
      obtain ⟨g, rfl, hg⟩ := HGF.out
      have HG := Lib.hid hg
      have G4 := tb_box w3 lv (some ⟨g, 0, none⟩) n c3
      have T4 := Lib.hid (tb_new w3 lv (some ⟨g, 0, none⟩) n c3)
      have O4 := Lib.hid (O3.out.past G4)
      have R4 := Lib.hid (R3.out.past G4)
      have B4 := Lib.hid (below_bs B3.out G4)
      have HW3 : Hid (w2.heap.size ≤ w3.heap.size ∧ gr < w2.heap.size ∧ g < w3.heap.size) := Lib.hid ⟨HSZ.out, Lies.lt R2.out, by
        obtain ⟨g', e, h1, h2⟩ := O3.out.form HPN.out
        injection e with e; injection e with e; rw [e]; exact h2⟩
      clear hg HGF G4 R3 B3 O3
      go_upto_region 8 with fail
      generalize (w3.alloc (.cells #[.int .i64 lv, .slice (some ⟨g, 0, none⟩) n c3] 24)) = w4 at *
      generalize hgt : w3.heap.size = gt at *
      have t5 := T4.out.c1
      have hlen := O4.out.len
      have hcl := O4.out.cell (16 * pn + 1 + kn) (by rw [hlen]; have := HP1.out; omega)
      have hfr := O4.out.frozen (16 * pn + 1 + kn)
      rw [show 16 * pn + 1 + kn = pn * 16 + 1 + kn by omega] at hcl hfr
      generalize fl.getD (pn * 16 + 1 + kn) 0 = oldv at *
      clear hlen
      go_upto_region 9 with fail
      have O5 := Lib.hid (O4.out.store (pn * 16 + 1 + kn) v)
      have hne1 : g ≠ gt := by have := HW3.out; omega
      have hne2 : g ≠ gr := by have := HW3.out; have := HG.out; omega
      have T5 := Lib.hid (tb_own (g := 0) T4.out ⟨g, pn * 16 + 1 + kn, none⟩ hne1 (.int .u8 v))
      have R5 := Lib.hid (tb_own (g := 0) R4.out ⟨g, pn * 16 + 1 + kn, none⟩ hne2 (.int .u8 v))
      have B5 := Lib.hid (Below.setCell B4.out (p := ⟨g, pn * 16 + 1 + kn, none⟩) (by have := HW3.out; have := HG.out; have := HW12.out; have := HWW.out; simp; omega) (.int .u8 v))
      clear T4 R4 B4 O4 hcl hfr t5
      generalize (w4.setCell ⟨g, pn * 16 + 1 + kn, none⟩ (.int .u8 v)) = w5 at *
      have u0 := T5.out.c0
      have u1 := T5.out.c1
      have z0 := R5.out.c0
      have z1 := R5.out.c1
      have z2 := R5.out.f0
      have z3 := R5.out.f1
      have R9 := Lib.hid (tb_set (lv := lv) (A := some ⟨g, 0, none⟩) (n := n) (c := c3) R5.out)
      have r0 := R9.out.c0
      have r1 := R9.out.c1
      go_wp2_with fail
      refine bodyPost_ret (by simp [results, Try.results14, go_sem, r0, r1]; try rfl) rfl ?_
      have HW : Hid (wiT lv n fl (pn : Int) ((kn : Int) + 1) (stP.sNext (stA fl (pn : Int).toNat (((kn : Int) + 1).toNat - 1)) x) = ⟨lv, n, fl.set (pn * 16 + 1 + kn) v⟩) := Lib.hid (by unfold wiT; rw [show 16 * (pn : Int).toNat + 1 + (((kn : Int) + 1).toNat - 1) = pn * 16 + 1 + kn by omega, show (pn : Int).toNat = pn by omega, show ((kn : Int) + 1).toNat - 1 = kn by omega, HSE.out, HVE.out])
      exact ⟨some ⟨g, 0, none⟩, c3, by rw [HS.out.1, HS.out.2, HW.out], by rw [HS.out.2, HW.out]; exact (own_other (own_other (O5.out.mono (by have := HW12.out; omega)) ⟨gr, 0, none⟩ (fun e => hne2 e.symm) _) ⟨gr, 1, none⟩ (fun e => hne2 e.symm) _), below_set2 B5.out HGR.out _ _⟩

    · have HS := Lib.hid (bit_arg (x := x) HZ.out hx)
      rw [show stP.stE s x = 2 by rw [stP.stE, if_pos HS193.out, if_neg hx]]
      have z0 := R2.out.c0
      have z1 := R2.out.c1
      have z2 := R2.out.f0
      have z3 := R2.out.f1
      have R9 := Lib.hid (tb_set (lv := 0) (A := none) (n := 0) (c := 0) R2.out)
      have r0 := R9.out.c0
      have r1 := R9.out.c1
      go_wp2_with fail
      refine bodyPost_ret (by simp [results, Try.results14, go_sem, r0, r1]; try rfl) rfl ?_
      exact ⟨none, 0, by rw [HS.out.1, HS.out.2]; rfl, by rw [HS.out.2]; exact own_zero _ _, below_set2 B2.out HGR.out _ _⟩
  · have HS0 := bit_bad (x := x) hz
    obtain ⟨e, he⟩ : ∃ e, atE lv n fl p k = e := ⟨_, rfl⟩
    rw [he] at hz HS0 ⊢
    have HS := Lib.hid HS0
    have hz' : (e == 0) = false := by simpa using hz
    clear he hz HS0
    have z0 := R1.out.c0
    have z1 := R1.out.c1
    have z2 := R1.out.f0
    have z3 := R1.out.f1
    have R9 := Lib.hid (tb_set (lv := 0) (A := none) (n := 0) (c := 0) R1.out)
    have r0 := R9.out.c0
    have r1 := R9.out.c1
    go_wp2_with fail
    refine bodyPost_ret (by simp [results, Try.results14, go_sem, r0, r1]; try rfl) rfl ?_
    exact ⟨none, 0, by rw [HS.out.1, HS.out.2]; rfl, by rw [HS.out.2]; exact own_zero _ _, below_set2 B1.out HGR.out _ _⟩
end Go.Proofs.Ytkklmclnjmafaaa.slW
