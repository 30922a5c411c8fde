/- The reference's Same (of tables that are the same) and Great, by walks. -/
import Derived.Test.YtkklmclnjmafaaaSlE
namespace Go.Proofs.Ytkklmclnjmafaaa.slW
set_option maxRecDepth 100000
open Go.RowKit Go.Proofs.Ytkklmclnjmafaaa.base Go.Proofs.Ytkklmclnjmafaaa.slP
set_option linter.unusedVariables false
set_option linter.unusedSimpArgs false
set_option maxRecDepth 100000
set_option maxHeartbeats 800000 in
theorem Great_any (lv : Int) (A : Option Addr) (n c : Nat) (fl : List Int) (w : World) (hi : InS w A n c fl) :
    Calls Try.prog 18 #[.agg #[.int .i64 lv, .slice A n c]] w fun e w' => e = .returned (.bool (decide ((2100 : Int) < n))) ∧ Below w.heap.size w w' := by
  have n9 : (n : Int) ≤ 9223372036854775807 := by have := hi.c1; have := hi.c2; omega
  have t1 := (tb_new w lv A n c).c1
  have B0 := Lib.hid (tb_box w lv A n c)
  clear hi
  go_enter Try.func18, Try.ntmps18
  go_upto_region 1 with fail
  generalize (w.alloc (.cells #[.int .i64 lv, .slice A n c] 24)) = w0 at *
  go_wp2_with fail
  go_ret
  exact ⟨rfl, B0.out⟩
theorem slot_rng {w : World} {b off n : Nat} {fl : List Int} (hc : ∀ i, i < n * 16 → w.cell? ⟨b, off + i, none⟩ = some (.int .u8 (fl.getD i 0))) (he : fl.length = n * 16) (i : Nat) : w.rangeAt b (off + i * 16) ((slA fl i).map (Value.int .u8)) := by
  have h := rng_part hc he (16 * i) 16
  rw [show off + 16 * i = off + i * 16 by omega] at h
  exact h
theorem InS.rng {w : World} {A : Option Addr} {n c : Nat} {fl : List Int} (k : InS w A n c fl) {b off : Nat} (hA : A = some ⟨b, off, none⟩) (hp : 0 < n) (i : Nat) : w.rangeAt b (off + i * 16) ((slA fl i).map (Value.int .u8)) := by
  obtain ⟨b', off', h1, h2, h3⟩ := k.at_ hp
  rw [hA] at h1
  injection h1 with h1
  injection h1 with h1 h4
  subst h1 h4
  exact slot_rng h3 k.e i
set_option maxHeartbeats 1600000 in
theorem Same_yes (lv : Int) (A B : Option Addr) (n c d : Nat) (fl : List Int) (w : World) (hi : InS w A n c fl) (hj : InS w B n d fl) :
    Calls Try.prog 16 #[.agg #[.int .i64 lv, .slice A n c], .agg #[.int .i64 lv, .slice B n d]] w fun e w' => e = .returned (.bool true) ∧ Below w.heap.size w w' := by
  have n9 : (n : Int) ≤ 9223372036854775807 := by have := hi.c1; have := hi.c2; omega
  have HI := Lib.hid hi
  have HJ := Lib.hid hj
  have G0 := tb_box w lv A n c
  have G1 := tb_box (w.alloc (.cells #[.int .i64 lv, .slice A n c] 24)) lv B n d
  have S0 : (w.alloc (.cells #[.int .i64 lv, .slice A n c] 24)).heap.size = w.heap.size + 1 := by simp
  have R0 := tb_new (w.alloc (.cells #[.int .i64 lv, .slice A n c] 24)) lv B n d
  rw [S0] at R0
  have HT0 := Lib.hid ((tb_new w lv A n c).past G1)
  have HR0 := Lib.hid R0
  have B0 := Lib.hid (below_bs G0 G1)
  clear hi hj G0 G1 S0 R0
  go_enter Try.func16, Try.ntmps16
  go_upto_region 1 with fail
  generalize ((w.alloc (.cells #[.int .i64 lv, .slice A n c] 24)).alloc (.cells #[.int .i64 lv, .slice B n d] 24)) = w0 at *
  generalize w.heap.size + 1 = gr at *
  have t0 := HT0.out.c0
  have t1 := HT0.out.c1
  have r0 := HR0.out.c0
  have r1 := HR0.out.c1
  go_wp2_with fail
  go_loopw [5] (fun iv wz => ∃ i : Nat, i ≤ n ∧ iv = .int .i64 i ∧ Below w0.heap.size w0 wz) (fun iv _ => n - (intOf iv).toNat)
  case atStart => exact ⟨0, by omega, rfl, Below.refl _ _⟩
  case round =>
    obtain ⟨i, hi, rfl, hbz⟩ := hrel
    rename World => wz
    have B1 := Lib.hid (below_bs B0.out hbz)
    have HBZ := Lib.hid hbz
    clear hbz t0 t1 r0 r1
    by_cases hlt : i < n
    · have HLT := Lib.hid hlt
      have k1 : (i : Int) < n := by omega
      have HI1 := Lib.hid (HI.out.past B1.out)
      have HJ1 := Lib.hid (HJ.out.past B1.out)
      have T1 := Lib.hid (HT0.out.past HBZ.out)
      have R1 := Lib.hid (HR0.out.past HBZ.out)
      have HP : Hid (0 < n) := Lib.hid (by omega)
      obtain ⟨b, off, hA, -, -⟩ := HI1.out.at_ HP.out
      obtain ⟨b', off', hB, -, -⟩ := HJ1.out.at_ HP.out
      subst hA hB
      have HL := Lib.hid (slA_len (i := i) HI.out.e hlt)
      have HLB := Lib.hid (slA_bd HI.out.b i)
      have HRA : Hid (∀ W, Below wz.heap.size wz W → W.rangeAt b (off + i * 16) ((slA fl i).map (Value.int .u8))) := Lib.hid (fun W h => (HI1.out.past h).rng rfl HP.out i)
      have HRB : Hid (∀ W, Below wz.heap.size wz W → W.rangeAt b' (off' + i * 16) ((slA fl i).map (Value.int .u8))) := Lib.hid (fun W h => (HJ1.out.past h).rng rfl HP.out i)
      clear hi hlt
      have t1 := T1.out.c1
      go_upto_region 6 with fail
      clear t1
      generalize slA fl i = sl at *
      (have RD := grows_roads (S := fun x' => Below wz.heap.size wz x') (fun a b h1 h2 => below_bs h2 h1)); refine region_ord _ Grows RD (Below.drew (Below.refl wz.heap.size wz)) (by kernel_rfl) ?_; intro ops Q' hops hPQ hN; (have HNS : Hid (Region.noSelect ops = true) := Lib.hid (by rw [hops]; kernel_rfl)); (have hsz : ops.size = 11 := (by rw [hops]; rfl)); have HOP := Lib.hid hops; have HPQ := Lib.hid hPQ; have HN := Lib.hid hN; rw [hsz]; clear hops hsz hPQ hN
      refine ord_take RD 0 (at_list (by rw [HOP.out]; rfl)) HNS.out HPQ.out (by rw [HOP.out]; kernel_rfl) (by rw [HOP.out]; kernel_rfl) (by rw [HOP.out]; rfl) (fun K hK => ?_); apply Exists.intro; refine ⟨fun W hSW => ?_, hK _ ?_⟩; (focus ((try dsimp only at hSW); go_simp; try with_reducible rfl)); clear hK K; (try simp only [Act.put, List.setIfInBounds_toArray, List.set_cons_zero, List.set_cons_succ])
      refine ord_take RD 1 (at_list (by rw [HOP.out]; rfl)) HNS.out HPQ.out (by rw [HOP.out]; kernel_rfl) (by rw [HOP.out]; kernel_rfl) (by rw [HOP.out]; rfl) (fun K hK => ?_); apply Exists.intro; refine ⟨fun W hSW => ?_, hK _ ?_⟩; (focus ((try dsimp only at hSW); (have z := (T1.out.past hSW).c1); go_simp; try with_reducible rfl)); clear hK K; (try simp only [Act.put, List.setIfInBounds_toArray, List.set_cons_zero, List.set_cons_succ])
      refine ord_take RD 2 (at_list (by rw [HOP.out]; rfl)) HNS.out HPQ.out (by rw [HOP.out]; kernel_rfl) (by rw [HOP.out]; kernel_rfl) (by rw [HOP.out]; rfl) (fun K hK => ?_); apply Exists.intro; refine ⟨fun W hSW => ?_, hK _ ?_⟩; (focus ((try dsimp only at hSW); go_simp; try with_reducible rfl)); clear hK K; (try simp only [Act.put, List.setIfInBounds_toArray, List.set_cons_zero, List.set_cons_succ])
      refine ord_take RD 3 (at_list (by rw [HOP.out]; rfl)) HNS.out HPQ.out (by rw [HOP.out]; kernel_rfl) (by rw [HOP.out]; kernel_rfl) (by rw [HOP.out]; rfl) (fun K hK => ?_); apply Exists.intro; refine ⟨fun W hSW => ?_, hK _ ?_⟩; (focus ((try dsimp only at hSW); go_simp; try with_reducible rfl)); clear hK K; (try simp only [Act.put, List.setIfInBounds_toArray, List.set_cons_zero, List.set_cons_succ])
      refine ord_take RD 4 (at_list (by rw [HOP.out]; rfl)) HNS.out HPQ.out (by rw [HOP.out]; kernel_rfl) (by rw [HOP.out]; kernel_rfl) (by rw [HOP.out]; rfl) (fun K hK => ?_); apply Exists.intro; refine ⟨fun W hSW => ?_, hK _ ?_⟩; (focus ((try dsimp only at hSW); exact quiet_slot _ rfl (HRA.out W hSW) (HL.out) rfl)); clear hK K; (try simp only [Act.put, List.setIfInBounds_toArray, List.set_cons_zero, List.set_cons_succ])
      refine ord_take RD 5 (at_list (by rw [HOP.out]; rfl)) HNS.out HPQ.out (by rw [HOP.out]; kernel_rfl) (by rw [HOP.out]; kernel_rfl) (by rw [HOP.out]; rfl) (fun K hK => ?_); apply Exists.intro; refine ⟨fun W hSW => ?_, hK _ ?_⟩; (focus ((try dsimp only at hSW); go_simp; try with_reducible rfl)); clear hK K; (try simp only [Act.put, List.setIfInBounds_toArray, List.set_cons_zero, List.set_cons_succ])
      refine ord_take RD 6 (at_list (by rw [HOP.out]; rfl)) HNS.out HPQ.out (by rw [HOP.out]; kernel_rfl) (by rw [HOP.out]; kernel_rfl) (by rw [HOP.out]; rfl) (fun K hK => ?_); apply Exists.intro; refine ⟨fun W hSW => ?_, hK _ ?_⟩; (focus ((try dsimp only at hSW); (have z := (R1.out.past hSW).c1); go_simp; try with_reducible rfl)); clear hK K; (try simp only [Act.put, List.setIfInBounds_toArray, List.set_cons_zero, List.set_cons_succ])
      refine ord_take RD 7 (at_list (by rw [HOP.out]; rfl)) HNS.out HPQ.out (by rw [HOP.out]; kernel_rfl) (by rw [HOP.out]; kernel_rfl) (by rw [HOP.out]; rfl) (fun K hK => ?_); apply Exists.intro; refine ⟨fun W hSW => ?_, hK _ ?_⟩; (focus ((try dsimp only at hSW); go_simp; try with_reducible rfl)); clear hK K; (try simp only [Act.put, List.setIfInBounds_toArray, List.set_cons_zero, List.set_cons_succ])
      refine ord_take RD 8 (at_list (by rw [HOP.out]; rfl)) HNS.out HPQ.out (by rw [HOP.out]; kernel_rfl) (by rw [HOP.out]; kernel_rfl) (by rw [HOP.out]; rfl) (fun K hK => ?_); apply Exists.intro; refine ⟨fun W hSW => ?_, hK _ ?_⟩; (focus ((try dsimp only at hSW); go_simp; try with_reducible rfl)); clear hK K; (try simp only [Act.put, List.setIfInBounds_toArray, List.set_cons_zero, List.set_cons_succ])
      refine ord_take RD 9 (at_list (by rw [HOP.out]; rfl)) HNS.out HPQ.out (by rw [HOP.out]; kernel_rfl) (by rw [HOP.out]; kernel_rfl) (by rw [HOP.out]; rfl) (fun K hK => ?_); apply Exists.intro; refine ⟨fun W hSW => ?_, hK _ ?_⟩; (focus ((try dsimp only at hSW); exact quiet_slot _ rfl (HRB.out W hSW) (HL.out) rfl)); clear hK K; (try simp only [Act.put, List.setIfInBounds_toArray, List.set_cons_zero, List.set_cons_succ])
      refine ord_take RD 10 (at_list (by rw [HOP.out]; rfl)) HNS.out HPQ.out (by rw [HOP.out]; kernel_rfl) (by rw [HOP.out]; kernel_rfl) (by rw [HOP.out]; rfl) (fun K hK => ?_); apply Exists.intro; refine ⟨fun W hSW => ?_, hK _ ?_⟩; (focus ((try dsimp only at hSW); exact quiet_neq _ _ _ rfl (HL.out) (HLB.out) rfl rfl)); clear hK K; (try simp only [Act.put, List.setIfInBounds_toArray, List.set_cons_zero, List.set_cons_succ])
      refine ord_done (by rw [HOP.out]; kernel_rfl) (fun wo hWW hSW => HN.out _ _ ?_); clear HOP HNS HPQ HN RD; (try dsimp only at hSW)
      have HB2 := Lib.hid (below_bs HBZ.out hSW)
      clear hSW hWW
      go_wp2_with fail
      exact ⟨⟨i + 1, by have := HLT.out; omega, by go_num, HB2.out⟩, by simp [intOf]; have := HLT.out; omega⟩
    · have k1 : ¬ (i : Int) < n := by omega
      have t1 := (HT0.out.past HBZ.out).c1
      clear hi hlt
      go_wp2_with fail
      go_ret
      exact ⟨rfl, B1.out⟩
end Go.Proofs.Ytkklmclnjmafaaa.slW
