/- The reference's Check; copies of tables, by walks. -/
import Derived.Test.YtkklmclnjmafaaaSlW
import Derived.Test.YtkklmclnjmafaaaStW3
import Derived.WalkSpells
import Derived.Outline
namespace Go.Proofs.Ytkklmclnjmafaaa.slW
set_option maxRecDepth 100000
open Go.RowKit Go.Proofs.Ytkklmclnjmafaaa.base Go.Proofs.Ytkklmclnjmafaaa.slP
set_option linter.unusedVariables false
set_option linter.unusedSimpArgs false
set_option maxRecDepth 100000 in
set_option maxHeartbeats 1600000 in
theorem rCheck (lv : Int) (A : Option Addr) (n c : Nat) (fl : List Int) (w : World) (l1 : -9223372036854775808 ≤ lv) (l2 : lv ≤ 9223372036854775807) (hi : InS w A n c fl) :
    Calls Try.prog 21 #[.agg #[.int .i64 lv, .slice A n c]] w fun e w' => e = .returned (.int .i64 (okE lv n fl)) ∧ Below w.heap.size w w' := by
  have n9 : (n : Int) ≤ 9223372036854775807 := by have := hi.c1; have := hi.c2; omega
  have HI := Lib.hid hi
  have T0 := Lib.hid (tb_new w lv A n c)
  have B0 := Lib.hid (tb_box w lv A n c)
  have HY : Hid ((0 ≤ lv ∧ lv ≤ 7) ∧ n = szN lv ∧ (∀ i, i < n → ∀ k, k < 15 → stA fl i k < 193) → okE lv n fl = 0) := Lib.hid (fun ⟨a, b, c⟩ => okE_yes a b c)
  have HX : Hid (¬ ((0 ≤ lv ∧ lv ≤ 7) ∧ n = szN lv ∧ ∀ i, i < n → ∀ k, k < 15 → stA fl i k < 193) → okE lv n fl = 8) := Lib.hid okE_no
  clear hi
  go_enter Try.func21, Try.ntmps21
  go_upto_region 1 with fail
  generalize (w.alloc (.cells #[.int .i64 lv, .slice A n c] 24)) = w0 at *
  by_cases hl : 0 ≤ lv ∧ lv ≤ 7
  · have HLV := Lib.hid hl
    have hlv := lv_yes hl.1 hl.2
    obtain ⟨s, hs⟩ : ∃ s, szN lv = s := ⟨_, rfl⟩
    have HSZ := Lib.hid hs
    have HSL : Hid (16 ≤ s ∧ s ≤ 2048) := Lib.hid (by rw [← hs]; exact sz_le hl.2)
    have HLB := Lib.hid hlv
    clear hl hlv hs
    by_cases hn : n = s
    · subst hn
      (have RD := grows_roads (S := fun x' => Below w0.heap.size w0 x') (fun a b h1 h2 => below_bs h2 h1)); refine region_ord _ Grows RD (Below.drew (Below.refl w0.heap.size w0)) (by kernel_rfl) ?_; intro ops Q' hops hPQ hN; (have HNS : Hid (Region.noSelect ops = true) := Lib.hid (by rw [hops]; kernel_rfl)); (have hsz : ops.size = 13 := (by rw [hops]; rfl)); have HOP := Lib.hid hops; have HPQ := Lib.hid hPQ; have HN := Lib.hid hN; rw [hsz]; clear hops hsz hPQ hN
      refine ord_take RD 0 (at_list (by rw [HOP.out]; rfl)) HNS.out HPQ.out (by rw [HOP.out]; kernel_rfl) (by rw [HOP.out]; kernel_rfl) (by rw [HOP.out]; rfl) (fun K hK => ?_); apply Exists.intro; refine ⟨fun W hSW => ?_, hK _ ?_⟩; (focus ((try dsimp only at hSW); go_simp; try with_reducible rfl)); clear hK K; (try simp only [Act.put, List.setIfInBounds_toArray, List.set_cons_zero, List.set_cons_succ])
      refine ord_take RD 1 (at_list (by rw [HOP.out]; rfl)) HNS.out HPQ.out (by rw [HOP.out]; kernel_rfl) (by rw [HOP.out]; kernel_rfl) (by rw [HOP.out]; rfl) (fun K hK => ?_); apply Exists.intro; refine ⟨fun W hSW => ?_, hK _ ?_⟩; (focus ((try dsimp only at hSW); (have z := (T0.out.past hSW).c0); go_simp; try with_reducible rfl)); clear hK K; (try simp only [Act.put, List.setIfInBounds_toArray, List.set_cons_zero, List.set_cons_succ])
      refine ord_take RD 2 (at_list (by rw [HOP.out]; rfl)) HNS.out HPQ.out (by rw [HOP.out]; kernel_rfl) (by rw [HOP.out]; kernel_rfl) (by rw [HOP.out]; rfl) (fun K hK => ?_); apply Exists.intro; refine ⟨fun W hSW => ?_, hK _ ?_⟩; (focus ((try dsimp only at hSW); go_simp; exact (rLevel lv W true HLB.out))); clear hK K; (try simp only [Act.put, List.setIfInBounds_toArray, List.set_cons_zero, List.set_cons_succ])
      refine ord_take RD 3 (at_list (by rw [HOP.out]; rfl)) HNS.out HPQ.out (by rw [HOP.out]; kernel_rfl) (by rw [HOP.out]; kernel_rfl) (by rw [HOP.out]; rfl) (fun K hK => ?_); apply Exists.intro; refine ⟨fun W hSW => ?_, hK _ ?_⟩; (focus ((try dsimp only at hSW); go_simp; try with_reducible rfl)); clear hK K; (try simp only [Act.put, List.setIfInBounds_toArray, List.set_cons_zero, List.set_cons_succ])
      refine ord_take RD 4 (at_list (by rw [HOP.out]; rfl)) HNS.out HPQ.out (by rw [HOP.out]; kernel_rfl) (by rw [HOP.out]; kernel_rfl) (by rw [HOP.out]; rfl) (fun K hK => ?_); apply Exists.intro; refine ⟨fun W hSW => ?_, hK _ ?_⟩; (focus ((try dsimp only at hSW); go_simp; try with_reducible rfl)); clear hK K; (try simp only [Act.put, List.setIfInBounds_toArray, List.set_cons_zero, List.set_cons_succ])
      refine ord_take RD 5 (at_list (by rw [HOP.out]; rfl)) HNS.out HPQ.out (by rw [HOP.out]; kernel_rfl) (by rw [HOP.out]; kernel_rfl) (by rw [HOP.out]; rfl) (fun K hK => ?_); apply Exists.intro; refine ⟨fun W hSW => ?_, hK _ ?_⟩; (focus ((try dsimp only at hSW); go_simp; try with_reducible rfl)); clear hK K; (try simp only [Act.put, List.setIfInBounds_toArray, List.set_cons_zero, List.set_cons_succ])
      refine ord_take RD 6 (at_list (by rw [HOP.out]; rfl)) HNS.out HPQ.out (by rw [HOP.out]; kernel_rfl) (by rw [HOP.out]; kernel_rfl) (by rw [HOP.out]; rfl) (fun K hK => ?_); apply Exists.intro; refine ⟨fun W hSW => ?_, hK _ ?_⟩; (focus ((try dsimp only at hSW); (have z := (T0.out.past hSW).c1); go_simp; try with_reducible rfl)); clear hK K; (try simp only [Act.put, List.setIfInBounds_toArray, List.set_cons_zero, List.set_cons_succ])
      refine ord_take RD 7 (at_list (by rw [HOP.out]; rfl)) HNS.out HPQ.out (by rw [HOP.out]; kernel_rfl) (by rw [HOP.out]; kernel_rfl) (by rw [HOP.out]; rfl) (fun K hK => ?_); apply Exists.intro; refine ⟨fun W hSW => ?_, hK _ ?_⟩; (focus ((try dsimp only at hSW); go_simp; try with_reducible rfl)); clear hK K; (try simp only [Act.put, List.setIfInBounds_toArray, List.set_cons_zero, List.set_cons_succ])
      refine ord_take RD 8 (at_list (by rw [HOP.out]; rfl)) HNS.out HPQ.out (by rw [HOP.out]; kernel_rfl) (by rw [HOP.out]; kernel_rfl) (by rw [HOP.out]; rfl) (fun K hK => ?_); apply Exists.intro; refine ⟨fun W hSW => ?_, hK _ ?_⟩; (focus ((try dsimp only at hSW); go_simp; try with_reducible rfl)); clear hK K; (try simp only [Act.put, List.setIfInBounds_toArray, List.set_cons_zero, List.set_cons_succ])
      refine ord_take RD 9 (at_list (by rw [HOP.out]; rfl)) HNS.out HPQ.out (by rw [HOP.out]; kernel_rfl) (by rw [HOP.out]; kernel_rfl) (by rw [HOP.out]; rfl) (fun K hK => ?_); apply Exists.intro; refine ⟨fun W hSW => ?_, hK _ ?_⟩; (focus ((try dsimp only at hSW); (have z := (T0.out.past hSW).c0); go_simp; try with_reducible rfl)); clear hK K; (try simp only [Act.put, List.setIfInBounds_toArray, List.set_cons_zero, List.set_cons_succ])
      refine ord_take RD 10 (at_list (by rw [HOP.out]; rfl)) HNS.out HPQ.out (by rw [HOP.out]; kernel_rfl) (by rw [HOP.out]; kernel_rfl) (by rw [HOP.out]; rfl) (fun K hK => ?_); apply Exists.intro; refine ⟨fun W hSW => ?_, hK _ ?_⟩; (focus ((try dsimp only at hSW); go_simp; exact (rSize lv n W HLV.out.1 HLV.out.2 HSZ.out))); clear hK K; (try simp only [Act.put, List.setIfInBounds_toArray, List.set_cons_zero, List.set_cons_succ])
      refine ord_take RD 11 (at_list (by rw [HOP.out]; rfl)) HNS.out HPQ.out (by rw [HOP.out]; kernel_rfl) (by rw [HOP.out]; kernel_rfl) (by rw [HOP.out]; rfl) (fun K hK => ?_); apply Exists.intro; refine ⟨fun W hSW => ?_, hK _ ?_⟩; (focus ((try dsimp only at hSW); go_simp; try with_reducible rfl)); clear hK K; (try simp only [Act.put, List.setIfInBounds_toArray, List.set_cons_zero, List.set_cons_succ])
      refine ord_take RD 12 (at_list (by rw [HOP.out]; rfl)) HNS.out HPQ.out (by rw [HOP.out]; kernel_rfl) (by rw [HOP.out]; kernel_rfl) (by rw [HOP.out]; rfl) (fun K hK => ?_); apply Exists.intro; refine ⟨fun W hSW => ?_, hK _ ?_⟩; (focus ((try dsimp only at hSW); go_simp; try with_reducible rfl)); clear hK K; (try simp only [Act.put, List.setIfInBounds_toArray, List.set_cons_zero, List.set_cons_succ])
      refine ord_done (by rw [HOP.out]; kernel_rfl) (fun wo hWW hSW => HN.out _ _ ?_); clear HOP HNS HPQ HN RD; (try dsimp only at hSW)
      have B1 := Lib.hid (below_bs B0.out hSW)
      have T1 := Lib.hid (T0.out.past hSW)
      have HI1 := Lib.hid (HI.out.past B1.out)
      clear hSW hWW B0 T0 HI
      obtain ⟨b, off, rfl, hb, hc⟩ := HI1.out.at_ (by have := HSL.out; omega)
      have HC := Lib.hid hc
      have t1 := T1.out.c1
      clear hc
      go_wp2_with fail
      go_loopw [3] (fun iv wr => ∃ i : Nat, i ≤ n ∧ iv = .int .i64 i ∧ (∀ j, j < i → ∀ k, k < 15 → stA fl j k < 193) ∧ wr = wo) (fun iv _ => n - (intOf iv).toNat)
      case atStart => exact ⟨0, by omega, rfl, fun j hj => absurd hj (by omega), rfl⟩
      case round =>
        obtain ⟨i, hi, rfl, hro, rfl⟩ := hrel
        have HRO := Lib.hid hro
        by_cases hlt : i < n
        · have HLT := Lib.hid hlt
          have k1 : (i : Int) < n := by omega
          have HGB : Hid (∀ j, 0 ≤ stA fl i j ∧ stA fl i j ≤ 255) := Lib.hid (fun j => HI1.out.bd _)
          clear hi hro hlt
          go_wp2_with fail
          go_loopw [4] (fun kv wz => ∃ j : Nat, j ≤ 15 ∧ kv = .int .i64 j ∧ (∀ k, k < j → stA fl i k < 193) ∧ wz = wr) (fun kv _ => 15 - (intOf kv).toNat)
          case atStart => exact ⟨0, by omega, rfl, fun j hj => absurd hj (by omega), rfl⟩
          case round =>
            obtain ⟨j, hj, rfl, hup, rfl⟩ := hrel
            have HUP := Lib.hid hup
            by_cases hjt : j < 15
            · have HJ := Lib.hid hjt
              have j1 : (j : Int) < 15 := by omega
              have hcl := HC.out (16 * i + 1 + j) (by have := HLT.out; omega)
              rw [show off + (16 * i + 1 + j) = off + i * 16 + 1 + j by omega, show fl.getD (16 * i + 1 + j) 0 = stA fl i j from rfl] at hcl
              have gb := HGB.out j
              have HNE : Hid (¬ stA fl i j < 193 → okE lv n fl = 8) := Lib.hid (fun h => HX.out (fun x => h (x.2.2 i HLT.out j HJ.out)))
              have HUS : Hid (stA fl i j < 193 → ∀ k, k < j + 1 → stA fl i k < 193) := Lib.hid (fun h k hk => by
                rcases Nat.lt_or_ge k j with h1 | h1
                · exact HUP.out k h1
                · have : k = j := by omega
                  subst this; exact h)
              generalize stA fl i j = y at *
              clear hj hup hjt
              by_cases hy : y < 193
              · have HUQ := Lib.hid (HUS.out hy)
                clear HNE HUS
                go_wp2_with (first | (refine (stW.rState_any y _).mono ?_; rintro e wq ⟨rfl, rfl⟩; rw [decide_eq_true hy]))
                exact ⟨⟨j + 1, by have := HJ.out; omega, by go_num, HUQ.out, by trivial⟩, by simp [intOf]; have := HJ.out; omega⟩
              · have HE := Lib.hid (HNE.out hy)
                clear HNE HUS
                go_wp2_with (first | (refine (stW.rState_any y _).mono ?_; rintro e wq ⟨rfl, rfl⟩; rw [decide_eq_false hy]))
                go_ret
                exact ⟨by rw [HE.out]; rfl, B1.out⟩
            · have HRK : Hid (∀ j', j' < i + 1 → ∀ k, k < 15 → stA fl j' k < 193) := Lib.hid (fun j' hj' k hk => by
                rcases Nat.lt_or_ge j' i with h1 | h1
                · exact HRO.out j' h1 k hk
                · have : j' = i := by omega
                  subst this
                  exact hup k (by omega))
              have j1 : ¬ (j : Int) < 15 := by omega
              clear hj hup hjt
              go_wp2_with fail
              exact ⟨⟨i + 1, by have := HLT.out; omega, by go_num, HRK.out, by trivial⟩, by simp [intOf]; have := HLT.out; omega⟩
        · have HE : Hid (okE lv n fl = 0) := Lib.hid (HY.out ⟨HLV.out, HSZ.out.symm, by
            obtain rfl : i = n := by omega
            exact hro⟩)
          have k1 : ¬ (i : Int) < n := by omega
          clear hi hro hlt
          go_wp2_with fail
          go_ret
          exact ⟨by rw [HE.out]; rfl, B1.out⟩
    · have hne : ((n : Int) == (s : Int)) = false := by simp; omega
      have hnn : ¬ (n : Int) = s := by omega
      have HE : Hid (okE lv n fl = 8) := Lib.hid (HX.out (fun x => hn (by rw [x.2.1]; exact HSZ.out)))
      clear hn
      (have RD := grows_roads (S := fun x' => Below w0.heap.size w0 x') (fun a b h1 h2 => below_bs h2 h1)); refine region_ord _ Grows RD (Below.drew (Below.refl w0.heap.size w0)) (by kernel_rfl) ?_; intro ops Q' hops hPQ hN; (have HNS : Hid (Region.noSelect ops = true) := Lib.hid (by rw [hops]; kernel_rfl)); (have hsz : ops.size = 13 := (by rw [hops]; rfl)); have HOP := Lib.hid hops; have HPQ := Lib.hid hPQ; have HN := Lib.hid hN; rw [hsz]; clear hops hsz hPQ hN
      refine ord_take RD 0 (at_list (by rw [HOP.out]; rfl)) HNS.out HPQ.out (by rw [HOP.out]; kernel_rfl) (by rw [HOP.out]; kernel_rfl) (by rw [HOP.out]; rfl) (fun K hK => ?_); apply Exists.intro; refine ⟨fun W hSW => ?_, hK _ ?_⟩; (focus ((try dsimp only at hSW); go_simp; try with_reducible rfl)); clear hK K; (try simp only [Act.put, List.setIfInBounds_toArray, List.set_cons_zero, List.set_cons_succ])
      refine ord_take RD 1 (at_list (by rw [HOP.out]; rfl)) HNS.out HPQ.out (by rw [HOP.out]; kernel_rfl) (by rw [HOP.out]; kernel_rfl) (by rw [HOP.out]; rfl) (fun K hK => ?_); apply Exists.intro; refine ⟨fun W hSW => ?_, hK _ ?_⟩; (focus ((try dsimp only at hSW); (have z := (T0.out.past hSW).c0); go_simp; try with_reducible rfl)); clear hK K; (try simp only [Act.put, List.setIfInBounds_toArray, List.set_cons_zero, List.set_cons_succ])
      refine ord_take RD 2 (at_list (by rw [HOP.out]; rfl)) HNS.out HPQ.out (by rw [HOP.out]; kernel_rfl) (by rw [HOP.out]; kernel_rfl) (by rw [HOP.out]; rfl) (fun K hK => ?_); apply Exists.intro; refine ⟨fun W hSW => ?_, hK _ ?_⟩; (focus ((try dsimp only at hSW); go_simp; exact (rLevel lv W true HLB.out))); clear hK K; (try simp only [Act.put, List.setIfInBounds_toArray, List.set_cons_zero, List.set_cons_succ])
      refine ord_take RD 3 (at_list (by rw [HOP.out]; rfl)) HNS.out HPQ.out (by rw [HOP.out]; kernel_rfl) (by rw [HOP.out]; kernel_rfl) (by rw [HOP.out]; rfl) (fun K hK => ?_); apply Exists.intro; refine ⟨fun W hSW => ?_, hK _ ?_⟩; (focus ((try dsimp only at hSW); go_simp; try with_reducible rfl)); clear hK K; (try simp only [Act.put, List.setIfInBounds_toArray, List.set_cons_zero, List.set_cons_succ])
      refine ord_take RD 4 (at_list (by rw [HOP.out]; rfl)) HNS.out HPQ.out (by rw [HOP.out]; kernel_rfl) (by rw [HOP.out]; kernel_rfl) (by rw [HOP.out]; rfl) (fun K hK => ?_); apply Exists.intro; refine ⟨fun W hSW => ?_, hK _ ?_⟩; (focus ((try dsimp only at hSW); go_simp; try with_reducible rfl)); clear hK K; (try simp only [Act.put, List.setIfInBounds_toArray, List.set_cons_zero, List.set_cons_succ])
      refine ord_take RD 5 (at_list (by rw [HOP.out]; rfl)) HNS.out HPQ.out (by rw [HOP.out]; kernel_rfl) (by rw [HOP.out]; kernel_rfl) (by rw [HOP.out]; rfl) (fun K hK => ?_); apply Exists.intro; refine ⟨fun W hSW => ?_, hK _ ?_⟩; (focus ((try dsimp only at hSW); go_simp; try with_reducible rfl)); clear hK K; (try simp only [Act.put, List.setIfInBounds_toArray, List.set_cons_zero, List.set_cons_succ])
      refine ord_take RD 6 (at_list (by rw [HOP.out]; rfl)) HNS.out HPQ.out (by rw [HOP.out]; kernel_rfl) (by rw [HOP.out]; kernel_rfl) (by rw [HOP.out]; rfl) (fun K hK => ?_); apply Exists.intro; refine ⟨fun W hSW => ?_, hK _ ?_⟩; (focus ((try dsimp only at hSW); (have z := (T0.out.past hSW).c1); go_simp; try with_reducible rfl)); clear hK K; (try simp only [Act.put, List.setIfInBounds_toArray, List.set_cons_zero, List.set_cons_succ])
      refine ord_take RD 7 (at_list (by rw [HOP.out]; rfl)) HNS.out HPQ.out (by rw [HOP.out]; kernel_rfl) (by rw [HOP.out]; kernel_rfl) (by rw [HOP.out]; rfl) (fun K hK => ?_); apply Exists.intro; refine ⟨fun W hSW => ?_, hK _ ?_⟩; (focus ((try dsimp only at hSW); go_simp; try with_reducible rfl)); clear hK K; (try simp only [Act.put, List.setIfInBounds_toArray, List.set_cons_zero, List.set_cons_succ])
      refine ord_take RD 8 (at_list (by rw [HOP.out]; rfl)) HNS.out HPQ.out (by rw [HOP.out]; kernel_rfl) (by rw [HOP.out]; kernel_rfl) (by rw [HOP.out]; rfl) (fun K hK => ?_); apply Exists.intro; refine ⟨fun W hSW => ?_, hK _ ?_⟩; (focus ((try dsimp only at hSW); go_simp; try with_reducible rfl)); clear hK K; (try simp only [Act.put, List.setIfInBounds_toArray, List.set_cons_zero, List.set_cons_succ])
      refine ord_take RD 9 (at_list (by rw [HOP.out]; rfl)) HNS.out HPQ.out (by rw [HOP.out]; kernel_rfl) (by rw [HOP.out]; kernel_rfl) (by rw [HOP.out]; rfl) (fun K hK => ?_); apply Exists.intro; refine ⟨fun W hSW => ?_, hK _ ?_⟩; (focus ((try dsimp only at hSW); (have z := (T0.out.past hSW).c0); go_simp; try with_reducible rfl)); clear hK K; (try simp only [Act.put, List.setIfInBounds_toArray, List.set_cons_zero, List.set_cons_succ])
      refine ord_take RD 10 (at_list (by rw [HOP.out]; rfl)) HNS.out HPQ.out (by rw [HOP.out]; kernel_rfl) (by rw [HOP.out]; kernel_rfl) (by rw [HOP.out]; rfl) (fun K hK => ?_); apply Exists.intro; refine ⟨fun W hSW => ?_, hK _ ?_⟩; (focus ((try dsimp only at hSW); go_simp; exact (rSize lv s W HLV.out.1 HLV.out.2 HSZ.out))); clear hK K; (try simp only [Act.put, List.setIfInBounds_toArray, List.set_cons_zero, List.set_cons_succ])
      refine ord_take RD 11 (at_list (by rw [HOP.out]; rfl)) HNS.out HPQ.out (by rw [HOP.out]; kernel_rfl) (by rw [HOP.out]; kernel_rfl) (by rw [HOP.out]; rfl) (fun K hK => ?_); apply Exists.intro; refine ⟨fun W hSW => ?_, hK _ ?_⟩; (focus ((try dsimp only at hSW); go_simp; try with_reducible rfl)); clear hK K; (try simp only [Act.put, List.setIfInBounds_toArray, List.set_cons_zero, List.set_cons_succ])
      refine ord_take RD 12 (at_list (by rw [HOP.out]; rfl)) HNS.out HPQ.out (by rw [HOP.out]; kernel_rfl) (by rw [HOP.out]; kernel_rfl) (by rw [HOP.out]; rfl) (fun K hK => ?_); apply Exists.intro; refine ⟨fun W hSW => ?_, hK _ ?_⟩; (focus ((try dsimp only at hSW); go_simp; try with_reducible rfl)); clear hK K; (try simp only [Act.put, List.setIfInBounds_toArray, List.set_cons_zero, List.set_cons_succ])
      refine ord_done (by rw [HOP.out]; kernel_rfl) (fun wo hWW hSW => HN.out _ _ ?_); clear HOP HNS HPQ HN RD; (try dsimp only at hSW)
      have B1 := Lib.hid (below_bs B0.out hSW)
      clear hSW hWW
      go_wp2_with fail
      go_ret
      exact ⟨by rw [HE.out]; rfl, B1.out⟩
  · have HE : Hid (okE lv n fl = 8) := Lib.hid (HX.out (fun x => hl x.1))
    have HLB := Lib.hid (lv_no hl)
    clear hl
    (have RD := grows_roads (S := fun x' => Below w0.heap.size w0 x') (fun a b h1 h2 => below_bs h2 h1)); refine region_ord _ Grows RD (Below.drew (Below.refl w0.heap.size w0)) (by kernel_rfl) ?_; intro ops Q' hops hPQ hN; (have HNS : Hid (Region.noSelect ops = true) := Lib.hid (by rw [hops]; kernel_rfl)); (have hsz : ops.size = 13 := (by rw [hops]; rfl)); have HOP := Lib.hid hops; have HPQ := Lib.hid hPQ; have HN := Lib.hid hN; rw [hsz]; clear hops hsz hPQ hN
    refine ord_take RD 0 (at_list (by rw [HOP.out]; rfl)) HNS.out HPQ.out (by rw [HOP.out]; kernel_rfl) (by rw [HOP.out]; kernel_rfl) (by rw [HOP.out]; rfl) (fun K hK => ?_); apply Exists.intro; refine ⟨fun W hSW => ?_, hK _ ?_⟩; (focus ((try dsimp only at hSW); go_simp; try with_reducible rfl)); clear hK K; (try simp only [Act.put, List.setIfInBounds_toArray, List.set_cons_zero, List.set_cons_succ])
    refine ord_take RD 1 (at_list (by rw [HOP.out]; rfl)) HNS.out HPQ.out (by rw [HOP.out]; kernel_rfl) (by rw [HOP.out]; kernel_rfl) (by rw [HOP.out]; rfl) (fun K hK => ?_); apply Exists.intro; refine ⟨fun W hSW => ?_, hK _ ?_⟩; (focus ((try dsimp only at hSW); (have z := (T0.out.past hSW).c0); go_simp; try with_reducible rfl)); clear hK K; (try simp only [Act.put, List.setIfInBounds_toArray, List.set_cons_zero, List.set_cons_succ])
    refine ord_take RD 2 (at_list (by rw [HOP.out]; rfl)) HNS.out HPQ.out (by rw [HOP.out]; kernel_rfl) (by rw [HOP.out]; kernel_rfl) (by rw [HOP.out]; rfl) (fun K hK => ?_); apply Exists.intro; refine ⟨fun W hSW => ?_, hK _ ?_⟩; (focus ((try dsimp only at hSW); go_simp; exact (rLevel lv W false HLB.out))); clear hK K; (try simp only [Act.put, List.setIfInBounds_toArray, List.set_cons_zero, List.set_cons_succ])
    refine ord_take RD 3 (at_list (by rw [HOP.out]; rfl)) HNS.out HPQ.out (by rw [HOP.out]; kernel_rfl) (by rw [HOP.out]; kernel_rfl) (by rw [HOP.out]; rfl) (fun K hK => ?_); apply Exists.intro; refine ⟨fun W hSW => ?_, hK _ ?_⟩; (focus ((try dsimp only at hSW); go_simp; try with_reducible rfl)); clear hK K; (try simp only [Act.put, List.setIfInBounds_toArray, List.set_cons_zero, List.set_cons_succ])
    refine ord_take RD 4 (at_list (by rw [HOP.out]; rfl)) HNS.out HPQ.out (by rw [HOP.out]; kernel_rfl) (by rw [HOP.out]; kernel_rfl) (by rw [HOP.out]; rfl) (fun K hK => ?_); apply Exists.intro; refine ⟨fun W hSW => ?_, hK _ ?_⟩; (focus ((try dsimp only at hSW); go_simp; try with_reducible rfl)); clear hK K; (try simp only [Act.put, List.setIfInBounds_toArray, List.set_cons_zero, List.set_cons_succ])
    refine ord_skip RD 5 (at_list (by rw [HOP.out]; rfl)) HNS.out HPQ.out (by rw [HOP.out]; kernel_rfl) (by rw [HOP.out]; kernel_rfl) (by rw [HOP.out]; rfl) ?_; (try simp only [Act.put, List.setIfInBounds_toArray, List.set_cons_zero, List.set_cons_succ])
    refine ord_skip RD 6 (at_list (by rw [HOP.out]; rfl)) HNS.out HPQ.out (by rw [HOP.out]; kernel_rfl) (by rw [HOP.out]; kernel_rfl) (by rw [HOP.out]; rfl) ?_; (try simp only [Act.put, List.setIfInBounds_toArray, List.set_cons_zero, List.set_cons_succ])
    refine ord_skip RD 7 (at_list (by rw [HOP.out]; rfl)) HNS.out HPQ.out (by rw [HOP.out]; kernel_rfl) (by rw [HOP.out]; kernel_rfl) (by rw [HOP.out]; rfl) ?_; (try simp only [Act.put, List.setIfInBounds_toArray, List.set_cons_zero, List.set_cons_succ])
    refine ord_skip RD 8 (at_list (by rw [HOP.out]; rfl)) HNS.out HPQ.out (by rw [HOP.out]; kernel_rfl) (by rw [HOP.out]; kernel_rfl) (by rw [HOP.out]; rfl) ?_; (try simp only [Act.put, List.setIfInBounds_toArray, List.set_cons_zero, List.set_cons_succ])
    refine ord_skip RD 9 (at_list (by rw [HOP.out]; rfl)) HNS.out HPQ.out (by rw [HOP.out]; kernel_rfl) (by rw [HOP.out]; kernel_rfl) (by rw [HOP.out]; rfl) ?_; (try simp only [Act.put, List.setIfInBounds_toArray, List.set_cons_zero, List.set_cons_succ])
    refine ord_skip RD 10 (at_list (by rw [HOP.out]; rfl)) HNS.out HPQ.out (by rw [HOP.out]; kernel_rfl) (by rw [HOP.out]; kernel_rfl) (by rw [HOP.out]; rfl) ?_; (try simp only [Act.put, List.setIfInBounds_toArray, List.set_cons_zero, List.set_cons_succ])
    refine ord_skip RD 11 (at_list (by rw [HOP.out]; rfl)) HNS.out HPQ.out (by rw [HOP.out]; kernel_rfl) (by rw [HOP.out]; kernel_rfl) (by rw [HOP.out]; rfl) ?_; (try simp only [Act.put, List.setIfInBounds_toArray, List.set_cons_zero, List.set_cons_succ])
    refine ord_take RD 12 (at_list (by rw [HOP.out]; rfl)) HNS.out HPQ.out (by rw [HOP.out]; kernel_rfl) (by rw [HOP.out]; kernel_rfl) (by rw [HOP.out]; rfl) (fun K hK => ?_); apply Exists.intro; refine ⟨fun W hSW => ?_, hK _ ?_⟩; (focus ((try dsimp only at hSW); go_simp; try with_reducible rfl)); clear hK K; (try simp only [Act.put, List.setIfInBounds_toArray, List.set_cons_zero, List.set_cons_succ])
    refine ord_done (by rw [HOP.out]; kernel_rfl) (fun wo hWW hSW => HN.out _ _ ?_); clear HOP HNS HPQ HN RD; (try dsimp only at hSW)
    have B1 := Lib.hid (below_bs B0.out hSW)
    clear hSW hWW
    go_wp2_with fail
    go_ret
    exact ⟨by rw [HE.out]; rfl, B1.out⟩
set_option maxHeartbeats 400000 in
theorem CloneS {A : Option Addr} {n c : Nat} {fl : List Int} {w : World} (hA : Has .u8 w A fl) (hn : fl.length = n * 16) (hm : n ≤ 1000000) (hp : 0 < n) :
    Calls Try.prog 49 #[.slice A n c] w fun e w' => ∃ g c', e = .returned (.slice (some ⟨g, 0, none⟩) n c') ∧ OwnS w' w.heap.size (.slice (some ⟨g, 0, none⟩) n c') n fl ∧ Below w.heap.size w w' := by
  have HA := Lib.hid hA
  have HP := Lib.hid hp
  have HN := Lib.hid hn
  obtain ⟨b, off, rfl, _, _⟩ := has_some hA (by omega)
  clear hA
  have he : ∀ w : World, (binOp .eql 22 (.slice (some ⟨b, off, none⟩) n c) (.slice none 0 0)).run Try.prog w = .ok (.bool false) w := fun w => Lib.run_eql_slice_nil w 22 31 (some ⟨b, off, none⟩) n c 0 0 Try.underlying22
  go_enter Try.func49, Try.ntmps49
  go_wp2_with (at_builtin; refine cloneS rfl _ _ rfl (some ⟨w.heap.size, 0, none⟩) rfl (some ⟨b, off, none⟩) _ _ fl rfl (HA.out.below ((Below.refl _ _).alloc (Nat.le_refl _) _) (Nat.le_refl _)) HN.out hm ?_; intro A1 c1 w1 hh1 hb1 ho1)
  go_ret
  rcases ho1 with ⟨h0, _⟩ | ho1
  · have := HP.out; omega
  · obtain ⟨g, e1, _, _⟩ := ho1.form HP.out
    subst e1
    exact ⟨g, c1, rfl, ho1.mono (by simp), ((Below.refl _ _).alloc (Nat.le_refl _) _).trans (hb1.mono (by simp))⟩
end Go.Proofs.Ytkklmclnjmafaaa.slW
