/- FilterOnes. -/
import Derived.Test.YtbfodmckgjeoaaaFiR
namespace Go.Proofs.Ytbfodmckgjeoaaa.fiL
set_option maxRecDepth 100000
open Go.RowKit Go.Proofs.Ytbfodmckgjeoaaa.base Go.Proofs.Ytbfodmckgjeoaaa.fiP Go.Proofs.Ytbfodmckgjeoaaa.fiW
set_option linter.unusedVariables false
set_option linter.unusedSimpArgs false
set_option maxRecDepth 100000
def lgB (n : Nat) : Bool := decide (300 < n ∧ n ≤ 10125) || decide (10200 < n)
set_option maxHeartbeats 1000000 in
theorem Long_any (A : Option Addr) (n c : Nat) (w : World) (hn : n ≤ 9223372036854775807) : Calls Try.prog 9 #[.slice A n c] w fun e w' => e = .returned (.bool (lgB n)) ∧ w' = w := by
  have n9 : (n : Int) ≤ 9223372036854775807 := by omega
  by_cases h1 : 300 < n
  · have i1 : (300 : Int) < n := by omega
    by_cases h2 : n ≤ 10125
    · have i2 : (n : Int) ≤ 10125 := by omega
      have HV : Hid (lgB n = true) := Lib.hid (by simp [lgB, h1, h2])
      clear h1 h2 hn
      go_enter Try.func9, Try.ntmps9
      go_wp2_with fail
      go_ret
      exact ⟨by rw [HV.out]; rfl, rfl⟩
    · have i2 : ¬ (n : Int) ≤ 10125 := by omega
      by_cases h3 : 10200 < n
      · have i3 : (10200 : Int) < n := by omega
        have HV : Hid (lgB n = true) := Lib.hid (by simp [lgB, h3])
        clear h1 h2 h3 hn
        go_enter Try.func9, Try.ntmps9
        go_wp2_with fail
        go_ret
        exact ⟨by rw [HV.out]; rfl, rfl⟩
      · have i3 : ¬ (10200 : Int) < n := by omega
        have HV : Hid (lgB n = false) := Lib.hid (by simp [lgB]; omega)
        clear h1 h2 h3 hn
        go_enter Try.func9, Try.ntmps9
        go_wp2_with fail
        go_ret
        exact ⟨by rw [HV.out]; rfl, rfl⟩
  · have i1 : ¬ (300 : Int) < n := by omega
    have i3 : ¬ (10200 : Int) < n := by omega
    have HV : Hid (lgB n = false) := Lib.hid (by simp [lgB]; omega)
    clear h1 hn
    go_enter Try.func9, Try.ntmps9
    go_wp2_with fail
    go_ret
    exact ⟨by rw [HV.out]; rfl, rfl⟩
theorem any_of {f : FuncId} {args : Array Value} {w : World} {r : Option (List Int)} {er : Int} (h : Calls Try.prog f args w fun e w' => Res w' w.heap.size r er e ∧ Below w.heap.size w w') :
    Calls Try.prog f args w fun e w' => ∃ A c, e = .returned (.tuple #[.slice A (r.getD []).length c, .int .i64 (rE r er)]) ∧ OwnZ w' w.heap.size (.slice A (r.getD []).length c) (r.getD []) ∧ Below w.heap.size w w' :=
  h.mono fun e w' ⟨h1, h2⟩ => by
    obtain ⟨A, c, h3, h4⟩ := h1.any
    exact ⟨A, c, h3, h4, h2⟩
theorem ownz_has {w : World} {B n c : Nat} {A : Option Addr} {zs : List Int} (h : OwnZ w B (.slice A n c) zs) : Has .u8 w A zs := by
  obtain ⟨A', c', e, h1, _⟩ := h.val
  injection e with e1 _ _
  rw [e1]; exact h1
theorem same_yes (A B : Option Addr) (n c d : Nat) (s : List Int) (w : World) (hA : Has .u8 w A s) (hB : Has .u8 w B s) (hn : s.length = n) (hl : n ≤ 9223372036854775807) :
    Calls Try.prog 16 #[.slice A n c, .slice B n d] w fun e w' => e = .returned (.bool true) ∧ Below w.heap.size w w' :=
  (sameB_any A B n n c d s s w hA hn hB hn hl hl).mono fun e w' ⟨h1, h2⟩ => ⟨by rw [h1, decide_eq_true rfl], h2⟩
set_option maxHeartbeats 4000000 in
theorem ones (k n : Int) (a : Option Addr) (len cap : Nat) (z : List Int) (w : World) (hf : (0 ≤ k ∧ k ≤ 255) ∧ (-9223372036854775808 ≤ n ∧ n ≤ 9223372036854775807)) (hz : IsRow .u8 w a len cap z) :
    Calls Try.prog 3 #[.agg #[.int .u8 k, .int .i64 n], .slice a len cap] w fun e w' => e = .returned (.bool true) ∧ Below w.heap.size w w' := by
  have hin := ib_of hz
  obtain ⟨b, hb⟩ : ∃ b, z.take len = b := ⟨_, rfl⟩
  rw [hb] at hin
  have l9 : len ≤ 9223372036854775807 := Nat.le_trans hin.c1 hin.c2
  have HIN := Lib.hid hin
  have HL := Lib.hid hin.e
  clear hz hb hin hf
  have K0 := fi_new w k n
  have B0 := fi_box w k n
  go_enter Try.func3, Try.ntmps3
  go_upto_region 1 with fail
  generalize hw0 : (w.alloc (.cells #[.int .u8 k, .int .i64 n] 23)) = w0 at *
  have HK := Lib.hid K0
  have p0 := K0.c0
  have p1 := K0.c1
  have HB := Lib.hid B0
  have HIN := Lib.hid (HIN.out.below B0)
  clear K0 B0 hw0
  by_cases hlg : lgB len = true
  · have HLG := Lib.hid hlg
    clear hlg
    go_wp2_with (go_at_call 9; refine (Long_any a len cap _ l9).mono ?_; rintro e w2 ⟨rfl, rfl⟩; rw [HLG.out])
    go_ret
    exact ⟨rfl, HB.out⟩
  · have HLG : Hid (lgB len = false) := Lib.hid (by simpa using hlg)
    have ln : len ≤ 10200 := by unfold lgB at hlg; simp at hlg; omega
    have HLN := Lib.hid ln
    have l8 : (len : Int) ≤ 10200 := by omega
    clear hlg ln
    go_upto_region 4 with (first | (go_at_call 9; refine (Long_any a len cap _ l9).mono ?_; rintro e w2 ⟨rfl, rfl⟩; rw [HLG.out]) | (at_builtin; refine clone8 rfl _ _ rfl (some ⟨_, 0, none⟩) rfl a len cap b rfl HL.out (HIN.out.h.below ((Below.refl _ _).alloc (Nat.le_refl _) _) (Nat.le_refl _)) (by have := HLN.out; omega) ?_; intro A1 c1 w1 h1 b1 o1; have H1 := Lib.hid h1; have HB1 := Lib.hid (((Below.refl _ _).alloc (Nat.le_refl _) _).trans (b1.mono (by simp))); clear h1 b1 o1))
    have HIN := Lib.hid (HIN.out.below HB1.out)
    have HB := Lib.hid (HB.out.trans (HB1.out.mono HB.out.size))
    have HK := Lib.hid (HK.out.past HB1.out)
    clear p0 p1
    have p0 := HK.out.c0
    have p1 := HK.out.c1
    go_wp2_with fail
    refine (any_of (One_any k n b a len cap _ HIN.out)).mono ?_; rintro e wn ⟨A2, c2, rfl, o2, b2⟩; have HIN := Lib.hid (HIN.out.below b2); have HO2 := Lib.hid o2; have HBN := Lib.hid b2; have HB := Lib.hid (HB.out.trans (b2.mono HB.out.size)); have HK := Lib.hid (HK.out.past b2); clear o2 b2 p0 p1; have p0 := HK.out.c0; have p1 := HK.out.c1
    have H1 := Lib.hid (H1.out.below HBN.out (Nat.le_refl _))
    go_wp2_with fail
    refine (any_of (rOne_any k n b a len cap _ HIN.out)).mono ?_; rintro e wn ⟨A3, c3, rfl, o2, b2⟩; have HIN := Lib.hid (HIN.out.below b2); have HO3 := Lib.hid o2; have HBN := Lib.hid b2; have HB := Lib.hid (HB.out.trans (b2.mono HB.out.size)); have HK := Lib.hid (HK.out.past b2); clear o2 b2 p0 p1; have p0 := HK.out.c0; have p1 := HK.out.c1
    have H1 := Lib.hid (H1.out.below HBN.out (Nat.le_refl _))
    have HO2 := Lib.hid ((ownz_has HO2.out).below HBN.out (Nat.le_refl _))
    go_wp2_with fail
    refine (any_of (Back_any k n b a len cap _ HIN.out)).mono ?_; rintro e wn ⟨A4, c4, rfl, o2, b2⟩; have HIN := Lib.hid (HIN.out.below b2); have HO4 := Lib.hid o2; have HBN := Lib.hid b2; have HB := Lib.hid (HB.out.trans (b2.mono HB.out.size)); have HK := Lib.hid (HK.out.past b2); clear o2 b2 p0 p1; have p0 := HK.out.c0; have p1 := HK.out.c1
    have H1 := Lib.hid (H1.out.below HBN.out (Nat.le_refl _))
    have HO2 := Lib.hid (HO2.out.below HBN.out (Nat.le_refl _))
    have HO3 := Lib.hid ((ownz_has HO3.out).below HBN.out (Nat.le_refl _))
    go_wp2_with fail
    refine (any_of (rBack_any k n b a len cap _ HIN.out)).mono ?_; rintro e wn ⟨A5, c5, rfl, o2, b2⟩; have HIN := Lib.hid (HIN.out.below b2); have HO5 := Lib.hid o2; have HBN := Lib.hid b2; have HB := Lib.hid (HB.out.trans (b2.mono HB.out.size)); have HK := Lib.hid (HK.out.past b2); clear o2 b2 p0 p1; have p0 := HK.out.c0; have p1 := HK.out.c1
    have H1 := Lib.hid (H1.out.below HBN.out (Nat.le_refl _))
    have HO2 := Lib.hid (HO2.out.below HBN.out (Nat.le_refl _))
    have HO3 := Lib.hid (HO3.out.below HBN.out (Nat.le_refl _))
    have HO4 := Lib.hid ((ownz_has HO4.out).below HBN.out (Nat.le_refl _))
    have HO5 := Lib.hid (ownz_has HO5.out)
    have L1 := Lib.hid (oneO_len (k, n) b)
    have L2 := Lib.hid (backO_len (k, n) b)
    generalize (oneO (k, n) b).getD [] = s1 at *
    generalize (backO (k, n) b).getD [] = s2 at *
    generalize rE (oneO (k, n) b) (oneE (k, n)) = r1 at *
    generalize rE (backO (k, n) b) (backE (k, n) b) = r2 at *
    generalize ckF (k, n) = ck at *
    go_wp2_with fail
    (have RD := grows_roads (S := fun x' => Below wn.heap.size wn x') (fun a b h1 h2 => below_bs h2 h1)); refine region_ord _ Grows RD (Below.drew (Below.refl _ _)) (by kernel_rfl) ?_; intro ops Q' hops hPQ hN; (have HNS : Hid (Region.noSelect ops = true) := Lib.hid (by rw [hops]; kernel_rfl)); (have hsz : ops.size = 31 := (by rw [hops]; rfl)); have HOP := Lib.hid hops; have HPQ := Lib.hid hPQ; have HN := Lib.hid hN; rw [hsz]; clear hops hsz hPQ hN
    refine ord_take RD 0 (at_list (by rw [HOP.out]; rfl)) HNS.out HPQ.out (by rw [HOP.out]; kernel_rfl) (by rw [HOP.out]; kernel_rfl) (by rw [HOP.out]; rfl) (fun K hK => ?_); apply Exists.intro; refine ⟨fun W hSW => ?_, hK _ ?_⟩; (focus ((try dsimp only at hSW); (have p0 := (HK.out.past hSW).c0); (have p1 := (HK.out.past hSW).c1); go_simp; try with_reducible rfl)); clear hK K; (try simp only [Act.put, List.setIfInBounds_toArray, List.set_cons_zero, List.set_cons_succ])
    refine ord_take RD 2 (at_list (by rw [HOP.out]; rfl)) HNS.out HPQ.out (by rw [HOP.out]; kernel_rfl) (by rw [HOP.out]; kernel_rfl) (by rw [HOP.out]; rfl) (fun K hK => ?_); apply Exists.intro; refine ⟨fun W hSW => ?_, hK _ ?_⟩; (focus ((try dsimp only at hSW); (have p0 := (HK.out.past hSW).c0); (have p1 := (HK.out.past hSW).c1); go_simp; try with_reducible rfl)); clear hK K; (try simp only [Act.put, List.setIfInBounds_toArray, List.set_cons_zero, List.set_cons_succ])
    refine ord_take RD 1 (at_list (by rw [HOP.out]; rfl)) HNS.out HPQ.out (by rw [HOP.out]; kernel_rfl) (by rw [HOP.out]; kernel_rfl) (by rw [HOP.out]; rfl) (fun K hK => ?_); apply Exists.intro; refine ⟨fun W hSW => ?_, hK _ ?_⟩; (focus ((try dsimp only at hSW); go_simp; exact (Check_any k n _))); clear hK K; (try simp only [Act.put, List.setIfInBounds_toArray, List.set_cons_zero, List.set_cons_succ])
    refine ord_take RD 3 (at_list (by rw [HOP.out]; rfl)) HNS.out HPQ.out (by rw [HOP.out]; kernel_rfl) (by rw [HOP.out]; kernel_rfl) (by rw [HOP.out]; rfl) (fun K hK => ?_); apply Exists.intro; refine ⟨fun W hSW => ?_, hK _ ?_⟩; (focus ((try dsimp only at hSW); go_simp; exact (rCheck k n _))); clear hK K; (try simp only [Act.put, List.setIfInBounds_toArray, List.set_cons_zero, List.set_cons_succ])
    refine ord_take RD 4 (at_list (by rw [HOP.out]; rfl)) HNS.out HPQ.out (by rw [HOP.out]; kernel_rfl) (by rw [HOP.out]; kernel_rfl) (by rw [HOP.out]; rfl) (fun K hK => ?_); apply Exists.intro; refine ⟨fun W hSW => ?_, hK _ ?_⟩; (focus ((try dsimp only at hSW); go_simp; try with_reducible rfl)); clear hK K; (try simp only [Act.put, List.setIfInBounds_toArray, List.set_cons_zero, List.set_cons_succ])
    refine ord_take RD 5 (at_list (by rw [HOP.out]; rfl)) HNS.out HPQ.out (by rw [HOP.out]; kernel_rfl) (by rw [HOP.out]; kernel_rfl) (by rw [HOP.out]; rfl) (fun K hK => ?_); apply Exists.intro; refine ⟨fun W hSW => ?_, hK _ ?_⟩; (focus ((try dsimp only at hSW); go_simp; try with_reducible rfl)); clear hK K; (try simp only [Act.put, List.setIfInBounds_toArray, List.set_cons_zero, List.set_cons_succ])
    refine ord_take RD 6 (at_list (by rw [HOP.out]; rfl)) HNS.out HPQ.out (by rw [HOP.out]; kernel_rfl) (by rw [HOP.out]; kernel_rfl) (by rw [HOP.out]; rfl) (fun K hK => ?_); apply Exists.intro; refine ⟨fun W hSW => ?_, hK _ ?_⟩; (focus ((try dsimp only at hSW); go_simp; try with_reducible rfl)); clear hK K; (try simp only [Act.put, List.setIfInBounds_toArray, List.set_cons_zero, List.set_cons_succ])
    refine ord_take RD 7 (at_list (by rw [HOP.out]; rfl)) HNS.out HPQ.out (by rw [HOP.out]; kernel_rfl) (by rw [HOP.out]; kernel_rfl) (by rw [HOP.out]; rfl) (fun K hK => ?_); apply Exists.intro; refine ⟨fun W hSW => ?_, hK _ ?_⟩; (focus ((try dsimp only at hSW); go_simp; try with_reducible rfl)); clear hK K; (try simp only [Act.put, List.setIfInBounds_toArray, List.set_cons_zero, List.set_cons_succ])
    refine ord_take RD 8 (at_list (by rw [HOP.out]; rfl)) HNS.out HPQ.out (by rw [HOP.out]; kernel_rfl) (by rw [HOP.out]; kernel_rfl) (by rw [HOP.out]; rfl) (fun K hK => ?_); apply Exists.intro; refine ⟨fun W hSW => ?_, hK _ ?_⟩; (focus ((try dsimp only at hSW); go_simp; exact (same_yes A2 A3 _ c2 c3 s1 _ (HO2.out.below hSW (Nat.le_refl _)) (HO3.out.below hSW (Nat.le_refl _)) rfl (by have := L1.out; omega)))); clear hK K; (try simp only [Act.put, List.setIfInBounds_toArray, List.set_cons_zero, List.set_cons_succ])
    refine ord_take RD 9 (at_list (by rw [HOP.out]; rfl)) HNS.out HPQ.out (by rw [HOP.out]; kernel_rfl) (by rw [HOP.out]; kernel_rfl) (by rw [HOP.out]; rfl) (fun K hK => ?_); apply Exists.intro; refine ⟨fun W hSW => ?_, hK _ ?_⟩; (focus ((try dsimp only at hSW); go_simp; try with_reducible rfl)); clear hK K; (try simp only [Act.put, List.setIfInBounds_toArray, List.set_cons_zero, List.set_cons_succ])
    refine ord_take RD 10 (at_list (by rw [HOP.out]; rfl)) HNS.out HPQ.out (by rw [HOP.out]; kernel_rfl) (by rw [HOP.out]; kernel_rfl) (by rw [HOP.out]; rfl) (fun K hK => ?_); apply Exists.intro; refine ⟨fun W hSW => ?_, hK _ ?_⟩; (focus ((try dsimp only at hSW); go_simp; try with_reducible rfl)); clear hK K; (try simp only [Act.put, List.setIfInBounds_toArray, List.set_cons_zero, List.set_cons_succ])
    refine ord_take RD 11 (at_list (by rw [HOP.out]; rfl)) HNS.out HPQ.out (by rw [HOP.out]; kernel_rfl) (by rw [HOP.out]; kernel_rfl) (by rw [HOP.out]; rfl) (fun K hK => ?_); apply Exists.intro; refine ⟨fun W hSW => ?_, hK _ ?_⟩; (focus ((try dsimp only at hSW); go_simp; try with_reducible rfl)); clear hK K; (try simp only [Act.put, List.setIfInBounds_toArray, List.set_cons_zero, List.set_cons_succ])
    refine ord_take RD 12 (at_list (by rw [HOP.out]; rfl)) HNS.out HPQ.out (by rw [HOP.out]; kernel_rfl) (by rw [HOP.out]; kernel_rfl) (by rw [HOP.out]; rfl) (fun K hK => ?_); apply Exists.intro; refine ⟨fun W hSW => ?_, hK _ ?_⟩; (focus ((try dsimp only at hSW); go_simp; try with_reducible rfl)); clear hK K; (try simp only [Act.put, List.setIfInBounds_toArray, List.set_cons_zero, List.set_cons_succ])
    refine ord_take RD 13 (at_list (by rw [HOP.out]; rfl)) HNS.out HPQ.out (by rw [HOP.out]; kernel_rfl) (by rw [HOP.out]; kernel_rfl) (by rw [HOP.out]; rfl) (fun K hK => ?_); apply Exists.intro; refine ⟨fun W hSW => ?_, hK _ ?_⟩; (focus ((try dsimp only at hSW); go_simp; try with_reducible rfl)); clear hK K; (try simp only [Act.put, List.setIfInBounds_toArray, List.set_cons_zero, List.set_cons_succ])
    refine ord_take RD 14 (at_list (by rw [HOP.out]; rfl)) HNS.out HPQ.out (by rw [HOP.out]; kernel_rfl) (by rw [HOP.out]; kernel_rfl) (by rw [HOP.out]; rfl) (fun K hK => ?_); apply Exists.intro; refine ⟨fun W hSW => ?_, hK _ ?_⟩; (focus ((try dsimp only at hSW); go_simp; try with_reducible rfl)); clear hK K; (try simp only [Act.put, List.setIfInBounds_toArray, List.set_cons_zero, List.set_cons_succ])
    refine ord_take RD 15 (at_list (by rw [HOP.out]; rfl)) HNS.out HPQ.out (by rw [HOP.out]; kernel_rfl) (by rw [HOP.out]; kernel_rfl) (by rw [HOP.out]; rfl) (fun K hK => ?_); apply Exists.intro; refine ⟨fun W hSW => ?_, hK _ ?_⟩; (focus ((try dsimp only at hSW); go_simp; try with_reducible rfl)); clear hK K; (try simp only [Act.put, List.setIfInBounds_toArray, List.set_cons_zero, List.set_cons_succ])
    refine ord_take RD 16 (at_list (by rw [HOP.out]; rfl)) HNS.out HPQ.out (by rw [HOP.out]; kernel_rfl) (by rw [HOP.out]; kernel_rfl) (by rw [HOP.out]; rfl) (fun K hK => ?_); apply Exists.intro; refine ⟨fun W hSW => ?_, hK _ ?_⟩; (focus ((try dsimp only at hSW); go_simp; try with_reducible rfl)); clear hK K; (try simp only [Act.put, List.setIfInBounds_toArray, List.set_cons_zero, List.set_cons_succ])
    refine ord_take RD 17 (at_list (by rw [HOP.out]; rfl)) HNS.out HPQ.out (by rw [HOP.out]; kernel_rfl) (by rw [HOP.out]; kernel_rfl) (by rw [HOP.out]; rfl) (fun K hK => ?_); apply Exists.intro; refine ⟨fun W hSW => ?_, hK _ ?_⟩; (focus ((try dsimp only at hSW); go_simp; try with_reducible rfl)); clear hK K; (try simp only [Act.put, List.setIfInBounds_toArray, List.set_cons_zero, List.set_cons_succ])
    refine ord_take RD 18 (at_list (by rw [HOP.out]; rfl)) HNS.out HPQ.out (by rw [HOP.out]; kernel_rfl) (by rw [HOP.out]; kernel_rfl) (by rw [HOP.out]; rfl) (fun K hK => ?_); apply Exists.intro; refine ⟨fun W hSW => ?_, hK _ ?_⟩; (focus ((try dsimp only at hSW); go_simp; exact (same_yes A4 A5 _ c4 c5 s2 _ (HO4.out.below hSW (Nat.le_refl _)) (HO5.out.below hSW (Nat.le_refl _)) rfl (by have := L2.out; omega)))); clear hK K; (try simp only [Act.put, List.setIfInBounds_toArray, List.set_cons_zero, List.set_cons_succ])
    refine ord_take RD 19 (at_list (by rw [HOP.out]; rfl)) HNS.out HPQ.out (by rw [HOP.out]; kernel_rfl) (by rw [HOP.out]; kernel_rfl) (by rw [HOP.out]; rfl) (fun K hK => ?_); apply Exists.intro; refine ⟨fun W hSW => ?_, hK _ ?_⟩; (focus ((try dsimp only at hSW); go_simp; try with_reducible rfl)); clear hK K; (try simp only [Act.put, List.setIfInBounds_toArray, List.set_cons_zero, List.set_cons_succ])
    refine ord_take RD 20 (at_list (by rw [HOP.out]; rfl)) HNS.out HPQ.out (by rw [HOP.out]; kernel_rfl) (by rw [HOP.out]; kernel_rfl) (by rw [HOP.out]; rfl) (fun K hK => ?_); apply Exists.intro; refine ⟨fun W hSW => ?_, hK _ ?_⟩; (focus ((try dsimp only at hSW); go_simp; try with_reducible rfl)); clear hK K; (try simp only [Act.put, List.setIfInBounds_toArray, List.set_cons_zero, List.set_cons_succ])
    refine ord_take RD 21 (at_list (by rw [HOP.out]; rfl)) HNS.out HPQ.out (by rw [HOP.out]; kernel_rfl) (by rw [HOP.out]; kernel_rfl) (by rw [HOP.out]; rfl) (fun K hK => ?_); apply Exists.intro; refine ⟨fun W hSW => ?_, hK _ ?_⟩; (focus ((try dsimp only at hSW); go_simp; try with_reducible rfl)); clear hK K; (try simp only [Act.put, List.setIfInBounds_toArray, List.set_cons_zero, List.set_cons_succ])
    refine ord_take RD 22 (at_list (by rw [HOP.out]; rfl)) HNS.out HPQ.out (by rw [HOP.out]; kernel_rfl) (by rw [HOP.out]; kernel_rfl) (by rw [HOP.out]; rfl) (fun K hK => ?_); apply Exists.intro; refine ⟨fun W hSW => ?_, hK _ ?_⟩; (focus ((try dsimp only at hSW); go_simp; try with_reducible rfl)); clear hK K; (try simp only [Act.put, List.setIfInBounds_toArray, List.set_cons_zero, List.set_cons_succ])
    refine ord_take RD 23 (at_list (by rw [HOP.out]; rfl)) HNS.out HPQ.out (by rw [HOP.out]; kernel_rfl) (by rw [HOP.out]; kernel_rfl) (by rw [HOP.out]; rfl) (fun K hK => ?_); apply Exists.intro; refine ⟨fun W hSW => ?_, hK _ ?_⟩; (focus ((try dsimp only at hSW); go_simp; try with_reducible rfl)); clear hK K; (try simp only [Act.put, List.setIfInBounds_toArray, List.set_cons_zero, List.set_cons_succ])
    refine ord_take RD 24 (at_list (by rw [HOP.out]; rfl)) HNS.out HPQ.out (by rw [HOP.out]; kernel_rfl) (by rw [HOP.out]; kernel_rfl) (by rw [HOP.out]; rfl) (fun K hK => ?_); apply Exists.intro; refine ⟨fun W hSW => ?_, hK _ ?_⟩; (focus ((try dsimp only at hSW); go_simp; try with_reducible rfl)); clear hK K; (try simp only [Act.put, List.setIfInBounds_toArray, List.set_cons_zero, List.set_cons_succ])
    refine ord_take RD 25 (at_list (by rw [HOP.out]; rfl)) HNS.out HPQ.out (by rw [HOP.out]; kernel_rfl) (by rw [HOP.out]; kernel_rfl) (by rw [HOP.out]; rfl) (fun K hK => ?_); apply Exists.intro; refine ⟨fun W hSW => ?_, hK _ ?_⟩; (focus ((try dsimp only at hSW); go_simp; try with_reducible rfl)); clear hK K; (try simp only [Act.put, List.setIfInBounds_toArray, List.set_cons_zero, List.set_cons_succ])
    refine ord_take RD 26 (at_list (by rw [HOP.out]; rfl)) HNS.out HPQ.out (by rw [HOP.out]; kernel_rfl) (by rw [HOP.out]; kernel_rfl) (by rw [HOP.out]; rfl) (fun K hK => ?_); apply Exists.intro; refine ⟨fun W hSW => ?_, hK _ ?_⟩; (focus ((try dsimp only at hSW); go_simp; try with_reducible rfl)); clear hK K; (try simp only [Act.put, List.setIfInBounds_toArray, List.set_cons_zero, List.set_cons_succ])
    refine ord_take RD 27 (at_list (by rw [HOP.out]; rfl)) HNS.out HPQ.out (by rw [HOP.out]; kernel_rfl) (by rw [HOP.out]; kernel_rfl) (by rw [HOP.out]; rfl) (fun K hK => ?_); apply Exists.intro; refine ⟨fun W hSW => ?_, hK _ ?_⟩; (focus ((try dsimp only at hSW); go_simp; try with_reducible rfl)); clear hK K; (try simp only [Act.put, List.setIfInBounds_toArray, List.set_cons_zero, List.set_cons_succ])
    refine ord_take RD 28 (at_list (by rw [HOP.out]; rfl)) HNS.out HPQ.out (by rw [HOP.out]; kernel_rfl) (by rw [HOP.out]; kernel_rfl) (by rw [HOP.out]; rfl) (fun K hK => ?_); apply Exists.intro; refine ⟨fun W hSW => ?_, hK _ ?_⟩; (focus ((try dsimp only at hSW); go_simp; exact (same_yes a A1 _ cap c1 b _ (HIN.out.h.below hSW (Nat.le_refl _)) (H1.out.below hSW (Nat.le_refl _)) HL.out l9))); clear hK K; (try simp only [Act.put, List.setIfInBounds_toArray, List.set_cons_zero, List.set_cons_succ])
    refine ord_take RD 29 (at_list (by rw [HOP.out]; rfl)) HNS.out HPQ.out (by rw [HOP.out]; kernel_rfl) (by rw [HOP.out]; kernel_rfl) (by rw [HOP.out]; rfl) (fun K hK => ?_); apply Exists.intro; refine ⟨fun W hSW => ?_, hK _ ?_⟩; (focus ((try dsimp only at hSW); go_simp; try with_reducible rfl)); clear hK K; (try simp only [Act.put, List.setIfInBounds_toArray, List.set_cons_zero, List.set_cons_succ])
    refine ord_take RD 30 (at_list (by rw [HOP.out]; rfl)) HNS.out HPQ.out (by rw [HOP.out]; kernel_rfl) (by rw [HOP.out]; kernel_rfl) (by rw [HOP.out]; rfl) (fun K hK => ?_); apply Exists.intro; refine ⟨fun W hSW => ?_, hK _ ?_⟩; (focus ((try dsimp only at hSW); go_simp; try with_reducible rfl)); clear hK K; (try simp only [Act.put, List.setIfInBounds_toArray, List.set_cons_zero, List.set_cons_succ])
    refine ord_done (by rw [HOP.out]; kernel_rfl) (fun wo hWW hSW => HN.out _ _ ?_); clear HOP HNS HPQ HN RD; (try dsimp only at hSW)
    go_wp2_with fail
    go_ret
    exact ⟨rfl, below_bs HB.out hSW⟩
end Go.Proofs.Ytbfodmckgjeoaaa.fiL
