/- The chapter's examples of markers, by a walk. -/
import Derived.Test.YthcpanenjcjgpaaMkL1
import Derived.Test.YthcpanenjcjgpaaMkW9
import Derived.Test.YthcpanenjcjgpaaMkWB
import Derived.Test.YthcpanenjcjgpaaMkSL
import Derived.Test.YthcpanenjcjgpaaMkL4
import Derived.Test.YthcpanenjcjgpaaLex
import Derived.Deep.RegionLaw
import Derived.Deep.DeepCutAuto
import Derived.Deep.RegionHeld3
namespace Go.Proofs.Ythcpanenjcjgpaa.mkL
open Go.RowKit Go.Proofs.Ythcpanenjcjgpaa.base Go.Proofs.Ythcpanenjcjgpaa.mkP Go.Proofs.Ythcpanenjcjgpaa.mkW
set_option linter.unusedVariables false
set_option linter.unusedSimpArgs false
theorem has_ib {w : World} {b off n : Nat} {zs : List Int} (h : Has .u8 w (some ⟨b, off, none⟩) zs) (e : zs.length = n) (hb : ∀ z ∈ zs, 0 ≤ z ∧ z ≤ 255) (hn : n ≤ 1000000) : Ib w (some ⟨b, off, none⟩) n n zs :=
  ⟨⟨h, e, Nat.le_refl _, by show n ≤ _; omega, hb⟩, fun e => by cases e⟩
set_option maxRecDepth 100000 in
set_option maxHeartbeats 4000000 in
theorem alive (w : World) (hT : Tab w) : Calls Try.prog 22 #[] w fun e w' => e = .returned (.bool true) ∧ Below w.heap.size w w' := by
  have HT := Lib.hid hT
  obtain ⟨b, hb⟩ : ∃ b : List Int, [1] ++ mk ++ mk = b := ⟨_, rfl⟩
  have HB := Lib.hid hb
  have HV : Hid (chE b = 0 ∧ allV b = [1, 14] ∧ (cutV b).map List.length = [1, 13, 13] ∧ (∀ z ∈ b, 0 ≤ z ∧ z ≤ 255)) := Lib.hid (by rw [← hb]; decide +kernel)
  have HP : Hid (chE [183, 98] = 0 ∧ paV [183, 98] = 2 ∧ chE [98, 183] = 0 ∧ paV [98, 183] = 1 ∧ chE mk = 0 ∧ paV mk = 0) := Lib.hid (by decide +kernel)
  clear hT hb
  go_enter Try.func22, Try.ntmps22
  go_wp2_with fail
  refine (rBytes _).mono ?_
  rintro e w1 ⟨rfl, ho1, hb1⟩
  have HO1 := Lib.hid ho1
  have HB1 := Lib.hid hb1
  clear ho1 hb1
  go_wp2_with (first | (at_builtin; refine app8 rfl _ _ rfl w1.heap.size _ [1] rfl (OwnI.lit w1 5 .u8 [1] w1.heap.size (Nat.le_refl _) (by decide)) (some ⟨w.heap.size, 0, none⟩) 13 13 mk rfl rfl (HO1.out.has.below ((Below.refl _ _).alloc (Nat.le_refl _) _) (Nat.le_refl _)) 14 rfl (by omega) (by simp) ?_; intro A2 c2 w2 ho2 hg2 hb2; have HO2 := Lib.hid ho2; have HB2 : Hid (Below w1.heap.size w1 w2) := Lib.hid (Below.trans ((Below.refl _ _).alloc (Nat.le_refl _) _) hb2); clear ho2 hg2 hb2) | (at_builtin; refine app8 rfl _ _ rfl w1.heap.size (.slice A2 14 c2) ([1] ++ mk) rfl HO2.out (some ⟨w.heap.size, 0, none⟩) 13 13 mk rfl rfl (HO1.out.has.below HB2.out (Nat.le_refl _)) 27 rfl (by omega) HB2.out.size ?_; intro A3 c3 w3 ho3 hg3 hb3; have HO3 : Hid (OwnI w3 w1.heap.size 5 .u8 (.slice A3 27 c3) b) := Lib.hid (by rw [← HB.out]; exact ho3); have HB3 : Hid (Below w1.heap.size w1 w3) := Lib.hid (HB2.out.trans hb3); clear ho3 hg3 hb3))
  have I3 : Hid (Ib w3 A3 27 c3 b) := Lib.hid (ib_own (.inl HO3.out) HV.out.2.2.2)
  have M3 : Hid (Has .u8 w3 (some ⟨w.heap.size, 0, none⟩) mk) := Lib.hid (HO1.out.has.below HB3.out (Nat.le_refl _))
  have A3' : Hid (Below w.heap.size w w3) := Lib.hid (HB1.out.trans (HB3.out.mono HB1.out.size))
  clear HB2 HB3 HO2 HO3 HO1
  refine (All_any b A3 27 c3 _ (HT.out.below A3'.out) I3.out).mono ?_
  rintro e w4 ⟨A4, n4, d4, rfl, hn4, ho4, hb4⟩
  rw [HV.out.1]
  rw [HV.out.2.1] at hn4 ho4
  obtain rfl : n4 = 2 := hn4
  have I4 := Lib.hid (I3.out.below hb4)
  have M4 := Lib.hid (M3.out.below hb4 (Nat.le_refl _))
  have A4' : Hid (Below w.heap.size w w4) := Lib.hid (A3'.out.trans (hb4.mono A3'.out.size))
  have O4 := Lib.hid ho4
  clear ho4 hb4
  go_wp2_with fail
  refine (Cut_any b A3 27 c3 _ (HT.out.below A4'.out) I4.out).mono ?_
  rintro e w5 ⟨A5, n5, d5, rs, rfl, hrs, hn5, ho5, hb5⟩
  rw [HV.out.1]
  have h3 : rs.map (fun r => r.b.length) = [1, 13, 13] := by rw [← HV.out.2.2.1, ← hrs, List.map_map]; rfl
  have hl3 : rs.length = 3 := by have := congrArg List.length h3; simpa using this
  obtain rfl : n5 = 3 := by rw [hn5, hl3]
  have M5 := Lib.hid (M4.out.below hb5 (Nat.le_refl _))
  have O5 := Lib.hid (O4.out.below hb5 (Nat.le_refl _))
  have A5' : Hid (Below w.heap.size w w5) := Lib.hid (A4'.out.trans (hb5.mono A4'.out.size))
  have HP5 := Lib.hid ho5
  have HRL := Lib.hid (And.intro h3 hl3)
  clear ho5 hb5 hrs hn5 h3 hl3
  go_wp2_with fail
  refine (Partial_any [183, 98] _ 2 2 _ (has_ib (has_lit (zs := [183, 98]) rfl (by simp [maxLen])) rfl (by decide) (by decide)).h).mono ?_
  rintro e w6 ⟨rfl, hb6⟩
  rw [HP.out.1, HP.out.2.1]
  have hb6' : Below w5.heap.size w5 w6 := by (repeat' (first | (with_reducible exact Below.refl _ _) | (with_reducible assumption) | (with_reducible refine below_drewN ?_ _) | (with_reducible refine below_new ?_ _) | (with_reducible refine Below.alloc ?_ ?_ _) | (with_reducible refine Below.drew ?_) | (with_reducible refine Below.setCell ?_ ?_ _) | (with_reducible apply below_at; (case k => (with_reducible assumption)); (case hB => omega)) | (with_reducible apply below_on; (with_reducible assumption)) | (go_size; done) | (with_reducible apply size_of)))
  have M6 := Lib.hid (M5.out.below hb6' (Nat.le_refl _))
  have O6 := Lib.hid (O5.out.below hb6' (Nat.le_refl _))
  have HP6 := Lib.hid (HP5.out.past hb6')
  have A6' : Hid (Below w.heap.size w w6) := Lib.hid (A5'.out.trans (hb6'.mono A5'.out.size))
  clear hb6 hb6' M5 O5 HP5 A5'
  go_wp2_with fail
  refine (Partial_any [98, 183] _ 2 2 _ (has_ib (has_lit (zs := [98, 183]) rfl (by simp [maxLen])) rfl (by decide) (by decide)).h).mono ?_
  rintro e w7 ⟨rfl, hb7⟩
  rw [HP.out.2.2.1, HP.out.2.2.2.1]
  have hb7' : Below w6.heap.size w6 w7 := by (repeat' (first | (with_reducible exact Below.refl _ _) | (with_reducible assumption) | (with_reducible refine below_drewN ?_ _) | (with_reducible refine below_new ?_ _) | (with_reducible refine Below.alloc ?_ ?_ _) | (with_reducible refine Below.drew ?_) | (with_reducible refine Below.setCell ?_ ?_ _) | (with_reducible apply below_at; (case k => (with_reducible assumption)); (case hB => omega)) | (with_reducible apply below_on; (with_reducible assumption)) | (go_size; done) | (with_reducible apply size_of)))
  have M7 := Lib.hid (M6.out.below hb7' (Nat.le_refl _))
  have O7 := Lib.hid (O6.out.below hb7' (Nat.le_refl _))
  have HP7 := Lib.hid (HP6.out.past hb7')
  have A7' : Hid (Below w.heap.size w w7) := Lib.hid (A6'.out.trans (hb7'.mono A6'.out.size))
  clear hb7 hb7' M6 O6 HP6 A6'
  go_wp2_with fail
  refine (Partial_any mk _ 13 13 _ (has_ib M7.out rfl mk_bd (by decide)).h).mono ?_
  rintro e w8 ⟨rfl, hb8⟩
  rw [HP.out.2.2.2.2.1, HP.out.2.2.2.2.2]
  have M8 := Lib.hid (M7.out.below hb8 (Nat.le_refl _))
  have O8 := Lib.hid (O7.out.below hb8 (Nat.le_refl _))
  have HP8 := Lib.hid (HP7.out.past hb8)
  have A8' : Hid (Below w.heap.size w w8) := Lib.hid (A7'.out.trans (hb8.mono A7'.out.size))
  clear hb8 M7 O7 HP7 A7'
  obtain ⟨P, d, e1, hL, -, -⟩ := HP8.out.val
  obtain ⟨pb, off, hP, hpb, hpc⟩ := hL.some (by rw [HRL.out.2]; omega)
  have e1' : A5 = P := by injection e1
  subst e1'
  subst hP
  have q0 := hpc 0 (by rw [HRL.out.2]; omega)
  have q1 := hpc 1 (by rw [HRL.out.2]; omega)
  have q2 := hpc 2 (by rw [HRL.out.2]; omega)
  have hn : ∀ i, i < 3 → ((rs.getD i r80).n : Int) = (([1, 13, 13] : List Nat).getD i 0 : Nat) := fun i hi => by
    have h4 := (hL.get i (by rw [HRL.out.2]; exact hi)).e
    rw [← h4, ← HRL.out.1]
    rw [List.getD_eq_getElem?_getD, List.getD_eq_getElem?_getD, List.getElem?_map, List.getElem?_eq_getElem (by rw [HRL.out.2]; exact hi)]
    rfl
  have n0 := hn 0 (by omega)
  have n1 := hn 1 (by omega)
  have n2 := hn 2 (by omega)
  clear hn hpc hL e1
  rw [Nat.add_zero] at q0
  generalize rs.getD 0 r80 = r0 at *
  generalize rs.getD 1 r80 = r1 at *
  generalize rs.getD 2 r80 = r2 at *
  obtain ⟨rA0, rn0, rc0, rb0⟩ := r0
  obtain ⟨rA1, rn1, rc1, rb1⟩ := r1
  obtain ⟨rA2, rn2, rc2, rb2⟩ := r2
  simp only [] at q0 q1 q2 n0 n1 n2
  obtain rfl : rn0 = 1 := by have : (rn0 : Int) = 1 := n0; omega
  obtain rfl : rn1 = 13 := by have : (rn1 : Int) = 13 := n1; omega
  obtain rfl : rn2 = 13 := by have : (rn2 : Int) = 13 := n2; omega
  clear n0 n1 n2
  have HQ := Lib.hid (And.intro q0 (And.intro q1 q2))
  have HPB := Lib.hid hpb
  have cvM : ∀ W : World, Below w8.heap.size w8 W → (convert 22 9 (.slice (some ⟨w.heap.size, 0, none⟩) 13 13)).run Try.prog W = .ok (.string (bstr mk)) W := fun W h => conv8 (M8.out.below h (Nat.le_refl _)) rfl
  rw [bstr_mk] at cvM
  have m1 := cvM w8 (Below.refl _ _)
  have m2 := cvM w8.drew (Below.refl w8.heap.size w8).drew
  have m3 := fun o => cvM (w8.alloc o) ((Below.refl w8.heap.size w8).alloc (Nat.le_refl _) o)
  have m4 := fun o => cvM (w8.alloc o).drew ((Below.refl w8.heap.size w8).alloc (Nat.le_refl _) o).drew
  have cvB : (convert 22 9 (.slice (some ⟨w8.heap.size, 0, none⟩) 13 13)).run Try.prog ((w8.alloc (.cells (mk.map (Value.int .u8)).toArray 5 (13, 14))).drew) = .ok (.string ⟨#[183, 98, 105, 116, 108, 111, 102, 116, 32, 98, 108, 107, 10]⟩) ((w8.alloc (.cells (mk.map (Value.int .u8)).toArray 5 (13, 14))).drew) := by
    rw [← bstr_mk]; exact conv8 ((has_mark rfl).below (below_drewN (Below.refl _ _) 1) (Nat.le_refl _)) rfl
  have HA : Hid (Has .i64 (((w8.alloc (.cells (mk.map (Value.int .u8)).toArray 5 (13, 14))).alloc (.cells #[.int .i64 1, .int .i64 14] 3)).drew) A4 [1, 14]) := Lib.hid (O8.out.has.below (show Below w8.heap.size w8 _ by (repeat' (first | (with_reducible exact Below.refl _ _) | (with_reducible assumption) | (with_reducible refine below_drewN ?_ _) | (with_reducible refine below_new ?_ _) | (with_reducible refine Below.alloc ?_ ?_ _) | (with_reducible refine Below.drew ?_) | (with_reducible refine Below.setCell ?_ ?_ _) | (with_reducible apply below_at; (case k => (with_reducible assumption)); (case hB => omega)) | (with_reducible apply below_on; (with_reducible assumption)) | (go_size; done) | (with_reducible apply size_of)))) (Nat.le_refl _))
  have HBB : Hid (Has .i64 (((w8.alloc (.cells (mk.map (Value.int .u8)).toArray 5 (13, 14))).alloc (.cells #[.int .i64 1, .int .i64 14] 3)).drew) (some ⟨w8.heap.size + 1, 0, none⟩) [1, 14]) := Lib.hid ((has_lit (zs := [1, 14]) (g := w8.heap.size + 1) (w := w8.alloc (.cells (mk.map (Value.int .u8)).toArray 5 (13, 14))) (e := 3) (k := .i64) (by simp) (by simp [maxLen])).below (below_drewN (Below.refl _ _) 1) (Nat.le_refl _))
  clear cvM hpb q0 q1 q2
  go_upto_region 8 with fail
  simp only [List.append_eq, List.cons_append, List.nil_append]
  refine region_named (by kernel_rfl) ?_
  intro ops Q' hops hN
  have hsz : ops.size = 69 := by rw [hops]; rfl
  have HO := Lib.hid hops
  rw [hsz]
  have HSZ := Lib.hid hsz
  clear hops hsz
  apply mid (p := fun (F : Act) (W : World) => wpAny Try.prog .any ops Q' 65 (pre 69 4) F W)
  case paths =>
    intro hmain
    refine any_two 0 2 (by rw [HO.out]; kernel_rfl) (by rw [HO.out]; rfl) (by rw [HO.out]; rfl) (by rw [HO.out]; rfl) (by rw [HO.out]; rfl) (fun K hK => ?x1) (fun K hK => ?y1)
    case x1 =>
      go_simp
      refine (Bytes_any _).mono ?_
      rintro e w9 ⟨rfl, rfl⟩
      refine hK _ _ ?_
      clear hK K
      refine any_two 1 2 (by rw [HO.out]; kernel_rfl) (by rw [HO.out]; rfl) (by rw [HO.out]; rfl) (by rw [HO.out]; rfl) (by rw [HO.out]; rfl) (fun K hK => ?x2) (fun K hK => ?y2)
      case x2 =>
        go_simp
        refine hK _ _ ?_
        clear hK K
        refine any_one 2 (by rw [HO.out]; kernel_rfl) (by rw [HO.out]; rfl) (by rw [HO.out]; rfl) (fun K hK => ?_)
        go_simp
        refine hK _ _ ?_
        clear hK K
        refine any_one 3 (by rw [HO.out]; kernel_rfl) (by rw [HO.out]; rfl) (by rw [HO.out]; rfl) (fun K hK => ?_)
        go_simp
        refine hK _ _ ?_
        clear hK K
        exact any_at (by kernel_rfl) hmain
      case y2 =>
        go_simp
        refine hK _ _ ?_
        clear hK K
        refine any_two 1 3 (by rw [HO.out]; kernel_rfl) (by rw [HO.out]; rfl) (by rw [HO.out]; rfl) (by rw [HO.out]; rfl) (by rw [HO.out]; rfl) (fun K hK => ?x3) (fun K hK => ?y3)
        case x3 =>
          go_simp
          refine hK _ _ ?_
          clear hK K
          refine any_one 3 (by rw [HO.out]; kernel_rfl) (by rw [HO.out]; rfl) (by rw [HO.out]; rfl) (fun K hK => ?_)
          go_simp
          refine hK _ _ ?_
          clear hK K
          exact any_at (by kernel_rfl) hmain
        case y3 =>
          go_simp
          refine hK _ _ ?_
          clear hK K
          refine any_one 1 (by rw [HO.out]; kernel_rfl) (by rw [HO.out]; rfl) (by rw [HO.out]; rfl) (fun K hK => ?_)
          go_simp
          refine hK _ _ ?_
          clear hK K
          exact any_at (by kernel_rfl) hmain
    case y1 =>
      go_simp
      refine hK _ _ ?_
      clear hK K
      refine any_two 0 3 (by rw [HO.out]; kernel_rfl) (by rw [HO.out]; rfl) (by rw [HO.out]; rfl) (by rw [HO.out]; rfl) (by rw [HO.out]; rfl) (fun K hK => ?x4) (fun K hK => ?y4)
      case x4 =>
        go_simp
        refine (Bytes_any _).mono ?_
        rintro e w9 ⟨rfl, rfl⟩
        refine hK _ _ ?_
        clear hK K
        refine any_two 1 3 (by rw [HO.out]; kernel_rfl) (by rw [HO.out]; rfl) (by rw [HO.out]; rfl) (by rw [HO.out]; rfl) (by rw [HO.out]; rfl) (fun K hK => ?x5) (fun K hK => ?y5)
        case x5 =>
          go_simp
          refine hK _ _ ?_
          clear hK K
          refine any_one 3 (by rw [HO.out]; kernel_rfl) (by rw [HO.out]; rfl) (by rw [HO.out]; rfl) (fun K hK => ?_)
          go_simp
          refine hK _ _ ?_
          clear hK K
          exact any_at (by kernel_rfl) hmain
        case y5 =>
          go_simp
          refine hK _ _ ?_
          clear hK K
          refine any_one 1 (by rw [HO.out]; kernel_rfl) (by rw [HO.out]; rfl) (by rw [HO.out]; rfl) (fun K hK => ?_)
          go_simp
          refine hK _ _ ?_
          clear hK K
          exact any_at (by kernel_rfl) hmain
      case y4 =>
        go_simp
        refine hK _ _ ?_
        clear hK K
        refine any_one 0 (by rw [HO.out]; kernel_rfl) (by rw [HO.out]; rfl) (by rw [HO.out]; rfl) (fun K hK => ?_)
        go_simp
        refine (Bytes_any _).mono ?_
        rintro e w9 ⟨rfl, rfl⟩
        refine hK _ _ ?_
        clear hK K
        refine any_one 1 (by rw [HO.out]; kernel_rfl) (by rw [HO.out]; rfl) (by rw [HO.out]; rfl) (fun K hK => ?_)
        go_simp
        refine hK _ _ ?_
        clear hK K
        exact any_at (by kernel_rfl) hmain
  case main =>
    refine any_one 4 (by rw [HO.out]; kernel_rfl) (by rw [HO.out]; rfl) (by rw [HO.out]; rfl) (fun K hK => ?_)
    go_simp
    refine hK _ _ ?_
    clear hK K
    refine any_one 5 (by rw [HO.out]; kernel_rfl) (by rw [HO.out]; rfl) (by rw [HO.out]; rfl) (fun K hK => ?_)
    go_simp
    refine hK _ _ ?_
    clear hK K
    refine any_one 6 (by rw [HO.out]; kernel_rfl) (by rw [HO.out]; rfl) (by rw [HO.out]; rfl) (fun K hK => ?_)
    go_simp
    refine hK _ _ ?_
    clear hK K
    refine any_one 7 (by rw [HO.out]; kernel_rfl) (by rw [HO.out]; rfl) (by rw [HO.out]; rfl) (fun K hK => ?_)
    go_simp
    refine hK _ _ ?_
    clear hK K
    refine any_one 8 (by rw [HO.out]; kernel_rfl) (by rw [HO.out]; rfl) (by rw [HO.out]; rfl) (fun K hK => ?_)
    go_simp
    refine hK _ _ ?_
    clear hK K
    refine any_one 9 (by rw [HO.out]; kernel_rfl) (by rw [HO.out]; rfl) (by rw [HO.out]; rfl) (fun K hK => ?_)
    go_simp
    refine hK _ _ ?_
    clear hK K
    apply mid (p := fun (F : Act) (W : World) => wpAny Try.prog .any ops Q' 57 (pre 69 12) F W)
    case paths =>
      intro hmain
      refine any_two 10 11 (by rw [HO.out]; kernel_rfl) (by rw [HO.out]; rfl) (by rw [HO.out]; rfl) (by rw [HO.out]; rfl) (by rw [HO.out]; rfl) (fun K hK => ?x9) (fun K hK => ?y9)
      case x9 =>
        go_simp
        refine hK _ _ ?_
        clear hK K
        refine any_one 11 (by rw [HO.out]; kernel_rfl) (by rw [HO.out]; rfl) (by rw [HO.out]; rfl) (fun K hK => ?_)
        go_simp
        refine hK _ _ ?_
        clear hK K
        exact any_at (by kernel_rfl) hmain
      case y9 =>
        go_simp
        refine hK _ _ ?_
        clear hK K
        refine any_one 10 (by rw [HO.out]; kernel_rfl) (by rw [HO.out]; rfl) (by rw [HO.out]; rfl) (fun K hK => ?_)
        go_simp
        refine hK _ _ ?_
        clear hK K
        exact any_at (by kernel_rfl) hmain
    case main =>
      refine any_lex_at 57 12 (by rw [HSZ.out]) (by rw [HSZ.out]) (by rw [HO.out]; kernel_rfl) (by rw [HO.out]; kernel_rfl) ?_
      rw [HO.out]
      simp only [List.drop_succ_cons, List.drop_zero]
      go_wp2_with (go_at_call 15; refine (sameI_any A4 (some ⟨w8.heap.size + 1, 0, none⟩) 2 2 d4 2 [1, 14] [1, 14] _ HA.out rfl HBB.out rfl (by decide) (by decide)).mono ?_; rintro e w10 ⟨rfl, hb10⟩; have A10 : Below w8.heap.size w8 w10 := (by (repeat' (first | (with_reducible exact Below.refl _ _) | (with_reducible assumption) | (with_reducible refine below_drewN ?_ _) | (with_reducible refine below_new ?_ _) | (with_reducible refine Below.alloc ?_ ?_ _) | (with_reducible refine Below.drew ?_) | (with_reducible refine Below.setCell ?_ ?_ _) | (with_reducible apply below_at; (case k => (with_reducible assumption)); (case hB => omega)) | (with_reducible apply below_on; (with_reducible assumption)) | (go_size; done) | (with_reducible apply size_of)))); have q0 : w10.cell? ⟨pb, off, none⟩ = some (.slice rA0 1 rc0) := (by rw [A10.cell (p := ⟨pb, off, none⟩) HPB.out]; exact HQ.out.1); have q1 : w10.cell? ⟨pb, off + 1, none⟩ = some (.slice rA1 13 rc1) := (by rw [A10.cell (p := ⟨pb, off + 1, none⟩) HPB.out]; exact HQ.out.2.1); have q2 : w10.cell? ⟨pb, off + 2, none⟩ = some (.slice rA2 13 rc2) := (by rw [A10.cell (p := ⟨pb, off + 2, none⟩) HPB.out]; exact HQ.out.2.2); have HA10 := Lib.hid A10; clear A10 hb10; rw [show decide (([1, 14] : List Int) = [1, 14]) = true from rfl])
      go_ret
      exact ⟨rfl, A8'.out.trans (HA10.out.mono A8'.out.size)⟩
end Go.Proofs.Ythcpanenjcjgpaa.mkL
