/- ShaDone, by a walk (under way). -/
import Derived.Test.YtmlfajmkgkgegaaDoorShN2
import Derived.Test.YtmlfajmkgkgegaaDoorOrd
import Derived.BigQuiet
namespace Go.Proofs.YtmlfajmkgkgegaaDoor.shL
open Go.RowKit Go.Proofs.YtmlfajmkgkgegaaDoor.base Go.Proofs.YtmlfajmkgkgegaaDoor.shP Go.Proofs.YtmlfajmkgkgegaaDoor.shW
set_option linter.unusedVariables false
set_option linter.unusedSimpArgs false
theorem c5_one (v : W5) : ∀ u ∈ (c5 v).toArray.toList, u.oneCell' = true := by
  intro u hu
  simp only [c5, List.mem_map] at hu
  obtain ⟨i, _, rfl⟩ := hu
  rfl
theorem block64 {h u : W5} {b : List Int} {A : Option Addr} {d : Nat} {w : World} (hu : dn h b = u) (hA : Has .u8 w A b) (hl : b.length = 64) (hd : 64 ≤ d) (hb : ∀ z ∈ b, 0 ≤ z ∧ z ≤ 255) (hh : In5 h) :
    Calls Tryd.prog 12 #[.agg #[.int .u32 h.a, .int .u32 h.b, .int .u32 h.c, .int .u32 h.d, .int .u32 h.e], .slice A 64 d] w fun e w' => e = .returned (.tuple #[.agg #[.int .u32 u.a, .int .u32 u.b, .int .u32 u.c, .int .u32 u.d, .int .u32 u.e], .int .i64 0]) ∧ Grows w w' := by
  subst hu
  have := Block_any h b A 64 d w hA hl hd (by decide) hb hh
  rwa [blkE, blkV, if_pos hl, if_pos hl] at this
theorem ownz_set5 {w : World} {B g : Nat} {v : Value} {zs : List Int} {t : TypeId} {cs : List Value} (h : OwnZ w B v zs) (K : Lies w g t cs) (ht : t ≠ 5) (a b c d e : Value) : OwnZ (((((w.setCell ⟨g, 0, none⟩ a).setCell ⟨g, 1, none⟩ b).setCell ⟨g, 2, none⟩ c).setCell ⟨g, 3, none⟩ d).setCell ⟨g, 4, none⟩ e) B v zs :=
  ((((h.other K ht 0 a).other (K.set 0 a) ht 1 b).other ((K.set 0 a).set 1 b) ht 2 c).other (((K.set 0 a).set 1 b).set 2 c) ht 3 d).other ((((K.set 0 a).set 1 b).set 2 c).set 3 d) ht 4 e
theorem pad_bd (n : Nat) : ∀ z ∈ padL n, 0 ≤ z ∧ z ≤ 255 := by
  intro z hz
  simp only [padL, len8, List.mem_cons, List.mem_append, List.mem_replicate, List.mem_map] at hz
  rcases hz with rfl | ⟨_, rfl⟩ | ⟨i, _, rfl⟩
  · decide
  · decide
  · omega
set_option maxRecDepth 100000 in
set_option maxHeartbeats 4000000 in
theorem done (b : List Int) (A : Option Addr) (n d : Nat) (w : World) (hT : Tab w) (hA : Has .u8 w A b) (hl : b.length = n) (hd : n ≤ d) (hd2 : d ≤ 9223372036854775807) (hb : ∀ z ∈ b, 0 ≤ z ∧ z ≤ 255) :
    Calls Tryd.prog 6 #[.slice A n d] w fun e w' => e = .returned (.bool true) ∧ Below w.heap.size w w' := by
  have HTB := Lib.hid hT
  have HA := Lib.hid hA
  have HL := Lib.hid hl
  have HB := Lib.hid hb
  have HD := Lib.hid (And.intro hd hd2)
  clear hT hA hl hb hd hd2
  by_cases c7 : (n : Int) ≤ 700
  · have HP : Hid (padE (n : Int) = 0 ∧ padV (n : Int) = padL n) := Lib.hid ⟨by rw [padE, if_pos ⟨by omega, by omega⟩], by rw [padV, if_pos ⟨by omega, by omega⟩, Int.toNat_natCast]⟩
    have HS : Hid (sumE b = 0 ∧ sumV b = digest b) := Lib.hid ⟨by rw [sumE, if_pos (by rw [HL.out]; omega)], by rw [sumV, if_pos (by rw [HL.out]; omega)]⟩
    obtain ⟨m, hm⟩ : ∃ m, (padL n).length = m := ⟨_, rfl⟩
    obtain ⟨q, hq⟩ : ∃ q, n + m = q := ⟨_, rfl⟩
    have HM := Lib.hid hm
    have HQ := Lib.hid hq
    have HQ64 : Hid (q % 64 = 0) := Lib.hid (by have := pad_64 n; rw [hm] at this; omega)
    have HM9 : Hid (9 ≤ m ∧ m ≤ 72) := Lib.hid (by rw [← hm, padL_len]; have := zerosN_lt n; omega)
    have q64 : (q : Int) % 64 = 0 := by have := HQ64.out; omega
    have m9 : 9 ≤ (m : Int) := by have := HM9.out; omega
    have m72 : (m : Int) ≤ 72 := by have := HM9.out; omega
    obtain ⟨v, hv⟩ : ∃ v, blks (b ++ padL b.length) ((b.length + (padL b.length).length) / 64) first = v := ⟨_, rfl⟩
    have HV := Lib.hid hv
    have HDV : Hid (digest b = wbytes v) := Lib.hid (by rw [digest, hv])
    have PV := Lib.hid (done1 v)
    clear hv hm hq
    go_enter Tryd.func6, Tryd.ntmps6
    go_wp2_with fail
    refine (Pad_any n _).mono ?_
    rintro e w1 ⟨A1, m1, c1, rfl, hm1, own1, hb1⟩
    rw [HP.out.1]
    rw [HP.out.2] at hm1 own1
    rw [HM.out] at hm1
    subst hm1
    have HO1 := Lib.hid own1
    have HB1 := Lib.hid hb1
    clear own1 hb1
    go_wp2_with fail
    refine (Sum_any b A n d _ (HTB.out.below HB1.out (Nat.le_refl _)) (HA.out.below HB1.out (Nat.le_refl _)) HL.out HD.out.1 (by have := HD.out; omega) HB.out).mono ?_
    rintro e w2 ⟨rfl, hb2⟩
    rw [HS.out.1, HS.out.2, HDV.out]
    have HB2 : Hid (Below w.heap.size w w2) := Lib.hid (HB1.out.trans (hb2.mono HB1.out.size))
    have HO2 := Lib.hid (HO1.out.past hb2)
    clear hb2
    go_upto_region 6 with (first | (show wpList _ _ _ ({ dst := none, op := Op.store 25 (.tmp 5) _, type := _, pos := _, after := _, guard := none } :: _) _ _; go_must (refine wpList_store_arr (P := Tryd.prog) rfl 25 (.tmp 5) (.tmp 26) rfl (w2).heap.size ?c4 (darr (wbytes v)) ?c0 25 _ (z20_new w2 rfl) rfl (PV).out (info20 v) ?_); (case c4 => rfl); (case c0 => rfl); intro x2 hR hb hz; have HR2 := Lib.hid hR; have hb22 : Below w2.heap.size w2 x2 := ((Below.refl _ _).alloc (Nat.le_refl _) _).trans hb; have HOX := Lib.hid (HO2.out.past hb22); have HX2 : Hid (Below w.heap.size w x2) := Lib.hid ((HB2.out.alloc HB2.out.size _).trans (hb.mono HB2.out.size)); clear hR hb hz hb22) | (at_builtin; refine app8z rfl (.tmp 28) (.tmp 29) rfl (x2.heap.size + 1) _ [] rfl (.inr ⟨rfl, _, rfl⟩) A n d b rfl HL.out (HA.out.below (by have := HX2.out; (repeat' (first | (with_reducible exact Below.refl _ _) | (with_reducible assumption) | (with_reducible refine below_drewN ?_ _) | (with_reducible refine below_new ?_ _) | (with_reducible refine Below.alloc ?_ ?_ _) | (with_reducible refine Below.drew ?_) | (with_reducible refine Below.setCell ?_ ?_ _) | (with_reducible apply below_at; (case k => (with_reducible assumption)); (case hB => omega)) | (with_reducible apply below_on; (with_reducible assumption)) | (go_size; done) | (with_reducible apply size_of)))) (Nat.le_refl _)) n (by simp) (by omega) (by simp) ?_; intro A3 c3 w3 ho3 hk3 hb3; rw [List.nil_append] at ho3; have HO3 := Lib.hid ho3; have HB3 : Hid (Below x2.heap.size x2 w3 ∧ x2.heap.size + 1 ≤ w3.heap.size) := Lib.hid ⟨((Below.refl _ _).alloc (Nat.le_refl _) _).trans (hb3.mono (by omega)), by have := hb3.size; simp at this; omega⟩; clear ho3 hk3 hb3) | (at_builtin; refine app8z rfl (.tmp 30) (.tmp 31) rfl (x2.heap.size + 1) _ b rfl HO3.out A1 m1 c1 (padL n) rfl HM.out ((HOX.out.past HB3.out.1).has) q (by rw [HL.out]; exact HQ.out) (by have := HQ.out; have := HM9.out; omega) HB3.out.2 ?_; intro A4 c4 w4 ho4 hk4 hb4; have HO4 := Lib.hid ho4; have HB4 : Hid (Below x2.heap.size x2 w4) := Lib.hid (HB3.out.1.trans (hb4.mono (by omega))); clear ho4 hk4 hb4))
    have HX4 : Hid (Below w.heap.size w w4) := Lib.hid (HX2.out.trans (HB4.out.mono HX2.out.size))
    have HNE : Hid (w2.heap.size < w4.heap.size) := Lib.hid (Nat.lt_of_lt_of_le (show w2.heap.size < x2.heap.size from lt_of_block HR2.out) HB4.out.size)
    have HE : Hid (q ≤ 772) := Lib.hid (by have := HQ.out; have := HM9.out; omega)
    have q772 : (q : Int) ≤ 772 := by have := HE.out; omega
    go_upto_region 9 with (first | (show wpList _ _ _ ({ dst := none, op := Op.store 35 (.tmp 8) _, type := _, pos := _, after := _, guard := none } :: _) _ _; go_must (refine wpList_store_arr (P := Tryd.prog) rfl 35 (.tmp 8) (.tmp 55) rfl (w4).heap.size ?c4 (c5 first).toArray ?c0 35 _ (z5_new w4 rfl) rfl (c5_one first) (info5 first) ?_); (case c4 => rfl); (case c0 => rfl); intro w5 hR hb hz; have HR5 := Lib.hid hR; have hb45 : Below w4.heap.size w4 w5 := ((Below.refl _ _).alloc (Nat.le_refl _) _).trans hb; have HO5 := Lib.hid (HO4.out.past hb45); have HB45 := Lib.hid hb45; have HX5 : Hid (Below w.heap.size w w5) := Lib.hid ((HX2.out.trans (HB4.out.mono HX2.out.size)).trans (hb45.mono (HX2.out.trans (HB4.out.mono HX2.out.size)).size)); clear hR hb hz hb45))
    have XD : Lies x2 w2.heap.size 25 (darr (wbytes v)).toList := by unfold Lies; rw [Array.toArray_toList]; exact HR2.out
    have HD5 := Lib.hid ((XD.past HB4.out).past HB45.out)
    clear XD
    go_wp2_with fail
    go_loopw [9, 10, 11] (fun i _ _ wr => ∃ t s : Nat, 64 * t = s ∧ s ≤ q ∧ i = .int .i64 s ∧ Lies (wr) (w4.heap.size) 35 (c5 (blks (b ++ padL n) t first)) ∧ OwnZ wr (x2.heap.size + 1) (.slice A4 q c4) (b ++ padL n) ∧ Lies wr w2.heap.size 25 (darr (wbytes v)).toList ∧ Below w.heap.size w wr) (fun i _ _ _ => q - (intOf i).toNat)
    case atStart => exact ⟨0, 0, rfl, Nat.zero_le _, rfl, by have := HR5.out; unfold Lies; exact this, HO5.out, HD5.out, HX5.out⟩
    case round =>
      obtain ⟨t, s, hs, hq, rfl, K, own, D, acc⟩ := hrel
      have HK := Lib.hid K
      have HO := Lib.hid own
      have HDD := Lib.hid D
      have HACC := Lib.hid acc
      have HTS := Lib.hid hs
      by_cases hlt : s < q
      · have s1 : (s : Int) + 64 ≤ q := by have := HQ64.out; have := HTS.out; omega
        have s0 : 0 ≤ (s : Int) := by omega
        have r1 : IntKind.i64.wrap ((s : Int) + 64) = (s : Int) + 64 := IntWalk.i64_in _ (by omega)
        have r3 : (s : Int) < q := by omega
        have HLT := Lib.hid hlt
        obtain ⟨A', cc, e4, has4, le4⟩ := own.val
        injection e4 with e41 e42 e43
        subst e41
        subst e43
        have hlen : (b ++ padL n).length = q := by rw [List.length_append, HL.out, HM.out]; exact HQ.out
        rw [hlen] at le4
        obtain ⟨ga, oa, rfl, hga, hgc⟩ := has_some has4 (by rw [hlen]; omega)
        have HGA := Lib.hid hga
        have HCH : Hid (Has .u8 wr (some ⟨ga, oa + s, none⟩) (((b ++ padL n).drop s).take 64) ∧ (((b ++ padL n).drop s).take 64).length = 64 ∧ ∀ z ∈ ((b ++ padL n).drop s).take 64, 0 ≤ z ∧ z ≤ 255) := Lib.hid ⟨(has4.dropAt s).front 64, by rw [List.length_take, List.length_drop, hlen]; omega, bd_cut (fun z hz => (List.mem_append.1 hz).elim (HB.out z) (pad_bd n z)) s 64⟩
        obtain ⟨u, hu⟩ : ∃ u, blks (b ++ padL n) (t + 1) first = u := ⟨_, rfl⟩
        have HU : Hid (dn (blks (b ++ padL n) t first) (((b ++ padL n).drop s).take 64) = u) := Lib.hid (by rw [← hu, blks, HTS.out])
        have HU2 := Lib.hid hu
        have HIN : Hid (In5 (blks (b ++ padL n) t first)) := Lib.hid (blks_in (by unfold In5 first; decide) t)
        have q5 : (q : Int) ≤ c4 := by omega
        have q6 : ¬ c4 = s := by omega
        have q7 : s + 64 - s = 64 := by omega
        have q8 : ((s : Int) + 64).toNat = s + 64 := by omega
        have q9 : ((s : Int)).toNat = s := by omega
        have q10 : (s : Int) + 64 ≤ c4 := by omega
        have q12 : 0 ≤ (s : Int) + 64 := by omega
        have q11 : 64 ≤ c4 - s := by omega
        have HQ11 := Lib.hid q11
        have kl := K.lt
        obtain ⟨p0, p1, p2, p3, p4⟩ := five K
        have HPP := Lib.hid (And.intro p0 (And.intro p1 (And.intro p2 (And.intro p3 p4))))
        have HKL := Lib.hid kl
        clear K own D acc hs hq hlt hu hlen le4 e42 has4 hga hgc q11 kl p0 p1 p2 p3 p4
        generalize blks (b ++ padL n) t first = v' at *
        generalize ((b ++ padL n).drop s).take 64 = ch at *
        go_upto_region 12 with fail
        (have RD := grows_roads (S := fun x' => Below wr.heap.size wr x') (fun a b h1 h2 => h2.trans (h1.mono h2.size))); refine region_ord _ Grows RD (Below.drew (Below.refl _ _)) (by kernel_rfl) ?_; intro ops Q' hops hPQ hN; (have HNS : Hid (Region.noSelect ops = true) := Lib.hid (by rw [hops]; kernel_rfl)); (have hsz : ops.size = 13 := (by rw [hops]; rfl)); have HOP := Lib.hid hops; have HPQ := Lib.hid hPQ; have HN := Lib.hid hN; rw [hsz]; clear hops hsz hPQ hN
        refine ord_take RD 0 (at_list (by rw [HOP.out]; rfl)) HNS.out HPQ.out (by rw [HOP.out]; kernel_rfl) (by rw [HOP.out]; kernel_rfl) (by rw [HOP.out]; rfl) (fun K hK => ?_); apply Exists.intro; refine ⟨fun W hSW => ?_, hK _ ?_⟩; (focus ((try dsimp only at hSW); (obtain ⟨p0, p1, p2, p3, p4⟩ := HPP.out; rw [← hSW.cell (p := ⟨w4.heap.size, _, none⟩) HKL.out] at p0 p1 p2 p3 p4); go_simp; try with_reducible rfl)); clear hK K; (try simp only [Act.put, List.setIfInBounds_toArray, List.set_cons_zero, List.set_cons_succ])
        refine ord_take RD 1 (at_list (by rw [HOP.out]; rfl)) HNS.out HPQ.out (by rw [HOP.out]; kernel_rfl) (by rw [HOP.out]; kernel_rfl) (by rw [HOP.out]; rfl) (fun K hK => ?_); apply Exists.intro; refine ⟨fun W hSW => ?_, hK _ ?_⟩; (focus ((try dsimp only at hSW); go_simp; try with_reducible rfl)); clear hK K; (try simp only [Act.put, List.setIfInBounds_toArray, List.set_cons_zero, List.set_cons_succ])
        refine ord_take RD 2 (at_list (by rw [HOP.out]; rfl)) HNS.out HPQ.out (by rw [HOP.out]; kernel_rfl) (by rw [HOP.out]; kernel_rfl) (by rw [HOP.out]; rfl) (fun K hK => ?_); apply Exists.intro; refine ⟨fun W hSW => ?_, hK _ ?_⟩; (focus ((try dsimp only at hSW); go_simp; try with_reducible rfl)); clear hK K; (try simp only [Act.put, List.setIfInBounds_toArray, List.set_cons_zero, List.set_cons_succ])
        refine ord_take RD 3 (at_list (by rw [HOP.out]; rfl)) HNS.out HPQ.out (by rw [HOP.out]; kernel_rfl) (by rw [HOP.out]; kernel_rfl) (by rw [HOP.out]; rfl) (fun K hK => ?_); apply Exists.intro; refine ⟨fun W hSW => ?_, hK _ ?_⟩; (focus ((try dsimp only at hSW); go_simp; try with_reducible rfl)); clear hK K; (try simp only [Act.put, List.setIfInBounds_toArray, List.set_cons_zero, List.set_cons_succ])
        refine ord_take RD 4 (at_list (by rw [HOP.out]; rfl)) HNS.out HPQ.out (by rw [HOP.out]; kernel_rfl) (by rw [HOP.out]; kernel_rfl) (by rw [HOP.out]; rfl) (fun K hK => ?_); apply Exists.intro; refine ⟨fun W hSW => ?_, hK _ ?_⟩; (focus ((try dsimp only at hSW); go_simp; try with_reducible rfl)); clear hK K; (try simp only [Act.put, List.setIfInBounds_toArray, List.set_cons_zero, List.set_cons_succ])
        refine ord_take RD 5 (at_list (by rw [HOP.out]; rfl)) HNS.out HPQ.out (by rw [HOP.out]; kernel_rfl) (by rw [HOP.out]; kernel_rfl) (by rw [HOP.out]; rfl) (fun K hK => ?_); apply Exists.intro; refine ⟨fun W hSW => ?_, hK _ ?_⟩; (focus ((try dsimp only at hSW); go_simp; try with_reducible rfl)); clear hK K; (try simp only [Act.put, List.setIfInBounds_toArray, List.set_cons_zero, List.set_cons_succ])
        refine ord_take RD 6 (at_list (by rw [HOP.out]; rfl)) HNS.out HPQ.out (by rw [HOP.out]; kernel_rfl) (by rw [HOP.out]; kernel_rfl) (by rw [HOP.out]; rfl) (fun K hK => ?_); apply Exists.intro; refine ⟨fun W hSW => ?_, hK _ ?_⟩; (focus ((try dsimp only at hSW); go_simp; exact (block64 HU.out (HCH.out.1.below hSW (Nat.le_refl _)) HCH.out.2.1 HQ11.out HCH.out.2.2 HIN.out))); clear hK K; (try simp only [Act.put, List.setIfInBounds_toArray, List.set_cons_zero, List.set_cons_succ])
        refine ord_take RD 7 (at_list (by rw [HOP.out]; rfl)) HNS.out HPQ.out (by rw [HOP.out]; kernel_rfl) (by rw [HOP.out]; kernel_rfl) (by rw [HOP.out]; rfl) (fun K hK => ?_); apply Exists.intro; refine ⟨fun W hSW => ?_, hK _ ?_⟩; (focus ((try dsimp only at hSW); go_simp; try with_reducible rfl)); clear hK K; (try simp only [Act.put, List.setIfInBounds_toArray, List.set_cons_zero, List.set_cons_succ])
        refine ord_take RD 8 (at_list (by rw [HOP.out]; rfl)) HNS.out HPQ.out (by rw [HOP.out]; kernel_rfl) (by rw [HOP.out]; kernel_rfl) (by rw [HOP.out]; rfl) (fun K hK => ?_); apply Exists.intro; refine ⟨fun W hSW => ?_, hK _ ?_⟩; (focus ((try dsimp only at hSW); go_simp; try with_reducible rfl)); clear hK K; (try simp only [Act.put, List.setIfInBounds_toArray, List.set_cons_zero, List.set_cons_succ])
        refine ord_take RD 9 (at_list (by rw [HOP.out]; rfl)) HNS.out HPQ.out (by rw [HOP.out]; kernel_rfl) (by rw [HOP.out]; kernel_rfl) (by rw [HOP.out]; rfl) (fun K hK => ?_); apply Exists.intro; refine ⟨fun W hSW => ?_, hK _ ?_⟩; (focus ((try dsimp only at hSW); go_simp; try with_reducible rfl)); clear hK K; (try simp only [Act.put, List.setIfInBounds_toArray, List.set_cons_zero, List.set_cons_succ])
        refine ord_one RD 10 (by rw [HOP.out]; kernel_rfl) (at_list (by rw [HOP.out]; rfl)) (by rw [HOP.out]; rfl) (fun W1 hWW hSW K hK => ?_); (try dsimp only at hSW)
        have HW1 := Lib.hid hSW
        go_simp
        refine hK _ _ (by have := HW1.out; (repeat' (first | (with_reducible exact Below.refl _ _) | (with_reducible assumption) | (with_reducible refine below_drewN ?_ _) | (with_reducible refine below_new ?_ _) | (with_reducible refine Below.alloc ?_ ?_ _) | (with_reducible refine Below.drew ?_) | (with_reducible refine Below.setCell ?_ ?_ _) | (with_reducible apply below_at; (case k => (with_reducible assumption)); (case hB => omega)) | (with_reducible apply below_on; (with_reducible assumption)) | (go_size; done) | (with_reducible apply size_of)))) ?_
        clear hK K; (try simp only [Act.put, List.setIfInBounds_toArray, List.set_cons_zero, List.set_cons_succ])
        refine ord_one RD 11 (by rw [HOP.out]; kernel_rfl) (at_list (by rw [HOP.out]; rfl)) (by rw [HOP.out]; rfl) (fun W2 hWW hSW K hK => ?_); (try dsimp only at hSW)
        have HW2 : Hid (Lies (W2) (W1.heap.size) 35 (c5 (⟨0, 0, 0, 0, 0⟩))) := Lib.hid ((Lies.fresh_at (cs := c5 ⟨0, 0, 0, 0, 0⟩) rfl).past hWW)
        have HSW2 := Lib.hid hSW
        obtain ⟨f0, f1, f2, f3, f4⟩ := free5 HW2.out
        obtain ⟨z0, z1, z2, z3, z4⟩ := five HW2.out
        have zl := HW2.out.lt
        go_simp
        refine hK _ _ (by have := HSW2.out; have h1 := HW1.out.size; (repeat' (first | (with_reducible exact Below.refl _ _) | (with_reducible assumption) | (with_reducible refine below_drewN ?_ _) | (with_reducible refine below_new ?_ _) | (with_reducible refine Below.alloc ?_ ?_ _) | (with_reducible refine Below.drew ?_) | (with_reducible refine Below.setCell ?_ ?_ _) | (with_reducible apply below_at; (case k => (with_reducible assumption)); (case hB => omega)) | (with_reducible apply below_on; (with_reducible assumption)) | (go_size; done) | (with_reducible apply size_of)))) ?_
        clear hK K; (try simp only [Act.put, List.setIfInBounds_toArray, List.set_cons_zero, List.set_cons_succ])
        refine ord_take RD 12 (at_list (by rw [HOP.out]; rfl)) HNS.out HPQ.out (by rw [HOP.out]; kernel_rfl) (by rw [HOP.out]; kernel_rfl) (by rw [HOP.out]; rfl) (fun K hK => ?_); apply Exists.intro; refine ⟨fun W hSW => ?_, hK _ ?_⟩; (focus ((try dsimp only at hSW); go_simp; try with_reducible rfl)); clear hK K; (try simp only [Act.put, List.setIfInBounds_toArray, List.set_cons_zero, List.set_cons_succ])
        refine ord_done (by rw [HOP.out]; kernel_rfl) (fun W3 hWW hSW => HN.out _ _ ?_); clear HOP HNS HPQ HN RD; (try dsimp only at hSW)
        have HD3 : Hid (Below W1.heap.size W2 W3 ∧ Lies (W3) (W1.heap.size) 35 (c5 (u))) := Lib.hid (by
          refine ⟨?_, (lies_set5 HW2.out u).past hWW⟩
          exact Below.trans (by have := Below.refl W1.heap.size W2; (repeat' (first | (with_reducible exact Below.refl _ _) | (with_reducible assumption) | (with_reducible refine below_drewN ?_ _) | (with_reducible refine below_new ?_ _) | (with_reducible refine Below.alloc ?_ ?_ _) | (with_reducible refine Below.drew ?_) | (with_reducible refine Below.setCell ?_ ?_ _) | (with_reducible apply below_at; (case k => (with_reducible assumption)); (case hB => omega)) | (with_reducible apply below_on; (with_reducible assumption)) | (go_size; done) | (with_reducible apply size_of)))) (hWW.mono (by have := HW2.out.lt; simp; omega)))
        have HK3 := Lib.hid (HK.out.past hSW)
        have HO3' := Lib.hid (HO.out.past hSW)
        have HD3' := Lib.hid (HDD.out.past hSW)
        have HA3 : Hid (Below w.heap.size w W3) := Lib.hid (HACC.out.trans (hSW.mono HACC.out.size))
        obtain ⟨p0, p1, p2, p3, p4⟩ := five HD3.out.2
        obtain ⟨f0, f1, f2, f3, f4⟩ := free5 HK3.out
        obtain ⟨z0, z1, z2, z3, z4⟩ := five HK3.out
        have zl := HK3.out.lt
        clear hSW hWW
        go_wp2_with fail
        have hne : w4.heap.size ≠ w2.heap.size := by have := HD5.out.lt; have := HB45.out.size; have := HDD.out.lt; have := HNE.out; omega
        refine ⟨⟨t + 1, s + 64, by have := HTS.out; omega, by have := HQ64.out; have := HTS.out; omega, by go_num, ?_, ownz_set5 HO3'.out HK3.out (by decide) _ _ _ _ _, ?_, ?_⟩, by simp [intOf]; have := HLT.out; omega⟩
        · rw [HU2.out]; exact lies_set5 HK3.out u
        · exact ((((HD3'.out.other (p := ⟨w4.heap.size, 0, none⟩) hne _).other (p := ⟨w4.heap.size, 1, none⟩) hne _).other (p := ⟨w4.heap.size, 2, none⟩) hne _).other (p := ⟨w4.heap.size, 3, none⟩) hne _).other (p := ⟨w4.heap.size, 4, none⟩) hne _
        · have := HA3.out; have : w.heap.size ≤ w4.heap.size := HX4.out.size; (repeat' (first | (with_reducible exact Below.refl _ _) | (with_reducible assumption) | (with_reducible refine below_drewN ?_ _) | (with_reducible refine below_new ?_ _) | (with_reducible refine Below.alloc ?_ ?_ _) | (with_reducible refine Below.drew ?_) | (with_reducible refine Below.setCell ?_ ?_ _) | (with_reducible apply below_at; (case k => (with_reducible assumption)); (case hB => omega)) | (with_reducible apply below_on; (with_reducible assumption)) | (go_size; done) | (with_reducible apply size_of)))
      · have s1 : (q : Int) < (s : Int) + 64 := by omega
        have r1 : IntKind.i64.wrap ((s : Int) + 64) = (s : Int) + 64 := IntWalk.i64_in _ (by omega)
        have HSQ : Hid (s = q) := Lib.hid (by omega)
        clear K own D acc hs hq hlt
        go_wp2_with fail
        have HV9 : Hid (blks (b ++ padL n) t first = v) := Lib.hid (by
          rw [← HV.out, HL.out]
          congr 1
          have := HQ.out; have := HM.out; have := HTS.out; have := HSQ.out; omega)
        have HK' : Hid (Lies (wr) (w4.heap.size) 35 (c5 (v))) := Lib.hid (by rw [← HV9.out]; exact HK.out)
        have HIN : Hid (In5 v) := Lib.hid (by rw [← HV9.out]; exact blks_in (by unfold In5 first; decide) t)
        clear HK HO
        go_loopw [12] (fun i wz => ∃ j : Nat, j ≤ 20 ∧ i = .int .i64 j ∧ Lies (wz) (w4.heap.size) 35 (c5 (v)) ∧ Lies wz w2.heap.size 25 (darr (wbytes v)).toList ∧ Below w.heap.size w wz) (fun i _ => 20 - (intOf i).toNat)
        case atStart => exact ⟨0, by omega, rfl, HK'.out, HDD.out, HACC.out⟩
        case round =>
          clear HK' HDD HACC
          obtain ⟨j, hj, rfl, K, D, acc⟩ := hrel
          have HK := Lib.hid K
          have HDD := Lib.hid D
          have HACC := Lib.hid acc
          by_cases hlt : j < 20
          · have p0 : wr.cell? ⟨w4.heap.size, j / 4, none⟩ = some (.int .u32 ((l5 v).getD (j / 4) 0)) := by rw [K.cell, c5, List.getElem?_map, l5_get v (j / 4) (by omega)]; rfl
            have p2 : wr.cell? ⟨w2.heap.size, j, none⟩ = some (.int .u8 ((l5 v).getD (j / 4) 0 / 2 ^ (24 - 8 * (j % 4)) % 256)) := by
              rw [D.cell, darr, List.toList_toArray, List.getElem?_map, ← wbytes_at v j hlt, List.getD_eq_getElem?_getD, List.getElem?_eq_getElem (by rw [wbytes_len]; exact hlt)]
              rfl
            have hx : 0 ≤ (l5 v).getD (j / 4) 0 ∧ (l5 v).getD (j / 4) 0 ≤ 4294967295 := by
              obtain ⟨h1, h2, h3, h4, h5⟩ := HIN.out
              rcases (show j / 4 = 0 ∨ j / 4 = 1 ∨ j / 4 = 2 ∨ j / 4 = 3 ∨ j / 4 = 4 by omega) with e | e | e | e | e <;> rw [e] <;> assumption
            obtain ⟨x1, x2'⟩ := hx
            have HLT := Lib.hid hlt
            have k0 : 0 ≤ (j : Int) := by omega
            have k1 : (j : Int) < 20 := by omega
            have n1 : (j : Int) / 4 < 5 := by omega
            have n0 : 0 ≤ (j : Int) / 4 := by omega
            have n2 : ((j : Int) / 4).toNat = j / 4 := by omega
            have m1 : (24 - 8 * ((j : Int) % 4)).toNat = 24 - 8 * (j % 4) := by omega
            have m2 : 0 ≤ 24 - 8 * ((j : Int) % 4) := by omega
            have m3 : 24 - 8 * ((j : Int) % 4) ≤ 24 := by omega
            clear K D acc hj hlt
            generalize (l5 v).getD (j / 4) 0 = x at *
            go_wp2_with fail
            trace "R19"
            go_quiet (fail)
            go_wp2_with fail
            go_roundw
            case rel => exact ⟨j + 1, by have := HLT.out; omega, by go_num, HK.out.drewN _, HDD.out.drewN _, below_drewN HACC.out _⟩
            case measure => simp [intOf]; have := HLT.out; omega
          · have j20 : ¬ (j : Int) < 20 := by omega
            clear K D acc hj hlt
            go_wp2_with fail
            refine (alive _ (HTB.out.below HACC.out (Nat.le_refl _))).mono ?_
            rintro e w7 ⟨rfl, hb7⟩
            go_wp2_with fail
            go_ret
            exact ⟨rfl, HACC.out.trans (hb7.mono HACC.out.size)⟩
  · have c7' : (700 : Int) < n := by omega
    go_enter Tryd.func6, Tryd.ntmps6
    go_wp2_with fail
    refine (alive _ HTB.out).mono ?_
    rintro e w7 ⟨rfl, hb7⟩
    go_wp2_with fail
    go_ret
    exact ⟨rfl, hb7⟩
end Go.Proofs.YtmlfajmkgkgegaaDoor.shL
