/- The reference's Of, Sum, by walks. -/
import Derived.Test.YtphakelncjogpaaDoorShW8
import Derived.Test.YtphakelncjogpaaDoorShWC
import Derived.Deep.DeepCutAuto
namespace Go.Proofs.YtphakelncjogpaaDoor.shW
set_option maxRecDepth 100000
open Go.RowKit Go.Proofs.YtphakelncjogpaaDoor.base Go.Proofs.YtphakelncjogpaaDoor.shP
set_option linter.unusedVariables false
set_option linter.unusedSimpArgs false
theorem rdone {h u : W5} {b : List Int} {A : Option Addr} {d : Nat} {w : World} (hu : dn h b = u) (hA : Has .u8 w A b) (hl : b.length = 64) (hd : 64 ≤ d) (hb : ∀ z ∈ b, 0 ≤ z ∧ z ≤ 255) (hh : In5 h) :
    Calls Tryd.prog 47 #[.agg #[.int .u32 h.a, .int .u32 h.b, .int .u32 h.c, .int .u32 h.d, .int .u32 h.e], .slice A 64 d] w fun e w' => e = .returned (.agg #[.int .u32 u.a, .int .u32 u.b, .int .u32 u.c, .int .u32 u.d, .int .u32 u.e]) ∧ Grows w w' := by
  subst hu
  exact rDone h b A d w hA hl hd hb hh
theorem rpad_bd (n : Nat) : ∀ z ∈ padL n, 0 ≤ z ∧ z ≤ 255 := by
  intro z hz
  simp only [padL, len8, List.mem_cons, List.mem_append, List.mem_replicate, List.mem_map] at hz
  rcases hz with rfl | ⟨_, rfl⟩ | ⟨i, _, rfl⟩
  · decide
  · decide
  · omega
theorem ownz_s5 {w : World} {B g : Nat} {v : Value} {zs : List Int} {t : TypeId} {cs : List Value} (h : OwnZ w B v zs) (K : Lies w g t cs) (ht : t ≠ 5) (a b c d e : Value) : OwnZ (((((w.setCell ⟨g, 0, none⟩ a).setCell ⟨g, 1, none⟩ b).setCell ⟨g, 2, none⟩ c).setCell ⟨g, 3, none⟩ d).setCell ⟨g, 4, none⟩ e) B v zs :=
  ((((h.other K ht 0 a).other (K.set 0 a) ht 1 b).other ((K.set 0 a).set 1 b) ht 2 c).other (((K.set 0 a).set 1 b).set 2 c) ht 3 d).other ((((K.set 0 a).set 1 b).set 2 c).set 3 d) ht 4 e
theorem rFirst (w : World) : Calls Tryd.prog 46 #[] w fun e w' => e = .returned (.agg #[.int .u32 first.a, .int .u32 first.b, .int .u32 first.c, .int .u32 first.d, .int .u32 first.e]) ∧ Below w.heap.size w w' := by
  go_enter Tryd.func46, Tryd.ntmps46
  go_wp2_with fail
  first
    | (go_ret; exact ⟨rfl, by (repeat' (first | (with_reducible exact Below.refl _ _) | (with_reducible assumption) | (with_reducible refine below_drewN ?_ _) | (with_reducible refine below_new ?_ _) | (with_reducible refine Below.alloc ?_ ?_ _) | (with_reducible refine Below.drew ?_) | (with_reducible refine Below.setCell ?_ ?_ _) | (with_reducible apply below_at; (case k => (with_reducible assumption)); (case hB => omega)) | (with_reducible apply below_on; (with_reducible assumption)) | (go_size; done) | (with_reducible apply size_of)))⟩)
    | (refine bodyPost_ret (by simp [results, Tryd.results46, go_sem, first]; try rfl) rfl ?_; exact ⟨rfl, by (repeat' (first | (with_reducible exact Below.refl _ _) | (with_reducible assumption) | (with_reducible refine below_drewN ?_ _) | (with_reducible refine below_new ?_ _) | (with_reducible refine Below.alloc ?_ ?_ _) | (with_reducible refine Below.drew ?_) | (with_reducible refine Below.setCell ?_ ?_ _) | (with_reducible apply below_at; (case k => (with_reducible assumption)); (case hB => omega)) | (with_reducible apply below_on; (with_reducible assumption)) | (go_size; done) | (with_reducible apply size_of)))⟩)
theorem rFirst' {f : W5} (hf : first = f) (w : World) : Calls Tryd.prog 46 #[] w fun e w' => e = .returned (.agg #[.int .u32 f.a, .int .u32 f.b, .int .u32 f.c, .int .u32 f.d, .int .u32 f.e]) ∧ Below w.heap.size w w' := hf ▸ rFirst w
theorem far5 {w : World} {g g' : Nat} {t : TypeId} {cs : List Value} (h : Lies w g t cs) (hne : g' ≠ g) (a b c d e : Value) : Lies (((((w.setCell ⟨g', 0, none⟩ a).setCell ⟨g', 1, none⟩ b).setCell ⟨g', 2, none⟩ c).setCell ⟨g', 3, none⟩ d).setCell ⟨g', 4, none⟩ e) g t cs :=
  ((((h.other (p := ⟨g', 0, none⟩) hne a).other (p := ⟨g', 1, none⟩) hne b).other (p := ⟨g', 2, none⟩) hne c).other (p := ⟨g', 3, none⟩) hne d).other (p := ⟨g', 4, none⟩) hne e
set_option maxRecDepth 100000 in
set_option maxHeartbeats 1500000 in
theorem rOf (b : List Int) (A : Option Addr) (n d : Nat) (w : World) (hA : Has .u8 w A b) (hl : b.length = n) (hn : n ≤ 100000) (hb : ∀ z ∈ b, 0 ≤ z ∧ z ≤ 255) :
    Calls Tryd.prog 38 #[.slice A n d] w fun e w' => e = .returned (.agg (darr (digest b))) ∧ Below w.heap.size w w' := by
  have hfi : In5 first := by unfold In5 first; decide
  obtain ⟨f, hf⟩ : ∃ f, first = f := ⟨_, rfl⟩
  have HDG : Hid (digest b = wbytes (blks (b ++ padL b.length) ((b.length + (padL b.length).length) / 64) f)) := Lib.hid (by rw [← hf]; rfl)
  rw [hf] at hfi
  have HFI := Lib.hid hfi
  have HF := Lib.hid hf
  clear hfi hf
  have HA := Lib.hid hA
  have HL := Lib.hid hl
  have HB := Lib.hid hb
  have HN := Lib.hid hn
  obtain ⟨m, hm⟩ : ∃ m, zerosN n + 9 = m := ⟨_, rfl⟩
  have HM : Hid ((padL n).length = m ∧ 9 ≤ m ∧ m ≤ 72) := Lib.hid (by rw [padL_len]; have := zerosN_lt n; omega)
  obtain ⟨q, hq⟩ : ∃ q, n + m = q := ⟨_, rfl⟩
  have HQ := Lib.hid hq
  have HQ64 : Hid (q % 64 = 0) := Lib.hid (by have := pad_64 n; rw [HM.out.1] at this; omega)
  have n9 : (n : Int) ≤ 100000 := by omega
  have q9' : (q : Int) ≤ 100072 := by have := HM.out; omega
  obtain ⟨v, hv⟩ : ∃ v, blks (b ++ padL b.length) ((b.length + (padL b.length).length) / 64) f = v := ⟨_, rfl⟩
  have HV := Lib.hid hv
  have HDV : Hid (digest b = wbytes v) := Lib.hid (by rw [HDG.out, hv])
  have HZM := Lib.hid hm
  clear hA hl hb hn hv hm hq
  go_enter Tryd.func38, Tryd.ntmps38
  go_wp2_with (first | (at_builtin; refine app8z rfl (.tmp 8) (.tmp 9) rfl (w.heap.size + 1) _ [] rfl (.inr ⟨rfl, _, rfl⟩) A n d b rfl HL.out (HA.out.below (by (repeat' (first | (with_reducible exact Below.refl _ _) | (with_reducible assumption) | (with_reducible refine below_drewN ?_ _) | (with_reducible refine below_new ?_ _) | (with_reducible refine Below.alloc ?_ ?_ _) | (with_reducible refine Below.drew ?_) | (with_reducible refine Below.setCell ?_ ?_ _) | (with_reducible apply below_at; (case k => (with_reducible assumption)); (case hB => omega)) | (with_reducible apply below_on; (with_reducible assumption)) | (go_size; done) | (with_reducible apply size_of)))) (Nat.le_refl _)) n (by simp) (by have := HN.out; omega) (by simp) ?_; intro A3 c3 w3 ho3 hk3 hb3; rw [List.nil_append] at ho3; have HO3 := Lib.hid ho3; have HB3 : Hid (Below (w.heap.size + 1) (w.alloc (.cells z20.toArray 52)) w3) := Lib.hid (Below.trans ((Below.refl _ _).alloc (by simp) _) hb3); clear ho3 hk3 hb3))
  refine (rPadding n _ HN.out).mono ?_
  rintro e w4 ⟨A1, c1, rfl, ho1, hb1⟩
  rw [HZM.out] at ho1
  rw [HZM.out]
  have HO1 := Lib.hid ho1
  have HB1 := Lib.hid hb1
  have HO3' := Lib.hid (HO3.out.past hb1)
  have HZ4 : Hid (Lies w4 w.heap.size 52 z20 ∧ Below w.heap.size w w4) := Lib.hid ⟨((Lies.fresh_at (cs := z20) rfl).below HB3.out (by omega)).past hb1, ((((Below.refl _ _).alloc (Nat.le_refl _) _).trans (HB3.out.mono (by omega)))).trans (hb1.mono (by have := HB3.out.size; simp at this; omega))⟩
  clear ho1 hb1
  go_wp2_with (first | (at_builtin; refine app8z rfl (.tmp 10) (.tmp 13) rfl (w.heap.size + 1) _ b rfl HO3'.out A1 m c1 (padL n) rfl HM.out.1 HO1.out.has q (by rw [HL.out]; exact HQ.out) (by have := HM.out; omega) (by have := HB1.out.size; have := HB3.out.size; simp at this; omega) ?_; intro A4 c4 w5 ho4 hk4 hb4; have HO4 := Lib.hid ho4; have HZ5 : Hid (Lies w5 w.heap.size 52 z20 ∧ Below w.heap.size w w5) := Lib.hid ⟨HZ4.out.1.below hb4 (by omega), HZ4.out.2.trans (hb4.mono (by omega))⟩; clear ho4 hk4 hb4))
  refine (rFirst' HF.out _).mono ?_
  rintro e w6 ⟨rfl, hb6⟩
  have HO6 := Lib.hid (HO4.out.past hb6)
  have HZ6 : Hid (Lies w6 w.heap.size 52 z20 ∧ Below w.heap.size w w6) := Lib.hid ⟨HZ5.out.1.past hb6, HZ5.out.2.trans (hb6.mono HZ5.out.2.size)⟩
  clear hb6
  go_wp2_with fail
  go_loopw [5] (fun i wr => ∃ t s : Nat, 64 * t = s ∧ s ≤ q ∧ i = .int .i64 s ∧ Lies (wr) (w6.heap.size) 98 (c5 (blks (b ++ padL n) t f)) ∧ OwnZ wr (w.heap.size + 1) (.slice A4 q c4) (b ++ padL n) ∧ Lies wr w.heap.size 52 z20 ∧ Below w.heap.size w wr) (fun i _ => q - (intOf i).toNat)
  case atStart =>
    exact ⟨0, 0, rfl, Nat.zero_le _, rfl, Lies.fresh_at (cs := c5 f) rfl, HO6.out.alloc _, HZ6.out.1.alloc _, by have := HZ6.out.2; (repeat' (first | (with_reducible exact Below.refl _ _) | (with_reducible assumption) | (with_reducible refine below_drewN ?_ _) | (with_reducible refine below_new ?_ _) | (with_reducible refine Below.alloc ?_ ?_ _) | (with_reducible refine Below.drew ?_) | (with_reducible refine Below.setCell ?_ ?_ _) | (with_reducible apply below_at; (case k => (with_reducible assumption)); (case hB => omega)) | (with_reducible apply below_on; (with_reducible assumption)) | (go_size; done) | (with_reducible apply size_of)))⟩
  case round =>
    obtain ⟨t, s, hs, hq, rfl, K, own, Z, acc⟩ := hrel
    have HK := Lib.hid K
    have HO := Lib.hid own
    have HZ := Lib.hid Z
    have HACC := Lib.hid acc
    have HTS := Lib.hid hs
    have HNE : Hid (w.heap.size < w6.heap.size) := Lib.hid HZ6.out.1.lt
    by_cases hlt : s < q
    · have s1 : (s : Int) + 64 ≤ q := by have := HQ64.out; have := HTS.out; omega
      have s0 : 0 ≤ (s : Int) := by omega
      have r1 : IntKind.i64.wrap ((s : Int) + 64) = (s : Int) + 64 := IntWalk.i64_in _ (by omega)
      have r3 : (s : Int) < q := by omega
      have HLT := Lib.hid hlt
      obtain ⟨A', cc, e4, has4, le4⟩ := own.val
      injection e4 with e41 e42 e43
      subst e41
      subst e43
      have hlen : (b ++ padL n).length = q := by rw [List.length_append, HL.out, HM.out.1]; exact HQ.out
      rw [hlen] at le4
      obtain ⟨ga, oa, rfl, hga, hgc⟩ := has_some has4 (by rw [hlen]; omega)
      have HCH : Hid (Has .u8 wr (some ⟨ga, oa + s, none⟩) (((b ++ padL n).drop s).take 64) ∧ (((b ++ padL n).drop s).take 64).length = 64 ∧ ∀ z ∈ ((b ++ padL n).drop s).take 64, 0 ≤ z ∧ z ≤ 255) := Lib.hid ⟨(has4.dropAt s).front 64, by rw [List.length_take, List.length_drop, hlen]; omega, bd_cut (fun z hz => (List.mem_append.1 hz).elim (HB.out z) (rpad_bd n z)) s 64⟩
      obtain ⟨u, hu⟩ : ∃ u, blks (b ++ padL n) (t + 1) f = u := ⟨_, rfl⟩
      have HU : Hid (dn (blks (b ++ padL n) t f) (((b ++ padL n).drop s).take 64) = u) := Lib.hid (by rw [← hu, blks, HTS.out])
      have HU2 := Lib.hid hu
      have HIN : Hid (In5 (blks (b ++ padL n) t f)) := Lib.hid (blks_in HFI.out t)
      have q5 : (q : Int) ≤ c4 := by omega
      have q6 : ¬ c4 = s := by omega
      have q7 : s + 64 - s = 64 := by omega
      have q8 : ((s : Int) + 64).toNat = s + 64 := by omega
      have q9 : ((s : Int)).toNat = s := by omega
      have q10 : (s : Int) + 64 ≤ c4 := by omega
      have q12 : 0 ≤ (s : Int) + 64 := by omega
      have HQ11 : Hid (64 ≤ c4 - s) := Lib.hid (by omega)
      have HKL := Lib.hid K.lt
      obtain ⟨p0, p1, p2, p3, p4⟩ := five K
      have HPP := Lib.hid (And.intro p0 (And.intro p1 (And.intro p2 (And.intro p3 p4))))
      clear K own Z acc hs hq hlt hu hlen le4 e42 has4 hga hgc p0 p1 p2 p3 p4
      generalize blks (b ++ padL n) t f = v' at *
      generalize ((b ++ padL n).drop s).take 64 = ch at *
      go_wp2_with fail
      (have RD := grows_roads (S := fun x' => Below wr.heap.size wr x') (fun a b h1 h2 => h2.trans (h1.mono h2.size))); refine region_ordT 7 _ Grows RD (Below.drew (Below.refl _ _)) (by kernel_rfl) (by decide) ?_; intro ops Q' hops hPQ hN; (have HNS : Hid (Region.noSelect ops = true ∧ Region.sinkB .any ops 7 = true ∧ Region.chainB .any ops 7 = true ∧ 7 < ops.size) := Lib.hid (by rw [hops]; exact ⟨by kernel_rfl, by kernel_rfl, by kernel_rfl, by decide⟩)); (have hsz : ops.size = 8 := (by rw [hops]; rfl)); have HOP := Lib.hid hops; have HPQ := Lib.hid hPQ; have HN := Lib.hid hN; rw [hsz]; clear hops hsz hPQ hN
      refine ordT_take RD 0 (at_list (by rw [HOP.out]; rfl)) HNS.out HPQ.out (by rw [HOP.out]; kernel_rfl) (by rw [HOP.out]; kernel_rfl) (by rw [HOP.out]; rfl) (fun K hK => ?_); apply Exists.intro; refine ⟨fun W hSW => ?_, hK _ ?_⟩; (focus ((try dsimp only at hSW); (obtain ⟨p0, p1, p2, p3, p4⟩ := HPP.out; rw [← hSW.cell (p := ⟨w6.heap.size, _, none⟩) HKL.out] at p0 p1 p2 p3 p4); go_simp; try with_reducible rfl)); clear hK K; (try simp only [Act.put, List.setIfInBounds_toArray, List.set_cons_zero, List.set_cons_succ])
      refine ordT_take RD 1 (at_list (by rw [HOP.out]; rfl)) HNS.out HPQ.out (by rw [HOP.out]; kernel_rfl) (by rw [HOP.out]; kernel_rfl) (by rw [HOP.out]; rfl) (fun K hK => ?_); apply Exists.intro; refine ⟨fun W hSW => ?_, hK _ ?_⟩; (focus ((try dsimp only at hSW); go_simp; try with_reducible rfl)); clear hK K; (try simp only [Act.put, List.setIfInBounds_toArray, List.set_cons_zero, List.set_cons_succ])
      refine ordT_take RD 2 (at_list (by rw [HOP.out]; rfl)) HNS.out HPQ.out (by rw [HOP.out]; kernel_rfl) (by rw [HOP.out]; kernel_rfl) (by rw [HOP.out]; rfl) (fun K hK => ?_); apply Exists.intro; refine ⟨fun W hSW => ?_, hK _ ?_⟩; (focus ((try dsimp only at hSW); go_simp; try with_reducible rfl)); clear hK K; (try simp only [Act.put, List.setIfInBounds_toArray, List.set_cons_zero, List.set_cons_succ])
      refine ordT_take RD 3 (at_list (by rw [HOP.out]; rfl)) HNS.out HPQ.out (by rw [HOP.out]; kernel_rfl) (by rw [HOP.out]; kernel_rfl) (by rw [HOP.out]; rfl) (fun K hK => ?_); apply Exists.intro; refine ⟨fun W hSW => ?_, hK _ ?_⟩; (focus ((try dsimp only at hSW); go_simp; try with_reducible rfl)); clear hK K; (try simp only [Act.put, List.setIfInBounds_toArray, List.set_cons_zero, List.set_cons_succ])
      refine ordT_take RD 4 (at_list (by rw [HOP.out]; rfl)) HNS.out HPQ.out (by rw [HOP.out]; kernel_rfl) (by rw [HOP.out]; kernel_rfl) (by rw [HOP.out]; rfl) (fun K hK => ?_); apply Exists.intro; refine ⟨fun W hSW => ?_, hK _ ?_⟩; (focus ((try dsimp only at hSW); go_simp; try with_reducible rfl)); clear hK K; (try simp only [Act.put, List.setIfInBounds_toArray, List.set_cons_zero, List.set_cons_succ])
      refine ordT_take RD 5 (at_list (by rw [HOP.out]; rfl)) HNS.out HPQ.out (by rw [HOP.out]; kernel_rfl) (by rw [HOP.out]; kernel_rfl) (by rw [HOP.out]; rfl) (fun K hK => ?_); apply Exists.intro; refine ⟨fun W hSW => ?_, hK _ ?_⟩; (focus ((try dsimp only at hSW); go_simp; try with_reducible rfl)); clear hK K; (try simp only [Act.put, List.setIfInBounds_toArray, List.set_cons_zero, List.set_cons_succ])
      refine ordT_take RD 6 (at_list (by rw [HOP.out]; rfl)) HNS.out HPQ.out (by rw [HOP.out]; kernel_rfl) (by rw [HOP.out]; kernel_rfl) (by rw [HOP.out]; rfl) (fun K hK => ?_); apply Exists.intro; refine ⟨fun W hSW => ?_, hK _ ?_⟩; (focus ((try dsimp only at hSW); go_simp; exact (rdone HU.out (HCH.out.1.below hSW (Nat.le_refl _)) HCH.out.2.1 HQ11.out HCH.out.2.2 HIN.out))); clear hK K; (try simp only [Act.put, List.setIfInBounds_toArray, List.set_cons_zero, List.set_cons_succ])
      refine ordT_end (by rw [HOP.out]; kernel_rfl) (fun W3 hWW hSW => ?_); rw [HOP.out]; simp only [List.drop_succ_cons, List.drop_zero]; have hN := HN.out; clear HOP HNS HPQ HN RD; (try dsimp only at hSW)
      have HK3 := Lib.hid (HK.out.past hSW)
      have HO3 := Lib.hid (HO.out.past hSW)
      have HZ3 := Lib.hid (HZ.out.past hSW)
      have HA3 : Hid (Below w.heap.size w W3) := Lib.hid (HACC.out.trans (hSW.mono HACC.out.size))
      obtain ⟨f0, f1, f2, f3, f4⟩ := free5 HK3.out
      obtain ⟨z0, z1, z2, z3, z4⟩ := five HK3.out
      have zl := HK3.out.lt
      clear hSW hWW
      go_wp2_with fail
      refine ⟨⟨t + 1, s + 64, by have := HTS.out; omega, by have := HQ64.out; have := HTS.out; omega, by go_num, ?_, ownz_s5 HO3.out HK3.out (by decide) _ _ _ _ _, ?_, ?_⟩, by simp [intOf]; have := HLT.out; omega⟩
      · rw [HU2.out]; exact lies_set5 HK3.out u
      · exact far5 HZ3.out (by have := HNE.out; omega) _ _ _ _ _
      · have := HA3.out; have : w.heap.size ≤ w6.heap.size := HZ6.out.2.size; (repeat' (first | (with_reducible exact Below.refl _ _) | (with_reducible assumption) | (with_reducible refine below_drewN ?_ _) | (with_reducible refine below_new ?_ _) | (with_reducible refine Below.alloc ?_ ?_ _) | (with_reducible refine Below.drew ?_) | (with_reducible refine Below.setCell ?_ ?_ _) | (with_reducible apply below_at; (case k => (with_reducible assumption)); (case hB => omega)) | (with_reducible apply below_on; (with_reducible assumption)) | (go_size; done) | (with_reducible apply size_of)))
    · have s1 : (q : Int) ≤ s := by omega
      have HV9 : Hid (blks (b ++ padL n) t f = v) := Lib.hid (by
        rw [← HV.out, HL.out, HM.out.1]
        congr 1
        have := HQ.out; have := HTS.out; omega)
      have HK' : Hid (Lies (wr) (w6.heap.size) 98 (c5 (v))) := Lib.hid (by rw [← HV9.out]; exact K)
      have HIN : Hid (In5 v) := Lib.hid (by rw [← HV9.out]; exact blks_in HFI.out t)
      clear K own Z acc hs hq hlt HK HO
      go_wp2_with fail
      have HBX0 : Hid (w6.heap.size < wr.heap.size ∧ w.heap.size < wr.heap.size ∧ Below w.heap.size w wr) := Lib.hid ⟨HK'.out.lt, HZ.out.lt, HACC.out⟩
      generalize hg9 : wr.heap.size = g9 at *
      have HG9 := Lib.hid hg9
      have HBX : Hid (w6.heap.size < g9 ∧ w.heap.size < g9) := Lib.hid ⟨HBX0.out.1, HBX0.out.2.1⟩
      clear hg9
      go_loopw [7] (fun i wz => ∃ k : Nat, k ≤ 20 ∧ i = .int .i64 k ∧ Lies (wz) (w6.heap.size) 98 (c5 (v)) ∧ Lies wz w.heap.size 52 z20 ∧ Lies wz g9 52 (bc v k) ∧ Below w.heap.size w wz) (fun i _ => 20 - (intOf i).toNat)
      case atStart =>
        refine ⟨0, by omega, rfl, HK'.out.alloc _, HZ.out.alloc _, ?_, by have := HACC.out; (repeat' (first | (with_reducible exact Below.refl _ _) | (with_reducible assumption) | (with_reducible refine below_drewN ?_ _) | (with_reducible refine below_new ?_ _) | (with_reducible refine Below.alloc ?_ ?_ _) | (with_reducible refine Below.drew ?_) | (with_reducible refine Below.setCell ?_ ?_ _) | (with_reducible apply below_at; (case k => (with_reducible assumption)); (case hB => omega)) | (with_reducible apply below_on; (with_reducible assumption)) | (go_size; done) | (with_reducible apply size_of)))⟩
        rw [bc_0]; exact Lies.fresh_at (cs := z20) HG9.out
      case round =>
        clear HK' HZ HACC
        obtain ⟨k, hk, rfl, R, Z, D, acc⟩ := hrel
        have HR := Lib.hid R
        have HZ := Lib.hid Z
        have HD := Lib.hid D
        have HACC := Lib.hid acc
        by_cases hlt : k < 20
        · have p0 := R.cell (k / 4)
          rw [c5, List.getElem?_map, l5_get v (k / 4) (by omega)] at p0
          simp only [Option.map_some] at p0
          have hx : 0 ≤ (l5 v).getD (k / 4) 0 ∧ (l5 v).getD (k / 4) 0 ≤ 4294967295 := by
            obtain ⟨h1, h2, h3, h4, h5⟩ := HIN.out
            rcases (show k / 4 = 0 ∨ k / 4 = 1 ∨ k / 4 = 2 ∨ k / 4 = 3 ∨ k / 4 = 4 by omega) with e | e | e | e | e <;> rw [e] <;> assumption
          obtain ⟨x1, x2⟩ := hx
          have p2 := D.free k
          obtain ⟨old, q0⟩ : ∃ old, _ = some old := ⟨_, (D.cell k).trans (List.getElem?_eq_getElem (by rw [bc_len v (by omega)]; omega))⟩
          have zk := D.lt
          have HX := Lib.hid (wbytes_at v k hlt)
          have HLT := Lib.hid hlt
          have k0 : 0 ≤ (k : Int) := by omega
          have k1 : (k : Int) < 20 := by omega
          have n1 : (k : Int) / 4 < 5 := by omega
          have n0 : 0 ≤ (k : Int) / 4 := by omega
          have n2 : ((k : Int) / 4).toNat = k / 4 := by omega
          have m1 : (24 - 8 * ((k : Int) % 4)).toNat = 24 - 8 * (k % 4) := by omega
          have m2 : 0 ≤ 24 - 8 * ((k : Int) % 4) := by omega
          have m3 : 24 - 8 * ((k : Int) % 4) ≤ 24 := by omega
          clear R Z D acc hk hlt
          generalize (l5 v).getD (k / 4) 0 = x at *
          go_wp2_with fail
          refine ⟨⟨k + 1, by have := HLT.out; omega, by go_num, HR.out.other (by have := HBX.out; show g9 ≠ w6.heap.size; omega) _, HZ.out.other (by have := HBX.out; show g9 ≠ w.heap.size; omega) _, ?_, by have := HACC.out; have : w.heap.size ≤ g9 := (by have := HBX.out; omega); (repeat' (first | (with_reducible exact Below.refl _ _) | (with_reducible assumption) | (with_reducible refine below_drewN ?_ _) | (with_reducible refine below_new ?_ _) | (with_reducible refine Below.alloc ?_ ?_ _) | (with_reducible refine Below.drew ?_) | (with_reducible refine Below.setCell ?_ ?_ _) | (with_reducible apply below_at; (case k => (with_reducible assumption)); (case hB => omega)) | (with_reducible apply below_on; (with_reducible assumption)) | (go_size; done) | (with_reducible apply size_of)))⟩, by simp [intOf]; have := HLT.out; omega⟩
          have := HD.out.set k (.int .u8 (x / 2 ^ (24 - 8 * (k % 4)) % 256))
          rwa [bc_set v HLT.out _ HX.out.symm] at this
        · have k20 : ¬ (k : Int) < 20 := by omega
          have HD' : Hid (wr.heap[g9]? = some (.cells (darr (wbytes v)) 52 (0, 0))) := Lib.hid (by have := HD.out; unfold Lies at this; rw [bc_20 v k (by omega)] at this; exact this)
          have HP := Lib.hid (done1 v)
          clear R Z D acc hk hlt HD
          go_upto_region 12 with fail
          go_step
          refine wpList_load_row (P := Tryd.prog) rfl 52 (.tmp 6) rfl g9 rfl 52 (darr (wbytes v)) (0, 0) _ HD'.out Tryd.underlying52 rfl (info20 v) ?_
          refine wpList_store_arr (P := Tryd.prog) rfl 52 (.tmp 2) (.tmp 45) rfl w.heap.size rfl (darr (wbytes v)) rfl 52 _ HZ.out rfl HP.out (info20 v) ?_
          intro w9 hR9 hb9 hz9
          go_wp2_with fail
          refine bodyPost_ret (results_cell_row (P := Tryd.prog) Tryd.results38 _ _ _ _ _ _ _ rfl hR9 Tryd.underlying52 rfl (info20 v)) rfl ⟨by rw [HDV.out], ?_⟩
          exact HACC.out.trans hb9
end Go.Proofs.YtphakelncjogpaaDoor.shW
