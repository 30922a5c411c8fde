/- The reference's context numbers, by walks. -/
import Derived.Test.YtpggdijhfdddpaaDoorCxW5
import Derived.Test.YtpggdijhfdddpaaDoorHashLawsB
namespace Go.Proofs.YtpggdijhfdddpaaDoor.cxW
open Go.RowKit Go.Proofs.YtpggdijhfdddpaaDoor.base Go.Proofs.YtpggdijhfdddpaaDoor.rgP Go.Proofs.YtpggdijhfdddpaaDoor.cxP Go.Proofs.YtpggdijhfdddpaaDoor.hashP Go.Proofs.YtpggdijhfdddpaaDoor.hashW
set_option linter.unusedVariables false
set_option linter.unusedSimpArgs false
theorem rhashG (k : Int) (A : Option Addr) (len cap : Nat) (zs : List Int) (w : World) (k1 : 0 ≤ k) (k2 : k < 8) (hz : ∀ z ∈ zs, 0 ≤ z ∧ z ≤ 255) (hc : Has .u8 w A zs) (hlen : zs.length = len) (hl : len ≤ 9223372036854775807) :
    Calls Tryd.prog 44 #[.int .i64 k, .slice A len cap] w fun e w' => e = .returned (.int .u32 (hSteps (kStart k) zs)) ∧ Grows w w' :=
  (hashL.rhash_any k A len cap zs w k1 k2 hz hc hlen hl).mono fun _ _ ⟨h1, h2⟩ => ⟨h1, h2 ▸ Below.refl _ _⟩
set_option maxRecDepth 100000 in
set_option maxHeartbeats 2000000 in
theorem Marks_any (r : Rg) (A : Option Addr) (n c : Nat) (w : World) (h : RgIn w A n c r) (hok : rgOk r = true) :
    Calls Tryd.prog 29 #[.agg #[.int .i64 (r).l, .slice A n c, .int .i64 (r).n]] w fun e w' => e = .returned (.agg #[.int .u32 (mk r 0), .int .u32 (mk r 1), .int .u32 (mk r 2), .int .u32 (mk r 3), .int .u32 (mk r 4), .int .u32 (mk r 5)]) ∧ Below w.heap.size w w' := by
  have H := Lib.hid h
  have HOK := Lib.hid hok
  have LL : Hid (Lies (w.alloc (.cells #[.int .i64 r.l, .slice A n c, .int .i64 r.n] 24)) (w.heap.size) 24 [.int .i64 (r).l, .slice (A) (n) (c), .int .i64 (r).n]) := Lib.hid (Lies.fresh _ _ _)
  have HBD := Lib.hid (fun k => last_bd h.b k)
  clear h hok
  go_enter Tryd.func29, Tryd.ntmps29
  go_wp2_with fail
  refine (Lately_any r A n c 6 _ (H.out.below (by (repeat' (first | (with_reducible exact Below.refl _ _) | (with_reducible assumption) | (with_reducible refine below_drewN ?_ _) | (with_reducible refine below_new ?_ _) | (with_reducible refine Below.alloc ?_ ?_ _) | (with_reducible refine Below.drew ?_) | (with_reducible refine Below.setCell ?_ ?_ _) | (with_reducible apply below_at; (case k => (with_reducible assumption)); (case hB => omega)) | (with_reducible apply below_on; (with_reducible assumption)) | (go_size; done) | (with_reducible apply size_of))))) HOK.out (by omega)).mono ?_
  rintro e w1 ⟨A1, c1, rfl, o1, hb1⟩
  have HL : Hid (Lies (w1) (w.heap.size) 24 [.int .i64 (r).l, .slice (A) (n) (c), .int .i64 (r).n]) := Lib.hid ((LL.out.alloc _).past hb1)
  have HZ : Hid (Lies (w1) (w.heap.size + 1) 28 [.int .u32 0, .int .u32 0, .int .u32 0, .int .u32 0, .int .u32 0, .int .u32 0]) := Lib.hid ((Lies.fresh_at (cs := [.int .u32 0, .int .u32 0, .int .u32 0, .int .u32 0, .int .u32 0, .int .u32 0]) (by simp)).past hb1)
  have HB : Hid (Below w.heap.size w w1) := Lib.hid (by (repeat' (first | (with_reducible exact Below.refl _ _) | (with_reducible assumption) | (with_reducible refine below_drewN ?_ _) | (with_reducible refine below_new ?_ _) | (with_reducible refine Below.alloc ?_ ?_ _) | (with_reducible refine Below.drew ?_) | (with_reducible refine Below.setCell ?_ ?_ _) | (with_reducible apply below_at; (case k => (with_reducible assumption)); (case hB => omega)) | (with_reducible apply below_on; (with_reducible assumption)) | (go_size; done) | (with_reducible apply size_of))))
  have HCAP : Hid (6 ≤ c1) := Lib.hid (by obtain ⟨A', cap, e, h1, h2⟩ := o1.val; injection e with e1 e2 e3; subst e3; rw [cxP.last_len] at h2; exact h2)
  obtain ⟨g1, rfl, hg1, hg2, own'⟩ := rgW.OwnZ.head o1 (by intro e; have := congrArg List.length e; simp [cxP.last_len] at this)
  have HD : Hid (∀ W, Below w1.heap.size w1 W → ∀ s, s ≤ 6 → Has .u8 W (some ⟨g1, s, none⟩) (lastL r (6 - s))) := Lib.hid (fun W hW s hs => by
    have := (o1.has.below hW (Nat.le_refl _)).dropAt s
    rw [last_drop r 6 s hs, Nat.zero_add] at this
    exact this)
  have t5 : (5 : Int) ≤ c1 := by have := HCAP.out; omega
  have t4 : (4 : Int) ≤ c1 := by omega
  have t3 : (3 : Int) ≤ c1 := by omega
  have t2 : (2 : Int) ≤ c1 := by omega
  have u5 : ¬ c1 = 5 := by have := HCAP.out; omega
  have u4 : ¬ c1 = 4 := by omega
  have u3 : ¬ c1 = 3 := by omega
  have u2 : ¬ c1 = 2 := by omega
  clear o1 hb1 own' hg1 hg2
  go_wp2_with fail
  (have RD := grows_roads (S := fun x' => Below w1.heap.size w1 x') (fun a b h1 h2 => h2.trans (h1.mono h2.size))); refine region_ordT 15 _ Grows RD (Below.drew (Below.refl _ _)) (by kernel_rfl) (by decide) ?_; intro ops Q' hops hPQ hN; (have HNS : Hid (Region.noSelect ops = true ∧ Region.sinkB .any ops 15 = true ∧ Region.chainB .any ops 15 = true ∧ 15 < ops.size) := Lib.hid (by rw [hops]; exact ⟨by kernel_rfl, by kernel_rfl, by kernel_rfl, by decide⟩)); (have hsz : ops.size = 20 := (by rw [hops]; rfl)); have HOP := Lib.hid hops; have HPQ := Lib.hid hPQ; have HN := Lib.hid hN; rw [hsz]; clear hops hsz hPQ hN
  refine ordT_take RD 0 (at_list (by rw [HOP.out]; rfl)) HNS.out HPQ.out (by rw [HOP.out]; kernel_rfl) (by rw [HOP.out]; kernel_rfl) (by rw [HOP.out]; rfl) (fun K hK => ?_); apply Exists.intro; refine ⟨fun W hSW => ?_, hK _ ?_⟩; (focus ((try dsimp only at hSW); go_simp; try with_reducible rfl)); clear hK K; (try simp only [Act.put, List.setIfInBounds_toArray, List.set_cons_zero, List.set_cons_succ])
  refine ordT_take RD 1 (at_list (by rw [HOP.out]; rfl)) HNS.out HPQ.out (by rw [HOP.out]; kernel_rfl) (by rw [HOP.out]; kernel_rfl) (by rw [HOP.out]; rfl) (fun K hK => ?_); apply Exists.intro; refine ⟨fun W hSW => ?_, hK _ ?_⟩; (focus ((try dsimp only at hSW); go_simp; try with_reducible rfl)); clear hK K; (try simp only [Act.put, List.setIfInBounds_toArray, List.set_cons_zero, List.set_cons_succ])
  refine ordT_take RD 2 (at_list (by rw [HOP.out]; rfl)) HNS.out HPQ.out (by rw [HOP.out]; kernel_rfl) (by rw [HOP.out]; kernel_rfl) (by rw [HOP.out]; rfl) (fun K hK => ?_); apply Exists.intro; refine ⟨fun W hSW => ?_, hK _ ?_⟩; (focus ((try dsimp only at hSW); go_simp; exact (rhashG 0 (some ⟨g1, 5, none⟩) 1 _ (lastL r 1) W (by omega) (by omega) (HBD.out 1) (HD.out W hSW 5 (by omega)) (cxP.last_len r 1) (by omega)))); clear hK K; (try simp only [Act.put, List.setIfInBounds_toArray, List.set_cons_zero, List.set_cons_succ])
  refine ordT_take RD 3 (at_list (by rw [HOP.out]; rfl)) HNS.out HPQ.out (by rw [HOP.out]; kernel_rfl) (by rw [HOP.out]; kernel_rfl) (by rw [HOP.out]; rfl) (fun K hK => ?_); apply Exists.intro; refine ⟨fun W hSW => ?_, hK _ ?_⟩; (focus ((try dsimp only at hSW); go_simp; try with_reducible rfl)); clear hK K; (try simp only [Act.put, List.setIfInBounds_toArray, List.set_cons_zero, List.set_cons_succ])
  refine ordT_take RD 4 (at_list (by rw [HOP.out]; rfl)) HNS.out HPQ.out (by rw [HOP.out]; kernel_rfl) (by rw [HOP.out]; kernel_rfl) (by rw [HOP.out]; rfl) (fun K hK => ?_); apply Exists.intro; refine ⟨fun W hSW => ?_, hK _ ?_⟩; (focus ((try dsimp only at hSW); go_simp; try with_reducible rfl)); clear hK K; (try simp only [Act.put, List.setIfInBounds_toArray, List.set_cons_zero, List.set_cons_succ])
  refine ordT_take RD 5 (at_list (by rw [HOP.out]; rfl)) HNS.out HPQ.out (by rw [HOP.out]; kernel_rfl) (by rw [HOP.out]; kernel_rfl) (by rw [HOP.out]; rfl) (fun K hK => ?_); apply Exists.intro; refine ⟨fun W hSW => ?_, hK _ ?_⟩; (focus ((try dsimp only at hSW); go_simp; exact (rhashG 1 (some ⟨g1, 4, none⟩) 2 _ (lastL r 2) W (by omega) (by omega) (HBD.out 2) (HD.out W hSW 4 (by omega)) (cxP.last_len r 2) (by omega)))); clear hK K; (try simp only [Act.put, List.setIfInBounds_toArray, List.set_cons_zero, List.set_cons_succ])
  refine ordT_take RD 6 (at_list (by rw [HOP.out]; rfl)) HNS.out HPQ.out (by rw [HOP.out]; kernel_rfl) (by rw [HOP.out]; kernel_rfl) (by rw [HOP.out]; rfl) (fun K hK => ?_); apply Exists.intro; refine ⟨fun W hSW => ?_, hK _ ?_⟩; (focus ((try dsimp only at hSW); go_simp; try with_reducible rfl)); clear hK K; (try simp only [Act.put, List.setIfInBounds_toArray, List.set_cons_zero, List.set_cons_succ])
  refine ordT_take RD 7 (at_list (by rw [HOP.out]; rfl)) HNS.out HPQ.out (by rw [HOP.out]; kernel_rfl) (by rw [HOP.out]; kernel_rfl) (by rw [HOP.out]; rfl) (fun K hK => ?_); apply Exists.intro; refine ⟨fun W hSW => ?_, hK _ ?_⟩; (focus ((try dsimp only at hSW); go_simp; try with_reducible rfl)); clear hK K; (try simp only [Act.put, List.setIfInBounds_toArray, List.set_cons_zero, List.set_cons_succ])
  refine ordT_take RD 8 (at_list (by rw [HOP.out]; rfl)) HNS.out HPQ.out (by rw [HOP.out]; kernel_rfl) (by rw [HOP.out]; kernel_rfl) (by rw [HOP.out]; rfl) (fun K hK => ?_); apply Exists.intro; refine ⟨fun W hSW => ?_, hK _ ?_⟩; (focus ((try dsimp only at hSW); go_simp; exact (rhashG 2 (some ⟨g1, 3, none⟩) 3 _ (lastL r 3) W (by omega) (by omega) (HBD.out 3) (HD.out W hSW 3 (by omega)) (cxP.last_len r 3) (by omega)))); clear hK K; (try simp only [Act.put, List.setIfInBounds_toArray, List.set_cons_zero, List.set_cons_succ])
  refine ordT_take RD 9 (at_list (by rw [HOP.out]; rfl)) HNS.out HPQ.out (by rw [HOP.out]; kernel_rfl) (by rw [HOP.out]; kernel_rfl) (by rw [HOP.out]; rfl) (fun K hK => ?_); apply Exists.intro; refine ⟨fun W hSW => ?_, hK _ ?_⟩; (focus ((try dsimp only at hSW); go_simp; try with_reducible rfl)); clear hK K; (try simp only [Act.put, List.setIfInBounds_toArray, List.set_cons_zero, List.set_cons_succ])
  refine ordT_take RD 10 (at_list (by rw [HOP.out]; rfl)) HNS.out HPQ.out (by rw [HOP.out]; kernel_rfl) (by rw [HOP.out]; kernel_rfl) (by rw [HOP.out]; rfl) (fun K hK => ?_); apply Exists.intro; refine ⟨fun W hSW => ?_, hK _ ?_⟩; (focus ((try dsimp only at hSW); go_simp; try with_reducible rfl)); clear hK K; (try simp only [Act.put, List.setIfInBounds_toArray, List.set_cons_zero, List.set_cons_succ])
  refine ordT_take RD 11 (at_list (by rw [HOP.out]; rfl)) HNS.out HPQ.out (by rw [HOP.out]; kernel_rfl) (by rw [HOP.out]; kernel_rfl) (by rw [HOP.out]; rfl) (fun K hK => ?_); apply Exists.intro; refine ⟨fun W hSW => ?_, hK _ ?_⟩; (focus ((try dsimp only at hSW); go_simp; exact (rhashG 3 (some ⟨g1, 2, none⟩) 4 _ (lastL r 4) W (by omega) (by omega) (HBD.out 4) (HD.out W hSW 2 (by omega)) (cxP.last_len r 4) (by omega)))); clear hK K; (try simp only [Act.put, List.setIfInBounds_toArray, List.set_cons_zero, List.set_cons_succ])
  refine ordT_take RD 12 (at_list (by rw [HOP.out]; rfl)) HNS.out HPQ.out (by rw [HOP.out]; kernel_rfl) (by rw [HOP.out]; kernel_rfl) (by rw [HOP.out]; rfl) (fun K hK => ?_); apply Exists.intro; refine ⟨fun W hSW => ?_, hK _ ?_⟩; (focus ((try dsimp only at hSW); go_simp; try with_reducible rfl)); clear hK K; (try simp only [Act.put, List.setIfInBounds_toArray, List.set_cons_zero, List.set_cons_succ])
  refine ordT_take RD 13 (at_list (by rw [HOP.out]; rfl)) HNS.out HPQ.out (by rw [HOP.out]; kernel_rfl) (by rw [HOP.out]; kernel_rfl) (by rw [HOP.out]; rfl) (fun K hK => ?_); apply Exists.intro; refine ⟨fun W hSW => ?_, hK _ ?_⟩; (focus ((try dsimp only at hSW); go_simp; exact (rhashG 4 (some ⟨g1, 0, none⟩) 6 _ (lastL r 6) W (by omega) (by omega) (HBD.out 6) (HD.out W hSW 0 (by omega)) (cxP.last_len r 6) (by omega)))); clear hK K; (try simp only [Act.put, List.setIfInBounds_toArray, List.set_cons_zero, List.set_cons_succ])
  refine ordT_take RD 14 (at_list (by rw [HOP.out]; rfl)) HNS.out HPQ.out (by rw [HOP.out]; kernel_rfl) (by rw [HOP.out]; kernel_rfl) (by rw [HOP.out]; rfl) (fun K hK => ?_); apply Exists.intro; refine ⟨fun W hSW => ?_, hK _ ?_⟩; (focus ((try dsimp only at hSW); (obtain ⟨y0, y1, y2, -, -, -⟩ := (HL.out.past hSW).three); go_simp; try with_reducible rfl)); clear hK K; (try simp only [Act.put, List.setIfInBounds_toArray, List.set_cons_zero, List.set_cons_succ])
  refine ordT_end (by rw [HOP.out]; kernel_rfl) (fun W3 hWW hSW => ?_); rw [HOP.out]; simp only [List.drop_succ_cons, List.drop_zero]; have hN := HN.out; clear HOP HNS HPQ HN RD; (try dsimp only at hSW)
  have HB3 := Lib.hid (HB.out.trans (hSW.mono HB.out.size))
  have HZ3 := Lib.hid (HZ.out.past hSW)
  have HMK : Hid (hSteps (kStart 0) (lastL r 1) = mk r 0 ∧ hSteps (kStart 1) (lastL r 2) = mk r 1 ∧ hSteps (kStart 2) (lastL r 3) = mk r 2 ∧ hSteps (kStart 3) (lastL r 4) = mk r 3 ∧ hSteps (kStart 4) (lastL r 6) = mk r 4 ∧ hSteps (kStart 5) (wordL (lastL r 16)) = mk r 5) := Lib.hid ⟨mk_eq r 0 (by omega), mk_eq r 1 (by omega), mk_eq r 2 (by omega), mk_eq r 3 (by omega), mk_eq r 4 (by omega), mk_eq r 5 (by omega)⟩
  rw [HMK.out.1, HMK.out.2.1, HMK.out.2.2.1, HMK.out.2.2.2.1, HMK.out.2.2.2.2.1]
  have HM5 := Lib.hid HMK.out.2.2.2.2.2
  clear hSW hWW HMK HD t5 t4 t3 t2 u5 u4 u3 u2
  generalize hm0 : mk r 0 = m0 at *
  generalize hm1 : mk r 1 = m1 at *
  generalize hm2 : mk r 2 = m2 at *
  generalize hm3 : mk r 3 = m3 at *
  generalize hm4 : mk r 4 = m4 at *
  generalize hm5 : mk r 5 = m5 at *
  have HMM := Lib.hid (And.intro hm0 (And.intro hm1 (And.intro hm2 (And.intro hm3 (And.intro hm4 hm5)))))
  clear hm0 hm1 hm2 hm3 hm4 hm5
  go_wp2_with fail
  refine (Lately_any r A n c 16 _ (H.out.below HB3.out) HOK.out (by omega)).mono ?_
  rintro e w4 ⟨A4, c4, rfl, o4, hb4⟩
  have HO4 := Lib.hid o4
  have HB4 := Lib.hid (HB3.out.trans (hb4.mono HB3.out.size))
  have HZ4 := Lib.hid (HZ3.out.past hb4)
  clear o4 hb4
  go_wp2_with fail
  refine (Spelt_any (lastL r 16) A4 16 c4 _ HO4.out.has (cxP.last_len r 16) (by omega) (HBD.out 16)).mono ?_
  rintro e w5 ⟨A5, q5, c5, rfl, hq5, o5, hb5⟩
  rw [spelt_word (by rw [cxP.last_len]; omega)] at hq5 o5
  have HO5 := Lib.hid o5
  have HQ5 := Lib.hid hq5
  have HB5 := Lib.hid (HB4.out.trans (hb5.mono HB4.out.size))
  have HZ5 := Lib.hid (HZ4.out.past hb5)
  have HWL : Hid ((wordL (lastL r 16)).length ≤ 16) := Lib.hid (by rw [word_len, cxP.last_len]; omega)
  clear o5 hb5 hq5
  go_wp2_with fail
  refine (hashL.rhash_any 5 A5 q5 c5 (wordL (lastL r 16)) _ (by omega) (by omega) (word_bd (HBD.out 16)) HO5.out.has HQ5.out.symm (by have := HQ5.out; have := HWL.out; omega)).mono ?_
  rintro e w6 ⟨rfl, rfl⟩
  rw [HM5.out]
  obtain ⟨f0, f1, f2, f3, f4, f5⟩ := free6 HZ5.out
  obtain ⟨z0, z1, z2, z3, z4, z5⟩ := six HZ5.out
  have zl := HZ5.out.lt
  go_wp2_with fail
  obtain ⟨t0, t1, t2, t3, t4, t5⟩ := six (lies_set6 HZ5.out (.int .u32 m0) (.int .u32 m1) (.int .u32 m2) (.int .u32 m3) (.int .u32 m4) (.int .u32 m5))
  clear f0 f1 f2 f3 f4 f5 z0 z1 z2 z3 z4 z5
  refine bodyPost_ret (by simp [results, Tryd.results29, go_sem, t0, t1, t2, t3, t4, t5]; try rfl) rfl ?_
  obtain ⟨q0, q1, q2, q3, q4, q5'⟩ := HMM.out
  exact ⟨by rw [q0, q1, q2, q3, q4, q5'], by have := HB5.out; (repeat' (first | (with_reducible exact Below.refl _ _) | (with_reducible assumption) | (with_reducible refine below_drewN ?_ _) | (with_reducible refine below_new ?_ _) | (with_reducible refine Below.alloc ?_ ?_ _) | (with_reducible refine Below.drew ?_) | (with_reducible refine Below.setCell ?_ ?_ _) | (with_reducible apply below_at; (case k => (with_reducible assumption)); (case hB => omega)) | (with_reducible apply below_on; (with_reducible assumption)) | (go_size; done) | (with_reducible apply size_of)))⟩
set_option maxRecDepth 100000 in
set_option maxHeartbeats 2000000 in
theorem rOf_any (r : Rg) (A : Option Addr) (n c : Nat) (w : World) (h : RgIn w A n c r) :
    Calls Tryd.prog 11 #[.agg #[.int .i64 (r).l, .slice A n c, .int .i64 (r).n]] w fun e w' => e = .returned (.tuple #[.agg #[.int .u32 (mkV r 0), .int .u32 (mkV r 1), .int .u32 (mkV r 2), .int .u32 (mkV r 3), .int .u32 (mkV r 4), .int .u32 (mkV r 5)], .int .i64 (rgE r)]) ∧ Below w.heap.size w w' := by
  have H := Lib.hid h
  have LL : Hid (Lies (w.alloc (.cells #[.int .i64 r.l, .slice A n c, .int .i64 r.n] 24)) (w.heap.size) 24 [.int .i64 (r).l, .slice (A) (n) (c), .int .i64 (r).n]) := Lib.hid (Lies.fresh _ _ _)
  cases hok : rgOk r
  · have HE := Lib.hid (E_no hok)
    have HV : Hid (∀ k, mkV r k = 0) := Lib.hid (fun k => by simp [mkV, hok])
    clear h hok
    go_enter Tryd.func11, Tryd.ntmps11
    go_wp2_with fail
    refine (rgW.rCheck_any r A n c _ (H.out.below (by (repeat' (first | (with_reducible exact Below.refl _ _) | (with_reducible assumption) | (with_reducible refine below_drewN ?_ _) | (with_reducible refine below_new ?_ _) | (with_reducible refine Below.alloc ?_ ?_ _) | (with_reducible refine Below.drew ?_) | (with_reducible refine Below.setCell ?_ ?_ _) | (with_reducible apply below_at; (case k => (with_reducible assumption)); (case hB => omega)) | (with_reducible apply below_on; (with_reducible assumption)) | (go_size; done) | (with_reducible apply size_of)))))).mono ?_
    rintro e w1 ⟨rfl, hb1⟩
    rw [HE.out]
    have HB1 : Hid (Below w.heap.size w w1) := Lib.hid (by (repeat' (first | (with_reducible exact Below.refl _ _) | (with_reducible assumption) | (with_reducible refine below_drewN ?_ _) | (with_reducible refine below_new ?_ _) | (with_reducible refine Below.alloc ?_ ?_ _) | (with_reducible refine Below.drew ?_) | (with_reducible refine Below.setCell ?_ ?_ _) | (with_reducible apply below_at; (case k => (with_reducible assumption)); (case hB => omega)) | (with_reducible apply below_on; (with_reducible assumption)) | (go_size; done) | (with_reducible apply size_of))))
    have HT1 : Hid (Lies (w1) (w.heap.size) 24 [.int .i64 (r).l, .slice (A) (n) (c), .int .i64 (r).n]) := Lib.hid ((LL.out.alloc _).past hb1)
    have HZ1 : Hid (Lies (w1) (w.heap.size + 1) 28 [.int .u32 0, .int .u32 0, .int .u32 0, .int .u32 0, .int .u32 0, .int .u32 0]) := Lib.hid ((Lies.fresh_at (cs := [.int .u32 0, .int .u32 0, .int .u32 0, .int .u32 0, .int .u32 0, .int .u32 0]) (by simp)).past hb1)
    obtain ⟨r0, r1, r2, -, -, -⟩ := HT1.out.three
    clear hb1
    go_wp2_with fail
    refine (rgW.rCheck_any r A n c _ (H.out.below HB1.out)).mono ?_
    rintro e w2 ⟨rfl, hb2⟩
    rw [HE.out]
    have HB2 := Lib.hid (HB1.out.trans (hb2.mono HB1.out.size))
    have HZ2 := Lib.hid (HZ1.out.past hb2)
    clear hb2 r0 r1 r2
    obtain ⟨f0, f1, f2, f3, f4, f5⟩ := free6 HZ2.out
    obtain ⟨z0, z1, z2, z3, z4, z5⟩ := six HZ2.out
    have zl := HZ2.out.lt
    go_wp2_with fail
    obtain ⟨t0, t1, t2, t3, t4, t5⟩ := six (lies_set6 HZ2.out (.int .u32 0) (.int .u32 0) (.int .u32 0) (.int .u32 0) (.int .u32 0) (.int .u32 0))
    clear f0 f1 f2 f3 f4 f5 z0 z1 z2 z3 z4 z5
    refine bodyPost_ret (by simp [results, Tryd.results11, go_sem, t0, t1, t2, t3, t4, t5]; try rfl) rfl ?_
    exact ⟨by rw [HV.out, HV.out, HV.out, HV.out, HV.out, HV.out, HE.out], by have := HB2.out; (repeat' (first | (with_reducible exact Below.refl _ _) | (with_reducible assumption) | (with_reducible refine below_drewN ?_ _) | (with_reducible refine below_new ?_ _) | (with_reducible refine Below.alloc ?_ ?_ _) | (with_reducible refine Below.drew ?_) | (with_reducible refine Below.setCell ?_ ?_ _) | (with_reducible apply below_at; (case k => (with_reducible assumption)); (case hB => omega)) | (with_reducible apply below_on; (with_reducible assumption)) | (go_size; done) | (with_reducible apply size_of)))⟩
  · have HE := Lib.hid (E_ok hok)
    have HV : Hid (∀ k, mkV r k = mk r k) := Lib.hid (fun k => by simp [mkV, hok])
    have HOK := Lib.hid hok
    clear h hok
    go_enter Tryd.func11, Tryd.ntmps11
    go_wp2_with fail
    refine (rgW.rCheck_any r A n c _ (H.out.below (by (repeat' (first | (with_reducible exact Below.refl _ _) | (with_reducible assumption) | (with_reducible refine below_drewN ?_ _) | (with_reducible refine below_new ?_ _) | (with_reducible refine Below.alloc ?_ ?_ _) | (with_reducible refine Below.drew ?_) | (with_reducible refine Below.setCell ?_ ?_ _) | (with_reducible apply below_at; (case k => (with_reducible assumption)); (case hB => omega)) | (with_reducible apply below_on; (with_reducible assumption)) | (go_size; done) | (with_reducible apply size_of)))))).mono ?_
    rintro e w1 ⟨rfl, hb1⟩
    rw [HE.out]
    have HB1 : Hid (Below w.heap.size w w1) := Lib.hid (by (repeat' (first | (with_reducible exact Below.refl _ _) | (with_reducible assumption) | (with_reducible refine below_drewN ?_ _) | (with_reducible refine below_new ?_ _) | (with_reducible refine Below.alloc ?_ ?_ _) | (with_reducible refine Below.drew ?_) | (with_reducible refine Below.setCell ?_ ?_ _) | (with_reducible apply below_at; (case k => (with_reducible assumption)); (case hB => omega)) | (with_reducible apply below_on; (with_reducible assumption)) | (go_size; done) | (with_reducible apply size_of))))
    have HT1 : Hid (Lies (w1) (w.heap.size) 24 [.int .i64 (r).l, .slice (A) (n) (c), .int .i64 (r).n]) := Lib.hid ((LL.out.alloc _).past hb1)
    have HZ1 : Hid (Lies (w1) (w.heap.size + 1) 28 [.int .u32 0, .int .u32 0, .int .u32 0, .int .u32 0, .int .u32 0, .int .u32 0]) := Lib.hid ((Lies.fresh_at (cs := [.int .u32 0, .int .u32 0, .int .u32 0, .int .u32 0, .int .u32 0, .int .u32 0]) (by simp)).past hb1)
    obtain ⟨r0, r1, r2, -, -, -⟩ := HT1.out.three
    clear hb1
    go_wp2_with fail
    refine (Marks_any r A n c _ (H.out.below HB1.out) HOK.out).mono ?_
    rintro e w2 ⟨rfl, hb2⟩
    have HB2 := Lib.hid (HB1.out.trans (hb2.mono HB1.out.size))
    have HZ2 := Lib.hid (HZ1.out.past hb2)
    clear hb2 r0 r1 r2
    generalize hm0 : mk r 0 = m0 at *
    generalize hm1 : mk r 1 = m1 at *
    generalize hm2 : mk r 2 = m2 at *
    generalize hm3 : mk r 3 = m3 at *
    generalize hm4 : mk r 4 = m4 at *
    generalize hm5 : mk r 5 = m5 at *
    have HMM := Lib.hid (And.intro hm0 (And.intro hm1 (And.intro hm2 (And.intro hm3 (And.intro hm4 hm5)))))
    clear hm0 hm1 hm2 hm3 hm4 hm5
    obtain ⟨f0, f1, f2, f3, f4, f5⟩ := free6 HZ2.out
    obtain ⟨z0, z1, z2, z3, z4, z5⟩ := six HZ2.out
    have zl := HZ2.out.lt
    go_wp2_with fail
    obtain ⟨t0, t1, t2, t3, t4, t5⟩ := six (lies_set6 HZ2.out (.int .u32 m0) (.int .u32 m1) (.int .u32 m2) (.int .u32 m3) (.int .u32 m4) (.int .u32 m5))
    clear f0 f1 f2 f3 f4 f5 z0 z1 z2 z3 z4 z5
    refine bodyPost_ret (by simp [results, Tryd.results11, go_sem, t0, t1, t2, t3, t4, t5]; try rfl) rfl ?_
    obtain ⟨q0, q1, q2, q3, q4, q5⟩ := HMM.out
    exact ⟨by rw [HV.out, HV.out, HV.out, HV.out, HV.out, HV.out, HE.out, q0, q1, q2, q3, q4, q5], by have := HB2.out; (repeat' (first | (with_reducible exact Below.refl _ _) | (with_reducible assumption) | (with_reducible refine below_drewN ?_ _) | (with_reducible refine below_new ?_ _) | (with_reducible refine Below.alloc ?_ ?_ _) | (with_reducible refine Below.drew ?_) | (with_reducible refine Below.setCell ?_ ?_ _) | (with_reducible apply below_at; (case k => (with_reducible assumption)); (case hB => omega)) | (with_reducible apply below_on; (with_reducible assumption)) | (go_size; done) | (with_reducible apply size_of)))⟩
end Go.Proofs.YtpggdijhfdddpaaDoor.cxW
