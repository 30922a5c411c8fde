/- Numbers for second nibbles, the reference's word and last two, by walks. -/
import Derived.Test.YtpggdijhfdddpaaDoorCxW4
namespace Go.Proofs.YtpggdijhfdddpaaDoor.cxW
open Go.RowKit Go.Proofs.YtpggdijhfdddpaaDoor.base Go.Proofs.YtpggdijhfdddpaaDoor.rgP Go.Proofs.YtpggdijhfdddpaaDoor.cxP Go.Proofs.YtpggdijhfdddpaaDoor.hashP Go.Proofs.YtpggdijhfdddpaaDoor.hashW
set_option linter.unusedVariables false
set_option linter.unusedSimpArgs false
def dpB (p : Int) : Bool := decide (16 ≤ p) && decide (p ≤ 31)
def dpV (m p : Int) : Int := if dpB p then hStep m p else 0
def dpE (p : Int) : Int := if dpB p then 0 else 2
theorem dpB_iff (p : Int) : dpB p = true ↔ 16 ≤ p ∧ p ≤ 31 := by simp [dpB]
theorem Deep_any (m p : Int) (w : World) (m1 : 0 ≤ m) (m2 : m ≤ 4294967295) :
    Calls Tryd.prog 14 #[.int .u32 m, .int .i64 p] w fun e w' => e = .returned (.tuple #[.int .u32 (dpV m p), .int .i64 (dpE p)]) ∧ Below w.heap.size w w' := by
  cases hb : dpB p
  · have HV : Hid (dpV m p = 0 ∧ dpE p = 2) := Lib.hid (by simp [dpV, dpE, hb])
    have hb' : ¬ (16 ≤ p ∧ p ≤ 31) := by rw [← dpB_iff, hb]; simp
    have h3 : p < 16 ∨ 16 ≤ p ∧ 31 < p := by omega
    clear hb hb'
    rcases h3 with h3 | ⟨h3, h4⟩
    · go_enter Tryd.func14, Tryd.ntmps14
      go_wp2_with fail
      go_ret2
      exact ⟨by rw [HV.out.1, HV.out.2]; rfl, by (repeat' (first | (with_reducible exact Below.refl _ _) | (with_reducible assumption) | (with_reducible refine below_drewN ?_ _) | (with_reducible refine below_new ?_ _) | (with_reducible refine Below.alloc ?_ ?_ _) | (with_reducible refine Below.drew ?_) | (with_reducible refine Below.setCell ?_ ?_ _) | (with_reducible apply below_at; (case k => (with_reducible assumption)); (case hB => omega)) | (with_reducible apply below_on; (with_reducible assumption)) | (go_size; done) | (with_reducible apply size_of)))⟩
    · go_enter Tryd.func14, Tryd.ntmps14
      go_wp2_with fail
      go_ret2
      exact ⟨by rw [HV.out.1, HV.out.2]; rfl, by (repeat' (first | (with_reducible exact Below.refl _ _) | (with_reducible assumption) | (with_reducible refine below_drewN ?_ _) | (with_reducible refine below_new ?_ _) | (with_reducible refine Below.alloc ?_ ?_ _) | (with_reducible refine Below.drew ?_) | (with_reducible refine Below.setCell ?_ ?_ _) | (with_reducible apply below_at; (case k => (with_reducible assumption)); (case hB => omega)) | (with_reducible apply below_on; (with_reducible assumption)) | (go_size; done) | (with_reducible apply size_of)))⟩
  · have HV : Hid (dpV m p = hStep m p ∧ dpE p = 0) := Lib.hid (by simp [dpV, dpE, hb])
    obtain ⟨h3, h4⟩ := (dpB_iff p).1 hb
    have h5 : IntKind.u8.wrap p = p := by rw [IntKind.wrap_u8]; omega
    clear hb
    go_enter Tryd.func14, Tryd.ntmps14
    go_wp2_with fail
    refine (step_any m p _ m1 m2 (by omega) (by omega)).mono ?_
    rintro e w1 ⟨rfl, hb1⟩
    go_wp2_with fail
    go_ret2
    exact ⟨by rw [HV.out.1, HV.out.2]; rfl, by (repeat' (first | (with_reducible exact Below.refl _ _) | (with_reducible assumption) | (with_reducible refine below_drewN ?_ _) | (with_reducible refine below_new ?_ _) | (with_reducible refine Below.alloc ?_ ?_ _) | (with_reducible refine Below.drew ?_) | (with_reducible refine Below.setCell ?_ ?_ _) | (with_reducible apply below_at; (case k => (with_reducible assumption)); (case hB => omega)) | (with_reducible apply below_on; (with_reducible assumption)) | (go_size; done) | (with_reducible apply size_of)))⟩
theorem rDeep_any (m p : Int) (w : World) (m1 : 0 ≤ m) (m2 : m ≤ 4294967295) :
    Calls Tryd.prog 15 #[.int .u32 m, .int .i64 p] w fun e w' => e = .returned (.tuple #[.int .u32 (dpV m p), .int .i64 (dpE p)]) ∧ w = w' := by
  cases hb : dpB p
  · have HV : Hid (dpV m p = 0 ∧ dpE p = 2) := Lib.hid (by simp [dpV, dpE, hb])
    have hb' : ¬ (16 ≤ p ∧ p ≤ 31) := by rw [← dpB_iff, hb]; simp
    have h3 : p < 16 ∨ 16 ≤ p ∧ 31 < p := by omega
    clear hb hb'
    rcases h3 with h3 | ⟨h3, h4⟩
    · go_enter Tryd.func15, Tryd.ntmps15
      go_wp2_with fail
      go_ret2
      exact ⟨by rw [HV.out.1, HV.out.2]; rfl, rfl⟩
    · go_enter Tryd.func15, Tryd.ntmps15
      go_wp2_with fail
      go_ret2
      exact ⟨by rw [HV.out.1, HV.out.2]; rfl, rfl⟩
  · have HV : Hid (dpV m p = hStep m p ∧ dpE p = 0) := Lib.hid (by simp [dpV, dpE, hb])
    obtain ⟨h3, h4⟩ := (dpB_iff p).1 hb
    have h5 : IntKind.u8.wrap p = p := by rw [IntKind.wrap_u8]; omega
    clear hb
    go_enter Tryd.func15, Tryd.ntmps15
    go_wp2_with (first | (go_at_call 31; refine (rstep_any m p _ m1 m2 (by omega) (by omega)).mono ?_; rintro e w' ⟨rfl, rfl⟩))
    go_ret2
    exact ⟨by rw [HV.out.1, HV.out.2]; rfl, rfl⟩
set_option maxHeartbeats 1500000 in
theorem rWord_any (r : Rg) (A : Option Addr) (n c : Nat) (w : World) (h : RgIn w A n c r) :
    Calls Tryd.prog 13 #[.agg #[.int .i64 (r).l, .slice A n c, .int .i64 (r).n]] w fun e w' => ∃ A' m c', e = .returned (.tuple #[.slice A' m c', .int .i64 (rgE r)]) ∧ m = (wdV r).length ∧ OwnZ w' w.heap.size (.slice A' m c') (wdV r) ∧ Below w.heap.size w w' := by
  have H := Lib.hid h
  have LL : Hid (Lies (w.alloc (.cells #[.int .i64 r.l, .slice A n c, .int .i64 r.n] 24)) (w.heap.size) 24 [.int .i64 (r).l, .slice (A) (n) (c), .int .i64 (r).n]) := Lib.hid (Lies.fresh _ _ _)
  have B0 : Hid (Below w.heap.size w (w.alloc (.cells #[.int .i64 r.l, .slice A n c, .int .i64 r.n] 24))) := Lib.hid (by (repeat' (first | (with_reducible exact Below.refl _ _) | (with_reducible assumption) | (with_reducible refine below_drewN ?_ _) | (with_reducible refine below_new ?_ _) | (with_reducible refine Below.alloc ?_ ?_ _) | (with_reducible refine Below.drew ?_) | (with_reducible refine Below.setCell ?_ ?_ _) | (with_reducible apply below_at; (case k => (with_reducible assumption)); (case hB => omega)) | (with_reducible apply below_on; (with_reducible assumption)) | (go_size; done) | (with_reducible apply size_of))))
  cases hok : rgOk r
  · have HE := Lib.hid (E_no hok)
    have HW : Hid (wdV r = []) := Lib.hid (by simp [wdV, hok])
    clear h hok
    go_enter Tryd.func13, Tryd.ntmps13
    go_wp2_with fail
    refine (rgW.rCheck_any r A n c _ (H.out.below B0.out)).mono ?_
    rintro e w1 ⟨rfl, hb1⟩
    rw [HE.out]
    have T1 := LL.out.past hb1
    obtain ⟨r0, r1, r2, -, -, -⟩ := T1.three
    have HB1 := Lib.hid (B0.out.trans (hb1.mono B0.out.size))
    clear hb1
    go_wp2_with fail
    refine (rgW.rCheck_any r A n c _ (H.out.below HB1.out)).mono ?_
    rintro e w2 ⟨rfl, hb2⟩
    rw [HE.out]
    have HB2 := Lib.hid (HB1.out.trans (hb2.mono HB1.out.size))
    clear hb2
    go_wp2_with fail
    go_ret2
    exact ⟨none, 0, 0, by rw [HE.out]; rfl, by rw [HW.out]; rfl, by rw [HW.out]; exact .inr ⟨rfl, _, rfl⟩, HB2.out⟩
  · have HE := Lib.hid (E_ok hok)
    have HW := Lib.hid (wd_ok hok)
    have HOK := Lib.hid hok
    clear h hok
    go_enter Tryd.func13, Tryd.ntmps13
    go_wp2_with fail
    refine (rgW.rCheck_any r A n c _ (H.out.below B0.out)).mono ?_
    rintro e w1 ⟨rfl, hb1⟩
    rw [HE.out]
    have T1 := LL.out.past hb1
    obtain ⟨r0, r1, r2, -, -, -⟩ := T1.three
    have HB1 := Lib.hid (B0.out.trans (hb1.mono B0.out.size))
    clear hb1
    go_wp2_with fail
    refine (Lately_any r A n c 16 _ (H.out.below HB1.out) HOK.out (by omega)).mono ?_
    rintro e w2 ⟨A2, c2, rfl, own2, hb2⟩
    have HO2 := Lib.hid own2
    have HB2 := Lib.hid (HB1.out.trans (hb2.mono HB1.out.size))
    clear own2 hb2
    go_wp2_with fail
    refine (Spelt_any (lastL r 16) A2 16 c2 _ HO2.out.has (cxP.last_len r 16) (by omega) (last_bd H.out.b 16)).mono ?_
    rintro e w3 ⟨A3, m, c3, rfl, hm, own3, hb3⟩
    rw [spelt_word (by rw [cxP.last_len]; omega), ← HW.out] at hm own3
    have HO3 := Lib.hid own3
    have HM := Lib.hid hm
    have HS2 := Lib.hid HB2.out.size
    have HB3 := Lib.hid (HB2.out.trans (hb3.mono HB2.out.size))
    clear own3 hb3 hm
    go_wp2_with fail
    go_ret2
    exact ⟨A3, m, c3, by rw [HE.out]; rfl, HM.out, HO3.out.mono HS2.out, HB3.out⟩
set_option maxHeartbeats 1500000 in
theorem rRecent_any (r : Rg) (A : Option Addr) (n c : Nat) (w : World) (h : RgIn w A n c r) :
    Calls Tryd.prog 17 #[.agg #[.int .i64 (r).l, .slice A n c, .int .i64 (r).n]] w fun e w' => e = .returned (.tuple #[.int .u8 (rc1 r 1), .int .u8 (rc1 r 2), .int .i64 (rgE r)]) ∧ Below w.heap.size w w' := by
  have H := Lib.hid h
  have LL : Hid (Lies (w.alloc (.cells #[.int .i64 r.l, .slice A n c, .int .i64 r.n] 24)) (w.heap.size) 24 [.int .i64 (r).l, .slice (A) (n) (c), .int .i64 (r).n]) := Lib.hid (Lies.fresh _ _ _)
  have B0 : Hid (Below w.heap.size w (w.alloc (.cells #[.int .i64 r.l, .slice A n c, .int .i64 r.n] 24))) := Lib.hid (by (repeat' (first | (with_reducible exact Below.refl _ _) | (with_reducible assumption) | (with_reducible refine below_drewN ?_ _) | (with_reducible refine below_new ?_ _) | (with_reducible refine Below.alloc ?_ ?_ _) | (with_reducible refine Below.drew ?_) | (with_reducible refine Below.setCell ?_ ?_ _) | (with_reducible apply below_at; (case k => (with_reducible assumption)); (case hB => omega)) | (with_reducible apply below_on; (with_reducible assumption)) | (go_size; done) | (with_reducible apply size_of))))
  cases hok : rgOk r
  · have HE := Lib.hid (E_no hok)
    have HW : Hid (rc1 r 1 = 0 ∧ rc1 r 2 = 0) := Lib.hid (by simp [rc1, hok])
    clear h hok
    go_enter Tryd.func17, Tryd.ntmps17
    go_wp2_with fail
    refine (rgW.rCheck_any r A n c _ (H.out.below B0.out)).mono ?_
    rintro e w1 ⟨rfl, hb1⟩
    rw [HE.out]
    have T1 := LL.out.past hb1
    obtain ⟨r0, r1, r2, -, -, -⟩ := T1.three
    have HB1 := Lib.hid (B0.out.trans (hb1.mono B0.out.size))
    clear hb1
    go_wp2_with fail
    refine (rgW.rCheck_any r A n c _ (H.out.below HB1.out)).mono ?_
    rintro e w2 ⟨rfl, hb2⟩
    rw [HE.out]
    have HB2 := Lib.hid (HB1.out.trans (hb2.mono HB1.out.size))
    clear hb2
    go_wp2_with fail
    go_ret3
    exact ⟨by rw [HW.out.1, HW.out.2, HE.out]; rfl, HB2.out⟩
  · have HE := Lib.hid (E_ok hok)
    have HW : Hid (rc1 r 1 = ago r 1 ∧ rc1 r 2 = ago r 2) := Lib.hid (by simp [rc1, hok])
    have HOK := Lib.hid hok
    clear h hok
    go_enter Tryd.func17, Tryd.ntmps17
    go_wp2_with fail
    refine (rgW.rCheck_any r A n c _ (H.out.below B0.out)).mono ?_
    rintro e w1 ⟨rfl, hb1⟩
    rw [HE.out]
    have HT1 := Lib.hid (LL.out.past hb1)
    have HB1 := Lib.hid (B0.out.trans (hb1.mono B0.out.size))
    clear hb1
    go_wp2_with fail
    (have RD := grows_roads (S := fun x' => Below w1.heap.size w1 x') (fun a b h1 h2 => h2.trans (h1.mono h2.size))); refine region_ord _ Grows RD (Below.drew (Below.refl _ _)) (by kernel_rfl) ?_; intro ops Q' hops hPQ hN; (have HNS : Hid (Region.noSelect ops = true) := Lib.hid (by rw [hops]; kernel_rfl)); (have hsz : ops.size = 7 := (by rw [hops]; rfl)); have HOP := Lib.hid hops; have HPQ := Lib.hid hPQ; have HN := Lib.hid hN; rw [hsz]; clear hops hsz hPQ hN
    refine ord_take RD 0 (at_list (by rw [HOP.out]; rfl)) HNS.out HPQ.out (by rw [HOP.out]; kernel_rfl) (by rw [HOP.out]; kernel_rfl) (by rw [HOP.out]; rfl) (fun K hK => ?_); apply Exists.intro; refine ⟨fun W hSW => ?_, hK _ ?_⟩; (focus ((try dsimp only at hSW); (obtain ⟨y0, y1, y2, -, -, -⟩ := (HT1.out.past hSW).three); go_simp; try with_reducible rfl)); clear hK K; (try simp only [Act.put, List.setIfInBounds_toArray, List.set_cons_zero, List.set_cons_succ])
    refine ord_take RD 1 (at_list (by rw [HOP.out]; rfl)) HNS.out HPQ.out (by rw [HOP.out]; kernel_rfl) (by rw [HOP.out]; kernel_rfl) (by rw [HOP.out]; rfl) (fun K hK => ?_); apply Exists.intro; refine ⟨fun W hSW => ?_, hK _ ?_⟩; (focus ((try dsimp only at hSW); go_simp; exact (rgW.rAgo_any r A n c 1 W (H.out.below (by have := HB1.out; (repeat' (first | (with_reducible exact Below.refl _ _) | (with_reducible assumption) | (with_reducible refine below_drewN ?_ _) | (with_reducible refine below_new ?_ _) | (with_reducible refine Below.alloc ?_ ?_ _) | (with_reducible refine Below.drew ?_) | (with_reducible refine Below.setCell ?_ ?_ _) | (with_reducible apply below_at; (case k => (with_reducible assumption)); (case hB => omega)) | (with_reducible apply below_on; (with_reducible assumption)) | (go_size; done) | (with_reducible apply size_of))))) HOK.out (by omega) (by omega)))); clear hK K; (try simp only [Act.put, List.setIfInBounds_toArray, List.set_cons_zero, List.set_cons_succ])
    refine ord_take RD 2 (at_list (by rw [HOP.out]; rfl)) HNS.out HPQ.out (by rw [HOP.out]; kernel_rfl) (by rw [HOP.out]; kernel_rfl) (by rw [HOP.out]; rfl) (fun K hK => ?_); apply Exists.intro; refine ⟨fun W hSW => ?_, hK _ ?_⟩; (focus ((try dsimp only at hSW); (obtain ⟨y0, y1, y2, -, -, -⟩ := (HT1.out.past hSW).three); go_simp; try with_reducible rfl)); clear hK K; (try simp only [Act.put, List.setIfInBounds_toArray, List.set_cons_zero, List.set_cons_succ])
    refine ord_take RD 3 (at_list (by rw [HOP.out]; rfl)) HNS.out HPQ.out (by rw [HOP.out]; kernel_rfl) (by rw [HOP.out]; kernel_rfl) (by rw [HOP.out]; rfl) (fun K hK => ?_); apply Exists.intro; refine ⟨fun W hSW => ?_, hK _ ?_⟩; (focus ((try dsimp only at hSW); go_simp; exact (rgW.rAgo_any r A n c 2 W (H.out.below (by have := HB1.out; (repeat' (first | (with_reducible exact Below.refl _ _) | (with_reducible assumption) | (with_reducible refine below_drewN ?_ _) | (with_reducible refine below_new ?_ _) | (with_reducible refine Below.alloc ?_ ?_ _) | (with_reducible refine Below.drew ?_) | (with_reducible refine Below.setCell ?_ ?_ _) | (with_reducible apply below_at; (case k => (with_reducible assumption)); (case hB => omega)) | (with_reducible apply below_on; (with_reducible assumption)) | (go_size; done) | (with_reducible apply size_of))))) HOK.out (by omega) (by omega)))); clear hK K; (try simp only [Act.put, List.setIfInBounds_toArray, List.set_cons_zero, List.set_cons_succ])
    refine ord_take RD 4 (at_list (by rw [HOP.out]; rfl)) HNS.out HPQ.out (by rw [HOP.out]; kernel_rfl) (by rw [HOP.out]; kernel_rfl) (by rw [HOP.out]; rfl) (fun K hK => ?_); apply Exists.intro; refine ⟨fun W hSW => ?_, hK _ ?_⟩; (focus ((try dsimp only at hSW); go_simp; try with_reducible rfl)); clear hK K; (try simp only [Act.put, List.setIfInBounds_toArray, List.set_cons_zero, List.set_cons_succ])
    refine ord_take RD 5 (at_list (by rw [HOP.out]; rfl)) HNS.out HPQ.out (by rw [HOP.out]; kernel_rfl) (by rw [HOP.out]; kernel_rfl) (by rw [HOP.out]; rfl) (fun K hK => ?_); apply Exists.intro; refine ⟨fun W hSW => ?_, hK _ ?_⟩; (focus ((try dsimp only at hSW); go_simp; try with_reducible rfl)); clear hK K; (try simp only [Act.put, List.setIfInBounds_toArray, List.set_cons_zero, List.set_cons_succ])
    refine ord_take RD 6 (at_list (by rw [HOP.out]; rfl)) HNS.out HPQ.out (by rw [HOP.out]; kernel_rfl) (by rw [HOP.out]; kernel_rfl) (by rw [HOP.out]; rfl) (fun K hK => ?_); apply Exists.intro; refine ⟨fun W hSW => ?_, hK _ ?_⟩; (focus ((try dsimp only at hSW); go_simp; try with_reducible rfl)); clear hK K; (try simp only [Act.put, List.setIfInBounds_toArray, List.set_cons_zero, List.set_cons_succ])
    refine ord_done (by rw [HOP.out]; kernel_rfl) (fun W3 hWW hSW => HN.out _ _ ?_); clear HOP HNS HPQ HN RD; (try dsimp only at hSW)
    have HB3 := Lib.hid (HB1.out.trans (hSW.mono HB1.out.size))
    clear hWW hSW
    go_wp2_with fail
    go_ret3
    exact ⟨by rw [HW.out.1, HW.out.2, HE.out]; rfl, HB3.out⟩
end Go.Proofs.YtpggdijhfdddpaaDoor.cxW
