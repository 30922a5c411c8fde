/- The last bytes, the word, the last two of the program, by walks. -/
import Derived.Test.YtpggdijhfdddpaaDoorCxW2
namespace Go.Proofs.YtpggdijhfdddpaaDoor.cxW
open Go.RowKit Go.Proofs.YtpggdijhfdddpaaDoor.base Go.Proofs.YtpggdijhfdddpaaDoor.rgP Go.Proofs.YtpggdijhfdddpaaDoor.cxP
set_option linter.unusedVariables false
set_option linter.unusedSimpArgs false
theorem ago_bd {r : Rg} (h : ∀ z ∈ r.b, 0 ≤ z ∧ z ≤ 255) (k : Int) : 0 ≤ ago r k ∧ ago r k ≤ 255 := by
  unfold ago
  split
  · decide
  · exact at_bd h _
theorem last_bd {r : Rg} (h : ∀ z ∈ r.b, 0 ≤ z ∧ z ≤ 255) (k : Nat) : ∀ z ∈ lastL r k, 0 ≤ z ∧ z ≤ 255 := by
  intro z hz
  simp only [lastL, List.mem_map] at hz
  obtain ⟨i, _, rfl⟩ := hz
  exact ago_bd h _
theorem E_no {r : Rg} (h : rgOk r = false) : rgE r = 8 := by simp [rgE, h]
theorem E_ok {r : Rg} (h : rgOk r = true) : rgE r = 0 := by simp [rgE, h]
set_option maxHeartbeats 2000000 in
theorem lastBytes_ok (r : Rg) (A : Option Addr) (n c : Nat) (w : World) (h : RgIn w A n c r) (hok : rgOk r = true) :
    Calls Tryd.prog 26 #[.agg #[.int .i64 (r).l, .slice A n c, .int .i64 (r).n]] w fun e w' => ∃ A' c', e = .returned (.tuple #[.slice A' 16 c', .int .i64 0]) ∧ OwnZ w' w.heap.size (.slice A' 16 c') (lastL r 16) ∧ Below w.heap.size w w' := by
  have H := Lib.hid h
  obtain ⟨a1, a2, a3, a4⟩ := rgW.ok_parts h hok
  have HE := Lib.hid (E_ok hok)
  obtain ⟨m, hm⟩ : ∃ m : Nat, min r.n 16 = (m : Int) := ⟨(min r.n 16).toNat, by omega⟩
  have HM : Hid (m ≤ 16 ∧ (m = 16 ∨ r.n = m) ∧ (m : Int) ≤ r.n) := Lib.hid (by omega)
  have hsz : 64 ≤ r.b.length := by have := (rgOk_iff r).1 hok; rw [this.1.2.1]; exact (sz_bd this.1.1).1
  have HLE : Hid (lastE r m = 0) := Lib.hid (by unfold lastE; rw [if_pos hok, if_pos ⟨by omega, by have := HM.out; omega⟩, if_neg (by have := HM.out; omega)])
  have LL : Hid (Lies (w.alloc (.cells #[.int .i64 r.l, .slice A n c, .int .i64 r.n] 24)) (w.heap.size) 24 [.int .i64 (r).l, .slice (A) (n) (c), .int .i64 (r).n]) := Lib.hid (Lies.fresh _ _ _)
  have B0 : Hid (Below w.heap.size w (w.alloc (.cells #[.int .i64 r.l, .slice A n c, .int .i64 r.n] 24))) := Lib.hid (by (repeat' (first | (with_reducible exact Below.refl _ _) | (with_reducible assumption) | (with_reducible refine below_drewN ?_ _) | (with_reducible refine below_new ?_ _) | (with_reducible refine Below.alloc ?_ ?_ _) | (with_reducible refine Below.drew ?_) | (with_reducible refine Below.setCell ?_ ?_ _) | (with_reducible apply below_at; (case k => (with_reducible assumption)); (case hB => omega)) | (with_reducible apply below_on; (with_reducible assumption)) | (go_size; done) | (with_reducible apply size_of))))
  clear h hok a1 a2 hsz
  go_enter Tryd.func26, Tryd.ntmps26
  go_wp2_with fail
  refine (rgW.Check_any r A n c _ (H.out.below B0.out)).mono ?_
  rintro e w1 ⟨rfl, hb1⟩
  rw [HE.out]
  have T1 := LL.out.past hb1
  have HT1 := Lib.hid T1
  have HB1 := Lib.hid (B0.out.trans (hb1.mono B0.out.size))
  obtain ⟨r0, r1, r2, -, -, -⟩ := T1.three
  have zl := T1.lt
  clear T1 hb1
  go_wp2_with fail
  refine (rgW.Last_ok r A n c m _ (H.out.below HB1.out) HLE.out).mono ?_
  rintro e w2 ⟨A2, c2, rfl, hc2, hc3, has2, hb2⟩
  have HH2 := Lib.hid has2
  have HC2 := Lib.hid (And.intro hc2 hc3)
  have HB2 := Lib.hid (HB1.out.trans (hb2.mono HB1.out.size))
  have m1 : 16 - (m : Int) = ((16 - m : Nat) : Int) := by have := HM.out; omega
  obtain ⟨q, hq⟩ : ∃ q, 16 - m = q := ⟨_, rfl⟩
  rw [hq] at m1
  have HQ : Hid (q + m = 16) := Lib.hid (by have := HM.out; omega)
  have HLL := Lib.hid (last_zeros r m HM.out.1 HM.out.2.1)
  rw [hq] at HLL
  have m9 : (m : Int) ≤ 16 := by have := HM.out; omega
  clear hc2 hc3 has2 hb2 hq r0 r1 r2 zl hm
  go_wp2_with (first | (at_make; refine make8 (by rfl) _ _ rfl .i64 .i64 q rfl rfl (by have := HQ.out; omega) w.heap.size HB2.out.size ?_; intro w3 own3 hb3; have HO3 := Lib.hid own3; have HH3 := Lib.hid (HH2.out.below hb3 (Nat.le_refl _)); have HB3 := Lib.hid (HB2.out.trans (hb3.mono HB2.out.size)); clear own3 hb3) | (at_builtin; refine app8 rfl _ _ rfl w.heap.size _ _ rfl HO3.out A2 m c2 (lastL r m) rfl (cxP.last_len r m) HH3.out 16 (by rw [List.length_replicate]; exact HQ.out) (by omega) HB3.out.size ?_; intro A4 c4 w4 ho4 hg4 hb4; rw [HLL.out] at ho4; have HO4 := Lib.hid ho4; have HB4 := Lib.hid (HB3.out.trans hb4); clear ho4 hg4 hb4))
  go_ret2
  exact ⟨A4, c4, rfl, .inl HO4.out, HB4.out⟩
set_option maxHeartbeats 1000000 in
theorem lastBytes_no (r : Rg) (A : Option Addr) (n c : Nat) (w : World) (h : RgIn w A n c r) (hok : rgOk r = false) :
    Calls Tryd.prog 26 #[.agg #[.int .i64 (r).l, .slice A n c, .int .i64 (r).n]] w fun e w' => e = .returned (.tuple #[.slice none 0 0, .int .i64 8]) ∧ Below w.heap.size w w' := by
  have H := Lib.hid h
  have HE := Lib.hid (E_no hok)
  have B0 : Hid (Below w.heap.size w (w.alloc (.cells #[.int .i64 r.l, .slice A n c, .int .i64 r.n] 24))) := Lib.hid (by (repeat' (first | (with_reducible exact Below.refl _ _) | (with_reducible assumption) | (with_reducible refine below_drewN ?_ _) | (with_reducible refine below_new ?_ _) | (with_reducible refine Below.alloc ?_ ?_ _) | (with_reducible refine Below.drew ?_) | (with_reducible refine Below.setCell ?_ ?_ _) | (with_reducible apply below_at; (case k => (with_reducible assumption)); (case hB => omega)) | (with_reducible apply below_on; (with_reducible assumption)) | (go_size; done) | (with_reducible apply size_of))))
  clear h hok
  go_enter Tryd.func26, Tryd.ntmps26
  go_wp2_with fail
  refine (rgW.Check_any r A n c _ (H.out.below B0.out)).mono ?_
  rintro e w1 ⟨rfl, hb1⟩
  rw [HE.out]
  have HB1 := Lib.hid (B0.out.trans (hb1.mono B0.out.size))
  clear hb1
  go_wp2_with fail
  go_ret2
  exact ⟨rfl, HB1.out⟩
def wdV (r : Rg) : List Int := if rgOk r then wordL (lastL r 16) else []
theorem wd_ok {r : Rg} (h : rgOk r = true) : wdV r = wordL (lastL r 16) := by simp [wdV, h]
set_option maxHeartbeats 1000000 in
theorem Word_any (r : Rg) (A : Option Addr) (n c : Nat) (w : World) (h : RgIn w A n c r) :
    Calls Tryd.prog 12 #[.agg #[.int .i64 (r).l, .slice A n c, .int .i64 (r).n]] w fun e w' => ∃ A' m c', e = .returned (.tuple #[.slice A' m c', .int .i64 (rgE r)]) ∧ m = (wdV r).length ∧ OwnZ w' w.heap.size (.slice A' m c') (wdV r) ∧ Below w.heap.size w w' := by
  have H := Lib.hid h
  have B0 : Hid (Below w.heap.size w (w.alloc (.cells #[.int .i64 r.l, .slice A n c, .int .i64 r.n] 24))) := Lib.hid (by (repeat' (first | (with_reducible exact Below.refl _ _) | (with_reducible assumption) | (with_reducible refine below_drewN ?_ _) | (with_reducible refine below_new ?_ _) | (with_reducible refine Below.alloc ?_ ?_ _) | (with_reducible refine Below.drew ?_) | (with_reducible refine Below.setCell ?_ ?_ _) | (with_reducible apply below_at; (case k => (with_reducible assumption)); (case hB => omega)) | (with_reducible apply below_on; (with_reducible assumption)) | (go_size; done) | (with_reducible apply size_of))))
  cases hok : rgOk r
  · have HE := Lib.hid (E_no hok)
    have HW : Hid (wdV r = []) := Lib.hid (by simp [wdV, hok])
    have HOK := Lib.hid hok
    clear h hok
    go_enter Tryd.func12, Tryd.ntmps12
    go_wp2_with fail
    refine (lastBytes_no r A n c _ (H.out.below B0.out) HOK.out).mono ?_
    rintro e w1 ⟨rfl, hb1⟩
    have HB1 := Lib.hid (B0.out.trans (hb1.mono B0.out.size))
    clear hb1
    go_wp2_with fail
    go_ret2
    exact ⟨none, 0, 0, by rw [HE.out]; rfl, by rw [HW.out]; rfl, by rw [HW.out]; exact .inr ⟨rfl, _, rfl⟩, HB1.out⟩
  · have HE := Lib.hid (E_ok hok)
    have HW := Lib.hid (wd_ok hok)
    have HOK := Lib.hid hok
    clear h hok
    go_enter Tryd.func12, Tryd.ntmps12
    go_wp2_with fail
    refine (lastBytes_ok r A n c _ (H.out.below B0.out) HOK.out).mono ?_
    rintro e w1 ⟨A1, c1, rfl, own1, hb1⟩
    have HO1 := Lib.hid own1
    have HB1 := Lib.hid (B0.out.trans (hb1.mono B0.out.size))
    have HCAP : Hid (16 ≤ c1) := Lib.hid (by obtain ⟨A', cap, e, h1, h2⟩ := own1.val; injection e with e1 e2 e3; subst e3; rw [cxP.last_len] at h2; exact h2)
    clear hb1 own1
    go_wp2_with fail
    refine (word_any (lastL r 16) A1 16 c1 _ HO1.out.has (cxP.last_len r 16) HCAP.out (by omega) (last_bd H.out.b 16)).mono ?_
    rintro e w2 ⟨A2, m, c2, rfl, hm, own2, hb2⟩
    have HO2 := Lib.hid own2
    have HM := Lib.hid hm
    have HB2 := Lib.hid (HB1.out.trans (hb2.mono HB1.out.size))
    have HS1 := Lib.hid HB1.out.size
    clear hb2 own2 hm
    go_wp2_with fail
    go_ret2
    exact ⟨A2, m, c2, by rw [HE.out]; rfl, by rw [HW.out]; exact HM.out, by rw [HW.out]; exact HO2.out.mono HS1.out, HB2.out⟩
def rc1 (r : Rg) (k : Int) : Int := if rgOk r then ago r k else 0
set_option maxHeartbeats 2000000 in
theorem Recent_any (r : Rg) (A : Option Addr) (n c : Nat) (w : World) (h : RgIn w A n c r) :
    Calls Tryd.prog 16 #[.agg #[.int .i64 (r).l, .slice A n c, .int .i64 (r).n]] w fun e w' => e = .returned (.tuple #[.int .u8 (rc1 r 1), .int .u8 (rc1 r 2), .int .i64 (rgE r)]) ∧ Below w.heap.size w w' := by
  have H := Lib.hid h
  have B0 : Hid (Below w.heap.size w (w.alloc (.cells #[.int .i64 r.l, .slice A n c, .int .i64 r.n] 24))) := Lib.hid (by (repeat' (first | (with_reducible exact Below.refl _ _) | (with_reducible assumption) | (with_reducible refine below_drewN ?_ _) | (with_reducible refine below_new ?_ _) | (with_reducible refine Below.alloc ?_ ?_ _) | (with_reducible refine Below.drew ?_) | (with_reducible refine Below.setCell ?_ ?_ _) | (with_reducible apply below_at; (case k => (with_reducible assumption)); (case hB => omega)) | (with_reducible apply below_on; (with_reducible assumption)) | (go_size; done) | (with_reducible apply size_of))))
  cases hok : rgOk r
  · have HE := Lib.hid (E_no hok)
    have HW : Hid (rc1 r 1 = 0 ∧ rc1 r 2 = 0) := Lib.hid (by simp [rc1, hok])
    have HOK := Lib.hid hok
    clear h hok
    go_enter Tryd.func16, Tryd.ntmps16
    go_wp2_with fail
    refine (lastBytes_no r A n c _ (H.out.below B0.out) HOK.out).mono ?_
    rintro e w1 ⟨rfl, hb1⟩
    have HB1 := Lib.hid (B0.out.trans (hb1.mono B0.out.size))
    clear hb1
    go_wp2_with fail
    go_ret3
    exact ⟨by rw [HE.out, HW.out.1, HW.out.2]; rfl, HB1.out⟩
  · have HE := Lib.hid (E_ok hok)
    have HW : Hid (rc1 r 1 = ago r 1 ∧ rc1 r 2 = ago r 2) := Lib.hid (by simp [rc1, hok])
    have HOK := Lib.hid hok
    clear h hok
    go_enter Tryd.func16, Tryd.ntmps16
    go_wp2_with fail
    refine (lastBytes_ok r A n c _ (H.out.below B0.out) HOK.out).mono ?_
    rintro e w1 ⟨A1, c1, rfl, own1, hb1⟩
    have HB1 := Lib.hid (B0.out.trans (hb1.mono B0.out.size))
    obtain ⟨g, rfl, hg1, hg2, own'⟩ := rgW.OwnZ.head own1 (by intro e; have := congrArg List.length e; simp [cxP.last_len] at this)
    have p1 := own'.cell 15 (by simp [cxP.last_len])
    have p2 := own'.cell 14 (by simp [cxP.last_len])
    rw [last_at r 16 15 (by omega)] at p1
    rw [last_at r 16 14 (by omega)] at p2
    have e1 : ((16 : Nat) : Int) - ((15 : Nat) : Int) = 1 := by decide
    have e2 : ((16 : Nat) : Int) - ((14 : Nat) : Int) = 2 := by decide
    rw [e1] at p1
    rw [e2] at p2
    generalize ago r 1 = x at *
    generalize ago r 2 = y at *
    clear hb1 own1 own' hg1 hg2 e1 e2
    go_wp2_with fail
    go_quiet (fail)
    go_wp2_with fail
    go_ret3
    exact ⟨by rw [HE.out, HW.out.1, HW.out.2]; rfl, by have := HB1.out; (repeat' (first | (with_reducible exact Below.refl _ _) | (with_reducible assumption) | (with_reducible refine below_drewN ?_ _) | (with_reducible refine below_new ?_ _) | (with_reducible refine Below.alloc ?_ ?_ _) | (with_reducible refine Below.drew ?_) | (with_reducible refine Below.setCell ?_ ?_ _) | (with_reducible apply below_at; (case k => (with_reducible assumption)); (case hB => omega)) | (with_reducible apply below_on; (with_reducible assumption)) | (go_size; done) | (with_reducible apply size_of)))⟩
end Go.Proofs.YtpggdijhfdddpaaDoor.cxW
