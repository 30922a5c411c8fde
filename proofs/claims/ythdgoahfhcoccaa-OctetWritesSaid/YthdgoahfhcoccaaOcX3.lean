/- OctetWrites, by a walk. -/
import Derived.Test.YthdgoahfhcoccaaOcX1
import Derived.Test.YthdgoahfhcoccaaFar
namespace Go.Proofs.Ythdgoahfhcoccaa.ocL
open Go.RowKit Go.Proofs.Ythdgoahfhcoccaa.base Go.Proofs.Ythdgoahfhcoccaa.ocP Go.Proofs.Ythdgoahfhcoccaa.ocW
set_option linter.unusedVariables false
set_option linter.unusedSimpArgs false

theorem same_true (zs : List Int) : decide (zs = zs) = true := decide_eq_true rfl
theorem cu_true (zs : List Int) : (decide ((0 : Int) = 0) && decide (zs = zs)) = true := by rw [same_true]; rfl
set_option maxRecDepth 100000 in
set_option maxHeartbeats 4000000 in
theorem writes (x : Int) (A0 : Option Addr) (n d : Nat) (z : List Int) (l : Int) (w : World) (x1 : 0 ≤ x) (x2 : x ≤ 18446744073709551615) (hrow : IsRow .u8 w A0 n d z) (l1 : -9223372036854775808 ≤ l) (l2 : l ≤ 9223372036854775807) :
    Calls Try.prog 4 #[.int .u64 x, .slice A0 n d, .int .i64 l] w fun e w' => e = .returned (.bool true) ∧ Below w.heap.size w w' := by
  obtain ⟨hD, hL, hmm, hbb⟩ := has_of_row hrow
  have hcap := row_caps hrow
  unfold maxLen at hcap
  generalize z.take n = bs at *
  have HD := Lib.hid hD
  have HL := Lib.hid hL
  have HC : Hid (n ≤ d ∧ d ≤ 9223372036854775807 ∧ n ≤ 9223372036854775807) := Lib.hid ⟨hcap.1, hcap.2, by omega⟩
  clear hrow hD hL hmm hbb hcap
  cases hg : grB n
  · have hn := grB_no hg
    have HG := Lib.hid hg
    have HN : Hid (n ≤ 50100) := Lib.hid (by omega)
    clear hg hn
    go_enter Try.func4, Try.ntmps4
    go_wp2_with fail
    refine (rGreat_any A0 n d _ HC.out.2.2).mono ?_
    rintro e w' ⟨rfl, rfl⟩
    rw [HG.out]
    go_wp2_with (at_builtin; refine app8z rfl _ _ rfl w.heap.size _ [] rfl (.inr ⟨rfl, _, rfl⟩) A0 n d bs rfl HL.out (HD.out.below (by (repeat' (first | (with_reducible exact Below.refl _ _) | (with_reducible assumption) | (with_reducible refine below_drewN ?_ _) | (with_reducible refine below_new ?_ _) | (with_reducible refine Below.alloc ?_ ?_ _) | (with_reducible refine Below.drew ?_) | (with_reducible refine Below.setCell ?_ ?_ _) | (with_reducible apply below_at; (case k => (with_reducible assumption)); (case hB => omega)) | (with_reducible apply below_on; (with_reducible assumption)) | (go_size; done) | (with_reducible apply size_of)))) (Nat.le_refl _)) n (by simp) (by have := HN.out; omega) (by simp) ?_; intro A1 c1 w1 ho1 hk1 hb1; rw [List.nil_append] at ho1; have HO1 := Lib.hid ho1; have HS1 : Hid (w.heap.size < w1.heap.size) := Lib.hid (by have := hb1.size; simp at this; omega); have HB1 : Hid (Below w.heap.size w w1) := Lib.hid (by (repeat' (first | (with_reducible exact Below.refl _ _) | (with_reducible assumption) | (with_reducible refine below_drewN ?_ _) | (with_reducible refine below_new ?_ _) | (with_reducible refine Below.alloc ?_ ?_ _) | (with_reducible refine Below.drew ?_) | (with_reducible refine Below.setCell ?_ ?_ _) | (with_reducible apply below_at; (case k => (with_reducible assumption)); (case hB => omega)) | (with_reducible apply below_on; (with_reducible assumption)) | (go_size; done) | (with_reducible apply size_of)))); clear ho1 hk1)
    refine (Number_any x l _ x1 x2).mono ?_
    rintro e w4 ⟨A4, n4, c4, rfl, hn4, ho4, hb4⟩
    have HO4 := Lib.hid ho4
    have HN4 := Lib.hid hn4
    clear ho4 hn4
    go_wp2_with fail
    refine (rNumber_any x l _ x1 x2).mono ?_
    rintro e w5 ⟨A5, n5, c5, rfl, hn5, ho5, hb5⟩
    have HO5 := Lib.hid ho5
    have HN5 := Lib.hid hn5
    clear ho5 hn5
    go_wp2_with fail
    refine (String_any bs l A1 n c1 _ (HO1.out.has.below (by (repeat' (first | (with_reducible exact Below.refl _ _) | (with_reducible assumption) | (with_reducible refine below_drewN ?_ _) | (with_reducible refine below_new ?_ _) | (with_reducible refine Below.alloc ?_ ?_ _) | (with_reducible refine Below.drew ?_) | (with_reducible refine Below.setCell ?_ ?_ _) | (with_reducible apply below_at; (case k => (with_reducible assumption)); (case hB => omega)) | (with_reducible apply below_on; (with_reducible assumption)) | (go_size; done) | (with_reducible apply size_of)))) (Nat.le_refl _)) HL.out HO1.out.bounds.2.1 HO1.out.bounds.2.2).mono ?_
    rintro e w6 ⟨A6, n6, c6, rfl, hn6, ho6, hb6⟩
    have HO6 := Lib.hid ho6
    have HN6 := Lib.hid hn6
    clear ho6 hn6
    go_wp2_with fail
    refine (rString_any bs l A0 n d _ (HD.out.below (by have := HB1.out; (repeat' (first | (with_reducible exact Below.refl _ _) | (with_reducible assumption) | (with_reducible refine below_drewN ?_ _) | (with_reducible refine below_new ?_ _) | (with_reducible refine Below.alloc ?_ ?_ _) | (with_reducible refine Below.drew ?_) | (with_reducible refine Below.setCell ?_ ?_ _) | (with_reducible apply below_at; (case k => (with_reducible assumption)); (case hB => omega)) | (with_reducible apply below_on; (with_reducible assumption)) | (go_size; done) | (with_reducible apply size_of)))) (Nat.le_refl _)) HL.out HC.out.1 HC.out.2.1).mono ?_
    rintro e w7 ⟨A7, n7, c7, rfl, hn7, ho7, hb7⟩
    have HO7 := Lib.hid ho7
    have HN7 := Lib.hid hn7
    clear ho7 hn7
    go_wp2_with fail
    refine (New_any bs A1 n c1 _ (HO1.out.has.below (by (repeat' (first | (with_reducible exact Below.refl _ _) | (with_reducible assumption) | (with_reducible refine below_drewN ?_ _) | (with_reducible refine below_new ?_ _) | (with_reducible refine Below.alloc ?_ ?_ _) | (with_reducible refine Below.drew ?_) | (with_reducible refine Below.setCell ?_ ?_ _) | (with_reducible apply below_at; (case k => (with_reducible assumption)); (case hB => omega)) | (with_reducible apply below_on; (with_reducible assumption)) | (go_size; done) | (with_reducible apply size_of)))) (Nat.le_refl _)) HL.out HO1.out.bounds.2.1 HO1.out.bounds.2.2).mono ?_
    rintro e w8 ⟨A8, n8, c8, rfl, hn8, ho8, hb8⟩
    have HO8 := Lib.hid ho8
    have HN8 := Lib.hid hn8
    clear ho8 hn8
    go_wp2_with fail
    refine (rNew_any bs A0 n d _ (HD.out.below (by have := HB1.out; (repeat' (first | (with_reducible exact Below.refl _ _) | (with_reducible assumption) | (with_reducible refine below_drewN ?_ _) | (with_reducible refine below_new ?_ _) | (with_reducible refine Below.alloc ?_ ?_ _) | (with_reducible refine Below.drew ?_) | (with_reducible refine Below.setCell ?_ ?_ _) | (with_reducible apply below_at; (case k => (with_reducible assumption)); (case hB => omega)) | (with_reducible apply below_on; (with_reducible assumption)) | (go_size; done) | (with_reducible apply size_of)))) (Nat.le_refl _)) HL.out HC.out.1 HC.out.2.1).mono ?_
    rintro e w9 ⟨A9, n9, c9, rfl, hn9, ho9, hb9⟩
    have HO9 := Lib.hid ho9
    have HN9 := Lib.hid hn9
    clear ho9 hn9
    obtain ⟨wa, hwa⟩ : ∃ wa, w9.alloc (.cells #[.slice A9 n9 c9, .int .i64 0] 29) = wa := ⟨_, rfl⟩
    have HWA := Lib.hid hwa
    have z4 := hb4.size
    have z5 := hb5.size
    have z6 := hb6.size
    have z7 := hb7.size
    have z8 := hb8.size
    have z9 := hb9.size
    simp at z9
    have HZ : Hid (w1.heap.size ≤ w4.heap.size ∧ w4.heap.size ≤ w5.heap.size ∧ w5.heap.size ≤ w6.heap.size ∧ w6.heap.size ≤ w7.heap.size ∧ w7.heap.size ≤ w8.heap.size ∧ w8.heap.size + 1 ≤ w9.heap.size) := Lib.hid ⟨z4, z5, z6, z7, z8, z9⟩
    have ba : Below w9.heap.size w9 wa := by rw [← hwa]; exact (Below.refl _ _).alloc (Nat.le_refl _) _
    have R4 : Hid (OwnZ wa w1.heap.size (.slice A4 n4 c4) (numV x l)) := Lib.hid (((((((HO4.out.past hb5).past hb6).past hb7).past hb8).alloc _).past hb9).past ba)
    have R5 : Hid (OwnZ wa w4.heap.size (.slice A5 n5 c5) (numV x l)) := Lib.hid ((((((HO5.out.past hb6).past hb7).past hb8).alloc _).past hb9).past ba)
    have R6 : Hid (OwnZ wa w5.heap.size (.slice A6 n6 c6) (strV bs l)) := Lib.hid (((((HO6.out.past hb7).past hb8).alloc _).past hb9).past ba)
    have R7 : Hid (OwnZ wa w6.heap.size (.slice A7 n7 c7) (strV bs l)) := Lib.hid ((((HO7.out.past hb8).alloc _).past hb9).past ba)
    have R8 : Hid (OwnZ wa w7.heap.size (.slice A8 n8 c8) (newB bs)) := Lib.hid (((HO8.out.alloc _).past hb9).past ba)
    have R9 : Hid (OwnZ wa (w8.heap.size + 1) (.slice A9 n9 c9) (newB bs)) := Lib.hid (OwnZ.mono (HO9.out.past ba) (by simp))
    have T8 : Hid (Lies wa w8.heap.size 29 [.slice A8 n8 c8, .int .i64 0]) := Lib.hid (((Lies.fresh _ _ _).past hb9).past ba)
    have T9 : Hid (Lies wa w9.heap.size 29 [.slice A9 n9 c9, .int .i64 0]) := Lib.hid (by rw [← hwa]; exact Lies.fresh _ _ _)
    have HACC : Hid (Below w.heap.size w wa) := Lib.hid (by have := HB1.out; (repeat' (first | (with_reducible exact Below.refl _ _) | (with_reducible assumption) | (with_reducible refine below_drewN ?_ _) | (with_reducible refine below_new ?_ _) | (with_reducible refine Below.alloc ?_ ?_ _) | (with_reducible refine Below.drew ?_) | (with_reducible refine Below.setCell ?_ ?_ _) | (with_reducible apply below_at; (case k => (with_reducible assumption)); (case hB => omega)) | (with_reducible apply below_on; (with_reducible assumption)) | (go_size; done) | (with_reducible apply size_of))))
    have R1 : Hid (OwnZ wa w.heap.size (.slice A1 n c1) bs) := Lib.hid (((((((HO1.out.past hb4).past hb5).past hb6).past hb7).past hb8).alloc _).past hb9 |>.past ba)
    obtain ⟨g, g1, g2, hown⟩ := HO1.out.spot (w0 := w) (Nat.le_refl _) HS1.out
    have HGG : Hid (w.heap.size ≤ g ∧ g < w1.heap.size) := Lib.hid ⟨g1, g2⟩
    have HOW : Hid (n = 0 ∨ A1 = some ⟨g, 0, none⟩ ∧ OwnI wa w.heap.size 5 .u8 (.slice (some ⟨g, 0, none⟩) n c1) bs) := Lib.hid (by
      rcases hown with h | ⟨h1, h2⟩
      · exact .inl h
      · exact .inr ⟨h1, (((((((h2.below hb4 (Nat.le_refl _)).below hb5 (Nat.le_refl _)).below hb6 (Nat.le_refl _)).below hb7 (Nat.le_refl _)).below hb8 (Nat.le_refl _)).below ((Below.refl _ _).alloc (Nat.le_refl _) _) (Nat.le_refl _)).below hb9 (Nat.le_refl _)).below ba (Nat.le_refl _)⟩)
    clear hown hb1 hb4 hb5 hb6 hb7 hb8 hb9 ba z4 z5 z6 z7 z8 z9 hwa HO1 HO4 HO5 HO6 HO7 HO8 HO9 g1 g2
    go_wp2_with fail
    have hn0 : (n : Int) ≤ 50100 := by have := HN.out; omega
    go_loopw [20] (fun i wr => ∃ (k : Nat) (zs : List Int), k ≤ n ∧ i = .int .i64 (k : Int) ∧ zs.length = n ∧ wa.grownBy wr (some g) ∧ (n = 0 ∨ A1 = some ⟨g, 0, none⟩ ∧ OwnI wr w.heap.size 5 .u8 (.slice (some ⟨g, 0, none⟩) n c1) zs)) (fun i _ => n - (intOf i).toNat)
    case atStart => exact ⟨0, bs, Nat.zero_le _, rfl, HL.out, by rw [HWA.out]; exact World.grownBy.refl _ _, by rw [HWA.out]; exact HOW.out⟩
    case round =>
      obtain ⟨k, zs, hk, rfl, hz, hgr, ho⟩ := hrel
      have HGR := Lib.hid hgr
      by_cases hlt : k < n
      · obtain ⟨rfl, o⟩ : A1 = some ⟨g, 0, none⟩ ∧ OwnI wr w.heap.size 5 .u8 (.slice (some ⟨g, 0, none⟩) n c1) zs := by
          rcases ho with h | h
          · omega
          · exact h
        have HO := Lib.hid o
        have hc := o.cell k (by omega)
        have hf := o.frozen k
        have lt := o.base_le.2
        obtain ⟨v, hv⟩ : ∃ v, zs.getD k 0 = v := ⟨_, rfl⟩
        rw [hv] at hc
        have k1 : (k : Int) < n := by omega
        have k0 : (0 : Int) ≤ k := by omega
        have HLT := Lib.hid hlt
        have HZL := Lib.hid hz
        clear ho hgr o hv hlt hk hz
        go_wp2_with fail
        go_roundw
        case rel => exact ⟨k + 1, zs.set k _, HLT.out, by go_num, by rw [List.length_set]; exact HZL.out, far_set HGR.out _, .inr ⟨by first | trivial | rfl, HO.out.store k _⟩⟩
        case measure => simp [intOf]; have := HLT.out; omega
      · have he : k = n := by omega
        subst he
        have t8 := T8.out.far hgr (by have := HGG.out; have := HZ.out; omega)
        have t9 := T9.out.far hgr (by have := HGG.out; have := HZ.out; omega)
        obtain ⟨p0, p1, -, -⟩ := t8.two
        obtain ⟨q0, q1, -, -⟩ := t9.two
        have lt8 := t8.lt
        have lt9 := t9.lt
        have HT8 := Lib.hid t8
        have HT9 := Lib.hid t9
        have HA := Lib.hid (Below.far HACC.out hgr HGG.out.1)
        have S4 := Lib.hid (R4.out.far hgr (by have := HGG.out; omega))
        have S5 := Lib.hid (R5.out.far hgr (by have := HGG.out; have := HZ.out; omega))
        have S6 := Lib.hid (R6.out.far hgr (by have := HGG.out; have := HZ.out; omega))
        have S7 := Lib.hid (R7.out.far hgr (by have := HGG.out; have := HZ.out; omega))
        have S8 := Lib.hid (R8.out.far hgr (by have := HGG.out; have := HZ.out; omega))
        have S9 := Lib.hid (R9.out.far hgr (by have := HGG.out; have := HZ.out; omega))
        clear ho hgr hlt hk hz t8 t9
        generalize numE x l = E1 at *
        generalize strE bs l = E2 at *
        generalize newE bs = E3 at *
        have b1 : (E1 == E1) = true := by simp
        have b2 : (E2 == E2) = true := by simp
        have b3 : (E3 == E3) = true := by simp
        go_wp2_with fail
        refine (same8_any A4 A5 n4 n5 c4 c5 (numV x l) (numV x l) _ S4.out.has HN4.out.symm S5.out.has HN5.out.symm (by have := S4.out.bounds; omega) (by have := S5.out.bounds; omega)).mono ?_
        rintro e y1 ⟨rfl, hy1⟩
        rw [same_true]
        have u8 := HT8.out.past hy1
        have u9 := HT9.out.past hy1
        obtain ⟨p0', p1', -, -⟩ := u8.two
        obtain ⟨q0', q1', -, -⟩ := u9.two
        go_wp2_with fail
        refine (same8_any A6 A7 n6 n7 c6 c7 (strV bs l) (strV bs l) _ (S6.out.past hy1).has HN6.out.symm (S7.out.past hy1).has HN7.out.symm (by have := S6.out.bounds; omega) (by have := S7.out.bounds; omega)).mono ?_
        rintro e y2 ⟨rfl, hy2⟩
        rw [same_true]
        have v8 := u8.past hy2
        have v9 := u9.past hy2
        obtain ⟨r0, r1, -, -⟩ := v8.two
        obtain ⟨s0, s1, -, -⟩ := v9.two
        go_wp2_with fail
        refine (rSame_any 0 0 (newB bs) (newB bs) A8 A9 n8 n9 c8 c9 _ ((S8.out.past hy1).past hy2).has HN8.out.symm ((S9.out.past hy1).past hy2).has HN9.out.symm (by have := S8.out.bounds; omega) (by have := S9.out.bounds; omega)).mono ?_
        rintro e y3 ⟨rfl, hy3⟩
        rw [cu_true]
        go_wp2_with fail
        go_ret
        exact ⟨rfl, by have := HA.out; (repeat' (first | (with_reducible exact Below.refl _ _) | (with_reducible assumption) | (with_reducible refine below_drewN ?_ _) | (with_reducible refine below_new ?_ _) | (with_reducible refine Below.alloc ?_ ?_ _) | (with_reducible refine Below.drew ?_) | (with_reducible refine Below.setCell ?_ ?_ _) | (with_reducible apply below_at; (case k => (with_reducible assumption)); (case hB => omega)) | (with_reducible apply below_on; (with_reducible assumption)) | (go_size; done) | (with_reducible apply size_of)))⟩
  · have HG := Lib.hid hg
    clear hg
    go_enter Try.func4, Try.ntmps4
    go_wp2_with (first | (go_at_call 19; refine (rGreat_any A0 n d _ HC.out.2.2).mono ?_; rintro e w' ⟨rfl, rfl⟩; rw [HG.out]))
    go_ret
    exact ⟨rfl, by (repeat' (first | (with_reducible exact Below.refl _ _) | (with_reducible assumption) | (with_reducible refine below_drewN ?_ _) | (with_reducible refine below_new ?_ _) | (with_reducible refine Below.alloc ?_ ?_ _) | (with_reducible refine Below.drew ?_) | (with_reducible refine Below.setCell ?_ ?_ _) | (with_reducible apply below_at; (case k => (with_reducible assumption)); (case hB => omega)) | (with_reducible apply below_on; (with_reducible assumption)) | (go_size; done) | (with_reducible apply size_of)))⟩
end Go.Proofs.Ythdgoahfhcoccaa.ocL
