/- ShaBlocks, by a walk. -/
import Derived.Test.YtmlfajmkgkgegaaShB1
import Derived.Test.YtmlfajmkgkgegaaSame8
import Derived.DeepKeys
namespace Go.Proofs.Ytmlfajmkgkgegaa.shL
open Go.RowKit Go.Proofs.Ytmlfajmkgkgegaa.base Go.Proofs.Ytmlfajmkgkgegaa.shP Go.Proofs.Ytmlfajmkgkgegaa.shW
set_option linter.unusedVariables false
set_option linter.unusedSimpArgs false
theorem u32_wf {x : Int} (h : 0 ≤ x ∧ x ≤ 4294967295) : (Lit.int .u32 x).wf = true := WalkArith.wf_u32 h
theorem one_lit32 {x : Int} (h : 0 ≤ x ∧ x ≤ 4294967295) (d : Nat) : Try.prog.keyLits (d + 1) 22 [.int .u32 x] = some [.int .u32 x] := by
  have hw := u32_wf h
  unfold Program.keyLits
  rw [Try.underlying22]
  simp [hw]
theorem mapM_some5 {α β : Type} (f : α → Option β) (g : α → β) : ∀ l : List α, (∀ x ∈ l, f x = some (g x)) → l.mapM f = some (l.map g)
  | [], _ => rfl
  | a :: l, h => by
    rw [List.mapM_cons, h a (by simp), mapM_some5 f g l (fun x hx => h x (by simp [hx]))]
    rfl
theorem lits5 (l : List Int) (hl : l.length = 5) (hb : ∀ z ∈ l, 0 ≤ z ∧ z ≤ 4294967295) : ∃ ls, Try.prog.keyLits 5 23 (l.map (Value.int .u32)) = some ls := by
  refine ⟨((List.range 5).map fun i => [Lit.int .u32 (l.getD i 0)]).flatten, ?_⟩
  unfold Program.keyLits
  rw [Try.underlying23]
  have c1 : Try.prog.cellsOf 23 = 5 := by kernel_rfl
  have c2 : Try.prog.cellsOf 22 = 1 := by kernel_rfl
  have e : (List.range 5).mapM (fun i => Try.prog.keyLits 4 22 (((l.map (Value.int .u32)).drop (i * 1)).take 1)) = some ((List.range 5).map fun i => [Lit.int .u32 (l.getD i 0)]) := by
    refine mapM_some5 _ _ _ fun i hi => ?_
    have hi2 : i < l.length := by rw [hl]; exact List.mem_range.1 hi
    have e1 : ((l.map (Value.int .u32)).drop (i * 1)).take 1 = [.int .u32 (l.getD i 0)] := by
      rw [Nat.mul_one, List.drop_eq_getElem_cons (by simpa using hi2), List.take_succ_cons, List.take_zero, List.getElem_map, List.getD_eq_getElem?_getD, List.getElem?_eq_getElem hi2]
      rfl
    rw [e1]
    exact one_lit32 (by rw [List.getD_eq_getElem?_getD, List.getElem?_eq_getElem hi2]; exact hb _ (List.getElem_mem hi2)) 3
  show (if (l.map (Value.int .u32)).length = Try.prog.cellsOf 23 then _ else none) = _
  rw [if_pos (by rw [c1]; simpa using hl), c2, e]
  rfl
theorem a5_same (v : W5) (hv : In5 v) (w : World) : (Op.equalIn 10000 23 (.agg #[.int .u32 v.a, .int .u32 v.b, .int .u32 v.c, .int .u32 v.d, .int .u32 v.e]) (.agg #[.int .u32 v.a, .int .u32 v.b, .int .u32 v.c, .int .u32 v.d, .int .u32 v.e])).run Try.prog w = .ok true w := by
  obtain ⟨ls, hls⟩ := lits5 (l5 v) rfl (by
    obtain ⟨h1, h2, h3, h4, h5⟩ := hv
    intro z hz
    simp only [l5, List.mem_cons, List.not_mem_nil, or_false] at hz
    rcases hz with rfl | rfl | rfl | rfl | rfl <;> assumption)
  obtain ⟨r, h1, h2⟩ := run_equalIn_deep (P := Try.prog) 9998 2 23 (by kernel_rfl) w 5 5 (.agg (c5 v).toArray) (.agg (c5 v).toArray) ls ls (by kernel_rfl) (by kernel_rfl) hls hls
  rw [h2.2 rfl] at h1
  exact h1
theorem blk_in (h : W5) (b : List Int) : In5 (blkV h b) := by
  unfold blkV
  split
  · exact dn_in h b
  · unfold In5; decide
theorem padV_len9 (n : Int) : (padV n).length ≤ 9223372036854775807 := by
  unfold padV
  split
  · rw [padL_len]; have := zerosN_lt n.toNat; omega
  · simp
set_option maxRecDepth 100000 in
set_option maxHeartbeats 2000000 in
theorem blocks (n : Int) (h : W5) (A : Option Addr) (m c : Nat) (z : List Int) (w : World) (l1 : -9223372036854775808 ≤ n) (l2 : n ≤ 9223372036854775807) (hh : In5 h) (hr : IsRow .u8 w A m c z) :
    Calls Try.prog 3 #[.int .i64 n, .agg #[.int .u32 h.a, .int .u32 h.b, .int .u32 h.c, .int .u32 h.d, .int .u32 h.e], .slice A m c] w fun e w' => e = .returned (.bool true) ∧ Below w.heap.size w w' := by
  obtain ⟨h1, h2, h3, h4⟩ := has_of_row hr
  have hc : m ≤ c ∧ c ≤ 9223372036854775807 := by
    rcases hr with ⟨rfl, rfl, rfl, rfl⟩ | ⟨x, rfl, a1, a2, a3, a4, a5⟩
    · exact ⟨Nat.le_refl _, by decide⟩
    · exact ⟨a1, by unfold maxLen at a2; omega⟩
  have hb : ∀ x ∈ z.take m, 0 ≤ x ∧ x ≤ 255 := fun x hx => bounds_u8 (h4 x hx)
  obtain ⟨b, hbb⟩ : ∃ b, z.take m = b := ⟨_, rfl⟩
  rw [hbb] at h1 h2 hb
  have HA := Lib.hid h1
  have HL := Lib.hid h2
  have HB := Lib.hid hb
  have HC := Lib.hid hc
  have HH := Lib.hid hh
  have m9 : (m : Int) ≤ 9223372036854775807 := by omega
  clear h1 h2 h3 h4 hb hbb hc hr hh
  by_cases c2 : (m : Int) ≤ 200
  · have A0 : Hid (Below w.heap.size w (w.alloc (.cells (c5 h).toArray 23)) ∧ Lies (w.alloc (.cells (c5 h).toArray 23)) (w.heap.size) 23 (c5 (h))) := Lib.hid ⟨by (repeat' (first | (with_reducible exact Below.refl _ _) | (with_reducible assumption) | (with_reducible refine below_drewN ?_ _) | (with_reducible refine below_new ?_ _) | (with_reducible refine Below.alloc ?_ ?_ _) | (with_reducible refine Below.drew ?_) | (with_reducible refine Below.setCell ?_ ?_ _) | (with_reducible apply below_at; (case k => (with_reducible assumption)); (case hB => omega)) | (with_reducible apply below_on; (with_reducible assumption)) | (go_size; done) | (with_reducible apply size_of))), Lies.fresh _ _ _⟩
    obtain ⟨ue, hue⟩ : ∃ ue, blkE b = ue := ⟨_, rfl⟩
    obtain ⟨u, hu⟩ : ∃ u, blkV h b = u := ⟨_, rfl⟩
    have HU := Lib.hid (And.intro hue hu)
    have heq := fun W => a5_same u (hu ▸ blk_in h b) W
    clear hue hu
    go_enter Try.func3, Try.ntmps3
    go_wp2_with fail
    refine (Pad_any n _).mono ?_
    rintro e w1 ⟨A1, m1, c1, rfl, hm1, own1, hb1⟩
    obtain ⟨pe, hpe⟩ : ∃ pe, padE n = pe := ⟨_, rfl⟩
    rw [hpe]
    have HPE := Lib.hid hpe
    have HM1 := Lib.hid hm1
    have HO1 := Lib.hid own1
    have HA1 : Hid (Below w.heap.size w w1 ∧ Lies (w1) (w.heap.size) 23 (c5 (h))) := Lib.hid ⟨A0.out.1.trans (hb1.mono A0.out.1.size), A0.out.2.past hb1⟩
    clear hpe hm1 own1 hb1
    go_wp2_with fail
    refine (rPad n _).mono ?_
    rintro e w2 ⟨A2, m2, c2, rfl, hm2, own2, hb2⟩
    rw [HPE.out]
    have HM2 := Lib.hid hm2
    have HO2 := Lib.hid own2
    have HO12 := Lib.hid (HO1.out.past hb2)
    have HA2 : Hid (Below w.heap.size w w2 ∧ Lies (w2) (w.heap.size) 23 (c5 (h))) := Lib.hid ⟨HA1.out.1.trans (hb2.mono HA1.out.1.size), HA1.out.2.past hb2⟩
    clear hm2 own2 hb2
    obtain ⟨p0, p1, p2, p3, p4⟩ := five HA2.out.2
    have zl := HA2.out.2.lt
    go_wp2_with fail
    refine (Block_any h b A m c _ (HA.out.below HA2.out.1 (Nat.le_refl _)) HL.out HC.out.1 (by have := HC.out; omega) HB.out HH.out).mono ?_
    rintro e w3 ⟨rfl, hb3⟩
    rw [HU.out.1, HU.out.2]
    have HO23 := Lib.hid (HO2.out.past hb3)
    have HO13 := Lib.hid (HO12.out.past hb3)
    have HA3 : Hid (Below w.heap.size w w3 ∧ Lies (w3) (w.heap.size) 23 (c5 (h))) := Lib.hid ⟨HA2.out.1.trans (hb3.mono HA2.out.1.size), HA2.out.2.past hb3⟩
    clear hb3 p0 p1 p2 p3 p4 zl
    have Q3 : Hid (Lies (w3.alloc (.cells (c5 u).toArray 23)) (w3.heap.size) 23 (c5 (u)) ∧ Lies (w3.alloc (.cells (c5 u).toArray 23)) (w.heap.size) 23 (c5 (h)) ∧ Below w.heap.size w (w3.alloc (.cells (c5 u).toArray 23))) := Lib.hid ⟨Lies.fresh _ _ _, HA3.out.2.alloc _, by have := HA3.out.1; (repeat' (first | (with_reducible exact Below.refl _ _) | (with_reducible assumption) | (with_reducible refine below_drewN ?_ _) | (with_reducible refine below_new ?_ _) | (with_reducible refine Below.alloc ?_ ?_ _) | (with_reducible refine Below.drew ?_) | (with_reducible refine Below.setCell ?_ ?_ _) | (with_reducible apply below_at; (case k => (with_reducible assumption)); (case hB => omega)) | (with_reducible apply below_on; (with_reducible assumption)) | (go_size; done) | (with_reducible apply size_of)))⟩
    obtain ⟨p0, p1, p2, p3, p4⟩ := five HA3.out.2
    have zl := HA3.out.2.lt
    go_wp2_with fail
    refine (rBlock h b A m c _ (HA.out.below Q3.out.2.2 (Nat.le_refl _)) HL.out HC.out.1 (by have := HC.out; omega) HB.out HH.out).mono ?_
    rintro e w4 ⟨rfl, hb4⟩
    rw [HU.out.1, HU.out.2]
    have HO24 := Lib.hid ((HO23.out.alloc _).past hb4)
    have HO14 := Lib.hid ((HO13.out.alloc _).past hb4)
    have Q4 : Hid (Lies (w4) (w3.heap.size) 23 (c5 (u)) ∧ Below w.heap.size w w4) := Lib.hid ⟨Q3.out.1.past hb4, Q3.out.2.2.trans (hb4.mono Q3.out.2.2.size)⟩
    clear hb4 p0 p1 p2 p3 p4 zl
    go_wp2_with fail
    have Q5 : Hid (Below w.heap.size w (w4.alloc (.cells (c5 u).toArray 23)) ∧ Lies (w4.alloc (.cells (c5 u).toArray 23)) (w3.heap.size) 23 (c5 (u)) ∧ Lies (w4.alloc (.cells (c5 u).toArray 23)) (w4.heap.size) 23 (c5 (u))) := Lib.hid ⟨by have := Q4.out.2; (repeat' (first | (with_reducible exact Below.refl _ _) | (with_reducible assumption) | (with_reducible refine below_drewN ?_ _) | (with_reducible refine below_new ?_ _) | (with_reducible refine Below.alloc ?_ ?_ _) | (with_reducible refine Below.drew ?_) | (with_reducible refine Below.setCell ?_ ?_ _) | (with_reducible apply below_at; (case k => (with_reducible assumption)); (case hB => omega)) | (with_reducible apply below_on; (with_reducible assumption)) | (go_size; done) | (with_reducible apply size_of))), Q4.out.1.alloc _, Lies.fresh _ _ _⟩
    refine (same8_any A1 A2 m1 m2 c1 c2 (padV n) (padV n) _ (HO14.out.alloc _).has HM1.out.symm (HO24.out.alloc _).has HM2.out.symm (by rw [HM1.out]; exact padV_len9 n) (by rw [HM2.out]; exact padV_len9 n)).mono ?_
    rintro e w5 ⟨rfl, hb5⟩
    rw [show decide (padV n = padV n) = true from decide_eq_true rfl]
    have Q6 : Hid (Below w.heap.size w w5 ∧ Lies (w5) (w3.heap.size) 23 (c5 (u)) ∧ Lies (w5) (w4.heap.size) 23 (c5 (u))) := Lib.hid ⟨Q5.out.1.trans (hb5.mono Q5.out.1.size), Q5.out.2.1.past hb5, Q5.out.2.2.past hb5⟩
    clear hb5
    obtain ⟨p0, p1, p2, p3, p4⟩ := five Q6.out.2.1
    obtain ⟨q0, q1, q2, q3, q4⟩ := five Q6.out.2.2
    go_wp2_with fail
    go_ret
    exact ⟨rfl, Q6.out.1⟩
  · have c2' : (200 : Int) < m := by omega
    go_enter Try.func3, Try.ntmps3
    go_wp2_with fail
    go_ret
    exact ⟨rfl, by (repeat' (first | (with_reducible exact Below.refl _ _) | (with_reducible assumption) | (with_reducible refine below_drewN ?_ _) | (with_reducible refine below_new ?_ _) | (with_reducible refine Below.alloc ?_ ?_ _) | (with_reducible refine Below.drew ?_) | (with_reducible refine Below.setCell ?_ ?_ _) | (with_reducible apply below_at; (case k => (with_reducible assumption)); (case hB => omega)) | (with_reducible apply below_on; (with_reducible assumption)) | (go_size; done) | (with_reducible apply size_of)))⟩
end Go.Proofs.Ytmlfajmkgkgegaa.shL
