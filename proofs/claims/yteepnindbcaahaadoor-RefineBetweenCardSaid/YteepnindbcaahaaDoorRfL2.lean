/- RefineBetween, by a walk. -/
import Derived.Test.YteepnindbcaahaaDoorRfA3
namespace Go.Proofs.YteepnindbcaahaaDoor.rfL
set_option maxRecDepth 100000
open Go.RowKit Go.Proofs.YteepnindbcaahaaDoor.base Go.Proofs.YteepnindbcaahaaDoor.rfP Go.Proofs.YteepnindbcaahaaDoor.rfW Go.Proofs.YteepnindbcaahaaDoor.sqP Go.Proofs.YteepnindbcaahaaDoor.sqW
set_option linter.unusedVariables false
set_option linter.unusedSimpArgs false
set_option maxHeartbeats 1500000 in
theorem between_out (P : Option Addr) (m c : Nat) (rs : List RY) (row x d : Int) (w : World) (h : RowsY w P m c rs) (hT : Tab w) (ho : fitB (numsY rs) row = false ∨ x < -2047 ∨ d < x ∨ 2047 < d) :
    Calls Tryd.prog 5 #[.agg #[.slice P m c], .int .i64 row, .int .i32 x, .int .i32 d] w fun e w' => e = .returned (.bool true) ∧ Below w.heap.size w w' := by
  have HT := Lib.hid hT
  have H := Lib.hid h
  have HO := Lib.hid ho
  clear h hT ho
  have S0 : Hid (RfAt (w.alloc (.cells #[.slice P m c] 24)) w.heap.size P m c rs ∧ Below w.heap.size w (w.alloc (.cells #[.slice P m c] 24))) := Lib.hid ⟨rfAt_new H.out, by (repeat' (first | (with_reducible exact Below.refl _ _) | (with_reducible assumption) | (with_reducible refine below_drewN ?_ _) | (with_reducible refine below_new ?_ _) | (with_reducible refine Below.alloc ?_ ?_ _) | (with_reducible refine Below.drew ?_) | (with_reducible refine Below.setCell ?_ ?_ _) | (with_reducible apply below_at; (case k => (with_reducible assumption)); (case hB => omega)) | (with_reducible apply below_on; (with_reducible assumption)) | (go_size; done) | (with_reducible apply size_of)))⟩
  go_enter Tryd.func5, Tryd.ntmps5
  go_wp2_with fail
  generalize hw0 : (w.alloc (.cells #[.slice P m c] 24)) = w0 at *
  clear hw0
  refine (alive w0 (HT.out.below S0.out.2)).mono ?_
  rintro e w1 ⟨rfl, b1⟩
  have S1 : Hid (RfAt w1 w.heap.size P m c rs ∧ Below w.heap.size w w1) := Lib.hid ⟨S0.out.1.past b1, below_bs S0.out.2 b1⟩
  clear b1 S0
  have x1 := S1.out.1.cell
  go_wp2_with fail
  clear x1
  refine (fit_any P m c rs row w1 S1.out.1.rows).mono ?_
  rintro e w2 ⟨rfl, b2⟩
  have HB := Lib.hid (below_bs S1.out.2 b2)
  clear b2 S1
  cases hf : fitB (numsY rs) row
  · clear hf HO
    go_wp2_with fail
    go_ret
    exact ⟨rfl, HB.out⟩
  have ho := HO.out
  rw [hf] at ho
  by_cases c1 : x < -2047
  · clear ho hf HO
    go_wp2_with fail
    go_ret
    exact ⟨rfl, HB.out⟩
  have d1 : decide (x < -2047) = false := decide_eq_false c1
  by_cases c2 : d < x
  · clear ho hf HO
    go_wp2_with fail
    go_ret
    exact ⟨rfl, HB.out⟩
  have c3 : 2047 < d := by
    rcases ho with h | h | h | h
    · cases h
    · omega
    · omega
    · exact h
  clear ho hf HO
  go_wp2_with fail
  go_ret
  exact ⟨rfl, HB.out⟩
theorem look_one {t : Nat} (t1 : 1 ≤ t) (t2 : t ≤ 4095) : lookE (newV 1) 0 ((t : Int) - 2048) = 0 ∧ lookV (newV 1) 0 ((t : Int) - 2048) = seenP sqRow t ∧ lookJ (newV 1) 0 ((t : Int) - 2048) = nearJ t := by
  have h := look_at (l := newV 1) (k := 0) (t := t) new_ask t1 t2
  rw [new_one] at h ⊢
  exact h
set_option maxHeartbeats 1500000 in
theorem between_in (P : Option Addr) (m c : Nat) (rs : List RY) (k s t : Nat) (w : World) (h : RowsY w P m c rs) (hT : Tab w) (hf : fitB (numsY rs) (k : Int) = true) (s1 : 1 ≤ s) (st : s ≤ t) (t2 : t ≤ 4095) :
    Calls Tryd.prog 5 #[.agg #[.slice P m c], .int .i64 k, .int .i32 ((s : Int) - 2048), .int .i32 ((t : Int) - 2048)] w fun e w' => e = .returned (.bool true) ∧ Below w.heap.size w w' := by
  obtain ⟨fl, hr, f0, f1, ha⟩ := fit_iff hf
  have HT := Lib.hid hT
  have H := Lib.hid h
  have HF := Lib.hid hf
  have HST := Lib.hid (And.intro s1 (And.intro st t2))
  have HA := Lib.hid ha
  have HL := Lib.hid (rows_len h)
  have hkm : k < m := by have := HL.out; omega
  have HRW := Lib.hid (rf_row hr k (by rw [HL.out]; exact hkm))
  have hlk := look_at (k := k) (t := t) ha (by omega) t2
  obtain ⟨z, hzz⟩ : ∃ z, (numsY rs).getD k [] = z := ⟨_, rfl⟩
  have HZZ := Lib.hid hzz
  rw [hzz] at hlk HRW
  have hz := ((rowB_iff _).1 HRW.out).1
  obtain ⟨r1, r2, r3, r4⟩ := seen_between HRW.out t2
  obtain ⟨px0, px1⟩ := row_at HRW.out (t / 128) (by omega)
  obtain ⟨py0, py1⟩ := row_at HRW.out (t / 128 + 1) (by omega)
  have pj : nearJ t = t / 128 ∨ nearJ t = t / 128 + 1 := by unfold nearJ; split <;> omega
  obtain ⟨j, hj⟩ : ∃ j, t / 128 = j := ⟨_, rfl⟩
  have hjI : (t : Int) / 128 = (j : Int) := by omega
  have j32 : j < 32 := by omega
  obtain ⟨p, hp⟩ : ∃ p, seenP z t = p := ⟨_, rfl⟩
  obtain ⟨nj, hnj⟩ : ∃ nj, nearJ t = nj := ⟨_, rfl⟩
  rw [hp, hnj] at hlk
  rw [hp] at r1 r2 r3 r4
  rw [hnj] at pj
  rw [hj] at r1 r2 px0 px1 py0 py1 pj
  have HLK := Lib.hid hlk
  have HJ := Lib.hid (And.intro hj (And.intro hjI j32))
  obtain ⟨x, hx⟩ : ∃ x, z.getD j 0 = x := ⟨_, rfl⟩
  obtain ⟨y, hy⟩ : ∃ y, z.getD (j + 1) 0 = y := ⟨_, rfl⟩
  rw [hx, hy] at r1 r2
  rw [hx] at px0 px1
  rw [hy] at py0 py1
  have HXY := Lib.hid (And.intro hx hy)
  have j0 : 0 ≤ (j : Int) := by omega
  have j1 : (j : Int) < 33 := by omega
  have j2 : (j : Int) + 1 < 33 := by omega
  have j4 : IntKind.i64.wrap ((j : Int) + 1) = (j : Int) + 1 := IntWalk.i64_in _ (by omega)
  have j5 : ((j : Int) + 1).toNat = j + 1 := by omega
  have HR12 := Lib.hid (And.intro r1 (And.intro r2 pj))
  clear hlk hzz hj j32 hp hnj hx hy r1 r2 pj
  have k1 : (k : Int) < m := by omega
  have k0 : 0 ≤ (k : Int) := by omega
  have HK := Lib.hid hkm
  have HZ := Lib.hid hz
  have S0 : Hid (RfAt (w.alloc (.cells #[.slice P m c] 24)) w.heap.size P m c rs ∧ Below w.heap.size w (w.alloc (.cells #[.slice P m c] 24))) := Lib.hid ⟨rfAt_new H.out, by (repeat' (first | (with_reducible exact Below.refl _ _) | (with_reducible assumption) | (with_reducible refine below_drewN ?_ _) | (with_reducible refine below_new ?_ _) | (with_reducible refine Below.alloc ?_ ?_ _) | (with_reducible refine Below.drew ?_) | (with_reducible refine Below.setCell ?_ ?_ _) | (with_reducible apply below_at; (case k => (with_reducible assumption)); (case hB => omega)) | (with_reducible apply below_on; (with_reducible assumption)) | (go_size; done) | (with_reducible apply size_of)))⟩
  have d0 : ¬ (s : Int) - 2048 < -2047 := by omega
  have d1 : ¬ (t : Int) - 2048 < (s : Int) - 2048 := by omega
  have d2 : ¬ 2047 < (t : Int) - 2048 := by omega
  clear h hT hf fl hr f0 f1 ha hz hkm s1 st t2
  have q0 : 1 ≤ (s : Int) := by have := HST.out; omega
  have q1 : (s : Int) ≤ t := by have := HST.out; omega
  have q2 : (t : Int) ≤ 4095 := by have := HST.out; omega
  go_enter Tryd.func5, Tryd.ntmps5
  go_wp2_with fail
  generalize hw0 : (w.alloc (.cells #[.slice P m c] 24)) = w0 at *
  clear hw0
  refine (alive w0 (HT.out.below S0.out.2)).mono ?_
  rintro e w1 ⟨rfl, b1⟩
  have S1 : Hid (RfAt w1 w.heap.size P m c rs ∧ Below w.heap.size w w1) := Lib.hid ⟨S0.out.1.past b1, below_bs S0.out.2 b1⟩
  clear b1 S0
  have x1 := S1.out.1.cell
  go_wp2_with fail
  clear x1
  refine (fit_any P m c rs k w1 S1.out.1.rows).mono ?_
  rintro e w2 ⟨rfl, b2⟩
  rw [HF.out]
  have S2 : Hid (RfAt w2 w.heap.size P m c rs ∧ Below w.heap.size w w2) := Lib.hid ⟨S1.out.1.past b2, below_bs S1.out.2 b2⟩
  clear b2 S1
  have x1 := S2.out.1.cell
  go_wp2_with fail
  clear x1
  refine (Look_any P m c rs k _ w2 S2.out.1.rows).mono ?_
  rintro e w3 ⟨rfl, b3⟩
  have S3 : Hid (RfAt w3 w.heap.size P m c rs ∧ Below w.heap.size w w3) := Lib.hid ⟨S2.out.1.past b3, below_bs S2.out.2 b3⟩
  clear b3 S2
  rw [HLK.out.1, HLK.out.2.1, HLK.out.2.2]
  go_upto_region 6 with fail
  obtain ⟨b, o, bb, oo, cc, hP, y1, y2⟩ := row_cells S3.out.1.rows k j HK.out (by rw [HZZ.out, HZ.out]; have := HJ.out.2.2; omega)
  obtain ⟨b', o', bb', oo', cc', hP', y3, y4⟩ := row_cells S3.out.1.rows k (j + 1) HK.out (by rw [HZZ.out, HZ.out]; have := HJ.out.2.2; omega)
  rw [HZZ.out, HZ.out] at y1 y3
  rw [HZZ.out] at y2 y4
  rw [HXY.out.1] at y2
  rw [HXY.out.2] at y4
  subst hP
  injection hP' with hP'
  injection hP' with e1 e2 _
  subst e1; subst e2
  rw [y1] at y3
  injection y3 with y3
  injection y3 with y3 _ _
  injection y3 with y3
  injection y3 with e1 e2 _
  subst e1; subst e2
  have x1 := S3.out.1.cell
  have hcase : (∃ lo hi : Int, min x y = lo ∧ max x y = hi ∧ 0 ≤ lo ∧ 0 ≤ hi ∧ lo / 16 ≤ p ∧ p ≤ hi / 16) := ⟨_, _, rfl, rfl, by omega, by omega, HR12.out.1, HR12.out.2.1⟩
  obtain ⟨lo, hi, hlo, hhi, lo0, hi0, lo1, hi1⟩ := hcase
  have hnj : ((nj : Int) != (j : Int)) = false ∨ (((nj : Int) != (j : Int)) = true ∧ ((nj : Int) != (j : Int) + 1) = false) := by
    rcases HR12.out.2.2 with h | h
    · left; simp [h]
    · right; rw [h]; constructor <;> simp <;> omega
  have HNJ := Lib.hid hnj
  clear hnj hlo hhi
  go_upto_region 7 with (go_quiet (fail))
  generalize hwq : w3.drewN nq = wq at *
  have S4 : Hid (RfAt wq w.heap.size (some ⟨b, o, none⟩) m c rs ∧ Below w.heap.size w wq) := Lib.hid (by rw [← hwq]; exact ⟨S3.out.1.past (below_drewN (Below.refl _ _) _), below_drewN S3.out.2 _⟩)
  clear hwq S3 y1 y2 y4 x1
  go_cut [115] (fun v wx => v = .bool false ∧ wx = wq)
  case first =>
    rcases HNJ.out with n1 | ⟨n1, n2⟩
    · go_wp2_with fail
      all_goals (have r1 := HR12.out.1; have r2 := HR12.out.2.1; first | (exfalso; omega) | (go_meet; first | exact ⟨rfl, rfl⟩ | (refine ⟨?_, rfl⟩; congr 1; simp; omega)))
    · go_wp2_with fail
      all_goals (have r1 := HR12.out.1; have r2 := HR12.out.2.1; first | (exfalso; omega) | (go_meet; first | exact ⟨rfl, rfl⟩ | (refine ⟨?_, rfl⟩; congr 1; simp; omega)))
  case rest =>
    obtain ⟨rfl, rfl⟩ := hcut
    go_wp2_with fail
    refine (New_any 1 wc (HT.out.below S4.out.2)).mono ?_
    rintro e v5 ⟨A5, n5, d5, q5, rfl, o5, e5, b5⟩
    rw [ex_1.1]
    have E5 := Lib.hid e5
    have S5 : Hid (RfAt (v5.alloc (.cells #[.slice A5 n5 d5] 24)) v5.heap.size A5 n5 d5 q5 ∧ Below w.heap.size w (v5.alloc (.cells #[.slice A5 n5 d5] 24))) := Lib.hid ⟨rfAt_new o5.rows, below_al (below_bs S4.out.2 b5) _⟩
    clear o5 e5 b5 S4
    go_upto_region 10 with fail
    generalize hw5 : (v5.alloc (.cells #[.slice A5 n5 d5] 24)) = w5 at *
    generalize v5.heap.size = g5 at *
    clear hw5
    have x1 := S5.out.1.cell
    go_wp2_with fail
    clear x1
    refine (Look_any A5 n5 d5 q5 0 _ w5 S5.out.1.rows).mono ?_
    rintro e w6 ⟨rfl, b6⟩
    rw [E5.out]
    have S6 : Hid (RfAt w6 g5 A5 n5 d5 q5 ∧ Below w.heap.size w w6) := Lib.hid ⟨S5.out.1.past b6, below_bs S5.out.2 b6⟩
    clear b6 S5
    have L6 := Lib.hid (look_one (t := s) HST.out.1 (by have := HST.out; omega))
    have L7 := Lib.hid (look_one (t := t) (by have := HST.out; omega) HST.out.2.2)
    rw [L6.out.1, L6.out.2.1]
    generalize lookJ (newV 1) 0 ((s : Int) - 2048) = js at *
    have x1 := S6.out.1.cell
    go_wp2_with fail
    clear x1
    refine (Look_any A5 n5 d5 q5 0 _ w6 S6.out.1.rows).mono ?_
    rintro e w7 ⟨rfl, b7⟩
    rw [E5.out, L7.out.1, L7.out.2.1]
    generalize lookJ (newV 1) 0 ((t : Int) - 2048) = jt at *
    have S7 : Hid (RfAt w7 g5 A5 n5 d5 q5 ∧ Below w.heap.size w w7) := Lib.hid ⟨S6.out.1.past b7, below_bs S6.out.2 b7⟩
    clear b7 S6
    have hup := seen_up HST.out.2.1 HST.out.2.2
    generalize seenP sqRow s = ps at *
    generalize seenP sqRow t = pt at *
    have x1 := S7.out.1.cell
    have j32 : (j : Int) < 32 := by have := HJ.out.2.2; omega
    by_cases hj0 : (j : Int) < 1
    · go_wp2_with fail
      refine (Look_any A5 n5 d5 q5 0 _ w7 S7.out.1.rows).mono ?_
      rintro e w8 ⟨rfl, b8⟩
      rw [show 128 * ((j : Int) - 16) + 128 * (1 - (j : Int)) = ((128 : Nat) : Int) - 2048 from by omega, E5.out, (look_one (t := 128) (by omega) (by omega)).1]
      have S8 := Lib.hid (below_bs S7.out.2 b8)
      clear b8 S7 x1
      generalize lookV (newV 1) 0 (((128 : Nat) : Int) - 2048) = v8 at *
      generalize lookJ (newV 1) 0 (((128 : Nat) : Int) - 2048) = u8 at *
      have jz : ((j : Int) == 0) = true := by simp; omega
      go_wp2_with fail
      go_ret
      exact ⟨rfl, S8.out⟩
    · have HPL := Lib.hid (seen_place (j := j) HJ.out.2.2)
      have LJ := Lib.hid (look_one (t := 128 * j) (by omega) (by omega))
      have jz : ((j : Int) == 0) = false := by simp; omega
      go_wp2_with fail
      all_goals
        refine (Look_any A5 n5 d5 q5 0 _ w7 S7.out.1.rows).mono ?_
        rintro e w8 ⟨rfl, b8⟩
        first | rw [show 128 * ((j : Int) - 16) + 128 * (1 - (j : Int)) = ((128 * j : Nat) : Int) - 2048 from by omega] | rw [show 128 * ((j : Int) - 16) = ((128 * j : Nat) : Int) - 2048 from by omega]
        rw [E5.out, LJ.out.1, LJ.out.2.1, LJ.out.2.2, HPL.out.1, HPL.out.2]
        have S8 := Lib.hid (below_bs S7.out.2 b8)
        have T8 := Lib.hid (HT.out.below S8.out)
        clear b8 S7 x1
        generalize hsq : sq (128 * (j : Int) - 2048) = sj at *
        have HSQ := Lib.hid hsq
        clear hsq
        go_wp2_with fail
        with_reducible refine (sq_any _ w8 T8.out).mono ?_
        rintro e w9 ⟨rfl, nn, rfl⟩
        rw [show 128 * ((j : Int) - 16) = 128 * (j : Int) - 2048 from by omega, HSQ.out]
        go_wp2_with fail
        go_ret
        exact ⟨rfl, below_drewN S8.out _⟩
theorem between (P : Option Addr) (m c : Nat) (rs : List RY) (row x d : Int) (w : World) (h : RowsY w P m c rs) (_ : -9223372036854775808 ≤ row) (_ : row ≤ 9223372036854775807) (_ : -2147483648 ≤ x) (_ : x ≤ 2147483647) (_ : -2147483648 ≤ d) (_ : d ≤ 2147483647) (hT : Tab w) :
    Calls Tryd.prog 5 #[.agg #[.slice P m c], .int .i64 row, .int .i32 x, .int .i32 d] w fun e w' => e = .returned (.bool true) ∧ Below w.heap.size w w' := by
  by_cases ho : fitB (numsY rs) row = false ∨ x < -2047 ∨ d < x ∨ 2047 < d
  · exact between_out P m c rs row x d w h hT ho
  · have hf : fitB (numsY rs) row = true := by
      cases hh : fitB (numsY rs) row
      · exact absurd (.inl hh) ho
      · rfl
    obtain ⟨_, _, f0, _⟩ := fit_iff hf
    have e0 : ((row.toNat : Nat) : Int) = row := by omega
    have := between_in P m c rs row.toNat (x + 2048).toNat (d + 2048).toNat w h hT (by rw [e0]; exact hf) (by omega) (by omega) (by omega)
    rw [e0, show (((x + 2048).toNat : Nat) : Int) - 2048 = x by omega, show (((d + 2048).toNat : Nat) : Int) - 2048 = d by omega] at this
    exact this
end Go.Proofs.YteepnindbcaahaaDoor.rfL
