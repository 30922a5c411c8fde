/- RefineTowards, by a walk. -/
import Derived.Test.YteepnindbcaahaaDoorRfA4
namespace Go.Proofs.YteepnindbcaahaaDoor.rfL
set_option maxRecDepth 100000
open Go.RowKit Go.Proofs.YteepnindbcaahaaDoor.base Go.Proofs.YteepnindbcaahaaDoor.rfP Go.Proofs.YteepnindbcaahaaDoor.rfW Go.Proofs.YteepnindbcaahaaDoor.sqP Go.Proofs.YteepnindbcaahaaDoor.sqW
set_option linter.unusedVariables false
set_option linter.unusedSimpArgs false
set_option maxHeartbeats 1500000 in
theorem towards_out (P : Option Addr) (m c : Nat) (rs : List RY) (row d : Int) (bit : Bool) (w : World) (h : RowsY w P m c rs) (hT : Tab w) (ho : fitB (numsY rs) row = false ∨ d < -2047 ∨ 2047 < d) :
    Calls Tryd.prog 6 #[.agg #[.slice P m c], .int .i64 row, .int .i32 d, .bool bit] w fun e w' => e = .returned (.bool true) ∧ Below w.heap.size w w' := by
  have HT := Lib.hid hT
  have H := Lib.hid h
  have HO := Lib.hid ho
  clear h hT ho
  have S0 : Hid (RfAt (w.alloc (.cells #[.slice P m c] 24)) w.heap.size P m c rs ∧ Below w.heap.size w (w.alloc (.cells #[.slice P m c] 24))) := Lib.hid ⟨rfAt_new H.out, by (repeat' (first | (with_reducible exact Below.refl _ _) | (with_reducible assumption) | (with_reducible refine below_drewN ?_ _) | (with_reducible refine below_new ?_ _) | (with_reducible refine Below.alloc ?_ ?_ _) | (with_reducible refine Below.drew ?_) | (with_reducible refine Below.setCell ?_ ?_ _) | (with_reducible apply below_at; (case k => (with_reducible assumption)); (case hB => omega)) | (with_reducible apply below_on; (with_reducible assumption)) | (go_size; done) | (with_reducible apply size_of)))⟩
  go_enter Tryd.func6, Tryd.ntmps6
  go_wp2_with fail
  generalize hw0 : (w.alloc (.cells #[.slice P m c] 24)) = w0 at *
  clear hw0
  refine (alive w0 (HT.out.below S0.out.2)).mono ?_
  rintro e w1 ⟨rfl, b1⟩
  have S1 : Hid (RfAt w1 w.heap.size P m c rs ∧ Below w.heap.size w w1) := Lib.hid ⟨S0.out.1.past b1, below_bs S0.out.2 b1⟩
  clear b1 S0
  have x1 := S1.out.1.cell
  go_wp2_with fail
  clear x1
  refine (fit_any P m c rs row w1 S1.out.1.rows).mono ?_
  rintro e w2 ⟨rfl, b2⟩
  have HB := Lib.hid (below_bs S1.out.2 b2)
  clear b2 S1
  cases hf : fitB (numsY rs) row
  · clear hf HO
    go_wp2_with fail
    go_ret
    exact ⟨rfl, HB.out⟩
  have ho := HO.out
  rw [hf] at ho
  by_cases c1 : d < -2047
  · clear ho hf HO
    go_wp2_with fail
    go_ret
    exact ⟨rfl, HB.out⟩
  have d1 : decide (d < -2047) = false := decide_eq_false c1
  have c3 : 2047 < d := by
    rcases ho with h | h | h
    · cases h
    · omega
    · exact h
  have c4 : 0 ≤ d := by omega
  clear ho hf HO c1
  go_wp2_with fail
  go_ret
  exact ⟨rfl, HB.out⟩
set_option maxHeartbeats 1500000 in
theorem towards_in (P : Option Addr) (m c : Nat) (rs : List RY) (k t : Nat) (bit : Bool) (w : World) (h : RowsY w P m c rs) (hT : Tab w) (hf : fitB (numsY rs) (k : Int) = true) (t1 : 1 ≤ t) (t2 : t ≤ 4095) :
    Calls Tryd.prog 6 #[.agg #[.slice P m c], .int .i64 k, .int .i32 ((t : Int) - 2048), .bool bit] w fun e w' => e = .returned (.bool true) ∧ Below w.heap.size w w' := by
  obtain ⟨fl, hr, f0, f1, ha⟩ := fit_iff hf
  have HT := Lib.hid hT
  have H := Lib.hid h
  have HF := Lib.hid hf
  have HL := Lib.hid (rows_len h)
  have hkm : k < m := by have := HL.out; omega
  have hnb := near_bd t2
  obtain ⟨nj, hnj⟩ : ∃ nj, nearJ t = nj := ⟨_, rfl⟩
  rw [hnj] at hnb
  have hl1 := look_at (k := k) (t := t) ha t1 t2
  have hn1 := learn_at (k := k) (j := nj) ha hnb bit
  have ha2 := learn_ask ha hnb bit
  have hl2 := look_at (k := k) (t := t) ha2 t1 t2
  have hss := seen_stp hr (by rw [HL.out]; exact hkm) hnb bit t2
  have HPL := Lib.hid (fun i a hi ha => learn_place hr (by rw [HL.out]; exact hkm) hnb bit i a hi ha)
  have HR := Lib.hid hr
  have HR2 := Lib.hid (learn_ok hr (by rw [HL.out]; exact hkm) hnb bit)
  have HL2 : Hid ((learnP (numsY rs) k nj bit).length = m) := Lib.hid (by rw [learn_len]; exact HL.out)
  rw [hnj] at hl1 hl2
  obtain ⟨p, hp⟩ : ∃ p, seenP ((numsY rs).getD k []) t = p := ⟨_, rfl⟩
  obtain ⟨q, hq⟩ : ∃ q, seenP ((learnP (numsY rs) k nj bit).getD k []) t = q := ⟨_, rfl⟩
  rw [hp] at hl1 hss
  rw [hq] at hl2 hss
  have HLK := Lib.hid hl1
  have HLN := Lib.hid hn1
  have HLK2 := Lib.hid hl2
  have HSS := Lib.hid hss
  have m9 : (m : Int) ≤ 20 := by have := HL.out; omega
  have k1 : (k : Int) < m := by omega
  have k0 : 0 ≤ (k : Int) := by omega
  have n0 : 0 ≤ (nj : Int) := by omega
  have n1 : (nj : Int) ≤ 32 := by omega
  have d0 : ¬ (t : Int) - 2048 < -2047 := by omega
  have d2 : ¬ 2047 < (t : Int) - 2048 := by omega
  have S0 : Hid (RfAt (w.alloc (.cells #[.slice P m c] 24)) w.heap.size P m c rs ∧ Below w.heap.size w (w.alloc (.cells #[.slice P m c] 24))) := Lib.hid ⟨rfAt_new H.out, by (repeat' (first | (with_reducible exact Below.refl _ _) | (with_reducible assumption) | (with_reducible refine below_drewN ?_ _) | (with_reducible refine below_new ?_ _) | (with_reducible refine Below.alloc ?_ ?_ _) | (with_reducible refine Below.drew ?_) | (with_reducible refine Below.setCell ?_ ?_ _) | (with_reducible apply below_at; (case k => (with_reducible assumption)); (case hB => omega)) | (with_reducible apply below_on; (with_reducible assumption)) | (go_size; done) | (with_reducible apply size_of)))⟩
  clear h hT hf fl hr f0 f1 ha hkm hnb hnj hl1 hn1 ha2 hl2 hss hp hq t1 t2
  go_enter Tryd.func6, Tryd.ntmps6
  go_wp2_with fail
  generalize hw0 : (w.alloc (.cells #[.slice P m c] 24)) = w0 at *
  clear hw0
  refine (alive w0 (HT.out.below S0.out.2)).mono ?_
  rintro e w1 ⟨rfl, b1⟩
  have S1 : Hid (RfAt w1 w.heap.size P m c rs ∧ Below w.heap.size w w1) := Lib.hid ⟨S0.out.1.past b1, below_bs S0.out.2 b1⟩
  clear b1 S0
  have x1 := S1.out.1.cell
  go_wp2_with fail
  clear x1
  refine (fit_any P m c rs k w1 S1.out.1.rows).mono ?_
  rintro e w2 ⟨rfl, b2⟩
  rw [HF.out]
  have S2 : Hid (RfAt w2 w.heap.size P m c rs ∧ Below w.heap.size w w2) := Lib.hid ⟨S1.out.1.past b2, below_bs S1.out.2 b2⟩
  clear b2 S1
  have x1 := S2.out.1.cell
  go_wp2_with fail
  clear x1
  refine (Look_any P m c rs k _ w2 S2.out.1.rows).mono ?_
  rintro e w3 ⟨rfl, b3⟩
  have S3 : Hid (RfAt w3 w.heap.size P m c rs ∧ Below w.heap.size w w3) := Lib.hid ⟨S2.out.1.past b3, below_bs S2.out.2 b3⟩
  clear b3 S2
  rw [HLK.out.1, HLK.out.2.1, HLK.out.2.2]
  have x1 := S3.out.1.cell
  go_wp2_with fail
  clear x1
  refine (Learn_any P m c rs k nj bit w3 S3.out.1.rows).mono ?_
  rintro e v4 ⟨A4, n4, d4, q4, rfl, o4, e4, b4⟩
  rw [HLN.out.1]
  rw [HLN.out.2] at e4
  have E4 := Lib.hid e4
  have S4 : Hid (RfAt (v4.alloc (.cells #[.slice A4 n4 d4] 24)) w.heap.size P m c rs ∧ RfAt (v4.alloc (.cells #[.slice A4 n4 d4] 24)) v4.heap.size A4 n4 d4 q4 ∧ Below w.heap.size w (v4.alloc (.cells #[.slice A4 n4 d4] 24))) := Lib.hid ⟨(S3.out.1.past b4).alloc _, rfAt_new o4.rows, below_al (below_bs S3.out.2 b4) _⟩
  clear o4 e4 b4 S3
  go_upto_region 8 with fail
  generalize hw4 : (v4.alloc (.cells #[.slice A4 n4 d4] 24)) = w4 at *
  generalize v4.heap.size = g4 at *
  clear hw4
  obtain rfl : n4 = m := by rw [← rows_len S4.out.2.1.rows, E4.out, HL2.out]
  have x1 := S4.out.2.1.cell
  go_wp2_with fail
  clear x1
  refine (Look_any A4 n4 d4 q4 k _ w4 S4.out.2.1.rows).mono ?_
  rintro e w5 ⟨rfl, b5⟩
  rw [E4.out, HLK2.out.1, HLK2.out.2.1, HLK2.out.2.2]
  have S5 : Hid (RfAt w5 w.heap.size P n4 c rs ∧ RfAt w5 g4 A4 n4 d4 q4 ∧ Below w.heap.size w w5) := Lib.hid ⟨S4.out.1.past b5, S4.out.2.1.past b5, below_bs S4.out.2.2 b5⟩
  clear b5 S4
  go_upto_region 9 with fail
  go_cut [115] (fun v wx => v = .bool false ∧ RfAt wx w.heap.size P n4 c rs ∧ RfAt wx g4 A4 n4 d4 q4 ∧ Below w.heap.size w wx)
  case first =>
    have x1 := S5.out.2.1.cell
    go_wp2_with fail
    clear x1
    refine (rCheck_any A4 n4 d4 q4 w5 S5.out.2.1.rows).mono ?_
    rintro e w6 ⟨rfl, b6⟩
    rw [E4.out, rfE_yes HR2.out]
    have S6 : Hid (RfAt w6 w.heap.size P n4 c rs ∧ RfAt w6 g4 A4 n4 d4 q4 ∧ Below w.heap.size w w6) := Lib.hid ⟨S5.out.1.past b6, S5.out.2.1.past b6, below_bs S5.out.2.2 b6⟩
    clear b6 S5
    have x1 := S6.out.1.cell
    have x2 := S6.out.2.1.cell
    have hss := HSS.out
    cases bit
    · have h1 := hss.2 rfl
      clear hss
      go_wp2_with fail
      all_goals (go_meet; exact ⟨by congr 1; simp; omega, S6.out⟩)
    · have h1 := hss.1 rfl
      clear hss
      go_wp2_with fail
      all_goals (go_meet; exact ⟨by congr 1; simp; omega, S6.out⟩)
  case rest =>
    obtain ⟨rfl, s6⟩ := hcut
    have S6 := Lib.hid s6
    clear s6 S5
    go_wp2_with fail
    go_loopw [18] (fun iv wr => ∃ i : Nat, i ≤ n4 ∧ iv = .int .i64 i ∧ RfAt wr w.heap.size P n4 c rs ∧ RfAt wr g4 A4 n4 d4 q4 ∧ Below w.heap.size w wr) (fun iv _ => n4 - (intOf iv).toNat)
    case atStart => exact ⟨0, by omega, rfl, S6.out⟩
    case round =>
      obtain ⟨i, hi, rfl, s7⟩ := hrel
      have S7 := Lib.hid s7
      have x1 := S7.out.1.cell
      clear s7
      by_cases hlt : i < n4
      · have HLT := Lib.hid hlt
        have i1 : (i : Int) < n4 := by omega
        have i0 : 0 ≤ (i : Int) := by omega
        clear hi hlt
        go_wp2_with fail
        go_loopw [19] (fun iv wr => ∃ a : Nat, a ≤ 33 ∧ iv = .int .i64 a ∧ RfAt wr w.heap.size P n4 c rs ∧ RfAt wr g4 A4 n4 d4 q4 ∧ Below w.heap.size w wr) (fun iv _ => 33 - (intOf iv).toNat)
        case atStart => exact ⟨0, by omega, rfl, S7.out⟩
        case round =>
          obtain ⟨a, ha, rfl, s8⟩ := hrel
          have S8 := Lib.hid s8
          clear s8
          by_cases hlt : a < 33
          · have HA3 := Lib.hid hlt
            have a1 : (a : Int) < 33 := by omega
            have a0 : 0 ≤ (a : Int) := by omega
            clear ha hlt
            obtain ⟨b, o, bb, oo, cc, hP, y1, y2⟩ := row_cells S8.out.1.rows i a HLT.out (by have := rf_row HR.out i (by rw [HL.out]; exact HLT.out); rw [((rowB_iff _).1 this).1]; exact HA3.out)
            obtain ⟨b', o', bb', oo', cc', hP', y3, y4⟩ := row_cells S8.out.2.1.rows i a HLT.out (by rw [E4.out]; have := rf_row HR2.out i (by rw [HL2.out]; exact HLT.out); rw [((rowB_iff _).1 this).1]; exact HA3.out)
            have hl1 := ((rowB_iff _).1 (rf_row HR.out i (by rw [HL.out]; exact HLT.out))).1
            have hl2 := ((rowB_iff _).1 (rf_row HR2.out i (by rw [HL2.out]; exact HLT.out))).1
            rw [hl1] at y1
            rw [E4.out, hl2] at y3
            rw [E4.out] at y4
            subst hP
            subst hP'
            have hpl := HPL.out i a (by rw [HL.out]; exact HLT.out) HA3.out
            generalize ((numsY rs).getD i []).getD a 0 = xv at *
            generalize ((learnP (numsY rs) k nj bit).getD i []).getD a 0 = yv at *
            clear hl1 hl2
            have x1 := S8.out.1.cell
            have x2 := S8.out.2.1.cell
            have HPLI := Lib.hid hpl
            clear hpl
            go_upto_region 18 with (go_quiet (fail))
            generalize hwq : World.drewN _ _ = wq at *
            have S9 : Hid (RfAt wq w.heap.size (some ⟨b, o, none⟩) n4 c rs ∧ RfAt wq g4 (some ⟨b', o', none⟩) n4 d4 q4 ∧ Below w.heap.size w wq) := Lib.hid (by
              rw [← hwq]
              exact ⟨S8.out.1.past (below_drewN (Below.refl _ _) _), S8.out.2.1.past (below_drewN (Below.refl _ _) _), below_drewN S8.out.2.2 _⟩)
            clear hwq y1 y2 y3 y4 x1 x2 S8
            rcases HPLI.out with e | ⟨e1, e2, hs⟩
            · subst e
              have q1 : (yv != yv) = false := by simp
              have q2 : ¬ yv < yv := by omega
              cases bit
              · go_wp2_with fail
                all_goals exact ⟨⟨a + 1, by have := HA3.out; omega, by go_num, S9.out⟩, by simp [intOf]; have := HA3.out; omega⟩
              · go_wp2_with fail
                all_goals exact ⟨⟨a + 1, by have := HA3.out; omega, by go_num, S9.out⟩, by simp [intOf]; have := HA3.out; omega⟩
            · subst e1
              subst e2
              have q1 : ((i : Int) != (i : Int)) = false := by simp
              have q2 : ((a : Int) != (a : Int)) = false := by simp
              cases bit
              · have h1 := hs.2 rfl
                clear hs
                go_wp2_with fail
                all_goals exact ⟨⟨a + 1, by have := HA3.out; omega, by go_num, S9.out⟩, by simp [intOf]; have := HA3.out; omega⟩
              · have h1 := hs.1 rfl
                clear hs
                go_wp2_with fail
                all_goals exact ⟨⟨a + 1, by have := HA3.out; omega, by go_num, S9.out⟩, by simp [intOf]; have := HA3.out; omega⟩
          · have a1 : ¬ (a : Int) < 33 := by omega
            clear ha hlt
            go_wp2_with fail
            exact ⟨⟨i + 1, by have := HLT.out; omega, by go_num, S8.out⟩, by simp [intOf]; have := HLT.out; omega⟩
      · have i1 : ¬ (i : Int) < n4 := by omega
        clear hi hlt
        go_wp2_with fail
        go_ret
        exact ⟨rfl, S7.out.2.2⟩
theorem towards (P : Option Addr) (m c : Nat) (rs : List RY) (row d : Int) (bit : Bool) (w : World) (h : RowsY w P m c rs) (_ : -9223372036854775808 ≤ row) (_ : row ≤ 9223372036854775807) (_ : -2147483648 ≤ d) (_ : d ≤ 2147483647) (hT : Tab w) :
    Calls Tryd.prog 6 #[.agg #[.slice P m c], .int .i64 row, .int .i32 d, .bool bit] w fun e w' => e = .returned (.bool true) ∧ Below w.heap.size w w' := by
  by_cases ho : fitB (numsY rs) row = false ∨ d < -2047 ∨ 2047 < d
  · exact towards_out P m c rs row d bit w h hT ho
  · have hf : fitB (numsY rs) row = true := by
      cases hh : fitB (numsY rs) row
      · exact absurd (.inl hh) ho
      · rfl
    obtain ⟨_, _, f0, _⟩ := fit_iff hf
    have e0 : ((row.toNat : Nat) : Int) = row := by omega
    have := towards_in P m c rs row.toNat (d + 2048).toNat bit w h hT (by rw [e0]; exact hf) (by omega) (by omega)
    rw [e0, show (((d + 2048).toNat : Nat) : Int) - 2048 = d by omega] at this
    exact this
end Go.Proofs.YteepnindbcaahaaDoor.rfL
