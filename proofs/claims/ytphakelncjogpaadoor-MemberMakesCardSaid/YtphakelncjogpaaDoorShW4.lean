/- A block done, by a walk. -/
import Derived.Test.YtphakelncjogpaaDoorShW3
namespace Go.Proofs.YtphakelncjogpaaDoor.shW
set_option maxRecDepth 100000
open Go.RowKit Go.Proofs.YtphakelncjogpaaDoor.base Go.Proofs.YtphakelncjogpaaDoor.shP
set_option linter.unusedVariables false
set_option linter.unusedSimpArgs false
def l5 (v : W5) : List Int := [v.a, v.b, v.c, v.d, v.e]
def c5 (v : W5) : List Value := (l5 v).map (Value.int .u32)
def a5 (v : W5) : Value := .agg (c5 v).toArray
theorem l5_at (v : W5) : (c5 v).length = 5 := rfl
/-- The words of h, the first j of them with those of v added. -/
def mixL (h v : W5) (j : Nat) : List Int := List.zipWith add32 ((l5 h).take j) ((l5 v).take j) ++ (l5 h).drop j
theorem mixL_0 (h v : W5) : mixL h v 0 = l5 h := rfl
theorem mixL_5 (h v : W5) : mixL h v 5 = l5 (addW h v) := rfl
theorem mixL_len (h v : W5) : ∀ j, j ≤ 5 → (mixL h v j).length = 5 := by
  intro j hj
  rcases (show j = 0 ∨ j = 1 ∨ j = 2 ∨ j = 3 ∨ j = 4 ∨ j = 5 by omega) with rfl | rfl | rfl | rfl | rfl | rfl <;> rfl
theorem mixL_at (h v : W5) (j : Nat) (hj : j < 5) : (mixL h v j)[j]? = some ((l5 h).getD j 0) := by
  rcases (show j = 0 ∨ j = 1 ∨ j = 2 ∨ j = 3 ∨ j = 4 by omega) with rfl | rfl | rfl | rfl | rfl <;> rfl
theorem mixL_set (h v : W5) (j : Nat) (hj : j < 5) : (mixL h v j).set j (add32 ((l5 h).getD j 0) ((l5 v).getD j 0)) = mixL h v (j + 1) := by
  rcases (show j = 0 ∨ j = 1 ∨ j = 2 ∨ j = 3 ∨ j = 4 by omega) with rfl | rfl | rfl | rfl | rfl <;> rfl
theorem l5_get (v : W5) (j : Nat) (hj : j < 5) : (l5 v)[j]? = some ((l5 v).getD j 0) := by
  rcases (show j = 0 ∨ j = 1 ∨ j = 2 ∨ j = 3 ∨ j = 4 by omega) with rfl | rfl | rfl | rfl | rfl <;> rfl
theorem five {w : World} {g : Nat} {v : W5} (h : Lies (w) (g) 98 (c5 (v))) : w.cell? ⟨g, 0, none⟩ = some (.int .u32 v.a) ∧ w.cell? ⟨g, 1, none⟩ = some (.int .u32 v.b) ∧ w.cell? ⟨g, 2, none⟩ = some (.int .u32 v.c) ∧ w.cell? ⟨g, 3, none⟩ = some (.int .u32 v.d) ∧ w.cell? ⟨g, 4, none⟩ = some (.int .u32 v.e) :=
  ⟨h.cell 0, h.cell 1, h.cell 2, h.cell 3, h.cell 4⟩
theorem free5 {w : World} {g : Nat} {t : TypeId} {l : List Value} (h : Lies w g t l) : w.frozen? ⟨g, 0, none⟩ = false ∧ w.frozen? ⟨g, 1, none⟩ = false ∧ w.frozen? ⟨g, 2, none⟩ = false ∧ w.frozen? ⟨g, 3, none⟩ = false ∧ w.frozen? ⟨g, 4, none⟩ = false :=
  ⟨h.free 0, h.free 1, h.free 2, h.free 3, h.free 4⟩
theorem info5 (v : W5) : (Tryd.prog.info? 98).map (·.size) = some (c5 v).toArray.size := by rw [show (c5 v).toArray.size = 5 from rfl]; kernel_rfl
theorem one5 (v : W5) : ∀ u ∈ (c5 v).toArray.toList, u.oneCell' = true := by
  intro u hu
  simp only [c5, List.mem_map] at hu
  obtain ⟨i, _, rfl⟩ := hu
  rfl
theorem sarr_cell {w : World} {g : Nat} {t : TypeId} {b : List Int} (h : w.heap[g]? = some (.cells (sarr b) t (0, 0))) {k : Nat} (hk : k < 80) : w.cell? ⟨g, k, none⟩ = some (.int .u32 ((sch b 80).getD k 0)) := by
  unfold sarr at h
  have e : Lies w g t ((sch b 80).map (Value.int .u32)) := h
  rw [e.cell, List.getElem?_map, List.getD_eq_getElem?_getD, List.getElem?_eq_getElem (by rw [sch_len]; exact hk)]
  rfl
theorem getD_bdU {l : List Int} (h : ∀ z ∈ l, 0 ≤ z ∧ z ≤ 4294967295) (i : Nat) : 0 ≤ l.getD i 0 ∧ l.getD i 0 ≤ 4294967295 := by
  rw [List.getD_eq_getElem?_getD]
  rcases Nat.lt_or_ge i l.length with hi | hi
  · rw [List.getElem?_eq_getElem hi]; exact h _ (List.getElem_mem hi)
  · rw [List.getElem?_eq_none hi]; simp
theorem rnd_form (x : Int) (t : Nat) (a b c d e : Int) : rnd x t ⟨a, b, c, d, e⟩ = ⟨(rot a 5 + fR t b c d + e + kR t + x) % 4294967296, a, rot b 30, c, d⟩ := by
  unfold rnd add32
  simp only [W5.mk.injEq, and_true]
  omega
theorem far_cells {w : World} {g g' : Nat} {n : Nat} {t : TypeId} {cs : Array Value} {a b c d e : Value} (h : Lies w g t cs.toList) (hne : g' ≠ g) : ((((((w.drewN n).setCell ⟨g', 0, none⟩ a).setCell ⟨g', 1, none⟩ b).setCell ⟨g', 2, none⟩ c).setCell ⟨g', 3, none⟩ d).setCell ⟨g', 4, none⟩ e).heap[g]? = some (.cells cs t (0, 0)) := by
  have := (((((h.drewN n).other (p := ⟨g', 0, none⟩) hne a).other (p := ⟨g', 1, none⟩) hne b).other (p := ⟨g', 2, none⟩) hne c).other (p := ⟨g', 3, none⟩) hne d).other (p := ⟨g', 4, none⟩) hne e
  unfold Lies at this
  rw [Array.toArray_toList] at this
  exact this
theorem lies_set5 {w : World} {g : Nat} {v : W5} (h : Lies (w) (g) 98 (c5 (v))) (u : W5) : Lies (((((w.setCell ⟨g, 0, none⟩ (.int .u32 u.a)).setCell ⟨g, 1, none⟩ (.int .u32 u.b)).setCell ⟨g, 2, none⟩ (.int .u32 u.c)).setCell ⟨g, 3, none⟩ (.int .u32 u.d)).setCell ⟨g, 4, none⟩ (.int .u32 u.e)) (g) 98 (c5 (u)) :=
  ((((h.set 0 (.int .u32 u.a)).set 1 (.int .u32 u.b)).set 2 (.int .u32 u.c)).set 3 (.int .u32 u.d)).set 4 (.int .u32 u.e)
set_option maxRecDepth 100000 in
set_option maxHeartbeats 4000000 in
theorem doBlock (h : W5) (b : List Int) (A : Option Addr) (d : Nat) (w : World) (hA : Has .u8 w A b) (hl : b.length = 64) (hd : 64 ≤ d) (hb : ∀ z ∈ b, 0 ≤ z ∧ z ≤ 255) (hh : In5 h) :
    Calls Tryd.prog 64 #[a5 h, .slice A 64 d] w fun e w' => e = .returned (a5 (dn h b)) ∧ Below w.heap.size w w' := by
  have HA := Lib.hid hA
  have HL := Lib.hid hl
  have HB := Lib.hid hb
  have HH := Lib.hid hh
  clear hA hl hb hh
  unfold a5 c5 l5
  have hz1 := zv80
  have hz4 := z80A_size
  have hz3 := z80A_ne
  go_enter Tryd.func64, Tryd.ntmps64
  go_wp2_with fail
  refine (schedule b A d _ (HA.out.below (by (repeat' (first | (with_reducible exact Below.refl _ _) | (with_reducible assumption) | (with_reducible refine below_drewN ?_ _) | (with_reducible refine below_new ?_ _) | (with_reducible refine Below.alloc ?_ ?_ _) | (with_reducible refine Below.drew ?_) | (with_reducible refine Below.setCell ?_ ?_ _) | (with_reducible apply below_at; (case k => (with_reducible assumption)); (case hB => omega)) | (with_reducible apply below_on; (with_reducible assumption)) | (go_size; done) | (with_reducible apply size_of)))) (Nat.le_refl _)) HL.out hd HB.out).mono ?_
  rintro e w1 ⟨rfl, hb1⟩
  have HB1 := Lib.hid hb1
  have sz1 := hb1.size
  simp at sz1
  have HS1 : Hid (w.heap.size + 2 ≤ w1.heap.size) := Lib.hid (by omega)
  have HP1 := Lib.hid (sch_one b)
  have HZ1 := Lib.hid (z80_new w1 rfl)
  go_wp2_with (first
    | (show wpList _ _ _ ({ dst := none, op := Op.store 146 _ _, type := _, pos := _, after := _, guard := none } :: _) _ _; go_must (refine wpList_store_arr (P := Tryd.prog) rfl 146 (.tmp 5) (.tmp 13) rfl w1.heap.size ?c4 (sarr b) ?c0 146 _ HZ1.out (z80_size b) HP1.out (info80 b) ?_); (case c4 => rfl); (case c0 => rfl); intro w2 hR2 hb2 hz2; have HR2 := Lib.hid hR2; have HB2 : Hid (Below w1.heap.size w1 w2) := Lib.hid (((Below.refl _ _).alloc (Nat.le_refl _) _).trans hb2); simp at hz2; have HZ2 := Lib.hid hz2; clear hR2 hz2; have k2 : Lies (w2) (w.heap.size) 98 (c5 (h)) := ((((Lies.fresh _ _ (c5 h)).alloc _).past HB1.out).past HB2.out); obtain ⟨p0, p1, p2, p3, p4⟩ := five k2; have HK2 := Lib.hid k2; clear k2))
  clear hz1 hz4 hz3
  go_loopw [15] (fun i wr => ∃ k : Nat, k ≤ 80 ∧ i = .int .i64 k ∧ Lies (wr) (w2.heap.size) 98 (c5 (rnds (sch b 80) k h)) ∧ Lies (wr) (w.heap.size) 98 (c5 (h)) ∧ wr.heap[w1.heap.size]? = some (.cells (sarr b) 146 (0, 0)) ∧ Lies wr (w.heap.size + 1) 98 (c5 ⟨0, 0, 0, 0, 0⟩) ∧ Below w.heap.size w wr) (fun i _ => 80 - (intOf i).toNat)
  case atStart =>
    refine ⟨0, by omega, rfl, Lies.fresh _ _ (c5 h), HK2.out.alloc _, ?_, ?_, by have := HB1.out; have := HB2.out; (repeat' (first | (with_reducible exact Below.refl _ _) | (with_reducible assumption) | (with_reducible refine below_drewN ?_ _) | (with_reducible refine below_new ?_ _) | (with_reducible refine Below.alloc ?_ ?_ _) | (with_reducible refine Below.drew ?_) | (with_reducible refine Below.setCell ?_ ?_ _) | (with_reducible apply below_at; (case k => (with_reducible assumption)); (case hB => omega)) | (with_reducible apply below_on; (with_reducible assumption)) | (go_size; done) | (with_reducible apply size_of)))⟩
    · exact (Below.heap_alloc _ _ _ (lt_of_block HR2.out)).trans HR2.out
    · exact (((Lies.fresh_at (cs := c5 ⟨0, 0, 0, 0, 0⟩) (by simp)).past HB1.out).past HB2.out).alloc _
  case round =>
    clear HR2 HK2 HZ1 p0 p1 p2 p3 p4
    obtain ⟨k, hk, rfl, K, R, X, Z, acc⟩ := hrel
    have HK := Lib.hid K
    have HR := Lib.hid R
    have HX := Lib.hid X
    have HZ := Lib.hid Z
    have HACC := Lib.hid acc
    by_cases hlt : k < 80
    · have hi := rnds_in (W := sch b 80) HH.out k
      have HIN := Lib.hid hi
      obtain ⟨p0, p1, p2, p3, p4⟩ := five K
      obtain ⟨f0, f1, f2, f3, f4⟩ := free5 K
      have q0 := sarr_cell X hlt
      have q1 := getD_bdU (sch_bd HB.out 80) k
      have HRS : Hid (rnds (sch b 80) (k + 1) h = rnd ((sch b 80).getD k 0) k (rnds (sch b 80) k h)) := Lib.hid rfl
      have HLT := Lib.hid hlt
      have zk := K.lt
      have k0 : 0 ≤ (k : Int) := by omega
      have k1 : (k : Int) < 80 := by omega
      clear K R X Z acc hk hlt
      generalize rnds (sch b 80) k h = v at *
      generalize (sch b 80).getD k 0 = x at *
      obtain ⟨va, vb, vc, vd, ve⟩ := v
      obtain ⟨⟨a1, a2⟩, ⟨b1, b2⟩, ⟨c1, c2⟩, ⟨d1, d2⟩, ⟨e1, e2⟩⟩ := hi
      simp only [] at *
      go_wp2_with fail
      refine (mixed k vb vc vd _ HLT.out).mono ?_
      rintro e w3 ⟨rfl, rfl⟩
      generalize hF : fR k vb vc vd = F at *
      generalize hC : kR k = C at *
      have HF := Lib.hid hF
      have HC := Lib.hid hC
      clear hF hC
      go_wp2_with fail
      go_quiet ((go_at_call 71; exact Calls.quiet_of_same (turned (rotate5 va _ a1 a2))))
      go_wp2_with fail
      refine region_still_tail 11 (by kernel_rfl) (by kernel_rfl) ?_; simp only [List.take_succ_cons, List.take_zero, List.drop_succ_cons, List.drop_zero]
      repeat still_step
      still_call (turned (rotate30 vb _ b1 b2))
      repeat still_step
      refine wpStill_nil ?_
      go_wp2_with fail
      refine ⟨⟨k + 1, by have := HLT.out; omega, by go_num, ?_, ?_, ?_, ?_, ?_⟩, ?_⟩
      · rw [HRS.out, rnd_form, HF.out, HC.out]
        exact (((((HK.out.drewN _).set 0 _).set 1 _).set 2 _).set 3 _).set 4 _
      · have := HR.out
        have hne : w2.heap.size ≠ w.heap.size := by have := HS1.out; have := HZ2.out; omega
        exact (((((this.drewN _).other hne _).other hne _).other hne _).other hne _).other hne _
      · have hne : w2.heap.size ≠ w1.heap.size := by have := HZ2.out; omega
        exact far_cells (show Lies wr w1.heap.size 146 (sarr b).toList by show _ = _; rw [Array.toArray_toList]; exact HX.out) hne
      · have hne : w2.heap.size ≠ w.heap.size + 1 := by have := HS1.out; have := HZ2.out; omega
        exact (((((HZ.out.drewN _).other hne _).other hne _).other hne _).other hne _).other hne _
      · have := HACC.out
        have : w.heap.size ≤ w2.heap.size := by have := HS1.out; have := HZ2.out; omega
        (repeat' (first | (with_reducible exact Below.refl _ _) | (with_reducible assumption) | (with_reducible refine below_drewN ?_ _) | (with_reducible refine below_new ?_ _) | (with_reducible refine Below.alloc ?_ ?_ _) | (with_reducible refine Below.drew ?_) | (with_reducible refine Below.setCell ?_ ?_ _) | (with_reducible apply below_at; (case k => (with_reducible assumption)); (case hB => omega)) | (with_reducible apply below_on; (with_reducible assumption)) | (go_size; done) | (with_reducible apply size_of)))
      · simp [intOf]; have := HLT.out; omega
    · have k80 : ¬ (k : Int) < 80 := by omega
      have e80 : k = 80 := by omega
      have HV : Hid (addW h (rnds (sch b 80) k h) = dn h b) := Lib.hid (by rw [e80]; rfl)
      clear K R X Z acc hk hlt HX HP1 e80
      generalize rnds (sch b 80) k h = v at *
      go_wp2_with fail
      go_loopw [55] (fun i wr => ∃ j : Nat, j ≤ 5 ∧ i = .int .i64 j ∧ Lies wr w.heap.size 98 ((mixL h v j).map (Value.int .u32)) ∧ Lies (wr) (w2.heap.size) 98 (c5 (v)) ∧ Lies wr (w.heap.size + 1) 98 (c5 ⟨0, 0, 0, 0, 0⟩) ∧ Below w.heap.size w wr) (fun i _ => 5 - (intOf i).toNat)
      case atStart => exact ⟨0, by omega, rfl, HR.out, HK.out, HZ.out, HACC.out⟩
      case round =>
        clear HK HR HZ HACC
        obtain ⟨j, hj, rfl, R, K, Z, acc⟩ := hrel
        have HK := Lib.hid K
        have HR := Lib.hid R
        have HZ := Lib.hid Z
        have HACC := Lib.hid acc
        by_cases hlt : j < 5
        · have p0 : wr.cell? ⟨w.heap.size, j, none⟩ = some (.int .u32 ((l5 h).getD j 0)) := by rw [R.cell, List.getElem?_map, mixL_at h v j hlt]; rfl
          have p1 : wr.cell? ⟨w2.heap.size, j, none⟩ = some (.int .u32 ((l5 v).getD j 0)) := by rw [K.cell, c5, List.getElem?_map, l5_get v j hlt]; rfl
          have p2 := R.free j
          have zk := R.lt
          have zl := K.lt
          have HST : Hid ((mixL h v j).set j (((l5 h).getD j 0 + (l5 v).getD j 0) % 4294967296) = mixL h v (j + 1)) := Lib.hid (mixL_set h v j hlt)
          have HLT := Lib.hid hlt
          have j0 : 0 ≤ (j : Int) := by omega
          have j1 : (j : Int) < 5 := by omega
          clear K R Z acc hj hlt
          generalize (l5 h).getD j 0 = y at *
          generalize (l5 v).getD j 0 = z at *
          go_wp2_with fail
          refine region_still_tail 8 (by kernel_rfl) (by kernel_rfl) ?_; simp only [List.take_succ_cons, List.take_zero, List.drop_succ_cons, List.drop_zero]
          repeat still_step
          refine wpStill_nil ?_
          go_wp2_with fail
          refine ⟨⟨j + 1, by have := HLT.out; omega, by go_num, ?_, ?_, ?_, ?_⟩, ?_⟩
          · rw [← HST.out]
            have := HR.out.set j (.int .u32 ((y + z) % 4294967296))
            rw [← List.map_set] at this
            exact this.drew
          · have hne : w.heap.size ≠ w2.heap.size := by have := HS1.out; have := HZ2.out; omega
            exact (HK.out.other hne _).drew
          · exact (HZ.out.other (by show w.heap.size ≠ w.heap.size + 1; omega) _).drew
          · have := HACC.out; (repeat' (first | (with_reducible exact Below.refl _ _) | (with_reducible assumption) | (with_reducible refine below_drewN ?_ _) | (with_reducible refine below_new ?_ _) | (with_reducible refine Below.alloc ?_ ?_ _) | (with_reducible refine Below.drew ?_) | (with_reducible refine Below.setCell ?_ ?_ _) | (with_reducible apply below_at; (case k => (with_reducible assumption)); (case hB => omega)) | (with_reducible apply below_on; (with_reducible assumption)) | (go_size; done) | (with_reducible apply size_of)))
          · simp [intOf]; have := HLT.out; omega
        · have j5 : ¬ (j : Int) < 5 := by omega
          have e5 : j = 5 := by omega
          have R5 : Lies (wr) (w.heap.size) 98 (c5 (addW h v)) := by
            have := HR.out
            rw [e5, mixL_5] at this
            exact this
          rw [HV.out] at R5
          clear K R Z acc hj hlt HK HR e5
          obtain ⟨p0, p1, p2, p3, p4⟩ := five R5
          obtain ⟨f0, f1, f2, f3, f4⟩ := free5 HZ.out
          obtain ⟨z0, z1, z2, z3, z4⟩ := five (v := ⟨0, 0, 0, 0, 0⟩) HZ.out
          have zk := R5.lt
          have zz := HZ.out.lt
          generalize hu : dn h b = u at *
          have HU := Lib.hid hu
          clear hu
          have HR5 := Lib.hid R5
          clear R5
          go_wp2_with fail
          obtain ⟨t0, t1, t2, t3, t4⟩ := five (lies_set5 HZ.out u)
          clear p0 p1 p2 p3 p4 z0 z1 z2 z3 z4 f0 f1 f2 f3 f4
          refine bodyPost_ret (by simp [results, Tryd.results64, go_sem, t0, t1, t2, t3, t4]; try rfl) rfl ?_
          exact ⟨by rw [HU.out], by have := HACC.out; (repeat' (first | (with_reducible exact Below.refl _ _) | (with_reducible assumption) | (with_reducible refine below_drewN ?_ _) | (with_reducible refine below_new ?_ _) | (with_reducible refine Below.alloc ?_ ?_ _) | (with_reducible refine Below.drew ?_) | (with_reducible refine Below.setCell ?_ ?_ _) | (with_reducible apply below_at; (case k => (with_reducible assumption)); (case hB => omega)) | (with_reducible apply below_on; (with_reducible assumption)) | (go_size; done) | (with_reducible apply size_of)))⟩
end Go.Proofs.YtphakelncjogpaaDoor.shW
