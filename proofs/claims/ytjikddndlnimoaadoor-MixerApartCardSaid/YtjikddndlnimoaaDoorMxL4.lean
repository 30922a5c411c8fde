/- MixerApart, by a walk. -/
import Derived.Test.YtjikddndlnimoaaDoorMxA2
namespace Go.Proofs.YtjikddndlnimoaaDoor.mxL
set_option maxRecDepth 100000
open Go.RowKit Go.Proofs.YtjikddndlnimoaaDoor.base Go.Proofs.YtjikddndlnimoaaDoor.rfP Go.Proofs.YtjikddndlnimoaaDoor.mxP Go.Proofs.YtjikddndlnimoaaDoor.mxW Go.Proofs.YtjikddndlnimoaaDoor.sqP Go.Proofs.YtjikddndlnimoaaDoor.sqW Go.Proofs.YtjikddndlnimoaaDoor.fixP
set_option linter.unusedVariables false
set_option linter.unusedSimpArgs false
/-- A row as a slice, in whatever world follows. -/
theorem row_sl {w : World} {A : Option Addr} {n d : Nat} {qs : List RY} (h : RowsY w A n d qs) (k : Nat) (hk : k < n) :
    ∃ b o A1 c1, A = some ⟨b, o, none⟩ ∧ ∀ x', Below w.heap.size w x' → x'.cell? ⟨b, o + k, none⟩ = some (.slice A1 ((numsY qs).getD k []).length c1) ∧ Has .i32 x' A1 ((numsY qs).getD k []) := by
  have hl := h.l
  obtain ⟨b, o, rfl, hb, hc⟩ := h.h.some (by omega)
  have hn := nums_at qs k (by omega)
  have hi := h.h.get k (by omega)
  have hck := hc k (by omega)
  rw [hn]
  generalize qs.getD k ry0 = r at *
  obtain ⟨A1, n1, d1, y1⟩ := r
  have e1 : y1.length = n1 := hi.e
  subst e1
  exact ⟨b, o, A1, d1, rfl, fun x' hx => ⟨((bcell hx).1 b _ hb).trans hck, hi.h.below hx (Nat.le_refl _)⟩⟩
/-- A row's number, in whatever world follows. -/
theorem row_nb {w : World} {A : Option Addr} {n d : Nat} {qs : List RY} (h : RowsY w A n d qs) (k j : Nat) (hk : k < n) (hj : j < ((numsY qs).getD k []).length) :
    ∃ b o b1 o1 c1, A = some ⟨b, o, none⟩ ∧ ∀ x', Below w.heap.size w x' → x'.cell? ⟨b, o + k, none⟩ = some (.slice (some ⟨b1, o1, none⟩) ((numsY qs).getD k []).length c1) ∧ x'.cell? ⟨b1, o1 + j, none⟩ = some (.int .i32 (((numsY qs).getD k []).getD j 0)) := by
  have hl := h.l
  obtain ⟨b, o, rfl, hb, hc⟩ := h.h.some (by omega)
  have hn := nums_at qs k (by omega)
  have hi := h.h.get k (by omega)
  have hck := hc k (by omega)
  rw [hn] at hj ⊢
  generalize qs.getD k ry0 = r at *
  obtain ⟨A1, n1, d1, y1⟩ := r
  obtain ⟨b1, o1, hA, hb1, hc1⟩ := has_some hi.h (by show 0 < y1.length; have : j < y1.length := hj; omega)
  have hA : A1 = some ⟨b1, o1, none⟩ := hA
  subst hA
  have e1 : y1.length = n1 := hi.e
  subst e1
  exact ⟨b, o, b1, o1, d1, rfl, fun x' hx => ⟨((bcell hx).1 b _ hb).trans hck, ((bcell hx).1 b1 _ hb1).trans (hc1 j hj)⟩⟩
theorem prods_zeros : ∀ (ws : List Int) (n : Nat), (prods ws (List.replicate n 0)).sum = 0
  | [], n => by simp [prods]
  | w :: ws, 0 => by simp [prods]
  | w :: ws, n + 1 => by
    have := prods_zeros ws n
    simp only [prods, List.replicate_succ, List.zipWith_cons_cons, List.sum_cons] at this ⊢
    omega
theorem mix_zeros (ws : List Int) : mixD ws (List.replicate 8 0) = 0 := by
  unfold mixD dotP
  rw [prods_zeros]
  rfl
theorem tau_zero {w : Int} (off : Int) (h : -2147483648 ≤ w ∧ w ≤ 2147483647) : tau w 0 off = w := by
  unfold tau
  rw [rnd14, Int.zero_mul]
  have : sat (w + (0 * 7 + 8192) / 16384) = sat w := by congr 1; omega
  rw [this]
  exact sat_in h.1 h.2
theorem taul_zeros {ws : List Int} (h8 : ws.length = 8) (h : ∀ z ∈ ws, -2147483648 ≤ z ∧ z ≤ 2147483647) (off : Int) : tauL ws (List.replicate 8 0) off = ws := by
  apply List.ext_getElem
  · simp [tauL, h8]
  · intro i h1 h2
    simp only [tauL, List.getElem_zipWith, List.getElem_replicate]
    exact tau_zero off (h _ (List.getElem_mem _))
theorem set_self (l : List (List Int)) (k : Nat) (hk : k < l.length) : l.set k (l.getD k []) = l := by
  apply List.ext_getElem?
  intro i
  by_cases e : k = i
  · subst e
    rw [List.getElem?_set_self hk, List.getD_eq_getElem?_getD, List.getElem?_eq_getElem hk]
    rfl
  · rw [List.getElem?_set_ne e]
set_option maxHeartbeats 1500000 in
theorem apart (P : Option Addr) (m c : Nat) (rs : List RY) (set : Int) (B : Option Addr) (n d : Nat) (ys : List Int) (p : Int) (bit : Bool) (w : World) (h : RowsY w P m c rs) (hi : In8 w B n d ys) (hT : Tab w) :
    Calls Tryd.prog 6 #[.agg #[.slice P m c], .int .i64 set, .slice B n d, .int .i32 p, .bool bit] w fun e w' => e = .returned (.bool true) ∧ Below w.heap.size w w' := by
  have HT := Lib.hid hT
  have H := Lib.hid (And.intro h hi)
  have HL := Lib.hid (rows_len h)
  have S0 : Hid (MxAt (w.alloc (.cells #[.slice P m c] 24)) w.heap.size P m c rs ∧ Below w.heap.size w (w.alloc (.cells #[.slice P m c] 24))) := Lib.hid ⟨mxAt_new h, by (repeat' (first | (with_reducible exact Below.refl _ _) | (with_reducible assumption) | (with_reducible refine below_drewN ?_ _) | (with_reducible refine below_new ?_ _) | (with_reducible refine Below.alloc ?_ ?_ _) | (with_reducible refine Below.drew ?_) | (with_reducible refine Below.setCell ?_ ?_ _) | (with_reducible apply below_at; (case k => (with_reducible assumption)); (case hB => omega)) | (with_reducible apply below_on; (with_reducible assumption)) | (go_size; done) | (with_reducible apply size_of)))⟩
  clear h hi hT
  go_enter Tryd.func6, Tryd.ntmps6
  go_wp2_with fail
  generalize hw0 : (w.alloc (.cells #[.slice P m c] 24)) = w0 at *
  clear hw0
  refine (alive w0 (HT.out.below S0.out.2)).mono ?_
  rintro e w1 ⟨rfl, b1⟩
  have S1 : Hid (MxAt w1 w.heap.size P m c rs ∧ Below w.heap.size w w1) := Lib.hid ⟨S0.out.1.past b1, below_bs S0.out.2 b1⟩
  clear b1 S0
  have x1 := S1.out.1.cell
  go_wp2_with fail
  clear x1
  refine (fit_any P m c rs set B n d ys w1 S1.out.1.rows (H.out.2.past S1.out.2)).mono ?_
  rintro e w2 ⟨rfl, b2⟩
  have S2 : Hid (MxAt w2 w.heap.size P m c rs ∧ Below w.heap.size w w2) := Lib.hid ⟨S1.out.1.past b2, below_bs S1.out.2 b2⟩
  clear b2 S1
  cases hf : fitM (numsY rs) set ys
  · clear hf
    go_wp2_with fail
    go_ret
    exact ⟨rfl, S2.out.2⟩
  by_cases pc0 : p < 0
  · clear hf
    go_wp2_with fail
    go_ret
    exact ⟨rfl, S2.out.2⟩
  have p0 : 0 ≤ p := by omega
  have pd : decide (p < 0) = false := decide_eq_false pc0
  clear pc0
  by_cases pc1 : 4095 < p
  · clear hf
    go_wp2_with fail
    go_ret
    exact ⟨rfl, S2.out.2⟩
  have p1 : p ≤ 4095 := by omega
  clear pc1
  obtain ⟨f1, f2⟩ := fitM_iff hf
  obtain ⟨a1, a2, a3, a4⟩ := mAsk_zero f2
  obtain ⟨k, rfl⟩ : ∃ k : Nat, set = k := ⟨set.toNat, by omega⟩
  have hkm : k < m := by have := HL.out; omega
  have HA := Lib.hid f2
  have HV : Hid (mixV (numsY rs) (k : Int) ys = mixD ((numsY rs).getD k []) ys ∧ mixQ (numsY rs) (k : Int) ys = sq (mixD ((numsY rs).getD k []) ys)) := Lib.hid (by unfold mixV mixQ; rw [if_pos f2, if_pos f2, Int.toNat_natCast]; exact ⟨rfl, rfl⟩)
  have HB := Lib.hid (rows_bd H.out.1 k hkm)
  have HLO := Lib.hid (fun off => learnM_ok a1 (k := k) (by omega) a4 off)
  have hl8 := mx_row a1 k (by omega)
  have hi8 := ((inB_iff _).1 a4).1
  have HIN := Lib.hid a4
  have hla := learn_at bit f2 p0 p1
  have hW : wrongE p = 0 ∧ wrongV p bit = offP p bit := by unfold wrongE wrongV; rw [if_neg (by omega), if_neg (by omega)]; exact ⟨rfl, rfl⟩
  obtain ⟨o0, o1⟩ := off_bd bit p0 p1
  have hn8 : n = 8 := by rw [← H.out.2.e]; exact hi8
  obtain ⟨ws, hws⟩ : ∃ ws, (numsY rs).getD k [] = ws := ⟨_, rfl⟩
  obtain ⟨off, hoff⟩ : ∃ off, offP p bit = off := ⟨_, rfl⟩
  rw [hoff] at hla hW o0 o1
  rw [hws] at HV HB HLO hl8
  have HLA := Lib.hid hla
  have HW := Lib.hid hW
  subst hn8
  obtain ⟨b8, f8, rfl, hc8⟩ := in_cells H.out.2 (by decide)
  have HC8 := Lib.hid hc8
  have hlo := HLO.out off
  have HLF := Lib.hid hlo
  have HL8 := Lib.hid (And.intro hl8 hi8)
  have HWS := Lib.hid hws
  have HKM := Lib.hid hkm
  have HMB := Lib.hid a1
  have hz8 : inB (List.replicate 8 0) = true := by decide +kernel
  have hla2 := learn_at bit (ins := List.replicate 8 0) (mAsk_ok a1 a2 a3 hz8) p0 p1
  rw [hoff] at hla2
  have HLZ := Lib.hid hla2
  have HZE := Lib.hid (mAsk_ok (ins := List.replicate 8 0) a1 a2 a3 hz8)
  have hzm : mixD ws (List.replicate 8 0) = 0 := mix_zeros ws
  have HZV : Hid (mixV (numsY rs) (k : Int) (List.replicate 8 0) = 0 ∧ mixQ (numsY rs) (k : Int) (List.replicate 8 0) = sq 0) := Lib.hid (by unfold mixV mixQ; rw [if_pos HZE.out, if_pos HZE.out, Int.toNat_natCast, hws, hzm]; exact ⟨rfl, rfl⟩)
  have HLS : Hid (learnM (numsY rs) k (List.replicate 8 0) off = numsY rs) := Lib.hid (by unfold learnM; rw [hws, taul_zeros hl8 HB.out off, ← hws]; exact set_self _ _ (by omega))
  have k1 : (k : Int) < m := by omega
  have k0 : 0 ≤ (k : Int) := by omega
  have m9 : (m : Int) ≤ 20 := by have := HL.out; omega
  have x1 := S2.out.1.cell
  clear hf f1 f2 a1 a2 a3 a4 hkm hl8 hi8 hla hW hws hoff hc8 hlo hz8 hla2 hzm
  go_wp2_with fail
  clear x1
  refine (Learn_any P m c rs k (some ⟨b8, f8, none⟩) 8 d ys p bit w2 S2.out.1.rows (H.out.2.past S2.out.2)).mono ?_
  rintro e v4 ⟨A4, n4, d4, q4, rfl, o4, e4, b4⟩
  rw [HLA.out.1]
  rw [HLA.out.2.1] at e4
  have E4 := Lib.hid e4
  obtain rfl : n4 = m := by rw [← rows_len o4.rows, e4, HLF.out.2.1, HL.out]
  have S4 : Hid (MxAt (v4.alloc (.cells #[.slice A4 n4 d4] 24)) w.heap.size P n4 c rs ∧ MxAt (v4.alloc (.cells #[.slice A4 n4 d4] 24)) v4.heap.size A4 n4 d4 q4 ∧ Below w.heap.size w (v4.alloc (.cells #[.slice A4 n4 d4] 24))) := Lib.hid ⟨(S2.out.1.past b4).alloc _, mxAt_new o4.rows, below_al (below_bs S2.out.2 b4) _⟩
  clear o4 e4 b4 S2
  go_upto_region 5 with fail
  generalize hw4 : (v4.alloc (.cells #[.slice A4 n4 d4] 24)) = w4 at *
  generalize v4.heap.size = g4 at *
  clear hw4
  go_upto_region 6 with (at_make; refine make32 rfl _ _ rfl .i64 .i64 8 rfl rfl (by decide) w4.heap.size (Nat.le_refl _) ?_; intro w5 ho5 hb5; have HO5 := Lib.hid ho5; have HB5 := Lib.hid hb5; clear ho5 hb5)
  have S5 : Hid (MxAt w5 w.heap.size P n4 c rs ∧ MxAt w5 g4 A4 n4 d4 q4 ∧ In8 w5 (some ⟨w4.heap.size, 0, none⟩) 8 8 (List.replicate 8 0) ∧ Below w.heap.size w w5) := Lib.hid ⟨S4.out.1.past HB5.out, S4.out.2.1.past HB5.out, ⟨HO5.out.has, rfl, Nat.le_refl _, by decide, by decide⟩, below_bs S4.out.2.2 HB5.out⟩
  clear HO5 HB5 S4
  generalize w4.heap.size = gz at *
  have x1 := S5.out.1.cell
  go_wp2_with fail
  clear x1
  refine (Mix_any P n4 c rs k (some ⟨gz, 0, none⟩) 8 8 (List.replicate 8 0) w5 S5.out.1.rows S5.out.2.2.1 (HT.out.below S5.out.2.2.2)).mono ?_
  rintro e w6 ⟨rfl, b6⟩
  rw [HZV.out.1, HZV.out.2, HZE.out]
  have S6 : Hid (MxAt w6 w.heap.size P n4 c rs ∧ MxAt w6 g4 A4 n4 d4 q4 ∧ In8 w6 (some ⟨gz, 0, none⟩) 8 8 (List.replicate 8 0) ∧ Below w.heap.size w w6) := Lib.hid ⟨S5.out.1.past b6, S5.out.2.1.past b6, S5.out.2.2.1.past b6, below_bs S5.out.2.2.2 b6⟩
  clear b6 S5
  have x1 := S6.out.1.cell
  go_wp2_with fail
  clear x1
  refine (Learn_any P n4 c rs k (some ⟨gz, 0, none⟩) 8 8 (List.replicate 8 0) p bit w6 S6.out.1.rows S6.out.2.2.1).mono ?_
  rintro e v7 ⟨A7, n7, d7, q7, rfl, o7, e7, b7⟩
  rw [HLZ.out.1]
  rw [HLZ.out.2.1, HLS.out] at e7
  have E7 := Lib.hid e7
  have S7 : Hid (MxAt (v7.alloc (.cells #[.slice A7 n7 d7] 24)) w.heap.size P n4 c rs ∧ MxAt (v7.alloc (.cells #[.slice A7 n7 d7] 24)) g4 A4 n4 d4 q4 ∧ MxAt (v7.alloc (.cells #[.slice A7 n7 d7] 24)) v7.heap.size A7 n7 d7 q7 ∧ Below w.heap.size w (v7.alloc (.cells #[.slice A7 n7 d7] 24))) := Lib.hid ⟨(S6.out.1.past b7).alloc _, (S6.out.2.1.past b7).alloc _, mxAt_new o7.rows, below_al (below_bs S6.out.2.2.2 b7) _⟩
  clear o7 e7 b7 S6
  go_upto_region 8 with fail
  generalize hw7 : (v7.alloc (.cells #[.slice A7 n7 d7] 24)) = w7 at *
  generalize v7.heap.size = g7 at *
  clear hw7
  generalize hsq0 : sq 0 = s0 at *
  have HSQ := Lib.hid hsq0
  clear hsq0
  go_wp2_with fail
  with_reducible refine (sq_any _ w7 (HT.out.below S7.out.2.2.2)).mono ?_
  rintro e w8 ⟨rfl, nn, rfl⟩
  rw [HSQ.out]
  have S8 : Hid (MxAt (w7.drewN nn) w.heap.size P n4 c rs ∧ MxAt (w7.drewN nn) g4 A4 n4 d4 q4 ∧ MxAt (w7.drewN nn) g7 A7 n7 d7 q7 ∧ Below w.heap.size w (w7.drewN nn)) := Lib.hid (by have d0 := below_drewN (Below.refl w7.heap.size w7) nn; exact ⟨S7.out.1.past d0, S7.out.2.1.past d0, S7.out.2.2.1.past d0, below_bs S7.out.2.2.2 d0⟩)
  clear S7
  generalize w7.drewN nn = w8 at *
  have x1 := S8.out.1.cell
  have x3 := S8.out.2.2.1.cell
  go_wp2_with fail
  clear x1 x3
  refine (rfW.same16_any A7 P n7 d7 n4 c q7 rs w8 S8.out.2.2.1.rows S8.out.1.rows).mono ?_
  rintro e w9 ⟨rfl, b9⟩
  rw [show decide (numsY q7 = numsY rs) = true from decide_eq_true E7.out]
  have S9 : Hid (MxAt w9 w.heap.size P n4 c rs ∧ MxAt w9 g4 A4 n4 d4 q4 ∧ Below w.heap.size w w9) := Lib.hid ⟨S8.out.1.past b9, S8.out.2.1.past b9, below_bs S8.out.2.2.2 b9⟩
  clear b9 S8
  have x1 := S9.out.1.cell
  have x2 := S9.out.2.1.cell
  go_wp2_with fail
  clear x1 x2
  go_loopw [20] (fun iv wr => ∃ i : Nat, i ≤ n4 ∧ iv = .int .i64 i ∧ MxAt wr w.heap.size P n4 c rs ∧ MxAt wr g4 A4 n4 d4 q4 ∧ Below w.heap.size w wr) (fun iv _ => n4 - (intOf iv).toNat)
  case atStart => exact ⟨0, by omega, rfl, S9.out⟩
  case round =>
    obtain ⟨i, hi, rfl, s10⟩ := hrel
    have S10 := Lib.hid s10
    clear s10 S9
    have x1 := S10.out.1.cell
    by_cases hlt : i < n4
    · have HLT := Lib.hid hlt
      have i1 : (i : Int) < n4 := by omega
      have i0 : 0 ≤ (i : Int) := by omega
      obtain ⟨b5, o5, A5, c5, rfl, h5⟩ := row_sl S10.out.2.1.rows i hlt
      obtain ⟨b6, o6, A6, c6, rfl, h6⟩ := row_sl S10.out.1.rows i hlt
      rw [E4.out, mx_row HLF.out.1 i (by rw [HLF.out.2.1, HL.out]; exact hlt)] at h5
      rw [mx_row HMB.out i (by rw [HL.out]; exact hlt)] at h6
      have HN4 := Lib.hid h5
      have HM4 := Lib.hid h6
      have HRI := Lib.hid (mx_row HMB.out i (by rw [HL.out]; exact hlt))
      have hrow : i ≠ k → (learnM (numsY rs) k ys off).getD i [] = (numsY rs).getD i [] := fun e => by unfold learnM; rw [gd_set_ne (Ne.symm e)]
      have HROW := Lib.hid hrow
      clear h5 h6 hi hlt hrow
      go_upto_region 13 with fail
      clear x1
      by_cases hik : i = k
      · have q1 : ((i : Int) == (k : Int)) = true := by simp [hik]
        have q2 : ((i : Int) != (k : Int)) = false := by simp [hik]
        clear hik HROW
        (have RD := grows_roads (S := fun x' => Below wr.heap.size wr x') (fun a b h1 h2 => below_bs h2 h1)); refine region_ord _ Grows RD (Below.drew (Below.refl wr.heap.size wr)) (by kernel_rfl) ?_; intro ops Q' hops hPQ hN; (have HNS : Hid (Region.noSelect ops = true) := Lib.hid (by rw [hops]; kernel_rfl)); (have hsz : ops.size = 26 := (by rw [hops]; rfl)); have HOP := Lib.hid hops; have HPQ := Lib.hid hPQ; have HN := Lib.hid hN; rw [hsz]; clear hops hsz hPQ hN
        refine ord_take RD 0 (at_list (by rw [HOP.out]; rfl)) HNS.out HPQ.out (by rw [HOP.out]; kernel_rfl) (by rw [HOP.out]; kernel_rfl) (by rw [HOP.out]; rfl) (fun K hK => ?_); apply Exists.intro; refine ⟨fun W hSW => ?_, hK _ ?_⟩; (focus ((try dsimp only at hSW); go_simp; try with_reducible rfl)); clear hK K; (try simp only [Act.put, List.setIfInBounds_toArray, List.set_cons_zero, List.set_cons_succ])
        refine ord_take RD 1 (at_list (by rw [HOP.out]; rfl)) HNS.out HPQ.out (by rw [HOP.out]; kernel_rfl) (by rw [HOP.out]; kernel_rfl) (by rw [HOP.out]; rfl) (fun K hK => ?_); apply Exists.intro; refine ⟨fun W hSW => ?_, hK _ ?_⟩; (focus ((try dsimp only at hSW); go_simp; try with_reducible rfl)); clear hK K; (try simp only [Act.put, List.setIfInBounds_toArray, List.set_cons_zero, List.set_cons_succ])
        refine ord_take RD 2 (at_list (by rw [HOP.out]; rfl)) HNS.out HPQ.out (by rw [HOP.out]; kernel_rfl) (by rw [HOP.out]; kernel_rfl) (by rw [HOP.out]; rfl) (fun K hK => ?_); apply Exists.intro; refine ⟨fun W hSW => ?_, hK _ ?_⟩; (focus ((try dsimp only at hSW); go_simp; try with_reducible rfl)); clear hK K; (try simp only [Act.put, List.setIfInBounds_toArray, List.set_cons_zero, List.set_cons_succ])
        refine ord_take RD 3 (at_list (by rw [HOP.out]; rfl)) HNS.out HPQ.out (by rw [HOP.out]; kernel_rfl) (by rw [HOP.out]; kernel_rfl) (by rw [HOP.out]; rfl) (fun K hK => ?_); apply Exists.intro; refine ⟨fun W hSW => ?_, hK _ ?_⟩; (focus ((try dsimp only at hSW); go_simp; try with_reducible rfl)); clear hK K; (try simp only [Act.put, List.setIfInBounds_toArray, List.set_cons_zero, List.set_cons_succ])
        refine ord_skip RD 4 (at_list (by rw [HOP.out]; rfl)) HNS.out HPQ.out (by rw [HOP.out]; kernel_rfl) (by rw [HOP.out]; kernel_rfl) (by rw [HOP.out]; rfl) ?_; (try simp only [Act.put, List.setIfInBounds_toArray, List.set_cons_zero, List.set_cons_succ])
        refine ord_skip RD 5 (at_list (by rw [HOP.out]; rfl)) HNS.out HPQ.out (by rw [HOP.out]; kernel_rfl) (by rw [HOP.out]; kernel_rfl) (by rw [HOP.out]; rfl) ?_; (try simp only [Act.put, List.setIfInBounds_toArray, List.set_cons_zero, List.set_cons_succ])
        refine ord_skip RD 6 (at_list (by rw [HOP.out]; rfl)) HNS.out HPQ.out (by rw [HOP.out]; kernel_rfl) (by rw [HOP.out]; kernel_rfl) (by rw [HOP.out]; rfl) ?_; (try simp only [Act.put, List.setIfInBounds_toArray, List.set_cons_zero, List.set_cons_succ])
        refine ord_skip RD 7 (at_list (by rw [HOP.out]; rfl)) HNS.out HPQ.out (by rw [HOP.out]; kernel_rfl) (by rw [HOP.out]; kernel_rfl) (by rw [HOP.out]; rfl) ?_; (try simp only [Act.put, List.setIfInBounds_toArray, List.set_cons_zero, List.set_cons_succ])
        refine ord_skip RD 8 (at_list (by rw [HOP.out]; rfl)) HNS.out HPQ.out (by rw [HOP.out]; kernel_rfl) (by rw [HOP.out]; kernel_rfl) (by rw [HOP.out]; rfl) ?_; (try simp only [Act.put, List.setIfInBounds_toArray, List.set_cons_zero, List.set_cons_succ])
        refine ord_skip RD 9 (at_list (by rw [HOP.out]; rfl)) HNS.out HPQ.out (by rw [HOP.out]; kernel_rfl) (by rw [HOP.out]; kernel_rfl) (by rw [HOP.out]; rfl) ?_; (try simp only [Act.put, List.setIfInBounds_toArray, List.set_cons_zero, List.set_cons_succ])
        refine ord_skip RD 10 (at_list (by rw [HOP.out]; rfl)) HNS.out HPQ.out (by rw [HOP.out]; kernel_rfl) (by rw [HOP.out]; kernel_rfl) (by rw [HOP.out]; rfl) ?_; (try simp only [Act.put, List.setIfInBounds_toArray, List.set_cons_zero, List.set_cons_succ])
        refine ord_skip RD 11 (at_list (by rw [HOP.out]; rfl)) HNS.out HPQ.out (by rw [HOP.out]; kernel_rfl) (by rw [HOP.out]; kernel_rfl) (by rw [HOP.out]; rfl) ?_; (try simp only [Act.put, List.setIfInBounds_toArray, List.set_cons_zero, List.set_cons_succ])
        refine ord_skip RD 12 (at_list (by rw [HOP.out]; rfl)) HNS.out HPQ.out (by rw [HOP.out]; kernel_rfl) (by rw [HOP.out]; kernel_rfl) (by rw [HOP.out]; rfl) ?_; (try simp only [Act.put, List.setIfInBounds_toArray, List.set_cons_zero, List.set_cons_succ])
        refine ord_skip RD 13 (at_list (by rw [HOP.out]; rfl)) HNS.out HPQ.out (by rw [HOP.out]; kernel_rfl) (by rw [HOP.out]; kernel_rfl) (by rw [HOP.out]; rfl) ?_; (try simp only [Act.put, List.setIfInBounds_toArray, List.set_cons_zero, List.set_cons_succ])
        refine ord_skip RD 14 (at_list (by rw [HOP.out]; rfl)) HNS.out HPQ.out (by rw [HOP.out]; kernel_rfl) (by rw [HOP.out]; kernel_rfl) (by rw [HOP.out]; rfl) ?_; (try simp only [Act.put, List.setIfInBounds_toArray, List.set_cons_zero, List.set_cons_succ])
        refine ord_skip RD 15 (at_list (by rw [HOP.out]; rfl)) HNS.out HPQ.out (by rw [HOP.out]; kernel_rfl) (by rw [HOP.out]; kernel_rfl) (by rw [HOP.out]; rfl) ?_; (try simp only [Act.put, List.setIfInBounds_toArray, List.set_cons_zero, List.set_cons_succ])
        refine ord_take RD 16 (at_list (by rw [HOP.out]; rfl)) HNS.out HPQ.out (by rw [HOP.out]; kernel_rfl) (by rw [HOP.out]; kernel_rfl) (by rw [HOP.out]; rfl) (fun K hK => ?_); apply Exists.intro; refine ⟨fun W hSW => ?_, hK _ ?_⟩; (focus ((try dsimp only at hSW); go_simp; try with_reducible rfl)); clear hK K; (try simp only [Act.put, List.setIfInBounds_toArray, List.set_cons_zero, List.set_cons_succ])
        refine ord_take RD 17 (at_list (by rw [HOP.out]; rfl)) HNS.out HPQ.out (by rw [HOP.out]; kernel_rfl) (by rw [HOP.out]; kernel_rfl) (by rw [HOP.out]; rfl) (fun K hK => ?_); apply Exists.intro; refine ⟨fun W hSW => ?_, hK _ ?_⟩; (focus ((try dsimp only at hSW); go_simp; try with_reducible rfl)); clear hK K; (try simp only [Act.put, List.setIfInBounds_toArray, List.set_cons_zero, List.set_cons_succ])
        refine ord_take RD 18 (at_list (by rw [HOP.out]; rfl)) HNS.out HPQ.out (by rw [HOP.out]; kernel_rfl) (by rw [HOP.out]; kernel_rfl) (by rw [HOP.out]; rfl) (fun K hK => ?_); apply Exists.intro; refine ⟨fun W hSW => ?_, hK _ ?_⟩; (focus ((try dsimp only at hSW); go_simp; try with_reducible rfl)); clear hK K; (try simp only [Act.put, List.setIfInBounds_toArray, List.set_cons_zero, List.set_cons_succ])
        refine ord_take RD 19 (at_list (by rw [HOP.out]; rfl)) HNS.out HPQ.out (by rw [HOP.out]; kernel_rfl) (by rw [HOP.out]; kernel_rfl) (by rw [HOP.out]; rfl) (fun K hK => ?_); apply Exists.intro; refine ⟨fun W hSW => ?_, hK _ ?_⟩; (focus ((try dsimp only at hSW); (have z1 := (S10.out.2.1.past hSW).cell); go_simp; try with_reducible rfl)); clear hK K; (try simp only [Act.put, List.setIfInBounds_toArray, List.set_cons_zero, List.set_cons_succ])
        refine ord_take RD 20 (at_list (by rw [HOP.out]; rfl)) HNS.out HPQ.out (by rw [HOP.out]; kernel_rfl) (by rw [HOP.out]; kernel_rfl) (by rw [HOP.out]; rfl) (fun K hK => ?_); apply Exists.intro; refine ⟨fun W hSW => ?_, hK _ ?_⟩; (focus ((try dsimp only at hSW); go_simp; try with_reducible rfl)); clear hK K; (try simp only [Act.put, List.setIfInBounds_toArray, List.set_cons_zero, List.set_cons_succ])
        refine ord_take RD 21 (at_list (by rw [HOP.out]; rfl)) HNS.out HPQ.out (by rw [HOP.out]; kernel_rfl) (by rw [HOP.out]; kernel_rfl) (by rw [HOP.out]; rfl) (fun K hK => ?_); apply Exists.intro; refine ⟨fun W hSW => ?_, hK _ ?_⟩; (focus ((try dsimp only at hSW); go_simp; try with_reducible rfl)); clear hK K; (try simp only [Act.put, List.setIfInBounds_toArray, List.set_cons_zero, List.set_cons_succ])
        refine ord_take RD 22 (at_list (by rw [HOP.out]; rfl)) HNS.out HPQ.out (by rw [HOP.out]; kernel_rfl) (by rw [HOP.out]; kernel_rfl) (by rw [HOP.out]; rfl) (fun K hK => ?_); apply Exists.intro; refine ⟨fun W hSW => ?_, hK _ ?_⟩; (focus ((try dsimp only at hSW); (have z1 := (HN4.out _ hSW).1); go_simp; try with_reducible rfl)); clear hK K; (try simp only [Act.put, List.setIfInBounds_toArray, List.set_cons_zero, List.set_cons_succ])
        refine ord_take RD 23 (at_list (by rw [HOP.out]; rfl)) HNS.out HPQ.out (by rw [HOP.out]; kernel_rfl) (by rw [HOP.out]; kernel_rfl) (by rw [HOP.out]; rfl) (fun K hK => ?_); apply Exists.intro; refine ⟨fun W hSW => ?_, hK _ ?_⟩; (focus ((try dsimp only at hSW); go_simp; try with_reducible rfl)); clear hK K; (try simp only [Act.put, List.setIfInBounds_toArray, List.set_cons_zero, List.set_cons_succ])
        refine ord_take RD 24 (at_list (by rw [HOP.out]; rfl)) HNS.out HPQ.out (by rw [HOP.out]; kernel_rfl) (by rw [HOP.out]; kernel_rfl) (by rw [HOP.out]; rfl) (fun K hK => ?_); apply Exists.intro; refine ⟨fun W hSW => ?_, hK _ ?_⟩; (focus ((try dsimp only at hSW); go_simp; try with_reducible rfl)); clear hK K; (try simp only [Act.put, List.setIfInBounds_toArray, List.set_cons_zero, List.set_cons_succ])
        refine ord_take RD 25 (at_list (by rw [HOP.out]; rfl)) HNS.out HPQ.out (by rw [HOP.out]; kernel_rfl) (by rw [HOP.out]; kernel_rfl) (by rw [HOP.out]; rfl) (fun K hK => ?_); apply Exists.intro; refine ⟨fun W hSW => ?_, hK _ ?_⟩; (focus ((try dsimp only at hSW); go_simp; try with_reducible rfl)); clear hK K; (try simp only [Act.put, List.setIfInBounds_toArray, List.set_cons_zero, List.set_cons_succ])
        refine ord_done (by rw [HOP.out]; kernel_rfl) (fun W9 hWW hSW => HN.out _ _ ?_); clear HOP HNS HPQ HN RD; (try dsimp only at hSW)
        have HF := Lib.hid hSW
        clear hSW hWW
        go_wp2_with fail
        exact ⟨⟨i + 1, by have := HLT.out; omega, by go_num, S10.out.1.past HF.out, S10.out.2.1.past HF.out, below_bs S10.out.2.2 HF.out⟩, by simp [intOf]; have := HLT.out; omega⟩
      · have q1 : ((i : Int) == (k : Int)) = false := by simp; omega
        have q2 : ((i : Int) != (k : Int)) = true := by simp; omega
        have hr := HROW.out hik
        rw [hr] at HN4
        clear hik HROW hr
        generalize (numsY rs).getD i [] = ri at *
        (have RD := grows_roads (S := fun x' => Below wr.heap.size wr x') (fun a b h1 h2 => below_bs h2 h1)); refine region_ord _ Grows RD (Below.drew (Below.refl wr.heap.size wr)) (by kernel_rfl) ?_; intro ops Q' hops hPQ hN; (have HNS : Hid (Region.noSelect ops = true) := Lib.hid (by rw [hops]; kernel_rfl)); (have hsz : ops.size = 26 := (by rw [hops]; rfl)); have HOP := Lib.hid hops; have HPQ := Lib.hid hPQ; have HN := Lib.hid hN; rw [hsz]; clear hops hsz hPQ hN
        refine ord_take RD 0 (at_list (by rw [HOP.out]; rfl)) HNS.out HPQ.out (by rw [HOP.out]; kernel_rfl) (by rw [HOP.out]; kernel_rfl) (by rw [HOP.out]; rfl) (fun K hK => ?_); apply Exists.intro; refine ⟨fun W hSW => ?_, hK _ ?_⟩; (focus ((try dsimp only at hSW); go_simp; try with_reducible rfl)); clear hK K; (try simp only [Act.put, List.setIfInBounds_toArray, List.set_cons_zero, List.set_cons_succ])
        refine ord_take RD 1 (at_list (by rw [HOP.out]; rfl)) HNS.out HPQ.out (by rw [HOP.out]; kernel_rfl) (by rw [HOP.out]; kernel_rfl) (by rw [HOP.out]; rfl) (fun K hK => ?_); apply Exists.intro; refine ⟨fun W hSW => ?_, hK _ ?_⟩; (focus ((try dsimp only at hSW); go_simp; try with_reducible rfl)); clear hK K; (try simp only [Act.put, List.setIfInBounds_toArray, List.set_cons_zero, List.set_cons_succ])
        refine ord_take RD 2 (at_list (by rw [HOP.out]; rfl)) HNS.out HPQ.out (by rw [HOP.out]; kernel_rfl) (by rw [HOP.out]; kernel_rfl) (by rw [HOP.out]; rfl) (fun K hK => ?_); apply Exists.intro; refine ⟨fun W hSW => ?_, hK _ ?_⟩; (focus ((try dsimp only at hSW); go_simp; try with_reducible rfl)); clear hK K; (try simp only [Act.put, List.setIfInBounds_toArray, List.set_cons_zero, List.set_cons_succ])
        refine ord_take RD 3 (at_list (by rw [HOP.out]; rfl)) HNS.out HPQ.out (by rw [HOP.out]; kernel_rfl) (by rw [HOP.out]; kernel_rfl) (by rw [HOP.out]; rfl) (fun K hK => ?_); apply Exists.intro; refine ⟨fun W hSW => ?_, hK _ ?_⟩; (focus ((try dsimp only at hSW); go_simp; try with_reducible rfl)); clear hK K; (try simp only [Act.put, List.setIfInBounds_toArray, List.set_cons_zero, List.set_cons_succ])
        refine ord_take RD 4 (at_list (by rw [HOP.out]; rfl)) HNS.out HPQ.out (by rw [HOP.out]; kernel_rfl) (by rw [HOP.out]; kernel_rfl) (by rw [HOP.out]; rfl) (fun K hK => ?_); apply Exists.intro; refine ⟨fun W hSW => ?_, hK _ ?_⟩; (focus ((try dsimp only at hSW); go_simp; try with_reducible rfl)); clear hK K; (try simp only [Act.put, List.setIfInBounds_toArray, List.set_cons_zero, List.set_cons_succ])
        refine ord_take RD 5 (at_list (by rw [HOP.out]; rfl)) HNS.out HPQ.out (by rw [HOP.out]; kernel_rfl) (by rw [HOP.out]; kernel_rfl) (by rw [HOP.out]; rfl) (fun K hK => ?_); apply Exists.intro; refine ⟨fun W hSW => ?_, hK _ ?_⟩; (focus ((try dsimp only at hSW); (have z1 := (S10.out.2.1.past hSW).cell); go_simp; try with_reducible rfl)); clear hK K; (try simp only [Act.put, List.setIfInBounds_toArray, List.set_cons_zero, List.set_cons_succ])
        refine ord_take RD 6 (at_list (by rw [HOP.out]; rfl)) HNS.out HPQ.out (by rw [HOP.out]; kernel_rfl) (by rw [HOP.out]; kernel_rfl) (by rw [HOP.out]; rfl) (fun K hK => ?_); apply Exists.intro; refine ⟨fun W hSW => ?_, hK _ ?_⟩; (focus ((try dsimp only at hSW); go_simp; try with_reducible rfl)); clear hK K; (try simp only [Act.put, List.setIfInBounds_toArray, List.set_cons_zero, List.set_cons_succ])
        refine ord_take RD 7 (at_list (by rw [HOP.out]; rfl)) HNS.out HPQ.out (by rw [HOP.out]; kernel_rfl) (by rw [HOP.out]; kernel_rfl) (by rw [HOP.out]; rfl) (fun K hK => ?_); apply Exists.intro; refine ⟨fun W hSW => ?_, hK _ ?_⟩; (focus ((try dsimp only at hSW); go_simp; try with_reducible rfl)); clear hK K; (try simp only [Act.put, List.setIfInBounds_toArray, List.set_cons_zero, List.set_cons_succ])
        refine ord_take RD 8 (at_list (by rw [HOP.out]; rfl)) HNS.out HPQ.out (by rw [HOP.out]; kernel_rfl) (by rw [HOP.out]; kernel_rfl) (by rw [HOP.out]; rfl) (fun K hK => ?_); apply Exists.intro; refine ⟨fun W hSW => ?_, hK _ ?_⟩; (focus ((try dsimp only at hSW); (have z1 := (HN4.out _ hSW).1); go_simp; try with_reducible rfl)); clear hK K; (try simp only [Act.put, List.setIfInBounds_toArray, List.set_cons_zero, List.set_cons_succ])
        refine ord_take RD 9 (at_list (by rw [HOP.out]; rfl)) HNS.out HPQ.out (by rw [HOP.out]; kernel_rfl) (by rw [HOP.out]; kernel_rfl) (by rw [HOP.out]; rfl) (fun K hK => ?_); apply Exists.intro; refine ⟨fun W hSW => ?_, hK _ ?_⟩; (focus ((try dsimp only at hSW); go_simp; try with_reducible rfl)); clear hK K; (try simp only [Act.put, List.setIfInBounds_toArray, List.set_cons_zero, List.set_cons_succ])
        refine ord_take RD 10 (at_list (by rw [HOP.out]; rfl)) HNS.out HPQ.out (by rw [HOP.out]; kernel_rfl) (by rw [HOP.out]; kernel_rfl) (by rw [HOP.out]; rfl) (fun K hK => ?_); apply Exists.intro; refine ⟨fun W hSW => ?_, hK _ ?_⟩; (focus ((try dsimp only at hSW); (have z1 := (S10.out.1.past hSW).cell); go_simp; try with_reducible rfl)); clear hK K; (try simp only [Act.put, List.setIfInBounds_toArray, List.set_cons_zero, List.set_cons_succ])
        refine ord_take RD 11 (at_list (by rw [HOP.out]; rfl)) HNS.out HPQ.out (by rw [HOP.out]; kernel_rfl) (by rw [HOP.out]; kernel_rfl) (by rw [HOP.out]; rfl) (fun K hK => ?_); apply Exists.intro; refine ⟨fun W hSW => ?_, hK _ ?_⟩; (focus ((try dsimp only at hSW); go_simp; try with_reducible rfl)); clear hK K; (try simp only [Act.put, List.setIfInBounds_toArray, List.set_cons_zero, List.set_cons_succ])
        refine ord_take RD 12 (at_list (by rw [HOP.out]; rfl)) HNS.out HPQ.out (by rw [HOP.out]; kernel_rfl) (by rw [HOP.out]; kernel_rfl) (by rw [HOP.out]; rfl) (fun K hK => ?_); apply Exists.intro; refine ⟨fun W hSW => ?_, hK _ ?_⟩; (focus ((try dsimp only at hSW); go_simp; try with_reducible rfl)); clear hK K; (try simp only [Act.put, List.setIfInBounds_toArray, List.set_cons_zero, List.set_cons_succ])
        refine ord_take RD 13 (at_list (by rw [HOP.out]; rfl)) HNS.out HPQ.out (by rw [HOP.out]; kernel_rfl) (by rw [HOP.out]; kernel_rfl) (by rw [HOP.out]; rfl) (fun K hK => ?_); apply Exists.intro; refine ⟨fun W hSW => ?_, hK _ ?_⟩; (focus ((try dsimp only at hSW); (have z1 := (HM4.out _ hSW).1); go_simp; try with_reducible rfl)); clear hK K; (try simp only [Act.put, List.setIfInBounds_toArray, List.set_cons_zero, List.set_cons_succ])
        refine ord_take RD 14 (at_list (by rw [HOP.out]; rfl)) HNS.out HPQ.out (by rw [HOP.out]; kernel_rfl) (by rw [HOP.out]; kernel_rfl) (by rw [HOP.out]; rfl) (fun K hK => ?_); apply Exists.intro; refine ⟨fun W hSW => ?_, hK _ ?_⟩; (focus ((try dsimp only at hSW); go_simp; exact (same32_any A5 A6 8 8 c5 c6 ri ri W (HN4.out _ hSW).2 HRI.out (HM4.out _ hSW).2 HRI.out (by decide) (by decide)))); clear hK K; (try simp only [Act.put, List.setIfInBounds_toArray, List.set_cons_zero, List.set_cons_succ])
        (try rw [show decide (ri = ri) = true from decide_eq_true rfl])
        (try rw [decide_true])
        refine ord_take RD 15 (at_list (by rw [HOP.out]; rfl)) HNS.out HPQ.out (by rw [HOP.out]; kernel_rfl) (by rw [HOP.out]; kernel_rfl) (by rw [HOP.out]; rfl) (fun K hK => ?_); apply Exists.intro; refine ⟨fun W hSW => ?_, hK _ ?_⟩; (focus ((try dsimp only at hSW); go_simp; try with_reducible rfl)); clear hK K; (try simp only [Act.put, List.setIfInBounds_toArray, List.set_cons_zero, List.set_cons_succ])
        refine ord_take RD 16 (at_list (by rw [HOP.out]; rfl)) HNS.out HPQ.out (by rw [HOP.out]; kernel_rfl) (by rw [HOP.out]; kernel_rfl) (by rw [HOP.out]; rfl) (fun K hK => ?_); apply Exists.intro; refine ⟨fun W hSW => ?_, hK _ ?_⟩; (focus ((try dsimp only at hSW); go_simp; try with_reducible rfl)); clear hK K; (try simp only [Act.put, List.setIfInBounds_toArray, List.set_cons_zero, List.set_cons_succ])
        refine ord_take RD 17 (at_list (by rw [HOP.out]; rfl)) HNS.out HPQ.out (by rw [HOP.out]; kernel_rfl) (by rw [HOP.out]; kernel_rfl) (by rw [HOP.out]; rfl) (fun K hK => ?_); apply Exists.intro; refine ⟨fun W hSW => ?_, hK _ ?_⟩; (focus ((try dsimp only at hSW); go_simp; try with_reducible rfl)); clear hK K; (try simp only [Act.put, List.setIfInBounds_toArray, List.set_cons_zero, List.set_cons_succ])
        refine ord_take RD 18 (at_list (by rw [HOP.out]; rfl)) HNS.out HPQ.out (by rw [HOP.out]; kernel_rfl) (by rw [HOP.out]; kernel_rfl) (by rw [HOP.out]; rfl) (fun K hK => ?_); apply Exists.intro; refine ⟨fun W hSW => ?_, hK _ ?_⟩; (focus ((try dsimp only at hSW); go_simp; try with_reducible rfl)); clear hK K; (try simp only [Act.put, List.setIfInBounds_toArray, List.set_cons_zero, List.set_cons_succ])
        refine ord_take RD 19 (at_list (by rw [HOP.out]; rfl)) HNS.out HPQ.out (by rw [HOP.out]; kernel_rfl) (by rw [HOP.out]; kernel_rfl) (by rw [HOP.out]; rfl) (fun K hK => ?_); apply Exists.intro; refine ⟨fun W hSW => ?_, hK _ ?_⟩; (focus ((try dsimp only at hSW); (have z1 := (S10.out.2.1.past hSW).cell); go_simp; try with_reducible rfl)); clear hK K; (try simp only [Act.put, List.setIfInBounds_toArray, List.set_cons_zero, List.set_cons_succ])
        refine ord_take RD 20 (at_list (by rw [HOP.out]; rfl)) HNS.out HPQ.out (by rw [HOP.out]; kernel_rfl) (by rw [HOP.out]; kernel_rfl) (by rw [HOP.out]; rfl) (fun K hK => ?_); apply Exists.intro; refine ⟨fun W hSW => ?_, hK _ ?_⟩; (focus ((try dsimp only at hSW); go_simp; try with_reducible rfl)); clear hK K; (try simp only [Act.put, List.setIfInBounds_toArray, List.set_cons_zero, List.set_cons_succ])
        refine ord_take RD 21 (at_list (by rw [HOP.out]; rfl)) HNS.out HPQ.out (by rw [HOP.out]; kernel_rfl) (by rw [HOP.out]; kernel_rfl) (by rw [HOP.out]; rfl) (fun K hK => ?_); apply Exists.intro; refine ⟨fun W hSW => ?_, hK _ ?_⟩; (focus ((try dsimp only at hSW); go_simp; try with_reducible rfl)); clear hK K; (try simp only [Act.put, List.setIfInBounds_toArray, List.set_cons_zero, List.set_cons_succ])
        refine ord_take RD 22 (at_list (by rw [HOP.out]; rfl)) HNS.out HPQ.out (by rw [HOP.out]; kernel_rfl) (by rw [HOP.out]; kernel_rfl) (by rw [HOP.out]; rfl) (fun K hK => ?_); apply Exists.intro; refine ⟨fun W hSW => ?_, hK _ ?_⟩; (focus ((try dsimp only at hSW); (have z1 := (HN4.out _ hSW).1); go_simp; try with_reducible rfl)); clear hK K; (try simp only [Act.put, List.setIfInBounds_toArray, List.set_cons_zero, List.set_cons_succ])
        refine ord_take RD 23 (at_list (by rw [HOP.out]; rfl)) HNS.out HPQ.out (by rw [HOP.out]; kernel_rfl) (by rw [HOP.out]; kernel_rfl) (by rw [HOP.out]; rfl) (fun K hK => ?_); apply Exists.intro; refine ⟨fun W hSW => ?_, hK _ ?_⟩; (focus ((try dsimp only at hSW); go_simp; try with_reducible rfl)); clear hK K; (try simp only [Act.put, List.setIfInBounds_toArray, List.set_cons_zero, List.set_cons_succ])
        refine ord_take RD 24 (at_list (by rw [HOP.out]; rfl)) HNS.out HPQ.out (by rw [HOP.out]; kernel_rfl) (by rw [HOP.out]; kernel_rfl) (by rw [HOP.out]; rfl) (fun K hK => ?_); apply Exists.intro; refine ⟨fun W hSW => ?_, hK _ ?_⟩; (focus ((try dsimp only at hSW); go_simp; try with_reducible rfl)); clear hK K; (try simp only [Act.put, List.setIfInBounds_toArray, List.set_cons_zero, List.set_cons_succ])
        refine ord_take RD 25 (at_list (by rw [HOP.out]; rfl)) HNS.out HPQ.out (by rw [HOP.out]; kernel_rfl) (by rw [HOP.out]; kernel_rfl) (by rw [HOP.out]; rfl) (fun K hK => ?_); apply Exists.intro; refine ⟨fun W hSW => ?_, hK _ ?_⟩; (focus ((try dsimp only at hSW); go_simp; try with_reducible rfl)); clear hK K; (try simp only [Act.put, List.setIfInBounds_toArray, List.set_cons_zero, List.set_cons_succ])
        refine ord_done (by rw [HOP.out]; kernel_rfl) (fun W9 hWW hSW => HN.out _ _ ?_); clear HOP HNS HPQ HN RD; (try dsimp only at hSW)
        have HF := Lib.hid hSW
        clear hSW hWW
        go_wp2_with fail
        exact ⟨⟨i + 1, by have := HLT.out; omega, by go_num, S10.out.1.past HF.out, S10.out.2.1.past HF.out, below_bs S10.out.2.2 HF.out⟩, by simp [intOf]; have := HLT.out; omega⟩
    · have i1 : ¬ (i : Int) < n4 := by omega
      clear hi hlt
      go_wp2_with fail
      clear x1
      go_loopw [21] (fun jv wr => ∃ j : Nat, j ≤ 8 ∧ jv = .int .i64 j ∧ MxAt wr w.heap.size P n4 c rs ∧ MxAt wr g4 A4 n4 d4 q4 ∧ Below w.heap.size w wr) (fun jv _ => 8 - (intOf jv).toNat)
      case atStart => exact ⟨0, by omega, rfl, S10.out⟩
      case round =>
        clear S10
        obtain ⟨j, hj, rfl, s11⟩ := hrel
        have S11 := Lib.hid s11
        clear s11
        by_cases hlt : j < 8
        · have HJ := Lib.hid hlt
          have j1 : (j : Int) < 8 := by omega
          have j0 : 0 ≤ (j : Int) := by omega
          obtain ⟨b5, o5, b1, o1', c5, rfl, h5⟩ := row_nb S11.out.2.1.rows k j HKM.out (by rw [E4.out, mx_row HLF.out.1 k (by rw [HLF.out.2.1, HL.out]; exact HKM.out)]; exact hlt)
          obtain ⟨b6, o6, b2, o2', c6, rfl, h6⟩ := row_nb S11.out.1.rows k j HKM.out (by rw [HWS.out, HL8.out.1]; exact hlt)
          rw [E4.out, mx_row HLF.out.1 k (by rw [HLF.out.2.1, HL.out]; exact HKM.out), HLF.out.2.2, tauL_at HL8.out.1 HL8.out.2 j hlt] at h5
          rw [HWS.out, HL8.out.1] at h6
          have HN4 := Lib.hid h5
          have HM4 := Lib.hid h6
          have hw := HB.out (ws.getD j 0) (by rw [List.getD_eq_getElem?_getD, List.getElem?_eq_getElem (by rw [HL8.out.1]; exact hlt)]; exact List.getElem_mem _)
          have HTZ : Hid (ys.getD j 0 = 0 → tau (ws.getD j 0) (ys.getD j 0) off = ws.getD j 0) := Lib.hid (fun e => by rw [e]; exact tau_zero off hw)
          clear h5 h6 hj hlt hw
          go_upto_region 18 with fail
          by_cases hy : ys.getD j 0 = 0
          · have ht := HTZ.out hy
            rw [ht] at HN4
            have HY : Hid (∀ x', Below w.heap.size w x' → x'.cell? ⟨b8, f8 + j, none⟩ = some (.int .i32 0)) := Lib.hid (fun x' hx => by rw [← hy]; exact HC8.out x' hx j HJ.out)
            clear hy ht HTZ
            generalize ws.getD j 0 = v at *
            have q3 : (v != v) = false := by simp
            have q4 : (v == v) = true := by simp
            (have RD := grows_roads (S := fun x' => Below wr.heap.size wr x') (fun a b h1 h2 => below_bs h2 h1)); refine region_ord _ Grows RD (Below.drew (Below.refl wr.heap.size wr)) (by kernel_rfl) ?_; intro ops Q' hops hPQ hN; (have HNS : Hid (Region.noSelect ops = true) := Lib.hid (by rw [hops]; kernel_rfl)); (have hsz : ops.size = 24 := (by rw [hops]; rfl)); have HOP := Lib.hid hops; have HPQ := Lib.hid hPQ; have HN := Lib.hid hN; rw [hsz]; clear hops hsz hPQ hN
            refine ord_take RD 0 (at_list (by rw [HOP.out]; rfl)) HNS.out HPQ.out (by rw [HOP.out]; kernel_rfl) (by rw [HOP.out]; kernel_rfl) (by rw [HOP.out]; rfl) (fun K hK => ?_); apply Exists.intro; refine ⟨fun W hSW => ?_, hK _ ?_⟩; (focus ((try dsimp only at hSW); go_simp; try with_reducible rfl)); clear hK K; (try simp only [Act.put, List.setIfInBounds_toArray, List.set_cons_zero, List.set_cons_succ])
            refine ord_take RD 1 (at_list (by rw [HOP.out]; rfl)) HNS.out HPQ.out (by rw [HOP.out]; kernel_rfl) (by rw [HOP.out]; kernel_rfl) (by rw [HOP.out]; rfl) (fun K hK => ?_); apply Exists.intro; refine ⟨fun W hSW => ?_, hK _ ?_⟩; (focus ((try dsimp only at hSW); go_simp; try with_reducible rfl)); clear hK K; (try simp only [Act.put, List.setIfInBounds_toArray, List.set_cons_zero, List.set_cons_succ])
            refine ord_take RD 2 (at_list (by rw [HOP.out]; rfl)) HNS.out HPQ.out (by rw [HOP.out]; kernel_rfl) (by rw [HOP.out]; kernel_rfl) (by rw [HOP.out]; rfl) (fun K hK => ?_); apply Exists.intro; refine ⟨fun W hSW => ?_, hK _ ?_⟩; (focus ((try dsimp only at hSW); go_simp; try with_reducible rfl)); clear hK K; (try simp only [Act.put, List.setIfInBounds_toArray, List.set_cons_zero, List.set_cons_succ])
            refine ord_take RD 3 (at_list (by rw [HOP.out]; rfl)) HNS.out HPQ.out (by rw [HOP.out]; kernel_rfl) (by rw [HOP.out]; kernel_rfl) (by rw [HOP.out]; rfl) (fun K hK => ?_); apply Exists.intro; refine ⟨fun W hSW => ?_, hK _ ?_⟩; (focus ((try dsimp only at hSW); (have z1 := HY.out _ (below_bs S11.out.2.2 hSW)); go_simp; try with_reducible rfl)); clear hK K; (try simp only [Act.put, List.setIfInBounds_toArray, List.set_cons_zero, List.set_cons_succ])
            refine ord_take RD 4 (at_list (by rw [HOP.out]; rfl)) HNS.out HPQ.out (by rw [HOP.out]; kernel_rfl) (by rw [HOP.out]; kernel_rfl) (by rw [HOP.out]; rfl) (fun K hK => ?_); apply Exists.intro; refine ⟨fun W hSW => ?_, hK _ ?_⟩; (focus ((try dsimp only at hSW); go_simp; try with_reducible rfl)); clear hK K; (try simp only [Act.put, List.setIfInBounds_toArray, List.set_cons_zero, List.set_cons_succ])
            refine ord_take RD 5 (at_list (by rw [HOP.out]; rfl)) HNS.out HPQ.out (by rw [HOP.out]; kernel_rfl) (by rw [HOP.out]; kernel_rfl) (by rw [HOP.out]; rfl) (fun K hK => ?_); apply Exists.intro; refine ⟨fun W hSW => ?_, hK _ ?_⟩; (focus ((try dsimp only at hSW); go_simp; try with_reducible rfl)); clear hK K; (try simp only [Act.put, List.setIfInBounds_toArray, List.set_cons_zero, List.set_cons_succ])
            refine ord_take RD 6 (at_list (by rw [HOP.out]; rfl)) HNS.out HPQ.out (by rw [HOP.out]; kernel_rfl) (by rw [HOP.out]; kernel_rfl) (by rw [HOP.out]; rfl) (fun K hK => ?_); apply Exists.intro; refine ⟨fun W hSW => ?_, hK _ ?_⟩; (focus ((try dsimp only at hSW); go_simp; try with_reducible rfl)); clear hK K; (try simp only [Act.put, List.setIfInBounds_toArray, List.set_cons_zero, List.set_cons_succ])
            refine ord_take RD 7 (at_list (by rw [HOP.out]; rfl)) HNS.out HPQ.out (by rw [HOP.out]; kernel_rfl) (by rw [HOP.out]; kernel_rfl) (by rw [HOP.out]; rfl) (fun K hK => ?_); apply Exists.intro; refine ⟨fun W hSW => ?_, hK _ ?_⟩; (focus ((try dsimp only at hSW); (have z1 := (S11.out.2.1.past hSW).cell); go_simp; try with_reducible rfl)); clear hK K; (try simp only [Act.put, List.setIfInBounds_toArray, List.set_cons_zero, List.set_cons_succ])
            refine ord_take RD 8 (at_list (by rw [HOP.out]; rfl)) HNS.out HPQ.out (by rw [HOP.out]; kernel_rfl) (by rw [HOP.out]; kernel_rfl) (by rw [HOP.out]; rfl) (fun K hK => ?_); apply Exists.intro; refine ⟨fun W hSW => ?_, hK _ ?_⟩; (focus ((try dsimp only at hSW); go_simp; try with_reducible rfl)); clear hK K; (try simp only [Act.put, List.setIfInBounds_toArray, List.set_cons_zero, List.set_cons_succ])
            refine ord_take RD 9 (at_list (by rw [HOP.out]; rfl)) HNS.out HPQ.out (by rw [HOP.out]; kernel_rfl) (by rw [HOP.out]; kernel_rfl) (by rw [HOP.out]; rfl) (fun K hK => ?_); apply Exists.intro; refine ⟨fun W hSW => ?_, hK _ ?_⟩; (focus ((try dsimp only at hSW); go_simp; try with_reducible rfl)); clear hK K; (try simp only [Act.put, List.setIfInBounds_toArray, List.set_cons_zero, List.set_cons_succ])
            refine ord_take RD 10 (at_list (by rw [HOP.out]; rfl)) HNS.out HPQ.out (by rw [HOP.out]; kernel_rfl) (by rw [HOP.out]; kernel_rfl) (by rw [HOP.out]; rfl) (fun K hK => ?_); apply Exists.intro; refine ⟨fun W hSW => ?_, hK _ ?_⟩; (focus ((try dsimp only at hSW); (have z1 := (HN4.out _ hSW).1); go_simp; try with_reducible rfl)); clear hK K; (try simp only [Act.put, List.setIfInBounds_toArray, List.set_cons_zero, List.set_cons_succ])
            refine ord_take RD 11 (at_list (by rw [HOP.out]; rfl)) HNS.out HPQ.out (by rw [HOP.out]; kernel_rfl) (by rw [HOP.out]; kernel_rfl) (by rw [HOP.out]; rfl) (fun K hK => ?_); apply Exists.intro; refine ⟨fun W hSW => ?_, hK _ ?_⟩; (focus ((try dsimp only at hSW); go_simp; try with_reducible rfl)); clear hK K; (try simp only [Act.put, List.setIfInBounds_toArray, List.set_cons_zero, List.set_cons_succ])
            refine ord_take RD 12 (at_list (by rw [HOP.out]; rfl)) HNS.out HPQ.out (by rw [HOP.out]; kernel_rfl) (by rw [HOP.out]; kernel_rfl) (by rw [HOP.out]; rfl) (fun K hK => ?_); apply Exists.intro; refine ⟨fun W hSW => ?_, hK _ ?_⟩; (focus ((try dsimp only at hSW); go_simp; try with_reducible rfl)); clear hK K; (try simp only [Act.put, List.setIfInBounds_toArray, List.set_cons_zero, List.set_cons_succ])
            refine ord_take RD 13 (at_list (by rw [HOP.out]; rfl)) HNS.out HPQ.out (by rw [HOP.out]; kernel_rfl) (by rw [HOP.out]; kernel_rfl) (by rw [HOP.out]; rfl) (fun K hK => ?_); apply Exists.intro; refine ⟨fun W hSW => ?_, hK _ ?_⟩; (focus ((try dsimp only at hSW); (have z1 := (HN4.out _ hSW).2); go_simp; try with_reducible rfl)); clear hK K; (try simp only [Act.put, List.setIfInBounds_toArray, List.set_cons_zero, List.set_cons_succ])
            refine ord_take RD 14 (at_list (by rw [HOP.out]; rfl)) HNS.out HPQ.out (by rw [HOP.out]; kernel_rfl) (by rw [HOP.out]; kernel_rfl) (by rw [HOP.out]; rfl) (fun K hK => ?_); apply Exists.intro; refine ⟨fun W hSW => ?_, hK _ ?_⟩; (focus ((try dsimp only at hSW); go_simp; try with_reducible rfl)); clear hK K; (try simp only [Act.put, List.setIfInBounds_toArray, List.set_cons_zero, List.set_cons_succ])
            refine ord_take RD 15 (at_list (by rw [HOP.out]; rfl)) HNS.out HPQ.out (by rw [HOP.out]; kernel_rfl) (by rw [HOP.out]; kernel_rfl) (by rw [HOP.out]; rfl) (fun K hK => ?_); apply Exists.intro; refine ⟨fun W hSW => ?_, hK _ ?_⟩; (focus ((try dsimp only at hSW); (have z1 := (S11.out.1.past hSW).cell); go_simp; try with_reducible rfl)); clear hK K; (try simp only [Act.put, List.setIfInBounds_toArray, List.set_cons_zero, List.set_cons_succ])
            refine ord_take RD 16 (at_list (by rw [HOP.out]; rfl)) HNS.out HPQ.out (by rw [HOP.out]; kernel_rfl) (by rw [HOP.out]; kernel_rfl) (by rw [HOP.out]; rfl) (fun K hK => ?_); apply Exists.intro; refine ⟨fun W hSW => ?_, hK _ ?_⟩; (focus ((try dsimp only at hSW); go_simp; try with_reducible rfl)); clear hK K; (try simp only [Act.put, List.setIfInBounds_toArray, List.set_cons_zero, List.set_cons_succ])
            refine ord_take RD 17 (at_list (by rw [HOP.out]; rfl)) HNS.out HPQ.out (by rw [HOP.out]; kernel_rfl) (by rw [HOP.out]; kernel_rfl) (by rw [HOP.out]; rfl) (fun K hK => ?_); apply Exists.intro; refine ⟨fun W hSW => ?_, hK _ ?_⟩; (focus ((try dsimp only at hSW); go_simp; try with_reducible rfl)); clear hK K; (try simp only [Act.put, List.setIfInBounds_toArray, List.set_cons_zero, List.set_cons_succ])
            refine ord_take RD 18 (at_list (by rw [HOP.out]; rfl)) HNS.out HPQ.out (by rw [HOP.out]; kernel_rfl) (by rw [HOP.out]; kernel_rfl) (by rw [HOP.out]; rfl) (fun K hK => ?_); apply Exists.intro; refine ⟨fun W hSW => ?_, hK _ ?_⟩; (focus ((try dsimp only at hSW); (have z1 := (HM4.out _ hSW).1); go_simp; try with_reducible rfl)); clear hK K; (try simp only [Act.put, List.setIfInBounds_toArray, List.set_cons_zero, List.set_cons_succ])
            refine ord_take RD 19 (at_list (by rw [HOP.out]; rfl)) HNS.out HPQ.out (by rw [HOP.out]; kernel_rfl) (by rw [HOP.out]; kernel_rfl) (by rw [HOP.out]; rfl) (fun K hK => ?_); apply Exists.intro; refine ⟨fun W hSW => ?_, hK _ ?_⟩; (focus ((try dsimp only at hSW); go_simp; try with_reducible rfl)); clear hK K; (try simp only [Act.put, List.setIfInBounds_toArray, List.set_cons_zero, List.set_cons_succ])
            refine ord_take RD 20 (at_list (by rw [HOP.out]; rfl)) HNS.out HPQ.out (by rw [HOP.out]; kernel_rfl) (by rw [HOP.out]; kernel_rfl) (by rw [HOP.out]; rfl) (fun K hK => ?_); apply Exists.intro; refine ⟨fun W hSW => ?_, hK _ ?_⟩; (focus ((try dsimp only at hSW); go_simp; try with_reducible rfl)); clear hK K; (try simp only [Act.put, List.setIfInBounds_toArray, List.set_cons_zero, List.set_cons_succ])
            refine ord_take RD 21 (at_list (by rw [HOP.out]; rfl)) HNS.out HPQ.out (by rw [HOP.out]; kernel_rfl) (by rw [HOP.out]; kernel_rfl) (by rw [HOP.out]; rfl) (fun K hK => ?_); apply Exists.intro; refine ⟨fun W hSW => ?_, hK _ ?_⟩; (focus ((try dsimp only at hSW); (have z1 := (HM4.out _ hSW).2); go_simp; try with_reducible rfl)); clear hK K; (try simp only [Act.put, List.setIfInBounds_toArray, List.set_cons_zero, List.set_cons_succ])
            refine ord_take RD 22 (at_list (by rw [HOP.out]; rfl)) HNS.out HPQ.out (by rw [HOP.out]; kernel_rfl) (by rw [HOP.out]; kernel_rfl) (by rw [HOP.out]; rfl) (fun K hK => ?_); apply Exists.intro; refine ⟨fun W hSW => ?_, hK _ ?_⟩; (focus ((try dsimp only at hSW); go_simp; try with_reducible rfl)); clear hK K; (try simp only [Act.put, List.setIfInBounds_toArray, List.set_cons_zero, List.set_cons_succ])
            refine ord_take RD 23 (at_list (by rw [HOP.out]; rfl)) HNS.out HPQ.out (by rw [HOP.out]; kernel_rfl) (by rw [HOP.out]; kernel_rfl) (by rw [HOP.out]; rfl) (fun K hK => ?_); apply Exists.intro; refine ⟨fun W hSW => ?_, hK _ ?_⟩; (focus ((try dsimp only at hSW); go_simp; try with_reducible rfl)); clear hK K; (try simp only [Act.put, List.setIfInBounds_toArray, List.set_cons_zero, List.set_cons_succ])
            refine ord_done (by rw [HOP.out]; kernel_rfl) (fun W9 hWW hSW => HN.out _ _ ?_); clear HOP HNS HPQ HN RD; (try dsimp only at hSW)
            have HF := Lib.hid hSW
            clear hSW hWW
            go_wp2_with fail
            exact ⟨⟨j + 1, by have := HJ.out; omega, by go_num, S11.out.1.past HF.out, S11.out.2.1.past HF.out, below_bs S11.out.2.2 HF.out⟩, by simp [intOf]; have := HJ.out; omega⟩
          · have q3 : (ys.getD j 0 == 0) = false := by simpa using hy
            clear hy HTZ
            have HY : Hid (∀ x', Below w.heap.size w x' → x'.cell? ⟨b8, f8 + j, none⟩ = some (.int .i32 (ys.getD j 0))) := Lib.hid (fun x' hx => HC8.out x' hx j HJ.out)
            generalize ys.getD j 0 = xx at *
            (have RD := grows_roads (S := fun x' => Below wr.heap.size wr x') (fun a b h1 h2 => below_bs h2 h1)); refine region_ord _ Grows RD (Below.drew (Below.refl wr.heap.size wr)) (by kernel_rfl) ?_; intro ops Q' hops hPQ hN; (have HNS : Hid (Region.noSelect ops = true) := Lib.hid (by rw [hops]; kernel_rfl)); (have hsz : ops.size = 24 := (by rw [hops]; rfl)); have HOP := Lib.hid hops; have HPQ := Lib.hid hPQ; have HN := Lib.hid hN; rw [hsz]; clear hops hsz hPQ hN
            refine ord_take RD 0 (at_list (by rw [HOP.out]; rfl)) HNS.out HPQ.out (by rw [HOP.out]; kernel_rfl) (by rw [HOP.out]; kernel_rfl) (by rw [HOP.out]; rfl) (fun K hK => ?_); apply Exists.intro; refine ⟨fun W hSW => ?_, hK _ ?_⟩; (focus ((try dsimp only at hSW); go_simp; try with_reducible rfl)); clear hK K; (try simp only [Act.put, List.setIfInBounds_toArray, List.set_cons_zero, List.set_cons_succ])
            refine ord_take RD 1 (at_list (by rw [HOP.out]; rfl)) HNS.out HPQ.out (by rw [HOP.out]; kernel_rfl) (by rw [HOP.out]; kernel_rfl) (by rw [HOP.out]; rfl) (fun K hK => ?_); apply Exists.intro; refine ⟨fun W hSW => ?_, hK _ ?_⟩; (focus ((try dsimp only at hSW); go_simp; try with_reducible rfl)); clear hK K; (try simp only [Act.put, List.setIfInBounds_toArray, List.set_cons_zero, List.set_cons_succ])
            refine ord_take RD 2 (at_list (by rw [HOP.out]; rfl)) HNS.out HPQ.out (by rw [HOP.out]; kernel_rfl) (by rw [HOP.out]; kernel_rfl) (by rw [HOP.out]; rfl) (fun K hK => ?_); apply Exists.intro; refine ⟨fun W hSW => ?_, hK _ ?_⟩; (focus ((try dsimp only at hSW); go_simp; try with_reducible rfl)); clear hK K; (try simp only [Act.put, List.setIfInBounds_toArray, List.set_cons_zero, List.set_cons_succ])
            refine ord_take RD 3 (at_list (by rw [HOP.out]; rfl)) HNS.out HPQ.out (by rw [HOP.out]; kernel_rfl) (by rw [HOP.out]; kernel_rfl) (by rw [HOP.out]; rfl) (fun K hK => ?_); apply Exists.intro; refine ⟨fun W hSW => ?_, hK _ ?_⟩; (focus ((try dsimp only at hSW); (have z1 := HY.out _ (below_bs S11.out.2.2 hSW)); go_simp; try with_reducible rfl)); clear hK K; (try simp only [Act.put, List.setIfInBounds_toArray, List.set_cons_zero, List.set_cons_succ])
            refine ord_take RD 4 (at_list (by rw [HOP.out]; rfl)) HNS.out HPQ.out (by rw [HOP.out]; kernel_rfl) (by rw [HOP.out]; kernel_rfl) (by rw [HOP.out]; rfl) (fun K hK => ?_); apply Exists.intro; refine ⟨fun W hSW => ?_, hK _ ?_⟩; (focus ((try dsimp only at hSW); go_simp; try with_reducible rfl)); clear hK K; (try simp only [Act.put, List.setIfInBounds_toArray, List.set_cons_zero, List.set_cons_succ])
            refine ord_take RD 5 (at_list (by rw [HOP.out]; rfl)) HNS.out HPQ.out (by rw [HOP.out]; kernel_rfl) (by rw [HOP.out]; kernel_rfl) (by rw [HOP.out]; rfl) (fun K hK => ?_); apply Exists.intro; refine ⟨fun W hSW => ?_, hK _ ?_⟩; (focus ((try dsimp only at hSW); go_simp; try with_reducible rfl)); clear hK K; (try simp only [Act.put, List.setIfInBounds_toArray, List.set_cons_zero, List.set_cons_succ])
            refine ord_skip RD 6 (at_list (by rw [HOP.out]; rfl)) HNS.out HPQ.out (by rw [HOP.out]; kernel_rfl) (by rw [HOP.out]; kernel_rfl) (by rw [HOP.out]; rfl) ?_; (try simp only [Act.put, List.setIfInBounds_toArray, List.set_cons_zero, List.set_cons_succ])
            refine ord_skip RD 7 (at_list (by rw [HOP.out]; rfl)) HNS.out HPQ.out (by rw [HOP.out]; kernel_rfl) (by rw [HOP.out]; kernel_rfl) (by rw [HOP.out]; rfl) ?_; (try simp only [Act.put, List.setIfInBounds_toArray, List.set_cons_zero, List.set_cons_succ])
            refine ord_skip RD 8 (at_list (by rw [HOP.out]; rfl)) HNS.out HPQ.out (by rw [HOP.out]; kernel_rfl) (by rw [HOP.out]; kernel_rfl) (by rw [HOP.out]; rfl) ?_; (try simp only [Act.put, List.setIfInBounds_toArray, List.set_cons_zero, List.set_cons_succ])
            refine ord_skip RD 9 (at_list (by rw [HOP.out]; rfl)) HNS.out HPQ.out (by rw [HOP.out]; kernel_rfl) (by rw [HOP.out]; kernel_rfl) (by rw [HOP.out]; rfl) ?_; (try simp only [Act.put, List.setIfInBounds_toArray, List.set_cons_zero, List.set_cons_succ])
            refine ord_skip RD 10 (at_list (by rw [HOP.out]; rfl)) HNS.out HPQ.out (by rw [HOP.out]; kernel_rfl) (by rw [HOP.out]; kernel_rfl) (by rw [HOP.out]; rfl) ?_; (try simp only [Act.put, List.setIfInBounds_toArray, List.set_cons_zero, List.set_cons_succ])
            refine ord_skip RD 11 (at_list (by rw [HOP.out]; rfl)) HNS.out HPQ.out (by rw [HOP.out]; kernel_rfl) (by rw [HOP.out]; kernel_rfl) (by rw [HOP.out]; rfl) ?_; (try simp only [Act.put, List.setIfInBounds_toArray, List.set_cons_zero, List.set_cons_succ])
            refine ord_skip RD 12 (at_list (by rw [HOP.out]; rfl)) HNS.out HPQ.out (by rw [HOP.out]; kernel_rfl) (by rw [HOP.out]; kernel_rfl) (by rw [HOP.out]; rfl) ?_; (try simp only [Act.put, List.setIfInBounds_toArray, List.set_cons_zero, List.set_cons_succ])
            refine ord_skip RD 13 (at_list (by rw [HOP.out]; rfl)) HNS.out HPQ.out (by rw [HOP.out]; kernel_rfl) (by rw [HOP.out]; kernel_rfl) (by rw [HOP.out]; rfl) ?_; (try simp only [Act.put, List.setIfInBounds_toArray, List.set_cons_zero, List.set_cons_succ])
            refine ord_skip RD 14 (at_list (by rw [HOP.out]; rfl)) HNS.out HPQ.out (by rw [HOP.out]; kernel_rfl) (by rw [HOP.out]; kernel_rfl) (by rw [HOP.out]; rfl) ?_; (try simp only [Act.put, List.setIfInBounds_toArray, List.set_cons_zero, List.set_cons_succ])
            refine ord_skip RD 15 (at_list (by rw [HOP.out]; rfl)) HNS.out HPQ.out (by rw [HOP.out]; kernel_rfl) (by rw [HOP.out]; kernel_rfl) (by rw [HOP.out]; rfl) ?_; (try simp only [Act.put, List.setIfInBounds_toArray, List.set_cons_zero, List.set_cons_succ])
            refine ord_skip RD 16 (at_list (by rw [HOP.out]; rfl)) HNS.out HPQ.out (by rw [HOP.out]; kernel_rfl) (by rw [HOP.out]; kernel_rfl) (by rw [HOP.out]; rfl) ?_; (try simp only [Act.put, List.setIfInBounds_toArray, List.set_cons_zero, List.set_cons_succ])
            refine ord_skip RD 17 (at_list (by rw [HOP.out]; rfl)) HNS.out HPQ.out (by rw [HOP.out]; kernel_rfl) (by rw [HOP.out]; kernel_rfl) (by rw [HOP.out]; rfl) ?_; (try simp only [Act.put, List.setIfInBounds_toArray, List.set_cons_zero, List.set_cons_succ])
            refine ord_skip RD 18 (at_list (by rw [HOP.out]; rfl)) HNS.out HPQ.out (by rw [HOP.out]; kernel_rfl) (by rw [HOP.out]; kernel_rfl) (by rw [HOP.out]; rfl) ?_; (try simp only [Act.put, List.setIfInBounds_toArray, List.set_cons_zero, List.set_cons_succ])
            refine ord_skip RD 19 (at_list (by rw [HOP.out]; rfl)) HNS.out HPQ.out (by rw [HOP.out]; kernel_rfl) (by rw [HOP.out]; kernel_rfl) (by rw [HOP.out]; rfl) ?_; (try simp only [Act.put, List.setIfInBounds_toArray, List.set_cons_zero, List.set_cons_succ])
            refine ord_skip RD 20 (at_list (by rw [HOP.out]; rfl)) HNS.out HPQ.out (by rw [HOP.out]; kernel_rfl) (by rw [HOP.out]; kernel_rfl) (by rw [HOP.out]; rfl) ?_; (try simp only [Act.put, List.setIfInBounds_toArray, List.set_cons_zero, List.set_cons_succ])
            refine ord_skip RD 21 (at_list (by rw [HOP.out]; rfl)) HNS.out HPQ.out (by rw [HOP.out]; kernel_rfl) (by rw [HOP.out]; kernel_rfl) (by rw [HOP.out]; rfl) ?_; (try simp only [Act.put, List.setIfInBounds_toArray, List.set_cons_zero, List.set_cons_succ])
            refine ord_skip RD 22 (at_list (by rw [HOP.out]; rfl)) HNS.out HPQ.out (by rw [HOP.out]; kernel_rfl) (by rw [HOP.out]; kernel_rfl) (by rw [HOP.out]; rfl) ?_; (try simp only [Act.put, List.setIfInBounds_toArray, List.set_cons_zero, List.set_cons_succ])
            refine ord_take RD 23 (at_list (by rw [HOP.out]; rfl)) HNS.out HPQ.out (by rw [HOP.out]; kernel_rfl) (by rw [HOP.out]; kernel_rfl) (by rw [HOP.out]; rfl) (fun K hK => ?_); apply Exists.intro; refine ⟨fun W hSW => ?_, hK _ ?_⟩; (focus ((try dsimp only at hSW); go_simp; try with_reducible rfl)); clear hK K; (try simp only [Act.put, List.setIfInBounds_toArray, List.set_cons_zero, List.set_cons_succ])
            refine ord_done (by rw [HOP.out]; kernel_rfl) (fun W9 hWW hSW => HN.out _ _ ?_); clear HOP HNS HPQ HN RD; (try dsimp only at hSW)
            have HF := Lib.hid hSW
            clear hSW hWW
            go_wp2_with fail
            exact ⟨⟨j + 1, by have := HJ.out; omega, by go_num, S11.out.1.past HF.out, S11.out.2.1.past HF.out, below_bs S11.out.2.2 HF.out⟩, by simp [intOf]; have := HJ.out; omega⟩
        · have j1 : ¬ (j : Int) < 8 := by omega
          clear hj hlt
          go_wp2_with fail
          go_ret
          exact ⟨rfl, S11.out.2.2⟩
theorem apart_law (P : Option Addr) (m c : Nat) (rs : List RY) (set : Int) (B : Option Addr) (bn bc : Nat) (zs : List Int) (p : Int) (bit : Bool) (w : World) (h : RowsY w P m c rs) (_ : -9223372036854775808 ≤ set) (_ : set ≤ 9223372036854775807) (hb : IsRow .i32 w B bn bc zs) (_ : -2147483648 ≤ p) (_ : p ≤ 2147483647) (hT : Tab w) :
    Calls Tryd.prog 6 #[.agg #[.slice P m c], .int .i64 set, .slice B bn bc, .int .i32 p, .bool bit] w fun e w' => e = .returned (.bool true) ∧ Below w.heap.size w w' :=
  apart P m c rs set B bn bc _ p bit w h (in8_of hb) hT
end Go.Proofs.YtjikddndlnimoaaDoor.mxL
