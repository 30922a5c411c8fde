/- New mixers of both, by walks. -/
import Derived.Test.YtjikddndlnimoaaDoorMxW5
namespace Go.Proofs.YtjikddndlnimoaaDoor.mxP
set_option maxRecDepth 100000
open Go.Proofs.YtjikddndlnimoaaDoor.base Go.Proofs.YtjikddndlnimoaaDoor.rfP Go.Proofs.YtjikddndlnimoaaDoor.sqP Go.Proofs.YtjikddndlnimoaaDoor.fixP
theorem nums_rows {rs : List RY} {m : Nat} {z : List Int} (hl : rs.length = m) (h : ∀ i, i < m → (rs.getD i ry0).b = z) : numsY rs = List.replicate m z := by
  subst hl
  apply List.ext_getElem
  · simp [numsY]
  · intro i h1 h2
    have hi : i < rs.length := by simpa [numsY] using h1
    have := h i hi
    rw [List.getD_eq_getElem?_getD, List.getElem?_eq_getElem hi] at this
    simp [numsY]
    exact this
end Go.Proofs.YtjikddndlnimoaaDoor.mxP
namespace Go.Proofs.YtjikddndlnimoaaDoor.mxW
set_option maxRecDepth 100000
open Go.RowKit Go.Proofs.YtjikddndlnimoaaDoor.base Go.Proofs.YtjikddndlnimoaaDoor.rfP Go.Proofs.YtjikddndlnimoaaDoor.mxP Go.Proofs.YtjikddndlnimoaaDoor.sqP Go.Proofs.YtjikddndlnimoaaDoor.sqW Go.Proofs.YtjikddndlnimoaaDoor.fixP Go.Proofs.YtjikddndlnimoaaDoor.fixW
set_option linter.unusedVariables false
set_option linter.unusedSimpArgs false
theorem rep_bd {x : Int} (hx : -2147483648 ≤ x ∧ x ≤ 2147483647) (k : Nat) : ∀ z ∈ List.replicate k x, -2147483648 ≤ z ∧ z ≤ 2147483647 := fun z hz => by rw [(List.mem_replicate.1 hz).2]; exact hx
set_option maxHeartbeats 400000 in
theorem New_any (n x : Int) (w : World) (hx : -2147483648 ≤ x ∧ x ≤ 2147483647) :
    Calls Tryd.prog 9 #[.int .i64 n, .int .i32 x] w fun e w' => ∃ A m d qs, e = .returned (.tuple #[.agg #[.slice A m d], .int .i64 (newME n)]) ∧ OwnR w' w.heap.size (.slice A m d) qs ∧ numsY qs = newMV n x ∧ Below w.heap.size w w' := by
  by_cases hn : 1 ≤ n ∧ n ≤ 256
  · obtain ⟨m, rfl⟩ : ∃ m : Nat, n = m := ⟨n.toNat, by omega⟩
    have HV : Hid (newME (m : Int) = 0 ∧ newMV (m : Int) x = List.replicate m (List.replicate 8 x)) := Lib.hid (by unfold newME newMV; rw [if_pos hn, if_pos hn, Int.toNat_natCast]; exact ⟨rfl, rfl⟩)
    rw [HV.out.1, HV.out.2]
    have HX := Lib.hid hx
    have HM := Lib.hid hn
    have i1 : ¬ (m : Int) < 1 := by omega
    have i2 : (m : Int) ≤ 256 := by omega
    have i3 : 1 ≤ (m : Int) := by omega
    have B0 : Hid (Lies ((w.alloc (.cells #[.int .i32 x] 21)).alloc (.cells #[.slice none 0 0] 24)) w.heap.size 21 [.int .i32 x] ∧ Lies ((w.alloc (.cells #[.int .i32 x] 21)).alloc (.cells #[.slice none 0 0] 24)) (w.heap.size + 1) 24 [.slice none 0 0] ∧ Below w.heap.size w ((w.alloc (.cells #[.int .i32 x] 21)).alloc (.cells #[.slice none 0 0] 24)) ∧ w.heap.size < w.heap.size + 1) := Lib.hid ⟨(Lies.fresh w 21 [.int .i32 x]).alloc _, Lies.fresh_at (cs := [.slice none 0 0]) (by simp), by (repeat' (first | (with_reducible exact Below.refl _ _) | (with_reducible assumption) | (with_reducible refine below_drewN ?_ _) | (with_reducible refine below_new ?_ _) | (with_reducible refine Below.alloc ?_ ?_ _) | (with_reducible refine Below.drew ?_) | (with_reducible refine Below.setCell ?_ ?_ _) | (with_reducible apply below_at; (case k => (with_reducible assumption)); (case hB => omega)) | (with_reducible apply below_on; (with_reducible assumption)) | (go_size; done) | (with_reducible apply size_of))), by omega⟩
    clear hn hx HV
    go_enter Tryd.func9, Tryd.ntmps9
    go_wp2_with fail
    generalize ((w.alloc (.cells #[.int .i32 x] 21)).alloc (.cells #[.slice none 0 0] 24)) = W0 at *
    generalize w.heap.size + 1 = g2 at *
    refine (filledN_any (.pointer (some ⟨w.heap.size, 0, none⟩)) m (fun _ => List.replicate 8 x) W0 (by have := HM.out; omega) (fun i _ => ⟨List.length_replicate .., rep_bd HX.out 8⟩) (fun i W hi hW => set_any i x w.heap.size W (B0.out.1.past hW) HX.out)).mono ?_
    rintro e w1 ⟨rs, rfl, ho, hl, hr, hb⟩
    have H1 : Hid (OwnR w1 w.heap.size (.slice (some ⟨W0.heap.size, 0, none⟩) m m) rs ∧ numsY rs = List.replicate m (List.replicate 8 x) ∧ Lies w1 g2 24 [.slice none 0 0] ∧ Below w.heap.size w w1) := Lib.hid ⟨ho.mono B0.out.2.2.1.size, nums_rows hl hr, B0.out.2.1.past hb, below_bs B0.out.2.2.1 hb⟩
    clear ho hl hr hb
    obtain ⟨z1, z2⟩ := H1.out.2.2.1.one
    generalize W0.heap.size = gr at *
    go_wp2_with fail
    have K := H1.out.2.2.1.set 0 (.slice (some ⟨gr, 0, none⟩) m m)
    have k1 : (w1.setCell ⟨g2, 0, none⟩ (.slice (some ⟨gr, 0, none⟩) m m)).cell? ⟨g2, 0, none⟩ = some (.slice (some ⟨gr, 0, none⟩) m m) := K.cell 0
    refine bodyPost_ret (by simp [results, Tryd.results9, go_sem, k1]; try rfl) rfl ?_
    exact ⟨some ⟨gr, 0, none⟩, m, m, rs, rfl, H1.out.1.other H1.out.2.2.1 (by decide) (by decide) 0 _, H1.out.2.1, H1.out.2.2.2.setCell (Nat.le_of_lt B0.out.2.2.2) _⟩
  · have HV : Hid (newME n = 2 ∧ newMV n x = []) := Lib.hid (by unfold newME newMV; rw [if_neg hn, if_neg hn]; exact ⟨rfl, rfl⟩)
    rw [HV.out.1, HV.out.2]
    by_cases c1 : n < 1
    · clear hn hx
      go_enter Tryd.func9, Tryd.ntmps9
      go_wp2
      refine bodyPost_ret (by simp [results, Tryd.results9, go_sem, ]; try rfl) rfl ?_
      exact ⟨none, 0, 0, [], rfl, OwnR.nil _ _, rfl, by (repeat' (first | (with_reducible exact Below.refl _ _) | (with_reducible assumption) | (with_reducible refine below_drewN ?_ _) | (with_reducible refine below_new ?_ _) | (with_reducible refine Below.alloc ?_ ?_ _) | (with_reducible refine Below.drew ?_) | (with_reducible refine Below.setCell ?_ ?_ _) | (with_reducible apply below_at; (case k => (with_reducible assumption)); (case hB => omega)) | (with_reducible apply below_on; (with_reducible assumption)) | (go_size; done) | (with_reducible apply size_of)))⟩
    · have c2 : 256 < n := by omega
      have c3 : decide (n < 1) = false := decide_eq_false c1
      have c4 : 0 ≤ n := by omega
      clear hn c1 hx
      go_enter Tryd.func9, Tryd.ntmps9
      go_wp2
      refine bodyPost_ret (by simp [results, Tryd.results9, go_sem, ]; try rfl) rfl ?_
      exact ⟨none, 0, 0, [], rfl, OwnR.nil _ _, rfl, by (repeat' (first | (with_reducible exact Below.refl _ _) | (with_reducible assumption) | (with_reducible refine below_drewN ?_ _) | (with_reducible refine below_new ?_ _) | (with_reducible refine Below.alloc ?_ ?_ _) | (with_reducible refine Below.drew ?_) | (with_reducible refine Below.setCell ?_ ?_ _) | (with_reducible apply below_at; (case k => (with_reducible assumption)); (case hB => omega)) | (with_reducible apply below_on; (with_reducible assumption)) | (go_size; done) | (with_reducible apply size_of)))⟩
set_option maxHeartbeats 800000 in
theorem rNew_any (n x : Int) (w : World) (hx : -2147483648 ≤ x ∧ x ≤ 2147483647) :
    Calls Tryd.prog 10 #[.int .i64 n, .int .i32 x] w fun e w' => ∃ A m d qs, e = .returned (.tuple #[.agg #[.slice A m d], .int .i64 (newME n)]) ∧ OwnR w' w.heap.size (.slice A m d) qs ∧ numsY qs = newMV n x ∧ Below w.heap.size w w' := by
  by_cases hn : 1 ≤ n ∧ n ≤ 256
  · obtain ⟨m, rfl⟩ : ∃ m : Nat, n = m := ⟨n.toNat, by omega⟩
    have HV : Hid (newME (m : Int) = 0 ∧ newMV (m : Int) x = List.replicate m (List.replicate 8 x)) := Lib.hid (by unfold newME newMV; rw [if_pos hn, if_pos hn, Int.toNat_natCast]; exact ⟨rfl, rfl⟩)
    rw [HV.out.1, HV.out.2]
    have HX := Lib.hid hx
    have HM := Lib.hid hn
    have i1 : ¬ (m : Int) < 1 := by omega
    have i2 : (m : Int) ≤ 256 := by omega
    have i3 : 1 ≤ (m : Int) := by omega
    have B0 : Hid (Lies ((w.alloc (.cells #[.slice none 0 0] 24)).alloc (.cells #[.slice none 0 0] 24)) w.heap.size 24 [.slice none 0 0] ∧ Lies ((w.alloc (.cells #[.slice none 0 0] 24)).alloc (.cells #[.slice none 0 0] 24)) (w.heap.size + 1) 24 [.slice none 0 0] ∧ Below w.heap.size w ((w.alloc (.cells #[.slice none 0 0] 24)).alloc (.cells #[.slice none 0 0] 24)) ∧ w.heap.size < w.heap.size + 1) := Lib.hid ⟨(Lies.fresh w 24 [.slice none 0 0]).alloc _, Lies.fresh_at (cs := [.slice none 0 0]) (by simp), by (repeat' (first | (with_reducible exact Below.refl _ _) | (with_reducible assumption) | (with_reducible refine below_drewN ?_ _) | (with_reducible refine below_new ?_ _) | (with_reducible refine Below.alloc ?_ ?_ _) | (with_reducible refine Below.drew ?_) | (with_reducible refine Below.setCell ?_ ?_ _) | (with_reducible apply below_at; (case k => (with_reducible assumption)); (case hB => omega)) | (with_reducible apply below_on; (with_reducible assumption)) | (go_size; done) | (with_reducible apply size_of))), by omega⟩
    clear hn hx HV
    go_enter Tryd.func10, Tryd.ntmps10
    go_wp2_with fail
    generalize ((w.alloc (.cells #[.slice none 0 0] 24)).alloc (.cells #[.slice none 0 0] 24)) = W0 at *
    generalize w.heap.size + 1 = g4 at *
    go_loopw [7] (fun iv wr => ∃ (k : Nat) (A : Option Addr) (c : Nat) (rs : List RY), k ≤ m ∧ iv = .int .i64 k ∧ rs.length = k ∧ (∀ i, i < k → (rs.getD i ry0).b = List.replicate 8 x) ∧ OwnR wr w.heap.size (.slice A k c) rs ∧ Lies wr g4 24 [.slice A k c] ∧ Lies wr w.heap.size 24 [.slice none 0 0] ∧ Below w.heap.size w wr) (fun iv _ => m - (intOf iv).toNat)
    case atStart => exact ⟨0, none, 0, [], by omega, rfl, rfl, fun i hi => absurd hi (Nat.not_lt_zero _), OwnR.nil _ _, B0.out.2.1, B0.out.1, B0.out.2.2.1⟩
    case round =>
      rename World => wo
      obtain ⟨k, A, c, rs, hk, rfl, hl, hf, hor, hl4, hl0, hb⟩ := hrel
      have HL := Lib.hid (And.intro hl hf)
      have HR := Lib.hid (And.intro hor (And.intro hl4 (And.intro hl0 hb)))
      clear hl hf hor hl4 hl0 hb
      by_cases hlt : k < m
      · have HLT := Lib.hid hlt
        have k1 : (k : Int) < m := by omega
        have k0 : 0 ≤ (k : Int) := by omega
        clear hlt hk
        go_wp2_with fail
        go_loopw [8, 9] (fun sv jv wr => ∃ (j : Nat) (A1 : Option Addr) (c1 : Nat), j ≤ 8 ∧ jv = .int .i64 j ∧ sv = .slice A1 j c1 ∧ OwnI wr wo.heap.size 21 .i32 (.slice A1 j c1) (List.replicate j x) ∧ Below wo.heap.size wo wr) (fun _ jv _ => 8 - (intOf jv).toNat)
        case atStart => exact ⟨0, none, 0, by omega, rfl, rfl, OwnI.nil _ _ _ _, Below.refl _ _⟩
        case round =>
          obtain ⟨j, A1, c1, hj, rfl, rfl, ho, hbz⟩ := hrel
          have HO := Lib.hid (And.intro ho hbz)
          clear ho hbz
          by_cases hlt : j < 8
          · have HJ := Lib.hid hlt
            have j1 : (j : Int) < 8 := by omega
            have j0 : 0 ≤ (j : Int) := by omega
            have HRP : Hid (List.replicate j x ++ [x] = List.replicate (j + 1) x) := Lib.hid (by rw [List.replicate_succ'])
            clear hlt hj
            go_wp2_with (at_builtin; refine app32 rfl _ _ rfl wo.heap.size _ _ rfl (HO.out.1.below ((Below.refl _ _).alloc (Nat.le_refl _) _) (Nat.le_refl _)) (some ⟨wr.heap.size, 0, none⟩) 1 1 [x] rfl rfl (has_lit (zs := [x]) rfl (by simp [maxLen])) (j + 1) ?c0 ?c1 ?c2 ?_; (case c0 => rw [List.length_replicate]); (case c1 => (have := HJ.out; omega)); (case c2 => (have h1 := HO.out.2.size; simp; omega)); intro A5 c5 w5 ho5 hl5 hb5; rw [HRP.out] at ho5; have HO5 := Lib.hid ho5; have HB5 := Lib.hid hb5; clear ho5 hl5 hb5)
            exact ⟨⟨j + 1, A5, c5, by have := HJ.out; omega, by go_num, rfl, HO5.out, (HO.out.2.alloc HO.out.2.size _).trans HB5.out⟩, by simp [intOf]; have := HJ.out; omega⟩
          · obtain rfl : j = 8 := by omega
            clear hlt hj
            have hO := HO.out.1
            have HA1 : Hid (OneR (wr.alloc (.cells #[.slice A1 8 c1] 25)) w.heap.size ⟨A1, 8, c1, List.replicate 8 x⟩ ∧ (∀ j, j < rs.length → RApart (rs.getD j ry0) ⟨A1, 8, c1, List.replicate 8 x⟩ ∧ RApart ⟨A1, 8, c1, List.replicate 8 x⟩ (rs.getD j ry0)) ∧ OwnR (wr.alloc (.cells #[.slice A1 8 c1] 25)) w.heap.size (.slice A k c) rs ∧ Lies (wr.alloc (.cells #[.slice A1 8 c1] 25)) g4 24 [.slice A k c] ∧ Lies (wr.alloc (.cells #[.slice A1 8 c1] 25)) w.heap.size 24 [.slice none 0 0] ∧ Below w.heap.size w (wr.alloc (.cells #[.slice A1 8 c1] 25)) ∧ Lies (wr.alloc (.cells #[.slice A1 8 c1] 25)) wr.heap.size 25 [.slice A1 8 c1]) := Lib.hid (by
              have o1 := oneR_of hO (rep_bd HX.out 8)
              have ha : Below wr.heap.size wr (wr.alloc (.cells #[.slice A1 8 c1] 25)) := (Below.refl _ _).alloc (Nat.le_refl _) _
              exact ⟨(o1.below ha (Nat.le_refl _)).mono HR.out.2.2.2.size, fun j hj => apart_new (HR.out.1.one j hj) o1 (Nat.le_refl _), (HR.out.1.past HO.out.2).past ha, (HR.out.2.1.past HO.out.2).past ha, (HR.out.2.2.1.past HO.out.2).past ha, below_bs (below_bs HR.out.2.2.2 HO.out.2) ha, Lies.fresh _ _ _⟩)
            clear hO
            have zz1 : wr.cell? ⟨g4, 0, none⟩ = some (.slice A k c) := (HR.out.2.1.past HO.out.2).cell 0
            have zzl := (HR.out.2.1.past HO.out.2).lt
            go_wp2_with (at_builtin; refine appRY rfl _ _ rfl w.heap.size _ rs rfl HA1.out.2.2.1 HA1.out.2.2.2.2.2.1.size wr.heap.size 1 rfl ⟨A1, 8, c1, List.replicate 8 x⟩ (HA1.out.2.2.2.2.2.2.cell 0) HA1.out.1 HA1.out.2.1 (k + 1) (by rw [HL.out.1]) (by have := HLT.out; have := HM.out; omega) ?_; intro A6 c6 w6 o6 g6 b6; have K6 := HA1.out.2.2.1.keeps HA1.out.2.2.2.1 (by decide) g6; obtain ⟨z1, z2⟩ := K6.one; have H6 := Lib.hid (And.intro o6 (And.intro K6 (And.intro (HA1.out.2.2.1.keeps HA1.out.2.2.2.2.1 (by decide) g6) (HA1.out.2.2.2.2.2.1.trans b6)))); clear o6 g6 b6 K6)
            have hne : (⟨g4, 0, none⟩ : Addr).block ≠ w.heap.size := by have := B0.out.2.2.2; show g4 ≠ w.heap.size; omega
            refine ⟨⟨k + 1, A6, c6, rs ++ [⟨A1, 8, c1, List.replicate 8 x⟩], by have := HLT.out; omega, by go_num, by rw [List.length_append, HL.out.1]; rfl, fun i hi => ?_, H6.out.1.other H6.out.2.1 (by decide) (by decide) _ _, H6.out.2.1.set 0 _, H6.out.2.2.1.other hne _, H6.out.2.2.2.setCell (Nat.le_of_lt B0.out.2.2.2) _⟩, by simp [intOf]; have := HLT.out; omega⟩
            have hl := HL.out.1
            by_cases e : i < rs.length
            · rw [gd_snoc_lt e]; exact HL.out.2 i (by omega)
            · obtain rfl : i = rs.length := by omega
              rw [gd_snoc_eq]
      · obtain rfl : k = m := by omega
        clear hlt hk
        have y1 : wo.cell? ⟨g4, 0, none⟩ = some (.slice A k c) := HR.out.2.1.cell 0
        have y2 : wo.cell? ⟨w.heap.size, 0, none⟩ = some (.slice none 0 0) := HR.out.2.2.1.cell 0
        have y3 : wo.frozen? ⟨w.heap.size, 0, none⟩ = false := HR.out.2.2.1.free 0
        go_wp2_with fail
        have K := HR.out.2.2.1.set 0 (.slice A k c)
        have k1 : (wo.setCell ⟨w.heap.size, 0, none⟩ (.slice A k c)).cell? ⟨w.heap.size, 0, none⟩ = some (.slice A k c) := K.cell 0
        refine bodyPost_ret (by simp [results, Tryd.results10, go_sem, k1]; try rfl) rfl ?_
        exact ⟨A, k, c, rs, rfl, HR.out.1.other HR.out.2.2.1 (by decide) (by decide) 0 _, nums_rows HL.out.1 HL.out.2, HR.out.2.2.2.setCell (Nat.le_refl _) _⟩
  · have HV : Hid (newME n = 2 ∧ newMV n x = []) := Lib.hid (by unfold newME newMV; rw [if_neg hn, if_neg hn]; exact ⟨rfl, rfl⟩)
    rw [HV.out.1, HV.out.2]
    by_cases c1 : n < 1
    · clear hn hx
      go_enter Tryd.func10, Tryd.ntmps10
      go_wp2
      refine bodyPost_ret (by simp [results, Tryd.results10, go_sem, ]; try rfl) rfl ?_
      exact ⟨none, 0, 0, [], rfl, OwnR.nil _ _, rfl, by (repeat' (first | (with_reducible exact Below.refl _ _) | (with_reducible assumption) | (with_reducible refine below_drewN ?_ _) | (with_reducible refine below_new ?_ _) | (with_reducible refine Below.alloc ?_ ?_ _) | (with_reducible refine Below.drew ?_) | (with_reducible refine Below.setCell ?_ ?_ _) | (with_reducible apply below_at; (case k => (with_reducible assumption)); (case hB => omega)) | (with_reducible apply below_on; (with_reducible assumption)) | (go_size; done) | (with_reducible apply size_of)))⟩
    · have c2 : 256 < n := by omega
      have c3 : decide (n < 1) = false := decide_eq_false c1
      have c4 : 0 ≤ n := by omega
      clear hn c1 hx
      go_enter Tryd.func10, Tryd.ntmps10
      go_wp2
      refine bodyPost_ret (by simp [results, Tryd.results10, go_sem, ]; try rfl) rfl ?_
      exact ⟨none, 0, 0, [], rfl, OwnR.nil _ _, rfl, by (repeat' (first | (with_reducible exact Below.refl _ _) | (with_reducible assumption) | (with_reducible refine below_drewN ?_ _) | (with_reducible refine below_new ?_ _) | (with_reducible refine Below.alloc ?_ ?_ _) | (with_reducible refine Below.drew ?_) | (with_reducible refine Below.setCell ?_ ?_ _) | (with_reducible apply below_at; (case k => (with_reducible assumption)); (case hB => omega)) | (with_reducible apply below_on; (with_reducible assumption)) | (go_size; done) | (with_reducible apply size_of)))⟩
end Go.Proofs.YtjikddndlnimoaaDoor.mxW
