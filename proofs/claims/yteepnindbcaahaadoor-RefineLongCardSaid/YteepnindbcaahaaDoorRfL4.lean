/- RefineLong, by a walk. -/
import Derived.Test.YteepnindbcaahaaDoorRfA4
import Derived.Test.YteepnindbcaahaaDoorBool
import Derived.Deep.RegionLaw
namespace Go.Proofs.YteepnindbcaahaaDoor.rfP
set_option maxRecDepth 100000
open Go.Proofs.YteepnindbcaahaaDoor.base Go.Proofs.YteepnindbcaahaaDoor.sqP
/-- The place after one more. -/
theorem learn_at_place {l : List (List Int)} (h : rfB l = true) {k j : Nat} (hk : k < l.length) (hj : j < 33) (bit : Bool) : ((learnP l k j bit).getD k []).getD j 0 = mv ((l.getD k []).getD j 0) bit := by
  rw [learn_row bit hk, gd_set_eq (by rw [((rowB_iff _).1 (rf_row h k hk)).1]; exact hj)]
end Go.Proofs.YteepnindbcaahaaDoor.rfP
namespace Go.Proofs.YteepnindbcaahaaDoor.rfL
set_option maxRecDepth 100000
open Go.RowKit Go.Proofs.YteepnindbcaahaaDoor.base Go.Proofs.YteepnindbcaahaaDoor.rfP Go.Proofs.YteepnindbcaahaaDoor.rfW Go.Proofs.YteepnindbcaahaaDoor.sqP Go.Proofs.YteepnindbcaahaaDoor.sqW
set_option linter.unusedVariables false
set_option linter.unusedSimpArgs false
set_option maxHeartbeats 1500000 in
theorem long_out (P : Option Addr) (m c : Nat) (rs : List RY) (row near : Int) (B : Option Addr) (bn bc : Nat) (bs : List Bool) (w : World) (h : RowsY w P m c rs) (hb : IsRowB w B bn bc bs) (hT : Tab w) (ho : (5 : Int) < m ∨ fitB (numsY rs) row = false ∨ near < 0 ∨ 32 < near ∨ (40 : Int) < bn) :
    Calls Tryd.prog 7 #[.agg #[.slice P m c], .int .i64 row, .int .i64 near, .slice B bn bc] w fun e w' => e = .returned (.bool true) ∧ Below w.heap.size w w' := by
  have HT := Lib.hid hT
  have H := Lib.hid h
  have HO := Lib.hid ho
  have bn9 : (bn : Int) ≤ 9223372036854775807 := by have := hb.2.2.2.1; omega
  have m9 : (m : Int) ≤ 9223372036854775807 := by have := h.c1; have := h.c2; omega
  clear h hT ho hb
  have S0 : Hid (RfAt (w.alloc (.cells #[.slice P m c] 24)) w.heap.size P m c rs ∧ Below w.heap.size w (w.alloc (.cells #[.slice P m c] 24))) := Lib.hid ⟨rfAt_new H.out, by (repeat' (first | (with_reducible exact Below.refl _ _) | (with_reducible assumption) | (with_reducible refine below_drewN ?_ _) | (with_reducible refine below_new ?_ _) | (with_reducible refine Below.alloc ?_ ?_ _) | (with_reducible refine Below.drew ?_) | (with_reducible refine Below.setCell ?_ ?_ _) | (with_reducible apply below_at; (case k => (with_reducible assumption)); (case hB => omega)) | (with_reducible apply below_on; (with_reducible assumption)) | (go_size; done) | (with_reducible apply size_of)))⟩
  go_enter Tryd.func7, Tryd.ntmps7
  go_wp2_with fail
  generalize hw0 : (w.alloc (.cells #[.slice P m c] 24)) = w0 at *
  clear hw0
  refine (alive w0 (HT.out.below S0.out.2)).mono ?_
  rintro e w1 ⟨rfl, b1⟩
  have S1 : Hid (RfAt w1 w.heap.size P m c rs ∧ Below w.heap.size w w1) := Lib.hid ⟨S0.out.1.past b1, below_bs S0.out.2 b1⟩
  clear b1 S0
  have x1 := S1.out.1.cell
  by_cases hm : (5 : Int) < m
  · clear HO
    go_wp2_with fail
    go_ret
    exact ⟨rfl, S1.out.2⟩
  go_wp2_with fail
  clear x1
  refine (fit_any P m c rs row w1 S1.out.1.rows).mono ?_
  rintro e w2 ⟨rfl, b2⟩
  have HB := Lib.hid (below_bs S1.out.2 b2)
  clear b2 S1
  cases hf : fitB (numsY rs) row
  · clear hf HO
    go_wp2_with fail
    go_ret
    exact ⟨rfl, HB.out⟩
  have ho := HO.out
  rw [hf] at ho
  by_cases c1 : near < 0
  · clear ho hf HO
    go_wp2_with fail
    go_ret
    exact ⟨rfl, HB.out⟩
  have d1 : decide (near < 0) = false := decide_eq_false c1
  have d2 : 0 ≤ near := by omega
  clear c1
  by_cases c2 : 32 < near
  · clear ho hf HO
    go_wp2_with fail
    go_ret
    exact ⟨rfl, HB.out⟩
  have c3 : (40 : Int) < bn := by
    rcases ho with h | h | h | h | h
    · omega
    · cases h
    · omega
    · omega
    · exact h
  clear ho hf HO
  go_wp2_with fail
  go_ret
  exact ⟨rfl, HB.out⟩
set_option maxHeartbeats 1500000 in
theorem long_in (P : Option Addr) (m c : Nat) (rs : List RY) (k j : Nat) (B : Option Addr) (bn bc : Nat) (bs : List Bool) (w : World) (h : RowsY w P m c rs) (hb : IsRowB w B bn bc bs) (hT : Tab w) (hm : m ≤ 5) (hf : fitB (numsY rs) (k : Int) = true) (hj : j < 33) (hn : bn ≤ 40) :
    Calls Tryd.prog 7 #[.agg #[.slice P m c], .int .i64 k, .int .i64 j, .slice B bn bc] w fun e w' => e = .returned (.bool true) ∧ Below w.heap.size w w' := by
  obtain ⟨fl, hr, f0, f1, ha⟩ := fit_iff hf
  have HT := Lib.hid hT
  have H := Lib.hid h
  have HF := Lib.hid hf
  have HL := Lib.hid (rows_len h)
  have hkm : k < m := by have := HL.out; omega
  have HKJ := Lib.hid (And.intro hkm (And.intro hj (And.intro hm hn)))
  have HA := Lib.hid ha
  have HBS := Lib.hid hb
  have n1 : (bn : Int) ≤ 40 := by omega
  have n0 : 0 ≤ (bn : Int) := by omega
  have m5 : (m : Int) ≤ 5 := by omega
  have j0 : 0 ≤ (j : Int) := by omega
  have j1 : (j : Int) ≤ 32 := by omega
  have k1 : (k : Int) < m := by omega
  have k0 : 0 ≤ (k : Int) := by omega
  have S0 : Hid (RfAt (w.alloc (.cells #[.slice P m c] 24)) w.heap.size P m c rs ∧ Below w.heap.size w (w.alloc (.cells #[.slice P m c] 24))) := Lib.hid ⟨rfAt_new H.out, by (repeat' (first | (with_reducible exact Below.refl _ _) | (with_reducible assumption) | (with_reducible refine below_drewN ?_ _) | (with_reducible refine below_new ?_ _) | (with_reducible refine Below.alloc ?_ ?_ _) | (with_reducible refine Below.drew ?_) | (with_reducible refine Below.setCell ?_ ?_ _) | (with_reducible apply below_at; (case k => (with_reducible assumption)); (case hB => omega)) | (with_reducible apply below_on; (with_reducible assumption)) | (go_size; done) | (with_reducible apply size_of)))⟩
  clear h hT hf fl hr f0 f1 ha hkm hb hm hn hj
  go_enter Tryd.func7, Tryd.ntmps7
  go_wp2_with fail
  generalize hw0 : (w.alloc (.cells #[.slice P m c] 24)) = w0 at *
  clear hw0
  refine (alive w0 (HT.out.below S0.out.2)).mono ?_
  rintro e w1 ⟨rfl, b1⟩
  have S1 : Hid (RfAt w1 w.heap.size P m c rs ∧ Below w.heap.size w w1) := Lib.hid ⟨S0.out.1.past b1, below_bs S0.out.2 b1⟩
  clear b1 S0
  have x1 := S1.out.1.cell
  go_wp2_with fail
  clear x1
  refine (fit_any P m c rs k w1 S1.out.1.rows).mono ?_
  rintro e w2 ⟨rfl, b2⟩
  rw [HF.out]
  have S2 : Hid (RfAt w2 w.heap.size P m c rs ∧ Below w.heap.size w w2) := Lib.hid ⟨S1.out.1.past b2, below_bs S1.out.2 b2⟩
  clear b2 S1
  go_wp2_with fail
  go_loopw [10] (fun iv wr => ∃ (i : Nat) (A : Option Addr) (d : Nat) (qs : List RY), i ≤ bn ∧ iv = .int .i64 i ∧ RfAt wr w.heap.size A m d qs ∧ askE (numsY qs) (k : Int) = 0 ∧ Below w.heap.size w wr) (fun iv _ => bn - (intOf iv).toNat)
  case atStart => exact ⟨0, P, c, rs, by omega, rfl, S2.out.1, HA.out, S2.out.2⟩
  case round =>
    obtain ⟨i, A, d, qs, hi, rfl, s3, ha3, b3⟩ := hrel
    have S3 := Lib.hid (And.intro s3 (And.intro ha3 b3))
    clear s3 ha3 b3
    by_cases hlt : i < bn
    · have HLT := Lib.hid hlt
      have i1 : (i : Int) < bn := by omega
      have i0 : 0 ≤ (i : Int) := by omega
      clear hi hlt
      go_upto_region 7 with fail
      go_cut [11, 12] (fun s11 s12 wx => ∃ g4 A4 d4 q4, s11 = .pointer (some ⟨g4, 0, none⟩) ∧ s12 = .int .i64 0 ∧ Lies wx g4 24 [.slice A4 m d4] ∧ OwnR wx w.heap.size (.slice A4 m d4) q4 ∧ askE (numsY q4) (k : Int) = 0 ∧ RfAt wx w.heap.size A m d qs ∧ Below w.heap.size w wx ∧ w.heap.size < g4)
      case first =>
        obtain ⟨b, off, rfl, hb, hc⟩ := hasB_some HBS.out.1 (by rw [HBS.out.2.1]; exact Nat.lt_of_le_of_lt (Nat.zero_le i) HLT.out)
        have HC : Hid (∀ x', Below w.heap.size w x' → x'.cell? ⟨b, off + i, none⟩ = some (.bool (bs.getD i false))) := Lib.hid (fun x' hx => ((bcell hx).1 b _ hb).trans (hc i (by rw [HBS.out.2.1]; exact HLT.out)))
        clear hb hc
        generalize bs.getD i false = bit at *
        have z1 := HC.out wr S3.out.2.2
        have z2 := S3.out.1.cell
        have hlt := (bcell S3.out.2.2)
        have HLA := Lib.hid (learn_at (k := k) (j := j) S3.out.2.1 HKJ.out.2.1 bit)
        have HLQ := Lib.hid (learn_ask S3.out.2.1 HKJ.out.2.1 bit)
        have HGL : Hid ((learnP (numsY qs) k j bit).length = m) := Lib.hid (by rw [learn_len]; exact rows_len S3.out.1.rows)
        clear hlt
        (have RD := grows_roads (S := fun x' => Below wr.heap.size wr x') (fun a b h1 h2 => below_bs h2 h1)); refine region_ord _ Grows RD (Below.drew (Below.refl wr.heap.size wr)) (by kernel_rfl) ?_; intro ops Q' hops hPQ hN; (have HNS : Hid (Region.noSelect ops = true) := Lib.hid (by rw [hops]; kernel_rfl)); (have hsz : ops.size = 14 := (by rw [hops]; rfl)); have HOP := Lib.hid hops; have HPQ := Lib.hid hPQ; have HN := Lib.hid hN; rw [hsz]; clear hops hsz hPQ hN
        refine ord_take RD 0 (at_list (by rw [HOP.out]; rfl)) HNS.out HPQ.out (by rw [HOP.out]; kernel_rfl) (by rw [HOP.out]; kernel_rfl) (by rw [HOP.out]; rfl) (fun K hK => ?_); apply Exists.intro; refine ⟨fun W hSW => ?_, hK _ ?_⟩; (focus ((try dsimp only at hSW); (have z1 := (S3.out.1.past hSW).cell); go_simp; try with_reducible rfl)); clear hK K; (try simp only [Act.put, List.setIfInBounds_toArray, List.set_cons_zero, List.set_cons_succ])
        refine ord_take RD 1 (at_list (by rw [HOP.out]; rfl)) HNS.out HPQ.out (by rw [HOP.out]; kernel_rfl) (by rw [HOP.out]; kernel_rfl) (by rw [HOP.out]; rfl) (fun K hK => ?_); apply Exists.intro; refine ⟨fun W hSW => ?_, hK _ ?_⟩; (focus ((try dsimp only at hSW); go_simp; try with_reducible rfl)); clear hK K; (try simp only [Act.put, List.setIfInBounds_toArray, List.set_cons_zero, List.set_cons_succ])
        refine ord_take RD 2 (at_list (by rw [HOP.out]; rfl)) HNS.out HPQ.out (by rw [HOP.out]; kernel_rfl) (by rw [HOP.out]; kernel_rfl) (by rw [HOP.out]; rfl) (fun K hK => ?_); apply Exists.intro; refine ⟨fun W hSW => ?_, hK _ ?_⟩; (focus ((try dsimp only at hSW); go_simp; try with_reducible rfl)); clear hK K; (try simp only [Act.put, List.setIfInBounds_toArray, List.set_cons_zero, List.set_cons_succ])
        refine ord_take RD 3 (at_list (by rw [HOP.out]; rfl)) HNS.out HPQ.out (by rw [HOP.out]; kernel_rfl) (by rw [HOP.out]; kernel_rfl) (by rw [HOP.out]; rfl) (fun K hK => ?_); apply Exists.intro; refine ⟨fun W hSW => ?_, hK _ ?_⟩; (focus ((try dsimp only at hSW); go_simp; try with_reducible rfl)); clear hK K; (try simp only [Act.put, List.setIfInBounds_toArray, List.set_cons_zero, List.set_cons_succ])
        refine ord_take RD 4 (at_list (by rw [HOP.out]; rfl)) HNS.out HPQ.out (by rw [HOP.out]; kernel_rfl) (by rw [HOP.out]; kernel_rfl) (by rw [HOP.out]; rfl) (fun K hK => ?_); apply Exists.intro; refine ⟨fun W hSW => ?_, hK _ ?_⟩; (focus ((try dsimp only at hSW); go_simp; try with_reducible rfl)); clear hK K; (try simp only [Act.put, List.setIfInBounds_toArray, List.set_cons_zero, List.set_cons_succ])
        refine ord_take RD 5 (at_list (by rw [HOP.out]; rfl)) HNS.out HPQ.out (by rw [HOP.out]; kernel_rfl) (by rw [HOP.out]; kernel_rfl) (by rw [HOP.out]; rfl) (fun K hK => ?_); apply Exists.intro; refine ⟨fun W hSW => ?_, hK _ ?_⟩; (focus ((try dsimp only at hSW); go_simp; try with_reducible rfl)); clear hK K; (try simp only [Act.put, List.setIfInBounds_toArray, List.set_cons_zero, List.set_cons_succ])
        refine ord_take RD 6 (at_list (by rw [HOP.out]; rfl)) HNS.out HPQ.out (by rw [HOP.out]; kernel_rfl) (by rw [HOP.out]; kernel_rfl) (by rw [HOP.out]; rfl) (fun K hK => ?_); apply Exists.intro; refine ⟨fun W hSW => ?_, hK _ ?_⟩; (focus ((try dsimp only at hSW); (have z1 := HC.out _ (below_bs S3.out.2.2 hSW)); go_simp; try with_reducible rfl)); clear hK K; (try simp only [Act.put, List.setIfInBounds_toArray, List.set_cons_zero, List.set_cons_succ])
        refine ord_two RD 7 11 (by rw [HOP.out]; kernel_rfl) (at_list (by rw [HOP.out]; rfl)) (at_list (by rw [HOP.out]; rfl)) (by rw [HOP.out]; rfl) (by rw [HOP.out]; rfl) ?_ ?_
        · intro W hWW hSW K hK
          go_simp
          refine (Learn_any A m d qs k j bit W (S3.out.1.past hSW).rows).mono ?_
          rintro e w3 ⟨A4, n4, d4, q4, rfl, o4, e4, b4⟩
          rw [HLA.out.1]
          rw [HLA.out.2] at e4
          refine hK _ _ (RD.keep b4 hSW) ?_
          have hn4 : n4 = m := by rw [← rows_len o4.rows, e4, HGL.out]
          subst hn4
          have H4 : Hid (OwnR w3 w.heap.size (.slice A4 n4 d4) q4 ∧ numsY q4 = learnP (numsY qs) k j bit ∧ wr.heap.size ≤ w3.heap.size) := Lib.hid ⟨o4.mono (Nat.le_trans S3.out.2.2.size hSW.size), e4, Nat.le_trans hSW.size b4.size⟩
          clear o4 e4 b4 hSW hWW
          clear hK K; (try simp only [Act.put, List.setIfInBounds_toArray, List.set_cons_zero, List.set_cons_succ])
          refine ord_take RD 8 (at_list (by rw [HOP.out]; rfl)) HNS.out HPQ.out (by rw [HOP.out]; kernel_rfl) (by rw [HOP.out]; kernel_rfl) (by rw [HOP.out]; rfl) (fun K hK => ?_); apply Exists.intro; refine ⟨fun W hSW => ?_, hK _ ?_⟩; (focus ((try dsimp only at hSW); go_simp; try with_reducible rfl)); clear hK K; (try simp only [Act.put, List.setIfInBounds_toArray, List.set_cons_zero, List.set_cons_succ])
          refine ord_take RD 9 (at_list (by rw [HOP.out]; rfl)) HNS.out HPQ.out (by rw [HOP.out]; kernel_rfl) (by rw [HOP.out]; kernel_rfl) (by rw [HOP.out]; rfl) (fun K hK => ?_); apply Exists.intro; refine ⟨fun W hSW => ?_, hK _ ?_⟩; (focus ((try dsimp only at hSW); go_simp; try with_reducible rfl)); clear hK K; (try simp only [Act.put, List.setIfInBounds_toArray, List.set_cons_zero, List.set_cons_succ])
          refine ord_take RD 10 (at_list (by rw [HOP.out]; rfl)) HNS.out HPQ.out (by rw [HOP.out]; kernel_rfl) (by rw [HOP.out]; kernel_rfl) (by rw [HOP.out]; rfl) (fun K hK => ?_); apply Exists.intro; refine ⟨fun W hSW => ?_, hK _ ?_⟩; (focus ((try dsimp only at hSW); go_simp; try with_reducible rfl)); clear hK K; (try simp only [Act.put, List.setIfInBounds_toArray, List.set_cons_zero, List.set_cons_succ])
          refine ord_one RD 11 (by rw [HOP.out]; kernel_rfl) (at_list (by rw [HOP.out]; rfl)) (by rw [HOP.out]; rfl) (fun W2 hWW hSW K hK => ?_); (try dsimp only at hSW)
          go_simp
          refine hK _ _ (RD.keep (grows_alloc W2 _) hSW) ?_
          have H5 : Hid (OwnR (W2.alloc (.cells #[.slice none 0 0] 24)) w.heap.size (.slice A4 n4 d4) q4 ∧ Lies (W2.alloc (.cells #[.slice none 0 0] 24)) W2.heap.size 24 [.slice none 0 0] ∧ wr.heap.size ≤ W2.heap.size) := Lib.hid ⟨(H4.out.1.past hWW).alloc _, Lies.fresh _ _ _, Nat.le_trans H4.out.2.2 hWW.size⟩
          clear hSW hWW
          clear hK K; (try simp only [Act.put, List.setIfInBounds_toArray, List.set_cons_zero, List.set_cons_succ])
          generalize (W2.alloc (.cells #[.slice none 0 0] 24)) = w5 at *
          generalize W2.heap.size = g4 at *
          refine ord_one RD 12 (by rw [HOP.out]; kernel_rfl) (at_list (by rw [HOP.out]; rfl)) (by rw [HOP.out]; rfl) (fun W3 hWW hSW K hK => ?_); (try dsimp only at hSW)
          have H6 : Hid (OwnR W3 w.heap.size (.slice A4 n4 d4) q4 ∧ Lies W3 g4 24 [.slice none 0 0] ∧ wr.heap.size ≤ g4) := Lib.hid ⟨H5.out.1.past hWW, H5.out.2.1.past hWW, H5.out.2.2⟩
          obtain ⟨z3, z4⟩ := H6.out.2.1.one
          go_simp
          refine hK _ _ (hSW.setCell H6.out.2.2 _) ?_
          have H7 : Hid (OwnR (W3.setCell ⟨g4, 0, none⟩ (.slice A4 n4 d4)) w.heap.size (.slice A4 n4 d4) q4 ∧ Lies (W3.setCell ⟨g4, 0, none⟩ (.slice A4 n4 d4)) g4 24 [.slice A4 n4 d4]) := Lib.hid ⟨H6.out.1.other H6.out.2.1 (by decide) (by decide) 0 _, H6.out.2.1.set 0 _⟩
          clear hSW hWW z3 z4
          clear hK K; (try simp only [Act.put, List.setIfInBounds_toArray, List.set_cons_zero, List.set_cons_succ])
          generalize (W3.setCell ⟨g4, 0, none⟩ (.slice A4 n4 d4)) = w7 at *
          refine ord_take RD 13 (at_list (by rw [HOP.out]; rfl)) HNS.out HPQ.out (by rw [HOP.out]; kernel_rfl) (by rw [HOP.out]; kernel_rfl) (by rw [HOP.out]; rfl) (fun K hK => ?_); apply Exists.intro; refine ⟨fun W hSW => ?_, hK _ ?_⟩; (focus ((try dsimp only at hSW); go_simp; try with_reducible rfl)); clear hK K; (try simp only [Act.put, List.setIfInBounds_toArray, List.set_cons_zero, List.set_cons_succ])
          refine ord_done (by rw [HOP.out]; kernel_rfl) (fun W8 hWW hSW => HN.out _ _ ?_); clear HOP HNS HPQ HN RD; (try dsimp only at hSW)
          have HF := Lib.hid (And.intro (H7.out.1.past hWW) (And.intro (H7.out.2.past hWW) hSW))
          clear hSW hWW
          go_wp2_with fail
          go_meet
          exact ⟨g4, A4, d4, q4, rfl, rfl, HF.out.2.1, HF.out.1, by rw [H4.out.2.1]; exact HLQ.out, S3.out.1.past HF.out.2.2, below_bs S3.out.2.2 HF.out.2.2, Nat.lt_of_lt_of_le S3.out.1.lies.lt H6.out.2.2⟩
        · intro W hWW hSW K hK
          go_simp
          refine hK _ _ (RD.keep (grows_alloc W _) hSW) ?_
          have H5 : Hid (Lies (W.alloc (.cells #[.slice none 0 0] 24)) W.heap.size 24 [.slice none 0 0] ∧ wr.heap.size ≤ W.heap.size) := Lib.hid ⟨Lies.fresh _ _ _, hSW.size⟩
          clear hSW hWW
          clear hK K; (try simp only [Act.put, List.setIfInBounds_toArray, List.set_cons_zero, List.set_cons_succ])
          generalize (W.alloc (.cells #[.slice none 0 0] 24)) = w5 at *
          generalize W.heap.size = g4 at *
          refine ord_one RD 7 (by rw [HOP.out]; kernel_rfl) (at_list (by rw [HOP.out]; rfl)) (by rw [HOP.out]; rfl) (fun W2 hWW hSW K hK => ?_); (try dsimp only at hSW)
          go_simp
          refine (Learn_any A m d qs k j bit W2 (S3.out.1.past hSW).rows).mono ?_
          rintro e w3 ⟨A4, n4, d4, q4, rfl, o4, e4, b4⟩
          rw [HLA.out.1]
          rw [HLA.out.2] at e4
          refine hK _ _ (RD.keep b4 hSW) ?_
          have hn4 : n4 = m := by rw [← rows_len o4.rows, e4, HGL.out]
          subst hn4
          have H4 : Hid (OwnR w3 w.heap.size (.slice A4 n4 d4) q4 ∧ numsY q4 = learnP (numsY qs) k j bit ∧ Lies w3 g4 24 [.slice none 0 0]) := Lib.hid ⟨o4.mono (Nat.le_trans S3.out.2.2.size hSW.size), e4, (H5.out.1.past hWW).past b4⟩
          clear o4 e4 b4 hSW hWW
          clear hK K; (try simp only [Act.put, List.setIfInBounds_toArray, List.set_cons_zero, List.set_cons_succ])
          refine ord_take RD 8 (at_list (by rw [HOP.out]; rfl)) HNS.out HPQ.out (by rw [HOP.out]; kernel_rfl) (by rw [HOP.out]; kernel_rfl) (by rw [HOP.out]; rfl) (fun K hK => ?_); apply Exists.intro; refine ⟨fun W hSW => ?_, hK _ ?_⟩; (focus ((try dsimp only at hSW); go_simp; try with_reducible rfl)); clear hK K; (try simp only [Act.put, List.setIfInBounds_toArray, List.set_cons_zero, List.set_cons_succ])
          refine ord_take RD 9 (at_list (by rw [HOP.out]; rfl)) HNS.out HPQ.out (by rw [HOP.out]; kernel_rfl) (by rw [HOP.out]; kernel_rfl) (by rw [HOP.out]; rfl) (fun K hK => ?_); apply Exists.intro; refine ⟨fun W hSW => ?_, hK _ ?_⟩; (focus ((try dsimp only at hSW); go_simp; try with_reducible rfl)); clear hK K; (try simp only [Act.put, List.setIfInBounds_toArray, List.set_cons_zero, List.set_cons_succ])
          refine ord_take RD 10 (at_list (by rw [HOP.out]; rfl)) HNS.out HPQ.out (by rw [HOP.out]; kernel_rfl) (by rw [HOP.out]; kernel_rfl) (by rw [HOP.out]; rfl) (fun K hK => ?_); apply Exists.intro; refine ⟨fun W hSW => ?_, hK _ ?_⟩; (focus ((try dsimp only at hSW); go_simp; try with_reducible rfl)); clear hK K; (try simp only [Act.put, List.setIfInBounds_toArray, List.set_cons_zero, List.set_cons_succ])
          refine ord_one RD 12 (by rw [HOP.out]; kernel_rfl) (at_list (by rw [HOP.out]; rfl)) (by rw [HOP.out]; rfl) (fun W3 hWW hSW K hK => ?_); (try dsimp only at hSW)
          have H6 : Hid (OwnR W3 w.heap.size (.slice A4 n4 d4) q4 ∧ Lies W3 g4 24 [.slice none 0 0] ∧ wr.heap.size ≤ g4) := Lib.hid ⟨H4.out.1.past hWW, H4.out.2.2.past hWW, H5.out.2⟩
          obtain ⟨z3, z4⟩ := H6.out.2.1.one
          go_simp
          refine hK _ _ (hSW.setCell H6.out.2.2 _) ?_
          have H7 : Hid (OwnR (W3.setCell ⟨g4, 0, none⟩ (.slice A4 n4 d4)) w.heap.size (.slice A4 n4 d4) q4 ∧ Lies (W3.setCell ⟨g4, 0, none⟩ (.slice A4 n4 d4)) g4 24 [.slice A4 n4 d4]) := Lib.hid ⟨H6.out.1.other H6.out.2.1 (by decide) (by decide) 0 _, H6.out.2.1.set 0 _⟩
          clear hSW hWW z3 z4
          clear hK K; (try simp only [Act.put, List.setIfInBounds_toArray, List.set_cons_zero, List.set_cons_succ])
          generalize (W3.setCell ⟨g4, 0, none⟩ (.slice A4 n4 d4)) = w7 at *
          refine ord_take RD 13 (at_list (by rw [HOP.out]; rfl)) HNS.out HPQ.out (by rw [HOP.out]; kernel_rfl) (by rw [HOP.out]; kernel_rfl) (by rw [HOP.out]; rfl) (fun K hK => ?_); apply Exists.intro; refine ⟨fun W hSW => ?_, hK _ ?_⟩; (focus ((try dsimp only at hSW); go_simp; try with_reducible rfl)); clear hK K; (try simp only [Act.put, List.setIfInBounds_toArray, List.set_cons_zero, List.set_cons_succ])
          refine ord_done (by rw [HOP.out]; kernel_rfl) (fun W8 hWW hSW => HN.out _ _ ?_); clear HOP HNS HPQ HN RD; (try dsimp only at hSW)
          have HF := Lib.hid (And.intro (H7.out.1.past hWW) (And.intro (H7.out.2.past hWW) hSW))
          clear hSW hWW
          go_wp2_with fail
          go_meet
          exact ⟨g4, A4, d4, q4, rfl, rfl, HF.out.2.1, HF.out.1, by rw [H4.out.2.1]; exact HLQ.out, S3.out.1.past HF.out.2.2, below_bs S3.out.2.2 HF.out.2.2, Nat.lt_of_lt_of_le S3.out.1.lies.lt H6.out.2.2⟩
      case rest =>
        obtain ⟨g4, A4, d4, q4, rfl, rfl, s4⟩ := hcut
        rename World => wx
        have S4 := Lib.hid s4
        have R4 : Hid (RfAt wx g4 A4 m d4 q4) := Lib.hid ⟨s4.1, s4.2.1.rows⟩
        clear s4 S3
        have x1 := R4.out.cell
        go_wp2_with fail
        clear x1
        refine (rCheck_any A4 m d4 q4 wx R4.out.rows).mono ?_
        rintro e w5 ⟨rfl, b5⟩
        rw [rfE_yes (ask_zero S4.out.2.2.1).1]
        have S5 : Hid (Lies w5 g4 24 [.slice A4 m d4] ∧ OwnR w5 w.heap.size (.slice A4 m d4) q4 ∧ Lies w5 w.heap.size 24 [.slice A m d] ∧ Below w.heap.size w w5) := Lib.hid ⟨S4.out.1.past b5, S4.out.2.1.past b5, S4.out.2.2.2.1.lies.past b5, below_bs S4.out.2.2.2.2.1 b5⟩
        clear b5
        obtain ⟨x1, -⟩ := S5.out.1.one
        obtain ⟨x2, x3⟩ := S5.out.2.2.1.one
        go_wp2_with fail
        have hne : (⟨w.heap.size, 0, none⟩ : Addr).block ≠ g4 := by have h1 := S4.out.2.2.2.2.2; show w.heap.size ≠ g4; omega
        exact ⟨⟨i + 1, A4, d4, q4, by have := HLT.out; omega, by go_num, ⟨S5.out.2.2.1.set 0 _, (S5.out.2.1.other S5.out.2.2.1 (by decide) (by decide) 0 _).rows⟩, S4.out.2.2.1, S5.out.2.2.2.setCell (Nat.le_refl _) _⟩, by simp [intOf]; have := HLT.out; omega⟩
    · have i1 : ¬ (i : Int) < bn := by omega
      clear hi hlt
      by_cases hb0 : bn = 0
      · have hb1 : ((bn : Int) == 0) = true := by simp [hb0]
        clear hb0
        go_wp2_with fail
        go_ret
        exact ⟨rfl, S3.out.2.2⟩
      · have hb1 : ((bn : Int) == 0) = false := by simp; omega
        have b1 : 1 ≤ (bn : Int) := by omega
        obtain ⟨b, off, rfl, hb, hc⟩ := hasB_some HBS.out.1 (by rw [HBS.out.2.1]; omega)
        have z1 : wr.cell? ⟨b, off + (bn - 1), none⟩ = some (.bool (bs.getD (bn - 1) false)) := ((bcell S3.out.2.2).1 b _ hb).trans (hc (bn - 1) (by rw [HBS.out.2.1]; omega))
        have e1 : ((bn : Int) - 1).toNat = bn - 1 := by omega
        have e2 : IntKind.i64.wrap ((bn : Int) - 1) = (bn : Int) - 1 := IntWalk.i64_in _ (by omega)
        clear hb0 hb hc
        generalize bs.getD (bn - 1) false = last at *
        generalize bn - 1 = b9 at *
        go_wp2_with fail
        obtain ⟨t0, ht0⟩ : ∃ t0, ((numsY qs).getD k []).getD j 0 = t0 := ⟨_, rfl⟩
        have HT0 : Hid (((numsY qs).getD k []).getD j 0 = mvN 0 t0 last ∧ 0 ≤ t0 ∧ t0 ≤ 65535) := Lib.hid ⟨ht0, by
          obtain ⟨a1, a2, a3⟩ := ask_zero S3.out.2.1
          rw [← ht0]
          exact row_at (rf_row a1 k (by omega)) j HKJ.out.2.1⟩
        clear ht0 z1 e1 e2
        go_loopw [14] (fun iv wz => ∃ (i : Nat) (A : Option Addr) (d : Nat) (qs : List RY), i ≤ 700 ∧ iv = .int .i64 i ∧ RfAt wz w.heap.size A m d qs ∧ askE (numsY qs) (k : Int) = 0 ∧ ((numsY qs).getD k []).getD j 0 = mvN i t0 last ∧ Below w.heap.size w wz) (fun iv _ => 700 - (intOf iv).toNat)
        case atStart => exact ⟨0, A, d, qs, by omega, rfl, S3.out.1, S3.out.2.1, HT0.out.1, S3.out.2.2⟩
        case round =>
          have HB0 := Lib.hid HT0.out.2
          clear S3 HT0
          obtain ⟨i, A, d, qs, hi, rfl, s3, ha3, ht3, b3⟩ := hrel
          have S3 := Lib.hid (And.intro s3 (And.intro ha3 (And.intro ht3 b3)))
          have HQM := Lib.hid (rows_len s3.rows)
          clear s3 ha3 ht3 b3
          by_cases hlt : i < 700
          · have HLT := Lib.hid hlt
            have i1 : (i : Int) < 700 := by omega
            have i0 : 0 ≤ (i : Int) := by omega
            clear hi hlt
            have HLA := Lib.hid (learn_at (k := k) (j := j) S3.out.2.1 HKJ.out.2.1 last)
            have HLQ := Lib.hid (learn_ask S3.out.2.1 HKJ.out.2.1 last)
            have HGL : Hid ((learnP (numsY qs) k j last).length = m) := Lib.hid (by rw [learn_len]; exact HQM.out)
            have HPM : Hid (((learnP (numsY qs) k j last).getD k []).getD j 0 = mvN (i + 1) t0 last) := Lib.hid (by
              obtain ⟨a1, a2, a3⟩ := ask_zero S3.out.2.1
              rw [learn_at_place a1 (by omega) HKJ.out.2.1, S3.out.2.2.1]
              rfl)
            have HRL : Hid (((learnP (numsY qs) k j last).getD k []).length = 33) := Lib.hid (by
              obtain ⟨a1, a2, a3⟩ := ask_zero HLQ.out
              exact ((rowB_iff _).1 (rf_row a1 k (by omega))).1)
            have x1 := S3.out.1.cell
            go_wp2_with fail
            clear x1
            refine (Learn_any A m d qs k j last wr S3.out.1.rows).mono ?_
            rintro e w3 ⟨A4, n4, d4, q4, rfl, o4, e4, b4⟩
            rw [HLA.out.1]
            rw [HLA.out.2] at e4
            have hn4 : n4 = m := by rw [← rows_len o4.rows, e4, HGL.out]
            subst hn4
            have S5 : Hid (OwnR (w3.alloc (.cells #[.slice A4 n4 d4] 24)) w.heap.size (.slice A4 n4 d4) q4 ∧ Lies (w3.alloc (.cells #[.slice A4 n4 d4] 24)) w3.heap.size 24 [.slice A4 n4 d4] ∧ Lies (w3.alloc (.cells #[.slice A4 n4 d4] 24)) w.heap.size 24 [.slice A n4 d] ∧ Below w.heap.size w (w3.alloc (.cells #[.slice A4 n4 d4] 24)) ∧ w.heap.size < w3.heap.size) := Lib.hid ⟨(o4.mono S3.out.2.2.2.size).alloc _, Lies.fresh _ _ _, (S3.out.1.lies.past b4).alloc _, below_al (below_bs S3.out.2.2.2 b4) _, Nat.lt_of_lt_of_le S3.out.1.lies.lt b4.size⟩
            have E4 := Lib.hid e4
            clear o4 e4 b4
            go_upto_region 18 with fail
            generalize (w3.alloc (.cells #[.slice A4 n4 d4] 24)) = w5 at *
            generalize w3.heap.size = g4 at *
            obtain ⟨b', o', bb', oo', cc', hP', y3, -⟩ := row_cells S5.out.1.rows k 0 HKJ.out.1 (by rw [E4.out, HRL.out]; decide)
            rw [E4.out, HRL.out] at y3
            subst hP'
            obtain ⟨x1, -⟩ := S5.out.2.1.one
            obtain ⟨x2, x3⟩ := S5.out.2.2.1.one
            go_wp2_with fail
            have hne : (⟨w.heap.size, 0, none⟩ : Addr).block ≠ g4 := by have h1 := S5.out.2.2.2.2; show w.heap.size ≠ g4; omega
            exact ⟨⟨i + 1, some ⟨b', o', none⟩, d4, q4, by have := HLT.out; omega, by go_num, ⟨S5.out.2.2.1.set 0 _, (S5.out.1.other S5.out.2.2.1 (by decide) (by decide) 0 _).rows⟩, by rw [E4.out]; exact HLQ.out, by rw [E4.out]; exact HPM.out, S5.out.2.2.2.1.setCell (Nat.le_refl _) _⟩, by simp [intOf]; have := HLT.out; omega⟩
          · have i1 : ¬ (i : Int) < 700 := by omega
            obtain rfl : i = 700 := by omega
            clear hi hlt
            obtain ⟨a1, a2, a3⟩ := ask_zero S3.out.2.1
            have hrw := rf_row a1 k (by omega)
            obtain ⟨b', o', bb', oo', cc', hP', y3, y4⟩ := row_cells S3.out.1.rows k j HKJ.out.1 (by rw [((rowB_iff _).1 hrw).1]; exact HKJ.out.2.1)
            rw [((rowB_iff _).1 hrw).1] at y3
            rw [S3.out.2.2.1] at y4
            have hend : 0 ≤ mvN 700 t0 last ∧ mvN 700 t0 last ≤ 65535 := mvN_in last HB0.out.1 HB0.out.2 700
            have hend2 : (last = false → mvN 700 t0 last < 64) ∧ (last = true → 65471 < mvN 700 t0 last) := ⟨fun e => by subst e; exact (ends_low HB0.out.1 HB0.out.2).2, fun e => by subst e; have := (ends_high HB0.out.1 HB0.out.2).1; omega⟩
            have HE2 := Lib.hid hend2
            clear hrw a1 a2 a3 hend2
            obtain ⟨h0, h1⟩ := hend
            subst hP'
            have x1 := S3.out.1.cell
            have j33 : (j : Int) < 33 := by omega
            generalize mvN 700 t0 last = tt at *
            cases last
            · have h2 := HE2.out.1 rfl
              go_wp2_with fail
              go_ret
              exact ⟨rfl, S3.out.2.2.2⟩
            · have h2 := HE2.out.2 rfl
              go_wp2_with fail
              go_ret
              exact ⟨rfl, S3.out.2.2.2⟩
theorem long_law (P : Option Addr) (m c : Nat) (rs : List RY) (row near : Int) (B : Option Addr) (bn bc : Nat) (bs : List Bool) (w : World) (h : RowsY w P m c rs) (_ : -9223372036854775808 ≤ row) (_ : row ≤ 9223372036854775807) (_ : -9223372036854775808 ≤ near) (_ : near ≤ 9223372036854775807) (hb : IsRowB w B bn bc bs) (hT : Tab w) :
    Calls Tryd.prog 7 #[.agg #[.slice P m c], .int .i64 row, .int .i64 near, .slice B bn bc] w fun e w' => e = .returned (.bool true) ∧ Below w.heap.size w w' := by
  by_cases ho : (5 : Int) < m ∨ fitB (numsY rs) row = false ∨ near < 0 ∨ 32 < near ∨ (40 : Int) < bn
  · exact long_out P m c rs row near B bn bc bs w h hb hT ho
  · have hf : fitB (numsY rs) row = true := by
      cases hh : fitB (numsY rs) row
      · exact absurd (.inr (.inl hh)) ho
      · rfl
    obtain ⟨_, _, f0, _⟩ := fit_iff hf
    have e0 : ((row.toNat : Nat) : Int) = row := by omega
    have := long_in P m c rs row.toNat near.toNat B bn bc bs w h hb hT (by omega) (by rw [e0]; exact hf) (by omega) (by omega)
    rw [e0, show ((near.toNat : Nat) : Int) = near by omega] at this
    exact this
end Go.Proofs.YteepnindbcaahaaDoor.rfL
