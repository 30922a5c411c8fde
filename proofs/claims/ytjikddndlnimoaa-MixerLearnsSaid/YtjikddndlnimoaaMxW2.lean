/- Whether a set and inputs are asked rightly; how wrong a probability is: walks. -/
import Derived.Test.YtjikddndlnimoaaMxW
namespace Go.Proofs.Ytjikddndlnimoaa.mxW
set_option maxRecDepth 100000
open Go.RowKit Go.Proofs.Ytjikddndlnimoaa.base Go.Proofs.Ytjikddndlnimoaa.rfP Go.Proofs.Ytjikddndlnimoaa.mxP
set_option linter.unusedVariables false
set_option linter.unusedSimpArgs false
/-- A row of words that came in, with any number of them. -/
structure In8 (w : World) (B : Option Addr) (n c : Nat) (ys : List Int) : Prop where
  h : Has .i32 w B ys
  e : ys.length = n
  c1 : n ≤ c
  c2 : c ≤ 9223372036854775807
  b : ∀ z ∈ ys, -2147483648 ≤ z ∧ z ≤ 2147483647
theorem In8.past {w w' : World} {B : Option Addr} {n c : Nat} {ys : List Int} (h : In8 w B n c ys) (hb : Below w.heap.size w w') : In8 w' B n c ys := ⟨h.h.below hb (Nat.le_refl _), h.e, h.c1, h.c2, h.b⟩
theorem in8_of {w : World} {a : Option Addr} {len cap : Nat} {zs : List Int} (h : IsRow .i32 w a len cap zs) : In8 w a len cap (zs.take len) := by
  obtain ⟨h1, h2, h3, h4⟩ := has_of_row h
  refine ⟨h1, h2, ?_, ?_, fun z hz => bounds_i32 (h4 z hz)⟩
  · rcases h with ⟨_, rfl, rfl, _⟩ | ⟨x, _, h5, _⟩
    · exact Nat.le_refl _
    · exact h5
  · rcases h with ⟨_, rfl, rfl, _⟩ | ⟨x, _, _, h5, _⟩
    · decide
    · unfold maxLen at h5; exact h5
set_option maxHeartbeats 800000 in
theorem In_any (B : Option Addr) (n c : Nat) (ys : List Int) (w : World) (h : In8 w B n c ys) :
    Calls Try.prog 22 #[.slice B n c] w fun e w' => e = .returned (.bool (inB ys)) ∧ Below w.heap.size w w' := by
  have HE : Hid (ys.length = n) := Lib.hid h.e
  have n9 : (n : Int) ≤ 9223372036854775807 := by have := h.c1; have := h.c2; omega
  by_cases hn : n = 8
  · subst hn
    obtain ⟨b, off, rfl, hb, hc⟩ := has_some h.h (by rw [HE.out]; decide)
    have HC : Hid (∀ j, j < 8 → w.cell? ⟨b, off + j, none⟩ = some (.int .i32 (ys.getD j 0))) := Lib.hid (fun j hj => hc j (by rw [HE.out]; exact hj))
    clear h hb hc
    go_enter Try.func22, Try.ntmps22
    go_wp2_with fail
    go_loopw [3] (fun iv wr => ∃ j : Nat, j ≤ 8 ∧ iv = .int .i64 j ∧ upIn ys j ∧ wr = w) (fun iv _ => 8 - (intOf iv).toNat)
    case atStart => exact ⟨0, by omega, rfl, fun x hx => absurd hx (by omega), rfl⟩
    case round =>
      obtain ⟨j, hj, rfl, hup, rfl⟩ := hrel
      have HUP := Lib.hid hup
      by_cases hlt : j < 8
      · have HJ := Lib.hid hlt
        have j1 : (j : Int) < 8 := by omega
        have j0 : 0 ≤ (j : Int) := by omega
        have z2 := HC.out j hlt
        have HN : Hid (¬ (-2047 ≤ ys.getD j 0 ∧ ys.getD j 0 ≤ 2047) → inB ys = false) := Lib.hid (fun hn => upIn_not (by rw [HE.out]; exact hlt) hn)
        have HU : Hid (-2047 ≤ ys.getD j 0 ∧ ys.getD j 0 ≤ 2047 → upIn ys (j + 1)) := Lib.hid (fun hn x hx => by
          rcases Nat.lt_or_ge x j with h1 | h1
          · exact hup x h1
          · have : x = j := by omega
            subst this
            exact hn)
        generalize ys.getD j 0 = y at *
        clear hj hup hlt
        by_cases c1 : y < -2047
        · go_wp2_with fail
          refine bodyPost_ret (by simp [results, Try.results22, go_sem, ]; try rfl) rfl ?_
          exact ⟨by rw [HN.out (by omega)], Below.refl _ _⟩
        by_cases c2 : 2047 < y
        · have c1' : decide (y < -2047) = false := decide_eq_false c1
          have c3 : 0 ≤ y := by omega
          clear c1
          go_wp2_with fail
          refine bodyPost_ret (by simp [results, Try.results22, go_sem, ]; try rfl) rfl ?_
          exact ⟨by rw [HN.out (by omega)], Below.refl _ _⟩
        · go_wp2_with fail
          exact ⟨⟨j + 1, by have := HJ.out; omega, by go_num, HU.out (by omega), by trivial⟩, by simp [intOf]; have := HJ.out; omega⟩
      · have HY := Lib.hid (upIn_all HE.out ((show j = 8 by omega) ▸ hup))
        have j1 : ¬ (j : Int) < 8 := by omega
        clear hj hup hlt
        go_wp2_with fail
        refine bodyPost_ret (by simp [results, Try.results22, go_sem, ]; try rfl) rfl ?_
        exact ⟨by rw [HY.out], Below.refl _ _⟩
  · have hn' : ¬ (n : Int) = 8 := by omega
    rw [inB_len (by rw [HE.out]; exact hn)]
    clear h
    go_enter Try.func22, Try.ntmps22
    go_wp2_with fail
    go_ret
    exact ⟨rfl, Below.refl _ _⟩
set_option maxHeartbeats 800000 in
theorem rAsked_any (P : Option Addr) (m c : Nat) (rs : List RY) (set : Int) (B : Option Addr) (n d : Nat) (ys : List Int) (w : World) (h : RowsY w P m c rs) (hi : In8 w B n d ys) :
    Calls Try.prog 18 #[.agg #[.slice P m c], .int .i64 set, .slice B n d] w fun e w' => e = .returned (.int .i64 (mAskE (numsY rs) set ys)) ∧ Below w.heap.size w w' := by
  have H := Lib.hid (And.intro h hi)
  have HLN : Hid ((numsY rs).length = m) := Lib.hid (by rw [nums_len]; exact h.l)
  have LB : Hid (MxAt (w.alloc (.cells #[.slice P m c] 24)) w.heap.size P m c rs ∧ Below w.heap.size w (w.alloc (.cells #[.slice P m c] 24))) := Lib.hid ⟨mxAt_new h, by (repeat' (first | (with_reducible exact Below.refl _ _) | (with_reducible assumption) | (with_reducible refine below_drewN ?_ _) | (with_reducible refine below_new ?_ _) | (with_reducible refine Below.alloc ?_ ?_ _) | (with_reducible refine Below.drew ?_) | (with_reducible refine Below.setCell ?_ ?_ _) | (with_reducible apply below_at; (case k => (with_reducible assumption)); (case hB => omega)) | (with_reducible apply below_on; (with_reducible assumption)) | (go_size; done) | (with_reducible apply size_of)))⟩
  clear h hi
  cases hr : mxB (numsY rs)
  · have HE := Lib.hid (mxE_no hr)
    have HA := Lib.hid (mAsk_bad (set := set) (ins := ys) hr)
    clear hr
    go_enter Try.func18, Try.ntmps18
    go_wp2_with fail
    generalize (w.alloc (.cells #[.slice P m c] 24)) = w0 at *
    refine (rCheck_any P m c rs w0 LB.out.1.rows).mono ?_
    rintro e w1 ⟨rfl, hb1⟩
    rw [HE.out]
    have L1 := Lib.hid (And.intro (LB.out.1.past hb1) (below_bs LB.out.2 hb1))
    have x1 := L1.out.1.cell
    clear hb1
    go_wp2_with fail
    refine (rCheck_any P m c rs w1 L1.out.1.rows).mono ?_
    rintro e w2 ⟨rfl, hb2⟩
    rw [HE.out]
    have HB2 : Hid (Below w.heap.size w w2) := Lib.hid (below_bs L1.out.2 hb2)
    clear hb2 x1
    go_wp2_with fail
    refine bodyPost_ret (by simp [results, Try.results18, go_sem, ]; try rfl) rfl ?_
    exact ⟨by rw [HA.out], HB2.out⟩
  · have HE := Lib.hid (mxE_yes hr)
    have HRB := Lib.hid hr
    clear hr
    go_enter Try.func18, Try.ntmps18
    go_wp2_with fail
    generalize (w.alloc (.cells #[.slice P m c] 24)) = w0 at *
    refine (rCheck_any P m c rs w0 LB.out.1.rows).mono ?_
    rintro e w1 ⟨rfl, hb1⟩
    rw [HE.out]
    have L1 := Lib.hid (And.intro (LB.out.1.past hb1) (below_bs LB.out.2 hb1))
    have x1 := L1.out.1.cell
    clear hb1
    by_cases a1 : set < 0
    · have HA := Lib.hid (mAsk_no (set := set) (ins := ys) HRB.out (.inl a1))
      go_wp2_with fail
      refine bodyPost_ret (by simp [results, Try.results18, go_sem, ]; try rfl) rfl ?_
      exact ⟨by rw [HA.out], L1.out.2⟩
    by_cases a2 : (m : Int) ≤ set
    · have HA := Lib.hid (mAsk_no (set := set) (ins := ys) HRB.out (.inr (.inl (by rw [HLN.out]; exact a2))))
      go_wp2_with fail
      refine bodyPost_ret (by simp [results, Try.results18, go_sem, ]; try rfl) rfl ?_
      exact ⟨by rw [HA.out], L1.out.2⟩
    cases hin : inB ys
    · have HA := Lib.hid (mAsk_no (set := set) (ins := ys) HRB.out (.inr (.inr hin)))
      have HI := Lib.hid hin
      clear hin
      go_wp2_with fail
      refine (In_any B n d ys w1 (H.out.2.past L1.out.2)).mono ?_
      rintro e w2 ⟨rfl, hb2⟩
      rw [HI.out]
      have HB2 : Hid (Below w.heap.size w w2) := Lib.hid (below_bs L1.out.2 hb2)
      clear hb2 x1
      go_wp2_with fail
      refine bodyPost_ret (by simp [results, Try.results18, go_sem, ]; try rfl) rfl ?_
      exact ⟨by rw [HA.out], HB2.out⟩
    · have HA := Lib.hid (mAsk_ok (set := set) (ins := ys) HRB.out (by omega) (by rw [HLN.out]; omega) hin)
      have HI := Lib.hid hin
      clear hin
      go_wp2_with fail
      refine (In_any B n d ys w1 (H.out.2.past L1.out.2)).mono ?_
      rintro e w2 ⟨rfl, hb2⟩
      rw [HI.out]
      have HB2 : Hid (Below w.heap.size w w2) := Lib.hid (below_bs L1.out.2 hb2)
      clear hb2 x1
      go_wp2_with fail
      refine bodyPost_ret (by simp [results, Try.results18, go_sem, ]; try rfl) rfl ?_
      exact ⟨by rw [HA.out], HB2.out⟩
set_option maxHeartbeats 800000 in
theorem checkIn_any (P : Option Addr) (m c : Nat) (rs : List RY) (set : Int) (B : Option Addr) (n d : Nat) (ys : List Int) (w : World) (h : RowsY w P m c rs) (hi : In8 w B n d ys) :
    Calls Try.prog 10 #[.agg #[.slice P m c], .int .i64 set, .slice B n d] w fun e w' => e = .returned (.int .i64 (mAskE (numsY rs) set ys)) ∧ Below w.heap.size w w' := by
  have H := Lib.hid (And.intro h hi)
  have HLN : Hid ((numsY rs).length = m) := Lib.hid (by rw [nums_len]; exact h.l)
  have HE8 : Hid (ys.length = n) := Lib.hid hi.e
  have n9 : (n : Int) ≤ 9223372036854775807 := by have := hi.c1; have := hi.c2; omega
  have LB : Hid (MxAt (w.alloc (.cells #[.slice P m c] 24)) w.heap.size P m c rs ∧ Below w.heap.size w (w.alloc (.cells #[.slice P m c] 24))) := Lib.hid ⟨mxAt_new h, by (repeat' (first | (with_reducible exact Below.refl _ _) | (with_reducible assumption) | (with_reducible refine below_drewN ?_ _) | (with_reducible refine below_new ?_ _) | (with_reducible refine Below.alloc ?_ ?_ _) | (with_reducible refine Below.drew ?_) | (with_reducible refine Below.setCell ?_ ?_ _) | (with_reducible apply below_at; (case k => (with_reducible assumption)); (case hB => omega)) | (with_reducible apply below_on; (with_reducible assumption)) | (go_size; done) | (with_reducible apply size_of)))⟩
  clear h hi
  cases hr : mxB (numsY rs)
  · have HE := Lib.hid (mxE_no hr)
    have HA := Lib.hid (mAsk_bad (set := set) (ins := ys) hr)
    clear hr
    go_enter Try.func10, Try.ntmps10
    go_wp2_with fail
    generalize (w.alloc (.cells #[.slice P m c] 24)) = w0 at *
    refine (Check_any P m c rs w0 LB.out.1.rows).mono ?_
    rintro e w1 ⟨rfl, hb1⟩
    rw [HE.out]
    have L1 := Lib.hid (And.intro (LB.out.1.past hb1) (below_bs LB.out.2 hb1))
    clear hb1
    go_wp2_with fail
    refine bodyPost_ret (by simp [results, Try.results10, go_sem, ]; try rfl) rfl ?_
    exact ⟨by rw [HA.out], L1.out.2⟩
  · have HE := Lib.hid (mxE_yes hr)
    have HRB := Lib.hid hr
    clear hr
    go_enter Try.func10, Try.ntmps10
    go_wp2_with fail
    generalize (w.alloc (.cells #[.slice P m c] 24)) = w0 at *
    refine (Check_any P m c rs w0 LB.out.1.rows).mono ?_
    rintro e w1 ⟨rfl, hb1⟩
    rw [HE.out]
    have L1 := Lib.hid (And.intro (LB.out.1.past hb1) (below_bs LB.out.2 hb1))
    have x1 := L1.out.1.cell
    clear hb1
    by_cases a1 : set < 0
    · have HA := Lib.hid (mAsk_no (set := set) (ins := ys) HRB.out (.inl a1))
      go_wp2_with fail
      refine bodyPost_ret (by simp [results, Try.results10, go_sem, ]; try rfl) rfl ?_
      exact ⟨by rw [HA.out], L1.out.2⟩
    by_cases a2 : (m : Int) ≤ set
    · have HA := Lib.hid (mAsk_no (set := set) (ins := ys) HRB.out (.inr (.inl (by rw [HLN.out]; exact a2))))
      go_wp2_with fail
      refine bodyPost_ret (by simp [results, Try.results10, go_sem, ]; try rfl) rfl ?_
      exact ⟨by rw [HA.out], L1.out.2⟩
    by_cases hn : n = 8
    · subst hn
      have hi := H.out.2
      obtain ⟨b, off, rfl, hb, hc⟩ := has_some hi.h (by rw [HE8.out]; decide)
      have HC : Hid (∀ j, j < 8 → w1.cell? ⟨b, off + j, none⟩ = some (.int .i32 (ys.getD j 0))) := Lib.hid (fun j hj => ((bcell L1.out.2).1 b _ hb).trans (hc j (by rw [HE8.out]; exact hj)))
      have HAN : Hid (inB ys = false → mAskE (numsY rs) set ys = 2) := Lib.hid (fun hin => mAsk_no HRB.out (.inr (.inr hin)))
      have HAY : Hid (inB ys = true → mAskE (numsY rs) set ys = 0) := Lib.hid (fun hin => mAsk_ok HRB.out (by omega) (by rw [HLN.out]; omega) hin)
      clear hi hb hc
      go_wp2_with fail
      clear x1
      go_loopw [31] (fun iv wr => ∃ j : Nat, j ≤ 8 ∧ iv = .int .i64 j ∧ upIn ys j ∧ wr = w1) (fun iv _ => 8 - (intOf iv).toNat)
      case atStart => exact ⟨0, by omega, rfl, fun x hx => absurd hx (by omega), rfl⟩
      case round =>
        obtain ⟨j, hj, rfl, hup, rfl⟩ := hrel
        have HUP := Lib.hid hup
        by_cases hlt : j < 8
        · have HJ := Lib.hid hlt
          have j1 : (j : Int) < 8 := by omega
          have j0 : 0 ≤ (j : Int) := by omega
          have z2 := HC.out j hlt
          have HN : Hid (¬ (-2047 ≤ ys.getD j 0 ∧ ys.getD j 0 ≤ 2047) → inB ys = false) := Lib.hid (fun hn => upIn_not (by rw [HE8.out]; exact hlt) hn)
          have HU : Hid (-2047 ≤ ys.getD j 0 ∧ ys.getD j 0 ≤ 2047 → upIn ys (j + 1)) := Lib.hid (fun hn x hx => by
            rcases Nat.lt_or_ge x j with h1 | h1
            · exact hup x h1
            · have : x = j := by omega
              subst this
              exact hn)
          generalize ys.getD j 0 = y at *
          clear hj hup hlt
          by_cases c1 : y < -2047
          · go_wp2_with fail
            refine bodyPost_ret (by simp [results, Try.results10, go_sem, ]; try rfl) rfl ?_
            exact ⟨by rw [HAN.out (HN.out (by omega))], L1.out.2⟩
          by_cases c2 : 2047 < y
          · have c1' : decide (y < -2047) = false := decide_eq_false c1
            have c3 : 0 ≤ y := by omega
            clear c1
            go_wp2_with fail
            refine bodyPost_ret (by simp [results, Try.results10, go_sem, ]; try rfl) rfl ?_
            exact ⟨by rw [HAN.out (HN.out (by omega))], L1.out.2⟩
          · go_wp2_with fail
            exact ⟨⟨j + 1, by have := HJ.out; omega, by go_num, HU.out (by omega), by trivial⟩, by simp [intOf]; have := HJ.out; omega⟩
        · have HY := Lib.hid (upIn_all HE8.out ((show j = 8 by omega) ▸ hup))
          have j1 : ¬ (j : Int) < 8 := by omega
          clear hj hup hlt
          go_wp2_with fail
          refine bodyPost_ret (by simp [results, Try.results10, go_sem, ]; try rfl) rfl ?_
          exact ⟨by rw [HAY.out HY.out], L1.out.2⟩
    · have HA := Lib.hid (mAsk_no (set := set) (ins := ys) HRB.out (.inr (.inr (inB_len (by rw [HE8.out]; exact hn)))))
      have hn' : ¬ (n : Int) = 8 := by omega
      have hn2 : ((n : Int) == 8) = false := by simpa using hn'
      have hn3 : ((n : Int) != 8) = true := by simp only [bne, hn2]; rfl
      have a3 : set < m := by omega
      have a4 : 0 ≤ set := by omega
      clear hn hn' a1 a2
      go_wp2_with fail
      refine bodyPost_ret (by simp [results, Try.results10, go_sem, ]; try rfl) rfl ?_
      exact ⟨by rw [HA.out], L1.out.2⟩
set_option maxHeartbeats 400000 in
theorem Wrong_any (p : Int) (bit : Bool) (w : World) :
    Calls Try.prog 11 #[.int .i32 p, .bool bit] w fun e w' => e = .returned (.tuple #[.int .i32 (wrongV p bit), .int .i64 (wrongE p)]) ∧ w' = w := by
  by_cases c1 : p < 0
  · have e1 : wrongV p bit = 0 := by unfold wrongV; rw [if_pos (.inl c1)]
    have e2 : wrongE p = 2 := by unfold wrongE; rw [if_pos (.inl c1)]
    rw [e1, e2]
    clear e1 e2
    go_enter Try.func11, Try.ntmps11
    go_wp2_with fail
    go_ret2
    exact ⟨rfl, rfl⟩
  · have c0 : 0 ≤ p := by omega
    have c1' : decide (p < 0) = false := decide_eq_false c1
    by_cases c2 : 4095 < p
    · have e1 : wrongV p bit = 0 := by unfold wrongV; rw [if_pos (.inr c2)]
      have e2 : wrongE p = 2 := by unfold wrongE; rw [if_pos (.inr c2)]
      rw [e1, e2]
      clear e1 e2 c1
      go_enter Try.func11, Try.ntmps11
      go_wp2_with fail
      go_ret2
      exact ⟨rfl, rfl⟩
    · have e1 : wrongV p bit = offP p bit := by unfold wrongV; rw [if_neg (by omega)]
      have e2 : wrongE p = 0 := by unfold wrongE; rw [if_neg (by omega)]
      rw [e1, e2]
      clear e1 e2 c1
      cases bit
      · have e3 : offP p false = -p := rfl
        rw [e3]
        clear e3
        go_enter Try.func11, Try.ntmps11
        go_wp2_with fail
        go_ret2
        exact ⟨rfl, rfl⟩
      · have e3 : offP p true = 4095 - p := rfl
        rw [e3]
        clear e3
        go_enter Try.func11, Try.ntmps11
        go_wp2_with fail
        go_ret2
        exact ⟨rfl, rfl⟩
set_option maxHeartbeats 400000 in
theorem Off_any (p : Int) (bit : Bool) (w : World) (h0 : -2147483648 ≤ p) (h1 : p ≤ 2147483647) :
    Calls Try.prog 23 #[.int .i32 p, .bool bit] w fun e w' => e = .returned (.int .i64 (offP p bit)) ∧ w' = w := by
  cases bit
  · have e3 : offP p false = -p := rfl
    rw [e3]
    clear e3
    go_enter Try.func23, Try.ntmps23
    go_wp2_with fail
    go_ret
    exact ⟨rfl, rfl⟩
  · have e3 : offP p true = 4095 - p := rfl
    rw [e3]
    clear e3
    go_enter Try.func23, Try.ntmps23
    go_wp2_with fail
    go_ret
    exact ⟨rfl, rfl⟩
end Go.Proofs.Ytjikddndlnimoaa.mxW
