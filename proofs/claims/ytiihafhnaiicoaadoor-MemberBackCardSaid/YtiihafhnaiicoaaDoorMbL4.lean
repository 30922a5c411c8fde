/- MemberReads, by a walk. -/
import Derived.Test.YtiihafhnaiicoaaDoorMbRf
import Derived.Test.YtiihafhnaiicoaaDoorPk0
import Derived.Test.YtiihafhnaiicoaaDoorStr
namespace Go.Proofs.YtiihafhnaiicoaaDoor.mbW
set_option maxRecDepth 100000
open Go.RowKit Go.Proofs.YtiihafhnaiicoaaDoor.base Go.Proofs.YtiihafhnaiicoaaDoor.shP Go.Proofs.YtiihafhnaiicoaaDoor.shW Go.Proofs.YtiihafhnaiicoaaDoor.ocP Go.Proofs.YtiihafhnaiicoaaDoor.ocW
open Go.Proofs.YtiihafhnaiicoaaDoor.trW (IsD sv zd_isD digest_isD z20_at)
set_option linter.unusedVariables false
set_option linter.unusedSimpArgs false
set_option maxRecDepth 100000
theorem conv_n (b : List Int) (n : Nat) (hn : b.length = n) (hb : Byt8 b) (h9 : n ≤ 9223372036854775807) (w : World) :
    ∃ c wB, (convert 9 35 (.string (bstr b))).run Tryd.prog w = .ok (.slice (some ⟨w.heap.size, 0, none⟩) n c) wB ∧ Has .u8 wB (some ⟨w.heap.size, 0, none⟩) b ∧ n ≤ c ∧ c ≤ 9223372036854775807 ∧ Below w.heap.size w wB ∧ w.heap.size < wB.heap.size := by
  have hr := run_bytes_of_string (P := Tryd.prog) w 9 35 5 (bstr b) Tryd.underlying9 Tryd.underlying35 Tryd.underlying5
  rw [bstr_size, hn] at hr
  refine ⟨_, _, hr, base.has_brow w.drew b hb _ _ _ rfl, grownCap_ge _ _ _ _, ?_, ((Below.refl _ _).drew).alloc (Nat.le_refl _) _, by simp⟩
  have := grownCap_le_maxLen w n 0 5 (by unfold maxLen; omega)
  unfold maxLen at this
  omega
theorem rdS_nm {b : List Int} (hb : Byt8 b) : ∀ {k p : Nat} {l : List Rc}, rdS b k = some (l, p) → ∀ r ∈ l, r.nm.size ≤ 255
  | 0, p, l, h => by
    simp only [rdS, Option.some.injEq, Prod.mk.injEq] at h
    obtain ⟨rfl, rfl⟩ := h
    simp
  | k + 1, p, l, h => by
    rw [rdS] at h
    rcases e : rdS b k with _ | ⟨l', p'⟩
    · rw [e] at h; cases h
    · rw [e] at h
      simp only at h
      by_cases hf : fits b p'
      · rw [if_pos hf] at h
        simp only [Option.some.injEq, Prod.mk.injEq] at h
        obtain ⟨rfl, rfl⟩ := h
        intro r hr
        rw [List.mem_append, List.mem_singleton] at hr
        rcases hr with hr | rfl
        · exact rdS_nm hb e r hr
        · have := nl_le hb p'
          show (bstr ((b.drop (p' + 1)).take (nl b p'))).size ≤ 255
          rw [bstr_size, List.length_take]; omega
      · rw [if_neg hf] at h; cases h
theorem mrL_ok {b : List Int} (hb : Byt8 b) (q : Int) : ∀ r ∈ mrL b q, RcOk r := by
  intro r hr
  unfold mrL at hr
  split at hr
  · split at hr
    · simp at hr
    · rename_i l p he
      have h := rdS_ok hb he r hr
      have h2 := rdS_nm hb he r hr
      exact ⟨by unfold maxLen; omega, by have := h.1; omega, h.2⟩
  · simp at hr
theorem mrL_len (b : List Int) (q : Int) : (mrL b q).length ≤ 16 := by
  unfold mrL
  split
  · rename_i h
    split
    · simp
    · rename_i l p he
      unfold mrE at h
      split at h
      · omega
      · split at h
        · omega
        · rw [he] at h
          simp only at h
          split at h
          · rename_i hv
            exact (vl_zero hv).1
          · omega
  · simp
/-- The two variables' cells. -/
def TabH (w : World) : Prop := Tab w ∧ Hnd w
open Classical in
set_option maxHeartbeats 3200000 in
theorem reads (A : Option Addr) (n d : Nat) (z : List Int) (q : Int) (w : World) (hr : IsRow .u8 w A n d z) (q1 : -9223372036854775808 ≤ q) (q2 : q ≤ 9223372036854775807) (hT : TabH w) :
    Calls Tryd.prog 5 #[.slice A n d, .int .i64 q] w fun e w' => e = .returned (.bool true) ∧ Below w.heap.size w w' := by
  obtain ⟨h1, h2, h3, h4⟩ := has_of_row hr
  have hc := row_caps hr
  unfold maxLen at hc h3
  generalize z.take n = b at *
  have HB : Hid (Byt8 b) := Lib.hid (fun x hx => bounds_u8 (h4 x hx))
  have HA := Lib.hid h1
  have HL := Lib.hid h2
  have HC := Lib.hid hc
  have HT := Lib.hid hT
  have n9 : (n : Int) ≤ 9223372036854775807 := by omega
  have HQ := Lib.hid (And.intro q1 q2)
  clear hr hT h1 h2 h3 h4
  by_cases c0 : (1500 : Int) < n ∧ (n : Int) ≤ 50000
  · obtain ⟨c1, c2⟩ := c0
    go_enter Tryd.func5, Tryd.ntmps5
    go_wp2_with fail
    go_ret
    exact ⟨rfl, Below.refl _ _⟩
  have HW0 := Lib.hid (conv8 (c := d) HA.out HL.out)
  have cv := HW0.out
  have x0 : decide (1500 < (n : Int)) = false ∨ decide ((n : Int) ≤ 50000) = false := by
    by_cases h : (1500 : Int) < n
    · right; rw [decide_eq_false]; omega
    · left; rw [decide_eq_false]; exact h
  go_enter Tryd.func5, Tryd.ntmps5
  go_wp2_with fail
  all_goals
    refine (Read_m b A n d q w HA.out HL.out HC.out.1 (by have := HC.out.2; omega) HB.out HT.out.1 HT.out.2 HQ.out.1 HQ.out.2).mono ?_
    rintro e w1 ⟨A1, m1, c1, rfl, o1, b1⟩
    obtain ⟨cc, wB, hcv, hh, hc1, hc2, hbb, hlt⟩ := conv_n b n HL.out HB.out (by omega) w1
    have O1 := Lib.hid (o1.past hbb)
    have B1 := Lib.hid (mb_bb b1 hbb)
    have HH := Lib.hid (And.intro hh (And.intro hc1 hc2))
    clear cv o1 b1 hh hc1 hc2 hbb hlt
    go_wp2_with fail
    refine (rRead_m b _ n cc q wB HH.out.1 HL.out HH.out.2.1 HH.out.2.2 HB.out HQ.out.1 HQ.out.2).mono ?_
    rintro e w2 ⟨A2, m2, c2, rfl, o2, b2⟩
    have O1b := Lib.hid (O1.out.past b2)
    have O2 := Lib.hid o2
    have B2 := Lib.hid (mb_bb B1.out b2)
    have HM := Lib.hid (mrL_len b q)
    have l1 := O1b.out.len.1
    have l2 := o2.len.1
    have HL1 := Lib.hid (And.intro l1 l2)
    clear hcv o2 b2 O1 B1 HH l1 l2
    go_wp2_with fail
    refine (Same_any (mrL b q) (mrL b q) A1 A2 m1 m2 c1 c2 w2 O1b.out.has O2.out.has HL1.out.1.symm HL1.out.2.symm (by rw [HL1.out.1]; have := HM.out; omega) (by rw [HL1.out.2]; have := HM.out; omega) (mrL_ok HB.out q) (mrL_ok HB.out q)).mono ?_
    rintro e w3 ⟨rfl, b3⟩
    rw [decide_eq_true (rfl : mrL b q = mrL b q)]
    have B3 := Lib.hid (mb_bb B2.out b3)
    have cv := conv8 (c := d) (HA.out.below B3.out (Nat.le_refl _)) HL.out
    clear b3 B2 O1b O2
    go_wp2_with fail
    go_ret
    exact ⟨by simp, B3.out⟩
end Go.Proofs.YtiihafhnaiicoaaDoor.mbW
