/- Several texts as one: MbL4, MbPe, MbL5, MbN0, MbN1. -/
import Derived.Test.YtiihafhnaiicoaaDoorMbRf
import Derived.Test.YtiihafhnaiicoaaDoorPk0
import Derived.Test.YtiihafhnaiicoaaDoorStr
import Derived.Test.YtiihafhnaiicoaaDoorPk2
import Derived.Test.YtiihafhnaiicoaaDoorMake
namespace Go.Proofs.YtiihafhnaiicoaaDoor.mbW
set_option maxRecDepth 100000
open Go.RowKit Go.Proofs.YtiihafhnaiicoaaDoor.base Go.Proofs.YtiihafhnaiicoaaDoor.shP Go.Proofs.YtiihafhnaiicoaaDoor.shW Go.Proofs.YtiihafhnaiicoaaDoor.ocP Go.Proofs.YtiihafhnaiicoaaDoor.ocW
open Go.Proofs.YtiihafhnaiicoaaDoor.trW (IsD sv zd_isD digest_isD z20_at)
set_option linter.unusedVariables false
set_option linter.unusedSimpArgs false
set_option maxRecDepth 100000
theorem conv_n (b : List Int) (n : Nat) (hn : b.length = n) (hb : Byt8 b) (h9 : n ≤ 9223372036854775807) (w : World) :
    ∃ c wB, (convert 9 35 (.string (bstr b))).run Tryd.prog w = .ok (.slice (some ⟨w.heap.size, 0, none⟩) n c) wB ∧ Has .u8 wB (some ⟨w.heap.size, 0, none⟩) b ∧ n ≤ c ∧ c ≤ 9223372036854775807 ∧ Below w.heap.size w wB ∧ w.heap.size < wB.heap.size := by
  have hr := run_bytes_of_string (P := Tryd.prog) w 9 35 5 (bstr b) Tryd.underlying9 Tryd.underlying35 Tryd.underlying5
  rw [bstr_size, hn] at hr
  refine ⟨_, _, hr, base.has_brow w.drew b hb _ _ _ rfl, grownCap_ge _ _ _ _, ?_, ((Below.refl _ _).drew).alloc (Nat.le_refl _) _, by simp⟩
  have := grownCap_le_maxLen w n 0 5 (by unfold maxLen; omega)
  unfold maxLen at this
  omega
theorem rdS_nm {b : List Int} (hb : Byt8 b) : ∀ {k p : Nat} {l : List Rc}, rdS b k = some (l, p) → ∀ r ∈ l, r.nm.size ≤ 255
  | 0, p, l, h => by
    simp only [rdS, Option.some.injEq, Prod.mk.injEq] at h
    obtain ⟨rfl, rfl⟩ := h
    simp
  | k + 1, p, l, h => by
    rw [rdS] at h
    rcases e : rdS b k with _ | ⟨l', p'⟩
    · rw [e] at h; cases h
    · rw [e] at h
      simp only at h
      by_cases hf : fits b p'
      · rw [if_pos hf] at h
        simp only [Option.some.injEq, Prod.mk.injEq] at h
        obtain ⟨rfl, rfl⟩ := h
        intro r hr
        rw [List.mem_append, List.mem_singleton] at hr
        rcases hr with hr | rfl
        · exact rdS_nm hb e r hr
        · have := nl_le hb p'
          show (bstr ((b.drop (p' + 1)).take (nl b p'))).size ≤ 255
          rw [bstr_size, List.length_take]; omega
      · rw [if_neg hf] at h; cases h
theorem mrL_ok {b : List Int} (hb : Byt8 b) (q : Int) : ∀ r ∈ mrL b q, RcOk r := by
  intro r hr
  unfold mrL at hr
  split at hr
  · split at hr
    · simp at hr
    · rename_i l p he
      have h := rdS_ok hb he r hr
      have h2 := rdS_nm hb he r hr
      exact ⟨by unfold maxLen; omega, by have := h.1; omega, h.2⟩
  · simp at hr
theorem mrL_len (b : List Int) (q : Int) : (mrL b q).length ≤ 16 := by
  unfold mrL
  split
  · rename_i h
    split
    · simp
    · rename_i l p he
      unfold mrE at h
      split at h
      · omega
      · split at h
        · omega
        · rw [he] at h
          simp only at h
          split at h
          · rename_i hv
            exact (vl_zero hv).1
          · omega
  · simp
/-- The two variables' cells. -/
def TabH (w : World) : Prop := Tab w ∧ Hnd w
open Classical in
set_option maxHeartbeats 3200000 in
theorem reads (A : Option Addr) (n d : Nat) (z : List Int) (q : Int) (w : World) (hr : IsRow .u8 w A n d z) (q1 : -9223372036854775808 ≤ q) (q2 : q ≤ 9223372036854775807) (hT : TabH w) :
    Calls Tryd.prog 5 #[.slice A n d, .int .i64 q] w fun e w' => e = .returned (.bool true) ∧ Below w.heap.size w w' := by
  obtain ⟨h1, h2, h3, h4⟩ := has_of_row hr
  have hc := row_caps hr
  unfold maxLen at hc h3
  generalize z.take n = b at *
  have HB : Hid (Byt8 b) := Lib.hid (fun x hx => bounds_u8 (h4 x hx))
  have HA := Lib.hid h1
  have HL := Lib.hid h2
  have HC := Lib.hid hc
  have HT := Lib.hid hT
  have n9 : (n : Int) ≤ 9223372036854775807 := by omega
  have HQ := Lib.hid (And.intro q1 q2)
  clear hr hT h1 h2 h3 h4
  by_cases c0 : (1500 : Int) < n ∧ (n : Int) ≤ 50000
  · obtain ⟨c1, c2⟩ := c0
    go_enter Tryd.func5, Tryd.ntmps5
    go_wp2_with fail
    go_ret
    exact ⟨rfl, Below.refl _ _⟩
  have HW0 := Lib.hid (conv8 (c := d) HA.out HL.out)
  have cv := HW0.out
  have x0 : decide (1500 < (n : Int)) = false ∨ decide ((n : Int) ≤ 50000) = false := by
    by_cases h : (1500 : Int) < n
    · right; rw [decide_eq_false]; omega
    · left; rw [decide_eq_false]; exact h
  go_enter Tryd.func5, Tryd.ntmps5
  go_wp2_with fail
  all_goals
    refine (Read_m b A n d q w HA.out HL.out HC.out.1 (by have := HC.out.2; omega) HB.out HT.out.1 HT.out.2 HQ.out.1 HQ.out.2).mono ?_
    rintro e w1 ⟨A1, m1, c1, rfl, o1, b1⟩
    obtain ⟨cc, wB, hcv, hh, hc1, hc2, hbb, hlt⟩ := conv_n b n HL.out HB.out (by omega) w1
    have O1 := Lib.hid (o1.past hbb)
    have B1 := Lib.hid (mb_bb b1 hbb)
    have HH := Lib.hid (And.intro hh (And.intro hc1 hc2))
    clear cv o1 b1 hh hc1 hc2 hbb hlt
    go_wp2_with fail
    refine (rRead_m b _ n cc q wB HH.out.1 HL.out HH.out.2.1 HH.out.2.2 HB.out HQ.out.1 HQ.out.2).mono ?_
    rintro e w2 ⟨A2, m2, c2, rfl, o2, b2⟩
    have O1b := Lib.hid (O1.out.past b2)
    have O2 := Lib.hid o2
    have B2 := Lib.hid (mb_bb B1.out b2)
    have HM := Lib.hid (mrL_len b q)
    have l1 := O1b.out.len.1
    have l2 := o2.len.1
    have HL1 := Lib.hid (And.intro l1 l2)
    clear hcv o2 b2 O1 B1 HH l1 l2
    go_wp2_with fail
    refine (Same_any (mrL b q) (mrL b q) A1 A2 m1 m2 c1 c2 w2 O1b.out.has O2.out.has HL1.out.1.symm HL1.out.2.symm (by rw [HL1.out.1]; have := HM.out; omega) (by rw [HL1.out.2]; have := HM.out; omega) (mrL_ok HB.out q) (mrL_ok HB.out q)).mono ?_
    rintro e w3 ⟨rfl, b3⟩
    rw [decide_eq_true (rfl : mrL b q = mrL b q)]
    have B3 := Lib.hid (mb_bb B2.out b3)
    have cv := conv8 (c := d) (HA.out.below B3.out (Nat.le_refl _)) HL.out
    clear b3 B2 O1b O2
    go_wp2_with fail
    go_ret
    exact ⟨by simp, B3.out⟩
end Go.Proofs.YtiihafhnaiicoaaDoor.mbW

namespace Go.Proofs.YtiihafhnaiicoaaDoor.mbW
set_option maxRecDepth 100000
open Go.RowKit Go.Proofs.YtiihafhnaiicoaaDoor.base Go.Proofs.YtiihafhnaiicoaaDoor.shP Go.Proofs.YtiihafhnaiicoaaDoor.shW Go.Proofs.YtiihafhnaiicoaaDoor.ocP Go.Proofs.YtiihafhnaiicoaaDoor.ocW
open Go.Proofs.YtiihafhnaiicoaaDoor.trW (IsD sv zd_isD digest_isD z20_at)
set_option linter.unusedVariables false
set_option linter.unusedSimpArgs false
set_option maxRecDepth 100000
theorem bl_bstr {xs : List Int} (h : Byt8 xs) : bl (bstr xs) = xs := by
  unfold bl
  rw [bstr_list]
  unfold Lib.bytesOf
  rw [List.map_map]
  conv => rhs; rw [← List.map_id xs]
  refine List.map_congr_left fun z hz => ?_
  have hx := h z hz
  show (((UInt8.ofNat z.toNat).toNat : Nat) : Int) = z
  have : (UInt8.ofNat z.toNat).toNat = z.toNat % 256 := by simp
  rw [this]
  omega
theorem bstr_bl (s : ByteArray) : bstr (bl s) = s := by
  have h : (bstr (bl s)).data.toList = s.data.toList := by
    rw [bstr_list]
    unfold Lib.bytesOf bl
    rw [List.map_map]
    conv => rhs; rw [← List.map_id s.data.toList]
    refine List.map_congr_left fun z hz => ?_
    show UInt8.ofNat ((z.toNat : Int)).toNat = z
    rw [Int.toNat_natCast, UInt8.ofNat_toNat]
  have e : (bstr (bl s)).data = s.data := Array.ext' h
  cases h1 : bstr (bl s)
  cases s
  rw [h1] at e
  simp only at e
  rw [e]
theorem digs_1 (n : Int) : digs n 1 = [n % 256] := by
  show [n / 256 ^ 0 % 256] = _
  rw [Int.pow_zero, Int.ediv_one]
theorem digs_2 (n : Int) : digs n 2 = [n / 256 % 256, n % 256] := by
  show [n / 256 ^ 1 % 256, n / 256 ^ 0 % 256] = _
  rw [Int.pow_zero, Int.ediv_one, Int.pow_succ, Int.pow_zero, Int.one_mul]
theorem getD_drop (b : List Int) (p i : Nat) : b.getD (p + i) 0 = (b.drop p).getD i 0 := by
  rw [List.getD_eq_getElem?_getD, List.getD_eq_getElem?_getD, List.getElem?_drop]
theorem rcB_form {r : Rc} (h1 : r.nm.size ≤ 255) (h2 : 0 ≤ r.sz) (h3 : r.sz ≤ 65535) : rcB r = (r.nm.size : Int) :: (bl r.nm ++ (r.sz / 256 :: (r.sz % 256) :: r.sum)) := by
  unfold rcB
  rw [digs_1, digs_2, show ((r.nm.size : Nat) : Int) % 256 = r.nm.size by omega, show r.sz / 256 % 256 = r.sz / 256 by omega]
  simp
/-- A record's bytes stand at a place. -/
theorem at_rec {b rest : List Int} {p : Nat} {r : Rc} (h : b.drop p = rcB r ++ rest) (h1 : r.nm.size ≤ 255) (h2 : 0 ≤ r.sz) (h3 : r.sz ≤ 65535) (h4 : r.sum.length = 20) : nl b p = r.nm.size ∧ fits b p ∧ rcAt b p = r := by
  have hl := rcB_len (r := r) h4
  have hlen : b.length - p = r.nm.size + 23 + rest.length := by
    have := congrArg List.length h
    rw [List.length_drop, List.length_append, hl] at this; exact this
  rw [rcB_form h1 h2 h3] at h
  have hlb := bl_len r.nm
  have hn : nl b p = r.nm.size := by
    unfold nl
    rw [show p = p + 0 from rfl, getD_drop, h]
    simp
  have d1 : b.drop (p + 1) = bl r.nm ++ (r.sz / 256 :: (r.sz % 256) :: (r.sum ++ rest)) := by
    rw [← List.drop_drop, h]; simp
  have d2 : b.drop (p + 1 + r.nm.size) = r.sz / 256 :: (r.sz % 256) :: (r.sum ++ rest) := by
    rw [← List.drop_drop, d1, ← hlb, List.drop_left]
  refine ⟨hn, by unfold fits; rw [hn]; omega, ?_⟩
  unfold rcAt
  rw [hn, d1, show p + 3 + r.nm.size = p + 1 + r.nm.size + 2 by omega, ← List.drop_drop, d2, show p + 2 + r.nm.size = p + 1 + r.nm.size + 1 by omega, getD_drop b (p + 1 + r.nm.size) 1, show b.getD (p + 1 + r.nm.size) 0 = b.getD (p + 1 + r.nm.size + 0) 0 from rfl, getD_drop b (p + 1 + r.nm.size) 0, d2]
  have e1 : (bl r.nm ++ (r.sz / 256 :: (r.sz % 256) :: (r.sum ++ rest))).take r.nm.size = bl r.nm := by rw [← hlb, List.take_left]
  rw [e1, bstr_bl]
  have e2 : ((r.sz / 256 :: (r.sz % 256) :: (r.sum ++ rest)).drop 2).take 20 = r.sum := by
    show (r.sum ++ rest).take 20 = r.sum
    rw [← h4, List.take_left]
  rw [e2]
  have e3 : (r.sz / 256 :: (r.sz % 256) :: (r.sum ++ rest)).getD 0 0 * 256 + (r.sz / 256 :: (r.sz % 256) :: (r.sum ++ rest)).getD 1 0 = r.sz := by
    show r.sz / 256 * 256 + r.sz % 256 = r.sz
    omega
  rw [e3]
def GoodR (l : List Rc) : Prop := ∀ r ∈ l, r.nm.size ≤ 255 ∧ 0 ≤ r.sz ∧ r.sz ≤ 65535 ∧ r.sum.length = 20
theorem tabB_drop (l : List Rc) : ∀ k, tabB l = tabB (l.take k) ++ tabB (l.drop k) := fun k => by
  unfold tabB
  rw [← List.flatten_append, ← List.map_append, List.take_append_drop]
theorem read_tab {l : List Rc} (h : GoodR l) (c : List Int) : ∀ k, k ≤ l.length → rdS (tabB l ++ c) k = some (l.take k, (tabB (l.take k)).length)
  | 0, _ => by simp [rdS, tabB]
  | k + 1, hk => by
    have ih := read_tab h c k (by omega)
    have hr := h (l.getD k rc0) (by rw [List.getD_eq_getElem?_getD, List.getElem?_eq_getElem (by omega)]; exact List.getElem_mem _)
    have hd : (tabB l ++ c).drop (tabB (l.take k)).length = rcB (l.getD k rc0) ++ (tabB (l.drop (k + 1)) ++ c) := by
      rw [tabB_drop l k, List.append_assoc, List.drop_left, List.drop_eq_getElem_cons (by omega : k < l.length), List.getD_eq_getElem?_getD, List.getElem?_eq_getElem (by omega : k < l.length)]
      unfold tabB
      simp only [List.map_cons, List.flatten_cons, List.append_assoc, Option.getD_some]
    obtain ⟨e1, e2, e3⟩ := at_rec hd hr.1 hr.2.1 hr.2.2.1 hr.2.2.2
    rw [rdS_step ih e2, e3]
    have e4 : nx (tabB l ++ c) (tabB (l.take k)).length = (tabB (l.take (k + 1))).length := by
      unfold nx
      rw [e1, tabB_snoc l (by omega), List.length_append, rcB_len hr.2.2.2]; omega
    rw [e4, List.take_add_one, List.getElem?_eq_getElem (by omega), List.getD_eq_getElem?_getD, List.getElem?_eq_getElem (by omega)]
    rfl
theorem read_back {l : List Rc} (h : GoodR l) (c : List Int) : rdS (tabB l ++ c) l.length = some (l, (tabB l).length) := by
  have := read_tab h c l.length (Nat.le_refl _)
  rwa [List.take_length] at this
/-- Bytes behind change nothing. -/
theorem getD_app {a c : List Int} {i : Nat} (h : i < a.length) : (a ++ c).getD i 0 = a.getD i 0 := by
  rw [List.getD_eq_getElem?_getD, List.getD_eq_getElem?_getD, List.getElem?_append_left h]
theorem rdS_pre {b : List Int} (c : List Int) : ∀ {k p : Nat} {l : List Rc}, rdS b k = some (l, p) → rdS (b ++ c) k = some (l, p)
  | 0, p, l, h => h
  | k + 1, p, l, h => by
    rw [rdS] at h
    rcases e : rdS b k with _ | ⟨l', p'⟩
    · rw [e] at h; cases h
    · rw [e] at h
      simp only at h
      by_cases hf : fits b p'
      · rw [if_pos hf] at h
        have ih := rdS_pre c e
        have hfl := hf
        unfold fits at hfl
        have hn : nl (b ++ c) p' = nl b p' := by unfold nl; rw [getD_app (by omega)]
        have hf2 : fits (b ++ c) p' := by unfold fits; rw [hn, List.length_append]; omega
        rw [rdS_step ih hf2, ← h]
        have hr : rcAt (b ++ c) p' = rcAt b p' := by
          unfold rcAt
          rw [hn, getD_app (by omega), getD_app (by omega)]
          have t : ∀ i m, i + m ≤ b.length → ((b ++ c).drop i).take m = (b.drop i).take m := fun i m h => by
            rw [List.drop_append_of_le_length (by omega), List.take_append_of_le_length (by rw [List.length_drop]; omega)]
          rw [t _ _ (by omega), t _ _ (by omega)]
        rw [hr]
        unfold nx
        rw [hn]
      · rw [if_neg hf] at h; cases h
theorem read_part {l : List Rc} (h : GoodR l) (hb : Byt8 (tabB l)) {i : Nat} (hi : i < (tabB l).length) : rdS ((tabB l).take i) l.length = none := by
  rcases e : rdS ((tabB l).take i) l.length with _ | ⟨l', p⟩
  · rfl
  · have h1 := rdS_pre ((tabB l).drop i) e
    rw [List.take_append_drop] at h1
    have h2 := read_back h []
    rw [List.append_nil, h1] at h2
    have h3 := (rdS_le (b := (tabB l).take i) (fun z hz => hb z (List.mem_of_mem_take hz)) e).2.1
    simp only [Option.some.injEq, Prod.mk.injEq] at h2
    rw [List.length_take] at h3
    omega
/-- What was read, written. -/
theorem rc_back {b : List Int} {p : Nat} (hb : Byt8 b) (hf : fits b p) : rcB (rcAt b p) = (b.drop p).take (nl b p + 23) := by
  have hk := rcAt_ok hb hf
  unfold fits at hf
  have hx := hb.at p
  have hu := hb.at (p + 1 + nl b p)
  have hv := hb.at (p + 2 + nl b p)
  have hs : (rcAt b p).nm.size = nl b p := by
    show (bstr _).size = _
    rw [bstr_size, List.length_take, List.length_drop]; omega
  rw [rcB_form (by rw [hs]; exact nl_le hb p) hk.1.1 hk.1.2, hs, nl_int hb p]
  have e1 : bl (rcAt b p).nm = (b.drop (p + 1)).take (nl b p) := bl_bstr (fun z hz => hb z (List.mem_of_mem_drop (List.mem_of_mem_take hz)))
  have e2 : (rcAt b p).sz / 256 = b.getD (p + 1 + nl b p) 0 := by
    show (b.getD (p + 1 + nl b p) 0 * 256 + b.getD (p + 2 + nl b p) 0) / 256 = _
    omega
  have e3 : (rcAt b p).sz % 256 = b.getD (p + 2 + nl b p) 0 := by
    show (b.getD (p + 1 + nl b p) 0 * 256 + b.getD (p + 2 + nl b p) 0) % 256 = _
    omega
  have e4 : (rcAt b p).sum = (b.drop (p + 3 + nl b p)).take 20 := rfl
  rw [e1, e2, e3, e4]
  generalize hz : nl b p = z at *
  have q0 : b.drop p = b.getD p 0 :: b.drop (p + 1) := by
    rw [List.drop_eq_getElem_cons (by omega : p < b.length), List.getD_eq_getElem?_getD, List.getElem?_eq_getElem (by omega : p < b.length)]; rfl
  have q1 : b.drop (p + 1) = (b.drop (p + 1)).take z ++ b.drop (p + 1 + z) := by
    have := List.take_append_drop z (b.drop (p + 1))
    rw [List.drop_drop] at this
    exact this.symm
  have q2 : b.drop (p + 1 + z) = b.getD (p + 1 + z) 0 :: b.getD (p + 2 + z) 0 :: b.drop (p + 3 + z) := by
    rw [List.drop_eq_getElem_cons (by omega : p + 1 + z < b.length), List.getD_eq_getElem?_getD, List.getElem?_eq_getElem (by omega : p + 1 + z < b.length), show p + 1 + z + 1 = p + 2 + z by omega, List.drop_eq_getElem_cons (by omega : p + 2 + z < b.length), List.getD_eq_getElem?_getD, List.getElem?_eq_getElem (by omega : p + 2 + z < b.length), show p + 2 + z + 1 = p + 3 + z by omega]; rfl
  have l1 : ((b.drop (p + 1)).take z).length = z := by rw [List.length_take, List.length_drop]; omega
  generalize (b.drop (p + 1)).take z = X at *
  rw [q0, q1, q2]
  generalize b.drop (p + 3 + z) = D
  have r1 : (b.getD p 0 :: (X ++ (b.getD (p + 1 + z) 0 :: b.getD (p + 2 + z) 0 :: D))).take (z + 23) = b.getD p 0 :: (X ++ (b.getD (p + 1 + z) 0 :: b.getD (p + 2 + z) 0 :: D.take 20)) := by
    rw [show z + 23 = (X.length + 22) + 1 by omega, List.take_succ_cons, List.take_length_add_append]; rfl
  rw [r1]
theorem tab_back {b : List Int} (hb : Byt8 b) : ∀ {k p : Nat} {l : List Rc}, rdS b k = some (l, p) → tabB l = b.take p
  | 0, p, l, h => by
    simp only [rdS, Option.some.injEq, Prod.mk.injEq] at h
    obtain ⟨rfl, rfl⟩ := h
    simp [tabB]
  | k + 1, p, l, h => by
    rw [rdS] at h
    rcases e : rdS b k with _ | ⟨l', p'⟩
    · rw [e] at h; cases h
    · rw [e] at h
      simp only at h
      by_cases hf : fits b p'
      · rw [if_pos hf] at h
        simp only [Option.some.injEq, Prod.mk.injEq] at h
        obtain ⟨rfl, rfl⟩ := h
        have ih := tab_back hb e
        unfold tabB at ih ⊢
        rw [List.map_append, List.flatten_append, ih, List.map_cons, List.map_nil, List.flatten_cons, List.flatten_nil, List.append_nil, rc_back hb hf]
        unfold nx
        rw [Nat.add_assoc]
        exact List.take_add.symm
      · rw [if_neg hf] at h; cases h
end Go.Proofs.YtiihafhnaiicoaaDoor.mbW

namespace Go.Proofs.YtiihafhnaiicoaaDoor.mbW
set_option maxRecDepth 100000
open Go.RowKit Go.Proofs.YtiihafhnaiicoaaDoor.base Go.Proofs.YtiihafhnaiicoaaDoor.shP Go.Proofs.YtiihafhnaiicoaaDoor.shW Go.Proofs.YtiihafhnaiicoaaDoor.ocP Go.Proofs.YtiihafhnaiicoaaDoor.ocW
open Go.Proofs.YtiihafhnaiicoaaDoor.trW (IsD sv zd_isD digest_isD z20_at)
set_option linter.unusedVariables false
set_option linter.unusedSimpArgs false
set_option maxRecDepth 100000
theorem good_of {rs : List Rc} (h : vlE rs = 0) (hd : ∀ r ∈ rs, IsD r.sum) : GoodR rs := fun r hr => by
  obtain ⟨k, hk, rfl⟩ := List.mem_iff_getElem.1 hr
  have h1 := (vl_zero h).2.1 k hk
  rw [List.getD_eq_getElem?_getD, List.getElem?_eq_getElem hk] at h1
  have h2 := nm_size h1.1
  exact ⟨Nat.le_trans h2.2 (by decide), h1.2.1, Int.le_trans h1.2.2.1 (by decide), (hd _ hr).len⟩
theorem rcB_b {r : Rc} (h : IsD r.sum) : Byt8 (rcB r) := fun z hz => by
  unfold rcB at hz
  simp only [List.mem_append] at hz
  rcases hz with ((h1 | h1) | h1) | h1
  · exact digs_b _ _ z h1
  · exact bl_bd _ z h1
  · exact digs_b _ _ z h1
  · exact h.bd z h1
theorem tabB_b {rs : List Rc} (h : ∀ r ∈ rs, IsD r.sum) : Byt8 (tabB rs) := fun z hz => by
  unfold tabB at hz
  obtain ⟨l, hl, hz⟩ := List.mem_flatten.1 hz
  obtain ⟨r, hr, rfl⟩ := List.mem_map.1 hl
  exact rcB_b (h r hr) z hz
theorem tabB_len {rs : List Rc} (h : GoodR rs) : (tabB rs).length ≤ 278 * rs.length := by
  have : ∀ l : List Rc, GoodR l → (tabB l).length ≤ 278 * l.length := by
    intro l
    induction l with
    | nil => intro _; simp [tabB]
    | cons r l ih =>
      intro hg
      have h1 := ih (fun x hx => hg x (List.mem_cons_of_mem _ hx))
      have h2 := hg r (List.mem_cons_self ..)
      have h3 := rcB_len h2.2.2.2
      unfold tabB at h1 ⊢
      rw [List.map_cons, List.flatten_cons, List.length_append, h3, List.length_cons]
      omega
  exact this rs h
/-- The bytes that were written, others behind them, read. -/
theorem mr_back {rs : List Rc} {c : List Int} (h : vlE rs = 0) (hd : ∀ r ∈ rs, IsD r.sum) (hc : c.length ≤ 1500) : mrE (tabB rs ++ c) rs.length = 0 ∧ mrL (tabB rs ++ c) rs.length = rs ∧ mrP (tabB rs ++ c) rs.length = (tabB rs).length := by
  have hl := (vl_zero h).1
  have hg := good_of h hd
  have hb := tabB_len hg
  exact mr_ok (by omega) (by rw [List.length_append]; omega) (by rw [Int.toNat_natCast]; exact read_back hg c) h
theorem mr_part {rs : List Rc} {i : Nat} (h : vlE rs = 0) (hd : ∀ r ∈ rs, IsD r.sum) (hi : i < (tabB rs).length) : mrE ((tabB rs).take i) rs.length = 18 := by
  have hl := (vl_zero h).1
  have hg := good_of h hd
  have hb := tabB_len hg
  exact mr_short (by omega) (by rw [List.length_take]; omega) (by rw [Int.toNat_natCast]; exact read_part hg (tabB_b hd) hi)
theorem hasN {w : World} {A : Option Addr} {b : List Int} (h : Has .u8 w A b) (q : Nat) : Has .u8 (w.drewN q) A b := h.below (below_drewN (Below.refl _ _) q) (Nat.le_refl _)
theorem has_take {w : World} {A : Option Addr} {b : List Int} (h : Has .u8 w A b) (j : Nat) : Has .u8 w A (b.take j) := by
  rcases h with h | ⟨bb, off, e, hx, hcc⟩
  · exact .inl (by rw [h]; simp)
  · exact .inr ⟨bb, off, e, hx, fun i hi => by rw [List.length_take] at hi; rw [getD_take (by omega)]; exact hcc i (by omega)⟩
theorem mr_zero {b : List Int} {q : Int} (h : mrE b q = 0) : ∃ l p, (0 ≤ q ∧ q ≤ 16) ∧ rdS b q.toNat = some (l, p) ∧ vlE l = 0 ∧ mrL b q = l ∧ mrP b q = p := by
  have h0 := h
  unfold mrE at h
  split at h
  · omega
  · rename_i h1
    split at h
    · omega
    · rename_i h2
      rcases e : rdS b q.toNat with _ | ⟨l, p⟩
      · rw [e] at h; simp at h
      · rw [e] at h
        simp only at h
        split at h
        · rename_i hv
          exact ⟨l, p, by omega, rfl, hv, (mr_ok h1 h2 e hv).2.1, (mr_ok h1 h2 e hv).2.2⟩
        · omega
open Classical in
set_option maxHeartbeats 12800000 in
theorem backs (P : Option Addr) (m d : Nat) (rs : List Rc) (A : Option Addr) (n dd : Nat) (z : List Int) (q : Int) (w : World) (hR : RecsIn w P m d rs) (hr : IsRow .u8 w A n dd z) (q1 : -9223372036854775808 ≤ q) (q2 : q ≤ 9223372036854775807) (hT : TabH w) :
    Calls Tryd.prog 7 #[.slice P m d, .slice A n dd, .int .i64 q] w fun e w' => e = .returned (.bool true) ∧ Below w.heap.size w w' := by
  have HR := Lib.hid (recsB hR)
  have HT := Lib.hid hT
  have HL := Lib.hid hR.l
  obtain ⟨h1, h2, h3, h4⟩ := has_of_row hr
  have hc := row_caps hr
  unfold maxLen at hc h3
  generalize z.take n = b at *
  have HB : Hid (Byt8 b) := Lib.hid (fun x hx => bounds_u8 (h4 x hx))
  have HA := Lib.hid h1
  have HBL := Lib.hid h2
  have HC := Lib.hid hc
  have n9 : (n : Int) ≤ 9223372036854775807 := by omega
  have m9 : (m : Int) ≤ 9223372036854775807 := by have := hR.c1; have := hR.c2; omega
  have HQ := Lib.hid (And.intro q1 q2)
  clear hR hr hT h1 h2 h3 h4 q1 q2 hc
  go_enter Tryd.func7, Tryd.ntmps7
  go_wp2_with fail
  refine (alive_yes w HT.out.1).mono ?_
  rintro e w1 ⟨rfl, b1⟩
  have B1 := Lib.hid b1
  clear b1
  go_wp2_with fail
  refine (GreatR_any rs P m d w1 (HR.out.below B1.out (Nat.le_refl _))).mono ?_
  rintro e _ ⟨⟨gb, rfl, hb⟩, rfl⟩
  rename World => w1
  cases gb
  case true =>
    go_wp2_with fail
    go_ret
    exact ⟨rfl, B1.out⟩
  have HG := Lib.hid (hb rfl)
  clear hb
  by_cases c0 : (1500 : Int) < n
  · go_wp2_with fail
    go_ret
    exact ⟨rfl, B1.out⟩
  have HN := Lib.hid (show n ≤ 1500 by omega)
  go_wp2_with fail
  refine (rValid_any rs P m d w1 (HR.out.below B1.out (Nat.le_refl _))).mono ?_
  rintro e w2 ⟨rfl, b2⟩
  have B2 := Lib.hid (mb_bb B1.out b2)
  clear b2 B1
  rcases vl_cases rs with hv | hv
  case inr =>
    have hne : vlE rs ≠ 0 := by omega
    have hbq : (vlE rs == 0) = false := by simpa using hne
    have hbn : (vlE rs != 0) = true := by simpa using hne
    generalize vlE rs = ve at *
    have BX := Lib.hid B2.out
    clear hv hne B2
    go_wp2_with fail
    refine (Read_m b A n dd q w2 (HA.out.below BX.out (Nat.le_refl _)) HBL.out HC.out.1 (by have := HC.out.2; omega) HB.out (HT.out.1.below BX.out (Nat.le_refl _)) (HT.out.2.below BX.out (Nat.le_refl _)) HQ.out.1 HQ.out.2).mono ?_
    rintro e wy ⟨Ay, my, cy, rfl, oy, by'⟩
    have BY := Lib.hid (mb_bb BX.out by')
    have HOY := Lib.hid oy
    clear by' oy BX
    by_cases he : mrE b q = 0
    · obtain ⟨l, p, hq, hrd, hv, e2, e3⟩ := mr_zero he
      rw [e2] at HOY
      rw [he, e3]
      have HV := Lib.hid hv
      have HRD := Lib.hid hrd
      have HLL := Lib.hid (rdS_le HB.out hrd)
      have HOK := Lib.hid (rdS_ok HB.out hrd)
      have HMY : Hid ((my : Int) = q) := Lib.hid (by have h1 := HOY.out.len.1; have h2 := HLL.out.2.2; omega)
      have hmy := HMY.out
      subst hmy
      have p0 : 0 ≤ (p : Int) := by omega
      have p1 : (p : Int) ≤ n := by have := HLL.out.2.1; have := HBL.out; omega
      have p2 : (p : Int) ≤ dd := by have := HC.out.1; omega
      have HPD := Lib.hid (show p ≤ dd by omega)
      clear he hq hrd hv e2 e3
      go_wp2_with fail
      refine (Write_any l Ay my cy wy (HT.out.1.below BY.out (Nat.le_refl _)) ⟨HOY.out.has, HOY.out.len.1.symm, HOY.out.len.2.1, by have := HOY.out.len.2.2; unfold maxLen at this; omega, fun r hr => by have := (HOK.out r hr).1; omega, fun r hr => (HOK.out r hr).2⟩).mono ?_
      rintro e wz ⟨Az, nz, cz, rfl, hnz, hz1, hz2, hhz, bz⟩
      rw [HV.out]
      rw [wr_ok HV.out, tab_back HB.out HRD.out] at hhz hnz
      have BZ := Lib.hid (mb_bb BY.out bz)
      have cv1 := fun (qq : Nat) => conv8 (w := wz.drewN qq) (c := cz) (hasN hhz qq) hnz.symm
      have cv2 := fun (qq : Nat) => conv8 (w := wz.drewN qq) (n := p) (c := dd) (hasN (has_take (HA.out.below BZ.out (Nat.le_refl _)) p) qq) (by rw [List.length_take, HBL.out]; have := HLL.out.2.1; have := HBL.out; omega)
      clear hhz hnz hz1 hz2 bz HOY BY
      go_upto_region 19 with fail
      go_quiet (fail)
      go_wp2_with fail
      go_ret
      exact ⟨by simp, by have := BZ.out; (repeat' (first | (with_reducible exact Below.refl _ _) | (with_reducible assumption) | (with_reducible refine below_drewN ?_ _) | (with_reducible refine below_new ?_ _) | (with_reducible refine Below.alloc ?_ ?_ _) | (with_reducible refine Below.drew ?_) | (with_reducible refine Below.setCell ?_ ?_ _) | (with_reducible apply below_at; (case k => (with_reducible assumption)); (case hB => omega)) | (with_reducible apply below_on; (with_reducible assumption)) | (go_size; done) | (with_reducible apply size_of)))⟩
    · have HM := Lib.hid (mr_no (b := b) (q := q) rfl he)
      rw [HM.out.2.1] at HOY
      have hmy : my = 0 := by have := HOY.out.len.1; simpa using this
      subst hmy
      rw [HM.out.2.2]
      have hbn : (mrE b q != 0) = true := by simpa using he
      have hbq : (mrE b q == 0) = false := by simpa using he
      generalize mrE b q = ee at *
      clear HM HOY he
      go_wp2_with fail
      go_ret
      exact ⟨by simp, BY.out⟩
  case inl =>
    have HV := Lib.hid hv
    have HD : Hid (∀ r ∈ rs, IsD r.sum) := Lib.hid HR.out.d
    have HGD := Lib.hid (good_of hv HR.out.d)
    have HM16 : Hid (m ≤ 16) := Lib.hid (by have := (vl_zero hv).1; rw [HL.out] at this; exact this)
    have HTB := Lib.hid (tabB_b HR.out.d)
    have HTL : Hid ((tabB rs).length ≤ 4448) := Lib.hid (by have h1 := tabB_len HGD.out; have h2 := HM16.out; have h3 := HL.out; omega)
    rw [hv]
    clear hv
    go_wp2_with fail
    refine (Write_any rs P m d w2 (HT.out.1.below B2.out (Nat.le_refl _)) (HR.out.below B2.out (Nat.le_refl _))).mono ?_
    rintro e w3 ⟨A3, n3, c3, rfl, hn3, h31, h32, hh3, b3⟩
    rw [HV.out]
    rw [wr_ok HV.out] at hh3 hn3
    have B3 := Lib.hid (mb_bb B2.out b3)
    have HH3 := Lib.hid hh3
    have HN3 := Lib.hid hn3
    have HC3 := Lib.hid (And.intro h31 h32)
    have HBK := Lib.hid (mr_back (c := b) HV.out HD.out (by rw [HBL.out]; exact HN.out))
    have HPT := Lib.hid (fun (i : Nat) (h : i < (tabB rs).length) => mr_part (i := i) HV.out HD.out h)
    rw [HL.out] at HBK HPT
    obtain ⟨X, hX⟩ : ∃ X, tabB rs = X := ⟨_, rfl⟩
    rw [hX] at HH3 HN3 HBK HPT HTB HTL
    have G3 := mb_new w3 (.cells #[] 5)
    have HH3' := Lib.hid (HH3.out.below G3 (Nat.le_refl _))
    have B3' := Lib.hid (mb_bb B3.out G3)
    have BW3 := Lib.hid G3
    clear hn3 h31 h32 hh3 b3 hX B2 G3
    go_wp2_with (first | (at_builtin; refine app8z rfl _ _ rfl w3.heap.size _ [] rfl (.inr ⟨rfl, _, rfl⟩) A3 n3 c3 X rfl HN3.out.symm HH3'.out n3 (by simp) (by have := HTL.out; have := HN3.out; omega) (by simp) ?_; intro A4 c4 w4 ho4 hk4 hb4; rw [List.nil_append] at ho4; have HO4 := Lib.hid ho4; have BW4 := Lib.hid (BW3.out.trans hb4); have HSZ := Lib.hid hb4.size; clear ho4 hk4 hb4) | (at_builtin; refine app8z rfl _ _ rfl w3.heap.size _ X rfl HO4.out A n dd b rfl HBL.out (HA.out.below (B3.out.trans (BW4.out.mono B3.out.size)) (Nat.le_refl _)) (n3 + n) (by rw [HN3.out]) (by have := HTL.out; have := HN3.out; have := HN.out; omega) BW4.out.size ?_; intro A5 c5 w5 ho5 hk5 hb5; have HO5 := Lib.hid ho5; have BW5 := Lib.hid (BW4.out.trans hb5); clear ho5 hk5 hb5))
    have BT5 := Lib.hid (B3.out.trans (BW5.out.mono B3.out.size))
    have HB5 := Lib.hid (OwnZ.bounds HO5.out)
    refine (Read_m (X ++ b) A5 (n3 + n) c5 (m : Int) w5 (OwnZ.has HO5.out) (by rw [List.length_append, ← HN3.out, HBL.out]) HB5.out.2.1 HB5.out.2.2 (fun z hz => by rcases List.mem_append.1 hz with h | h; exact HTB.out z h; exact HB.out z h) (HT.out.1.below BT5.out (Nat.le_refl _)) (HT.out.2.below BT5.out (Nat.le_refl _)) (by omega) m9).mono ?_
    rintro e w6 ⟨A6, m6, c6, rfl, o6, b6⟩
    rw [HBK.out.1, HBK.out.2.2, ← HN3.out]
    rw [HBK.out.2.1] at o6
    have l6 := o6.len.1
    rw [HL.out] at l6
    subst l6
    have O6 := Lib.hid o6
    have BW6 := Lib.hid (BW5.out.trans (b6.mono BW5.out.size))
    have BT6 := Lib.hid (B3.out.trans (BW6.out.mono B3.out.size))
    clear o6 b6 HO5 HB5 BT5 BW5 HO4 BW4 HSZ HH3' B3'
    go_wp2_with fail
    refine (Same_any rs rs A6 P m6 m6 c6 d w6 O6.out.has (HR.out.below BT6.out (Nat.le_refl _)).h HL.out HL.out (by have := HM16.out; omega) (by have := HM16.out; omega) (fun r hr => ⟨by have := (HGD.out r hr).1; unfold maxLen; omega, by have := HGD.out r hr; omega, HD.out r hr⟩) (fun r hr => ⟨by have := (HGD.out r hr).1; unfold maxLen; omega, by have := HGD.out r hr; omega, HD.out r hr⟩)).mono ?_
    rintro e w7 ⟨rfl, b7⟩
    rw [show decide (rs = rs) = true from decide_eq_true rfl]
    have BW7 := Lib.hid (BW6.out.trans (b7.mono BW6.out.size))
    clear b7 O6 BW6 BT6
    go_wp2_with fail
    go_loopw [13] (fun iv wq => ∃ j : Nat, j ≤ n3 + 7 ∧ iv = .int .i64 (j : Int) ∧ Below w3.heap.size w3 wq) (fun iv _ => n3 + 7 - (intOf iv).toNat)
    case atStart => exact ⟨0, by omega, rfl, BW7.out⟩
    case round =>
      clear BW7
      obtain ⟨j, hj, rfl, acc⟩ := hrel
      rename World => wq
      have HACC := Lib.hid acc
      have BX := Lib.hid (B3.out.trans (acc.mono B3.out.size))
      have n34 : (n3 : Int) ≤ 4448 := by have := HTL.out; have := HN3.out; omega
      by_cases hlt : j < n3
      · have HLT := Lib.hid hlt
        have j1 : (j : Int) < n3 := by omega
        have j0 : 0 ≤ (j : Int) := by omega
        have j2 : (j : Int) ≤ c3 := by have := HC3.out.1; omega
        have hjc : j ≤ c3 := by have := HC3.out.1; omega
        have HJC := Lib.hid hjc
        clear hj hlt acc hjc
        go_wp2_with fail
        refine (Read_m (X.take j) A3 j c3 (m6 : Int) wq (has_take (HH3.out.below HACC.out (Nat.le_refl _)) j) (by rw [List.length_take]; have := HN3.out; have := HLT.out; omega) HJC.out HC3.out.2 (fun z hz => HTB.out z (List.mem_of_mem_take hz)) (HT.out.1.below BX.out (Nat.le_refl _)) (HT.out.2.below BX.out (Nat.le_refl _)) (by omega) m9).mono ?_
        rintro e w8 ⟨A8, m8, c8, rfl, o8, b8⟩
        rw [HPT.out j (by rw [← HN3.out]; exact HLT.out)]
        have B8 := Lib.hid (HACC.out.trans (b8.mono HACC.out.size))
        clear o8 b8
        go_wp2_with fail
        exact ⟨⟨j + 7, by have := HLT.out; omega, by go_num, B8.out⟩, by simp [intOf]; have := HLT.out; omega⟩
      · have j1 : ¬ (j : Int) < n3 := by omega
        clear hj hlt acc HACC
        go_wp2_with fail
        refine (Read_m b A n dd q wq (HA.out.below BX.out (Nat.le_refl _)) HBL.out HC.out.1 (by have := HC.out.2; omega) HB.out (HT.out.1.below BX.out (Nat.le_refl _)) (HT.out.2.below BX.out (Nat.le_refl _)) HQ.out.1 HQ.out.2).mono ?_
        rintro e wy ⟨Ay, my, cy, rfl, oy, by'⟩
        have BY := Lib.hid (mb_bb BX.out by')
        have HOY := Lib.hid oy
        clear by' oy BX
        by_cases he : mrE b q = 0
        · obtain ⟨l, p, hq, hrd, hv, e2, e3⟩ := mr_zero he
          rw [e2] at HOY
          rw [he, e3]
          have HV := Lib.hid hv
          have HRD := Lib.hid hrd
          have HLL := Lib.hid (rdS_le HB.out hrd)
          have HOK := Lib.hid (rdS_ok HB.out hrd)
          have HMY : Hid ((my : Int) = q) := Lib.hid (by have h1 := HOY.out.len.1; have h2 := HLL.out.2.2; omega)
          have hmy := HMY.out
          subst hmy
          have p0 : 0 ≤ (p : Int) := by omega
          have p1 : (p : Int) ≤ n := by have := HLL.out.2.1; have := HBL.out; omega
          have p2 : (p : Int) ≤ dd := by have := HC.out.1; omega
          have HPD := Lib.hid (show p ≤ dd by omega)
          clear he hq hrd hv e2 e3
          go_wp2_with fail
          refine (Write_any l Ay my cy wy (HT.out.1.below BY.out (Nat.le_refl _)) ⟨HOY.out.has, HOY.out.len.1.symm, HOY.out.len.2.1, by have := HOY.out.len.2.2; unfold maxLen at this; omega, fun r hr => by have := (HOK.out r hr).1; omega, fun r hr => (HOK.out r hr).2⟩).mono ?_
          rintro e wz ⟨Az, nz, cz, rfl, hnz, hz1, hz2, hhz, bz⟩
          rw [HV.out]
          rw [wr_ok HV.out, tab_back HB.out HRD.out] at hhz hnz
          have BZ := Lib.hid (mb_bb BY.out bz)
          have cv1 := fun (qq : Nat) => conv8 (w := wz.drewN qq) (c := cz) (hasN hhz qq) hnz.symm
          have cv2 := fun (qq : Nat) => conv8 (w := wz.drewN qq) (n := p) (c := dd) (hasN (has_take (HA.out.below BZ.out (Nat.le_refl _)) p) qq) (by rw [List.length_take, HBL.out]; have := HLL.out.2.1; have := HBL.out; omega)
          clear hhz hnz hz1 hz2 bz HOY BY
          go_upto_region 19 with fail
          go_quiet (fail)
          go_wp2_with fail
          go_ret
          exact ⟨by simp, by have := BZ.out; (repeat' (first | (with_reducible exact Below.refl _ _) | (with_reducible assumption) | (with_reducible refine below_drewN ?_ _) | (with_reducible refine below_new ?_ _) | (with_reducible refine Below.alloc ?_ ?_ _) | (with_reducible refine Below.drew ?_) | (with_reducible refine Below.setCell ?_ ?_ _) | (with_reducible apply below_at; (case k => (with_reducible assumption)); (case hB => omega)) | (with_reducible apply below_on; (with_reducible assumption)) | (go_size; done) | (with_reducible apply size_of)))⟩
        · have HM := Lib.hid (mr_no (b := b) (q := q) rfl he)
          rw [HM.out.2.1] at HOY
          have hmy : my = 0 := by have := HOY.out.len.1; simpa using this
          subst hmy
          rw [HM.out.2.2]
          have hbn : (mrE b q != 0) = true := by simpa using he
          have hbq : (mrE b q == 0) = false := by simpa using he
          generalize mrE b q = ee at *
          clear HM HOY he
          go_wp2_with fail
          go_ret
          exact ⟨by simp, BY.out⟩
end Go.Proofs.YtiihafhnaiicoaaDoor.mbW

namespace Go.Proofs.YtiihafhnaiicoaaDoor.mbW
set_option maxRecDepth 100000
open Go.RowKit Go.Proofs.YtiihafhnaiicoaaDoor.base Go.Proofs.YtiihafhnaiicoaaDoor.shP Go.Proofs.YtiihafhnaiicoaaDoor.shW Go.Proofs.YtiihafhnaiicoaaDoor.ocP Go.Proofs.YtiihafhnaiicoaaDoor.ocW
open Go.Proofs.YtiihafhnaiicoaaDoor.trW (IsD sv zd_isD digest_isD z20_at)
set_option linter.unusedVariables false
set_option linter.unusedSimpArgs false
set_option maxRecDepth 100000
/-- The five strings that are no names. -/
def noN : List ByteArray := [⟨#[]⟩, ⟨#[97, 32, 98]⟩, ⟨#[127]⟩, ⟨#[10]⟩, ⟨#[97, 97, 97, 97, 97, 97, 97, 97, 97, 97, 97, 97, 97, 97, 97, 97, 97, 97, 97, 97, 97, 97, 97, 97, 97, 97, 97, 97, 97, 97, 97, 97, 97, 97, 97, 97, 97, 97, 97, 97, 97]⟩]
theorem noN_bad : ∀ k, k < 5 → nmB (noN.getD k .empty) = false := by decide +kernel
theorem ck_no {k : Nat} (hk : k < 5) : ckE [⟨noN.getD k .empty, r80⟩] = 8 := ck_bad (ms := [⟨noN.getD k .empty, r80⟩]) (by simp) (by simp [sumD, r80]) (k := 0) (by simp) (noN_bad k hk)
theorem vl_no {k : Nat} (hk : k < 5) : vlE [⟨noN.getD k .empty, 0, dN⟩] = 8 := vl_bad (rs := [⟨noN.getD k .empty, 0, dN⟩]) (by simp) (k := 0) (by simp) (nbad (noN_bad k hk))
def loN : ByteArray := ⟨#[33, 126, 97, 97, 97, 97, 97, 97, 97, 97, 97, 97, 97, 97, 97, 97, 97, 97, 97, 97, 97, 97, 97, 97, 97, 97, 97, 97, 97, 97, 97, 97, 97, 97, 97, 97, 97, 97, 97, 97]⟩
def bN : ByteArray := ⟨#[98]⟩
def xN : ByteArray := ⟨#[120]⟩
def yN : ByteArray := ⟨#[121]⟩
def zzN : ByteArray := ⟨#[122, 122]⟩
theorem nm_lo : nmB loN = true := by decide +kernel
theorem nm_b : nmB bN = true := by decide +kernel
theorem nm_x : nmB xN = true := by decide +kernel
theorem nm_y : nmB yN = true := by decide +kernel
def fu (A B : Option Addr) (z : List Int) : List Mb := [⟨loN, A, 8191, 8191, z⟩, ⟨bN, B, 1, 1, [1]⟩]
def ov (A B : Option Addr) (z : List Int) : List Mb := [⟨loN, A, 8191, 8191, z⟩, ⟨bN, B, 2, 2, [1, 2]⟩]
theorem ck_fu (A B : Option Addr) (z : List Int) : ckE (fu A B z) = 0 := by
  rw [ck_ok (ms := fu A B z) (by simp [fu]) (by simp [sumD, fu]) (fun k hk => by
    rcases (show k = 0 ∨ k = 1 by simp [fu] at hk; omega) with rfl | rfl
    · exact nm_lo
    · exact nm_b)]
  refine tw_all (fun i hi k hk => ?_)
  obtain ⟨rfl, rfl⟩ : i = 1 ∧ k = 0 := by simp [fu, nms] at hi; omega
  show bN ≠ loN
  decide +kernel
theorem ck_ov (A B : Option Addr) (z : List Int) : ckE (ov A B z) = 4 := ck_sum (by simp [ov]) (by simp [sumD, ov])
theorem ck_17 : ckE (List.replicate 17 mb0) = 4 := ck_long (by rw [List.length_replicate]; decide)
theorem ck_xx : ckE [⟨xN, r80⟩, ⟨xN, r80⟩] = 14 := by
  rw [ck_ok (ms := [⟨xN, r80⟩, ⟨xN, r80⟩]) (by simp) (by simp [sumD, r80]) (fun k hk => by
    rcases (show k = 0 ∨ k = 1 by simp at hk; omega) with rfl | rfl <;> exact nm_x)]
  exact tw_at (ss := nms [⟨xN, r80⟩, ⟨xN, r80⟩]) (i := 1) (k := 0) (by simp [nms]) (by decide) rfl
/-- Three records that are none. -/
def bdR (k : Nat) : Rc := ⟨xN, ([-1, 8193, 0] : List Int).getD k 0, zd⟩
theorem zd_dN : zd ≠ digest [] := by rw [dN_is]; decide
theorem vl_bd {k : Nat} (hk : k < 3) : vlE [bdR k] = 8 := by
  refine vl_bad (rs := [bdR k]) (by simp) (k := 0) (by simp) ?_
  rcases (show k = 0 ∨ k = 1 ∨ k = 2 by omega) with rfl | rfl | rfl
  · exact sbad1 (r := bdR 0) (by decide)
  · exact sbad2 (r := bdR 1) (by decide)
  · exact sbad3 (r := bdR 2) rfl zd_dN
theorem bd_z {k : Nat} (hk : k < 3) : -9223372036854775808 ≤ (bdR k).sz ∧ (bdR k).sz ≤ 9223372036854775807 := by
  rcases (show k = 0 ∨ k = 1 ∨ k = 2 by omega) with rfl | rfl | rfl <;> decide
theorem vl_mn : vlE [⟨xN, 8192, zd⟩, ⟨yN, 1, zd⟩] = 4 := vl_sum (rs := [⟨xN, 8192, zd⟩, ⟨yN, 1, zd⟩]) (by simp) (fun k hk => by
  rcases (show k = 0 ∨ k = 1 by simp at hk; omega) with rfl | rfl
  · exact ⟨nm_x, by decide, by decide, fun h => absurd h (by decide)⟩
  · exact ⟨nm_y, by decide, by decide, fun h => absurd h (by decide)⟩) (by decide)
theorem vl_xx : vlE [⟨xN, 1, zd⟩, ⟨xN, 1, zd⟩] = 14 := by
  rw [vl_ok (rs := [⟨xN, 1, zd⟩, ⟨xN, 1, zd⟩]) (by simp) (fun k hk => by
    rcases (show k = 0 ∨ k = 1 by simp at hk; omega) with rfl | rfl <;> exact ⟨nm_x, by decide, by decide, fun h => absurd h (by decide)⟩) (by decide)]
  exact tw_at (ss := rnms [⟨xN, 1, zd⟩, ⟨xN, 1, zd⟩]) (i := 1) (k := 0) (by simp [rnms]) (by decide) rfl
theorem vl_17 : vlE (List.replicate 17 rc0) = 4 := vl_long (by rw [List.length_replicate]; decide)
theorem in_z {w : World} {A : Option Addr} (h : Has .u8 w A (List.replicate 8191 0)) : InR w ⟨A, 8191, 8191, List.replicate 8191 0⟩ := ⟨h, by simp, Nat.le_refl _, (by show (8191 : Nat) ≤ 9223372036854775807; omega), fun z hz => by rw [List.eq_of_mem_replicate hz]; decide⟩
theorem zero_lt (n : Nat) : Byt8 (List.replicate n 0) := fun z hz => by rw [List.eq_of_mem_replicate hz]; decide
theorem fu_e {A B : Option Addr} (k : Nat) (hk : k < (fu A B (List.replicate 8191 0)).length) : ((fu A B (List.replicate 8191 0)).getD k mb0).r.b.length = ((fu A B (List.replicate 8191 0)).getD k mb0).r.n := by
  rcases (show k = 0 ∨ k = 1 by simp [fu] at hk; omega) with rfl | rfl
  · show (List.replicate 8191 (0 : Int)).length = 8191
    simp
  · rfl
theorem vl_fu (A B : Option Addr) : vlE (ofL (fu A B (List.replicate 8191 0))) = 0 := vl_of (ck_fu _ _ _) fu_e
theorem fd_b (A B : Option Addr) : fdI (ofL (fu A B (List.replicate 8191 0))) bN = 1 ∧ fdE (ofL (fu A B (List.replicate 8191 0))) bN = 0 := by
  have h := fst_of (ck_fu A B (List.replicate 8191 0)) (k := 1) (by simp [fu])
  exact fd_hit (vl_fu A B) h
theorem fd_zz (A B : Option Addr) : fdI (ofL (fu A B (List.replicate 8191 0))) zzN = 0 ∧ fdE (ofL (fu A B (List.replicate 8191 0))) zzN = 6 := by
  refine fd_none (vl_fu A B) (fun j hj => ?_)
  rw [ofL_len] at hj
  rw [ofL_get _ hj]
  rcases (show j = 0 ∨ j = 1 by simp [fu] at hj; omega) with rfl | rfl
  · show loN ≠ zzN
    decide +kernel
  · show bN ≠ zzN
    decide +kernel
theorem _root_.Go.Proofs.YtiihafhnaiicoaaDoor.mbW.MemB.past {w w' : World} {P : Option Addr} {m d : Nat} {ms : List Mb} (h : MemB w P m d ms) (hb : Below w.heap.size w w') : MemB w' P m d ms := h.below hb (Nat.le_refl _)
theorem _root_.Go.Proofs.YtiihafhnaiicoaaDoor.mbW.RecB.past {w w' : World} {P : Option Addr} {m d : Nat} {rs : List Rc} (h : RecB w P m d rs) (hb : Below w.heap.size w w') : RecB w' P m d rs := h.below hb (Nat.le_refl _)
/-- Two members as a literal. -/
theorem memB2 {w : World} {q t : Mb} {g : Nat} (hg : w.heap.size = g) (hq : InR w q.r) (ht : InR w t.r) : MemB (w.alloc (.cells #[.string q.nm, .slice q.r.A q.r.n q.r.c, .string t.nm, .slice t.r.A t.r.n t.r.c] 37)) (some ⟨g, 0, none⟩) 2 2 [q, t] := by
  have L := Lies.fresh_at (w := w) (t := 37) (cs := [.string q.nm, .slice q.r.A q.r.n q.r.c, .string t.nm, .slice t.r.A t.r.n t.r.c]) hg
  refine ⟨rfl, Nat.le_refl _, by omega, .inr ⟨g, 0, rfl, L.lt, fun i hi => ?_⟩, fun x hx => ?_⟩
  · rcases (show i = 0 ∨ i = 1 by simp at hi; omega) with rfl | rfl
    · exact ⟨L.cell 0, L.cell 1⟩
    · exact ⟨L.cell 2, L.cell 3⟩
  · simp only [List.mem_cons, List.not_mem_nil, or_false] at hx
    rcases hx with rfl | rfl
    · exact hq.below (mb_new w _) (Nat.le_refl _)
    · exact ht.below (mb_new w _) (Nat.le_refl _)
def mCells (n : Nat) : Array Value := (ME.row (List.replicate n mb0)).toArray
theorem infoM : ∃ i z, Tryd.prog.info? 37 = some i ∧ i.zero = some z ∧ i.size = 2 ∧ i.bytes = 40 ∧ z.cells.size = 2 ∧ z.cells = (mbE mb0).toArray := by
  obtain ⟨i, h1, h2, h3, h4⟩ := info_parts (P := Tryd.prog) (e := 37) (z := .agg (mbE mb0).toArray) (size := 2) (bytes := 40) (by kernel_rfl)
  exact ⟨i, _, h1, h2, h3, h4, rfl, rfl⟩
theorem mkM (n : Nat) (hn : n ≤ 1000000) (w : World) : (Instr.makeSlice 22 (.int .i64 (n : Int)) (.int .i64 (n : Int))).run Tryd.prog w = .ok (.slice (some ⟨w.heap.size, 0, none⟩) n n) (w.alloc (.cells (mCells n) 37)) := by
  obtain ⟨i, z, h1, h2, h3, h4, h5, h6⟩ := infoM
  have hr := run_make (P := Tryd.prog) w 22 37 i z Tryd.underlying22 h1 h2 .i64 .i64 n n (by omega) (by omega) (by rw [h4]; omega) (by omega)
  simp only [Int.toNat_natCast] at hr
  rw [hr, h3, h6]
  have := made_row ME n
  rw [show mCells n = madeCells (mbE mb0).toArray (n * 2) from this.symm]
theorem memZ (w : World) (n : Nat) (hn : n ≤ 1000000) {g : Nat} (hg : w.heap.size = g) : MemB (w.alloc (.cells (mCells n) 37)) (some ⟨g, 0, none⟩) n n (List.replicate n mb0) := by
  refine ⟨by simp, Nat.le_refl _, by omega, memOf (by unfold mCells; exact Enc.lit ME w (List.replicate n mb0) hg) (fun m hm => ?_)⟩
  rw [List.eq_of_mem_replicate hm]
  exact inr0 _
theorem recZ (w : World) (n : Nat) (hn : n ≤ 1000000) {g : Nat} (hg : w.heap.size = g) : RecB (w.alloc (.cells (rCells n) 54)) (some ⟨g, 0, none⟩) n n (List.replicate n rc0) := by
  have ho := own_r w n hn (Nat.le_refl _) rfl
  subst hg
  refine ⟨ho.has, by simp, Nat.le_refl _, by omega, fun r hr => ?_, fun r hr => ?_⟩
  · rw [List.eq_of_mem_replicate hr]; decide
  · rw [List.eq_of_mem_replicate hr]; exact zd_isD
theorem recL (w : World) (rs : List Rc) {n g : Nat} (hn : rs.length = n) (h9 : n ≤ 1000) (hg : w.heap.size = g) (hz : ∀ r ∈ rs, -9223372036854775808 ≤ r.sz ∧ r.sz ≤ 9223372036854775807) (hd : ∀ r ∈ rs, IsD r.sum) : RecB (w.alloc (.cells (RE.row rs).toArray 54)) (some ⟨g, 0, none⟩) n n rs :=
  ⟨Enc.lit RE w rs hg, hn, Nat.le_refl _, by omega, hz, hd⟩
attribute [irreducible] mCells
/-! Read. -/
theorem fit_z {n : Nat} (h : 23 ≤ n) : fits (List.replicate n 0) 0 := by
  unfold fits nl
  rw [List.length_replicate, List.getD_eq_getElem?_getD, List.getElem?_replicate]
  split <;> simp <;> omega
theorem mr_1 : mrE [] (-1) = 2 := mr_arg (by decide)
theorem mr_17 : mrE (List.replicate 50001 0) 17 = 2 := mr_arg (by decide)
theorem mr_16 : mrE (List.replicate 50001 0) 16 = 4 := mr_many (by decide) (by rw [List.length_replicate]; decide)
theorem mr_e : mrE [] 1 = 18 := mr_short (by decide) (by decide) (by decide)
theorem mr_22 : mrE (List.replicate 22 0) 1 = 18 := mr_short (by decide) (by decide) (by decide)
theorem mr_23 : mrE (List.replicate 23 0) 1 = 12 := by
  have h : rdS (List.replicate 23 0) ((1 : Int).toNat) = some ([rcAt (List.replicate 23 0) 0], nx (List.replicate 23 0) 0) := rdS_step (k := 0) (l := []) (p := 0) rfl (fit_z (by decide))
  refine mr_form (by decide) (by decide) h ?_
  rw [vl_bad (rs := [rcAt (List.replicate 23 0) 0]) (by simp) (k := 0) (by simp) (nbad (r := rcAt (List.replicate 23 0) 0) (by decide +kernel))]
  decide
theorem mr_9 : mrE [9] 0 = 0 ∧ mrL [9] 0 = [] ∧ mrP [9] 0 = 0 := mr_ok (by decide) (by decide) (l := []) (p := 0) rfl (by
  rw [vl_ok (rs := []) (by simp) (fun k hk => by simp at hk) (by decide)]
  exact tw_all (fun i hi k hk => by simp [rnms] at hi))
end Go.Proofs.YtiihafhnaiicoaaDoor.mbW

namespace Go.Proofs.YtiihafhnaiicoaaDoor.mbW
set_option maxRecDepth 100000
open Go.RowKit Go.Proofs.YtiihafhnaiicoaaDoor.base Go.Proofs.YtiihafhnaiicoaaDoor.shP Go.Proofs.YtiihafhnaiicoaaDoor.shW Go.Proofs.YtiihafhnaiicoaaDoor.ocP Go.Proofs.YtiihafhnaiicoaaDoor.ocW
open Go.Proofs.YtiihafhnaiicoaaDoor.trW (IsD sv zd_isD digest_isD z20_at)
set_option linter.unusedVariables false
set_option linter.unusedSimpArgs false
set_option maxRecDepth 100000
theorem quiet_rec2 {o : Oper} {a : Act} {w : World} {C : World → Prop} {l : List Int} {s : ByteArray} (x z : Operand) (ho : o.op = .build 54 #[(0, x), (2, z)]) (hl : l.length = 20)
    (hx : a.eval x = .string s) (hz : a.eval z = .agg (darr l)) : Oper.quietAt Tryd.prog o a C w (.agg (rcE ⟨s, 0, l⟩).toArray) := by
  unfold Oper.quietAt execOp
  simp only [ho, List.map_toArray, List.map_cons, List.map_nil, hx, hz, Sem.run_bind, Sem.run_pure, run_rec2 hl, Result.andThen_ok]
  exact ⟨rfl, rfl⟩
theorem op_litR {o : Oper} {a : Act} {w : World} {K : Act → World → Prop} {Q : Exit → Act → World → Prop} {r : Rc} (x : Operand) (ho : o.op = .buildSlice 25 1 #[(0, x)])
    (hx : a.eval x = .agg (rcE r).toArray) (h : K (a.put o.dst (.slice (some ⟨w.heap.size, 0, none⟩) 1 1)) (w.alloc (.cells (rcE r).toArray 54))) : Oper.wp Tryd.prog o a w K Q := by
  unfold Oper.wp execOp
  simp only [ho, List.map_toArray, List.map_cons, List.map_nil, hx, Sem.run_bind, Sem.run_pure, run_litR, Result.andThen_ok]
  exact h
theorem in_b {w : World} {g : Nat} {l : List Int} {n : Nat} (h : Lies w g 5 (l.map (Value.int .u8))) (hl : l.length = n) (hb : ∀ z ∈ l, 0 ≤ z ∧ z ≤ 255) (h9 : n ≤ 1000) : InR w ⟨some ⟨g, 0, none⟩, n, n, l⟩ :=
  ⟨.inr ⟨g, 0, rfl, h.lt, fun i hi => by rw [Nat.zero_add, h.cell, List.getElem?_map, List.getElem?_eq_getElem hi, List.getD_eq_getElem?_getD, List.getElem?_eq_getElem hi]; rfl⟩, hl, Nat.le_refl _, (by show n ≤ 9223372036854775807; omega), hb⟩
set_option maxHeartbeats 32000000 in
theorem names (w : World) (hT : TabH w) : Calls Tryd.prog 6 #[] w fun e w' => e = .returned (.bool true) ∧ Below w.heap.size w w' := by
  have HT := Lib.hid hT
  clear hT
  go_enter Tryd.func6, Tryd.ntmps6
  go_wp2_with fail
  have L5 := Lib.hid (Lies.fresh w 9 [.string ⟨#[]⟩, .string ⟨#[97, 32, 98]⟩, .string ⟨#[127]⟩, .string ⟨#[10]⟩, .string ⟨#[97, 97, 97, 97, 97, 97, 97, 97, 97, 97, 97, 97, 97, 97, 97, 97, 97, 97, 97, 97, 97, 97, 97, 97, 97, 97, 97, 97, 97, 97, 97, 97, 97, 97, 97, 97, 97, 97, 97, 97, 97]⟩])
  have B := Lib.hid (mb_new w (.cells #[.string ⟨#[]⟩, .string ⟨#[97, 32, 98]⟩, .string ⟨#[127]⟩, .string ⟨#[10]⟩, .string ⟨#[97, 97, 97, 97, 97, 97, 97, 97, 97, 97, 97, 97, 97, 97, 97, 97, 97, 97, 97, 97, 97, 97, 97, 97, 97, 97, 97, 97, 97, 97, 97, 97, 97, 97, 97, 97, 97, 97, 97, 97, 97]⟩] 9))
  generalize (w.alloc (.cells #[.string ⟨#[]⟩, .string ⟨#[97, 32, 98]⟩, .string ⟨#[127]⟩, .string ⟨#[10]⟩, .string ⟨#[97, 97, 97, 97, 97, 97, 97, 97, 97, 97, 97, 97, 97, 97, 97, 97, 97, 97, 97, 97, 97, 97, 97, 97, 97, 97, 97, 97, 97, 97, 97, 97, 97, 97, 97, 97, 97, 97, 97, 97, 97]⟩] 9)) = w0 at *
  go_loopw [2] (fun iv wr => ∃ k : Nat, k ≤ 5 ∧ iv = .int .i64 (k : Int) ∧ Below w0.heap.size w0 wr) (fun iv _ => 5 - (intOf iv).toNat)
  case atStart => exact ⟨0, by decide, rfl, Below.refl _ _⟩
  case round =>
    obtain ⟨k, hk, rfl, acc⟩ := hrel
    rename World => wr
    have HACC := Lib.hid acc
    by_cases hlt : k < 5
    · have HK := Lib.hid hlt
      have k1 : (k : Int) < 5 := by omega
      have k0 : 0 ≤ (k : Int) := by omega
      have HCK := Lib.hid (ck_no hlt)
      have HVL := Lib.hid (vl_no hlt)
      have HCF : Hid (∀ x, Below w0.heap.size w0 x → x.cell? ⟨w.heap.size, k, none⟩ = some (.string (noN.getD k .empty))) := Lib.hid (fun x hb => by
        rw [(L5.out.past hb).cell]
        rcases (show k = 0 ∨ k = 1 ∨ k = 2 ∨ k = 3 ∨ k = 4 by omega) with rfl | rfl | rfl | rfl | rfl <;> rfl)
      generalize noN.getD k .empty = s at *
      clear hk hlt acc
      go_upto_region 5 with fail
      (have RD := grows_roads (S := fun x' => Below wr.heap.size wr x') (fun a b h1 h2 => h2.trans (h1.mono h2.size))); refine region_ord _ Grows RD (Below.drew (Below.refl _ _)) (by kernel_rfl) ?_; intro ops Q' hops hPQ hN; (have HNS : Hid (Region.noSelect ops = true) := Lib.hid (by rw [hops]; kernel_rfl)); (have hsz : ops.size = 19 := (by rw [hops]; rfl)); have HOP := Lib.hid hops; have HPQ := Lib.hid hPQ; have HN := Lib.hid hN; rw [hsz]; clear hops hsz hPQ hN
      refine ord_take RD 0 (at_list (by rw [HOP.out]; rfl)) HNS.out HPQ.out (by rw [HOP.out]; kernel_rfl) (by rw [HOP.out]; kernel_rfl) (by rw [HOP.out]; rfl) (fun K hK => ?_); apply Exists.intro; refine ⟨fun W hSW => ?_, hK _ ?_⟩; (focus ((try dsimp only at hSW); go_simp; try with_reducible rfl)); clear hK K; (try simp only [Act.put, List.setIfInBounds_toArray, List.set_cons_zero, List.set_cons_succ])
      refine ord_take RD 1 (at_list (by rw [HOP.out]; rfl)) HNS.out HPQ.out (by rw [HOP.out]; kernel_rfl) (by rw [HOP.out]; kernel_rfl) (by rw [HOP.out]; rfl) (fun K hK => ?_); apply Exists.intro; refine ⟨fun W hSW => ?_, hK _ ?_⟩; (focus ((try dsimp only at hSW); go_simp; try with_reducible rfl)); clear hK K; (try simp only [Act.put, List.setIfInBounds_toArray, List.set_cons_zero, List.set_cons_succ])
      refine ord_take RD 2 (at_list (by rw [HOP.out]; rfl)) HNS.out HPQ.out (by rw [HOP.out]; kernel_rfl) (by rw [HOP.out]; kernel_rfl) (by rw [HOP.out]; rfl) (fun K hK => ?_); apply Exists.intro; refine ⟨fun W hSW => ?_, hK _ ?_⟩; (focus ((try dsimp only at hSW); go_simp; try with_reducible rfl)); clear hK K; (try simp only [Act.put, List.setIfInBounds_toArray, List.set_cons_zero, List.set_cons_succ])
      refine ord_take RD 3 (at_list (by rw [HOP.out]; rfl)) HNS.out HPQ.out (by rw [HOP.out]; kernel_rfl) (by rw [HOP.out]; kernel_rfl) (by rw [HOP.out]; rfl) (fun K hK => ?_); apply Exists.intro; refine ⟨fun W hSW => ?_, hK _ ?_⟩; (focus ((try dsimp only at hSW); have y := HCF.out _ (mb_bb HACC.out hSW); go_simp; try with_reducible rfl)); clear hK K; (try simp only [Act.put, List.setIfInBounds_toArray, List.set_cons_zero, List.set_cons_succ])
      refine ord_take RD 4 (at_list (by rw [HOP.out]; rfl)) HNS.out HPQ.out (by rw [HOP.out]; kernel_rfl) (by rw [HOP.out]; kernel_rfl) (by rw [HOP.out]; rfl) (fun K hK => ?_); apply Exists.intro; refine ⟨fun W hSW => ?_, hK _ ?_⟩; (focus ((try dsimp only at hSW); go_simp; try with_reducible rfl)); clear hK K; (try simp only [Act.put, List.setIfInBounds_toArray, List.set_cons_zero, List.set_cons_succ])
      refine ord_one RD 5 (by rw [HOP.out]; kernel_rfl) (at_list (by rw [HOP.out]; rfl)) (by rw [HOP.out]; rfl) (fun W1 hWW hSW K hK => ?_); (try dsimp only at hSW)
      go_simp
      have HM := Lib.hid (memB1 (q := ⟨s, r80⟩) (w := W1) rfl (inr0 W1))
      have G := mb_new W1 (.cells #[.string s, .slice none 0 0] 37)
      refine hK _ _ (mb_bb hSW G) ?_
      clear hSW hWW G
      clear hK K; (try simp only [Act.put, List.setIfInBounds_toArray, List.set_cons_zero, List.set_cons_succ])
      generalize hw1 : (W1.alloc (.cells #[.string s, .slice none 0 0] 37)) = W1b at *
      have HM1 : Hid (MemB W1b (some ⟨W1.heap.size, 0, none⟩) 1 1 [⟨s, r80⟩]) := Lib.hid (by rw [← hw1]; exact HM.out)
      clear hw1 HM
      generalize W1.heap.size = g1 at *
      refine ord_one RD 6 (by rw [HOP.out]; kernel_rfl) (at_list (by rw [HOP.out]; rfl)) (by rw [HOP.out]; rfl) (fun W2 hWW hSW K hK => ?_); (try dsimp only at hSW)
      go_simp
      refine (Check_any [⟨s, r80⟩] (some ⟨g1, 0, none⟩) 1 1 W2 (HM1.out.past hWW)).mono ?_
      rintro e w6 ⟨rfl, b⟩
      rw [HCK.out]
      refine hK _ _ (mb_bb hSW b) ?_
      clear hSW hWW b
      clear hK K; (try simp only [Act.put, List.setIfInBounds_toArray, List.set_cons_zero, List.set_cons_succ])
      refine ord_take RD 7 (at_list (by rw [HOP.out]; rfl)) HNS.out HPQ.out (by rw [HOP.out]; kernel_rfl) (by rw [HOP.out]; kernel_rfl) (by rw [HOP.out]; rfl) (fun K hK => ?_); apply Exists.intro; refine ⟨fun W hSW => ?_, hK _ ?_⟩; (focus ((try dsimp only at hSW); go_simp; try with_reducible rfl)); clear hK K; (try simp only [Act.put, List.setIfInBounds_toArray, List.set_cons_zero, List.set_cons_succ])
      refine ord_take RD 8 (at_list (by rw [HOP.out]; rfl)) HNS.out HPQ.out (by rw [HOP.out]; kernel_rfl) (by rw [HOP.out]; kernel_rfl) (by rw [HOP.out]; rfl) (fun K hK => ?_); apply Exists.intro; refine ⟨fun W hSW => ?_, hK _ ?_⟩; (focus ((try dsimp only at hSW); go_simp; try with_reducible rfl)); clear hK K; (try simp only [Act.put, List.setIfInBounds_toArray, List.set_cons_zero, List.set_cons_succ])
      refine ord_take RD 9 (at_list (by rw [HOP.out]; rfl)) HNS.out HPQ.out (by rw [HOP.out]; kernel_rfl) (by rw [HOP.out]; kernel_rfl) (by rw [HOP.out]; rfl) (fun K hK => ?_); apply Exists.intro; refine ⟨fun W hSW => ?_, hK _ ?_⟩; (focus ((try dsimp only at hSW); go_simp; try with_reducible rfl)); clear hK K; (try simp only [Act.put, List.setIfInBounds_toArray, List.set_cons_zero, List.set_cons_succ])
      refine ord_take RD 10 (at_list (by rw [HOP.out]; rfl)) HNS.out HPQ.out (by rw [HOP.out]; kernel_rfl) (by rw [HOP.out]; kernel_rfl) (by rw [HOP.out]; rfl) (fun K hK => ?_); apply Exists.intro; refine ⟨fun W hSW => ?_, hK _ ?_⟩; (focus ((try dsimp only at hSW); go_simp; try with_reducible rfl)); clear hK K; (try simp only [Act.put, List.setIfInBounds_toArray, List.set_cons_zero, List.set_cons_succ])
      refine ord_take RD 11 (at_list (by rw [HOP.out]; rfl)) HNS.out HPQ.out (by rw [HOP.out]; kernel_rfl) (by rw [HOP.out]; kernel_rfl) (by rw [HOP.out]; rfl) (fun K hK => ?_); apply Exists.intro; refine ⟨fun W hSW => ?_, hK _ ?_⟩; (focus ((try dsimp only at hSW); go_simp; try with_reducible rfl)); clear hK K; (try simp only [Act.put, List.setIfInBounds_toArray, List.set_cons_zero, List.set_cons_succ])
      refine ord_take RD 12 (at_list (by rw [HOP.out]; rfl)) HNS.out HPQ.out (by rw [HOP.out]; kernel_rfl) (by rw [HOP.out]; kernel_rfl) (by rw [HOP.out]; rfl) (fun K hK => ?_); apply Exists.intro; refine ⟨fun W hSW => ?_, hK _ ?_⟩; (focus ((try dsimp only at hSW); have y := HCF.out _ (mb_bb HACC.out hSW); go_simp; try with_reducible rfl)); clear hK K; (try simp only [Act.put, List.setIfInBounds_toArray, List.set_cons_zero, List.set_cons_succ])
      refine ord_one RD 13 (by rw [HOP.out]; kernel_rfl) (at_list (by rw [HOP.out]; rfl)) (by rw [HOP.out]; rfl) (fun W3 hWW hSW K hK => ?_); (try dsimp only at hSW)
      go_simp
      refine (none_any W3).mono ?_
      rintro e w7 ⟨rfl, b⟩
      refine hK _ _ (mb_bb hSW b) ?_
      clear hSW hWW b
      clear hK K; (try simp only [Act.put, List.setIfInBounds_toArray, List.set_cons_zero, List.set_cons_succ])
      refine ord_take RD 14 (at_list (by rw [HOP.out]; rfl)) HNS.out HPQ.out (by rw [HOP.out]; kernel_rfl) (by rw [HOP.out]; kernel_rfl) (by rw [HOP.out]; rfl) (fun K hK => ?_); apply Exists.intro; refine ⟨fun W hSW => ?_, hK _ ?_⟩; (focus ((try dsimp only at hSW); exact (quiet_rec2 _ _ rfl dN_isD.len rfl rfl))); clear hK K; (try simp only [Act.put, List.setIfInBounds_toArray, List.set_cons_zero, List.set_cons_succ])
      refine ord_one RD 15 (by rw [HOP.out]; kernel_rfl) (at_list (by rw [HOP.out]; rfl)) (by rw [HOP.out]; rfl) (fun W4 hWW hSW K hK => ?_); (try dsimp only at hSW)
      refine op_litR (r := ⟨s, 0, dN⟩) _ rfl rfl ?_
      have HR := Lib.hid (recB1 (w := W4) (r := ⟨s, 0, dN⟩) rfl (show (-9223372036854775808 : Int) ≤ 0 ∧ (0 : Int) ≤ 9223372036854775807 by decide) dN_isD)
      have G := mb_new W4 (.cells (rcE ⟨s, 0, dN⟩).toArray 54)
      refine hK _ _ (mb_bb hSW G) ?_
      clear hSW hWW G
      clear hK K; (try simp only [Act.put, List.setIfInBounds_toArray, List.set_cons_zero, List.set_cons_succ])
      generalize hw4 : (W4.alloc (.cells (rcE ⟨s, 0, dN⟩).toArray 54)) = W4b at *
      have HR1 : Hid (RecB W4b (some ⟨W4.heap.size, 0, none⟩) 1 1 [⟨s, 0, dN⟩]) := Lib.hid (by first | exact HR.out | (rw [← hw4]; exact HR.out))
      clear hw4 HR
      generalize W4.heap.size = g4 at *
      refine ord_one RD 16 (by rw [HOP.out]; kernel_rfl) (at_list (by rw [HOP.out]; rfl)) (by rw [HOP.out]; rfl) (fun W5 hWW hSW K hK => ?_); (try dsimp only at hSW)
      go_simp
      refine (Valid_any [⟨s, 0, dN⟩] (some ⟨g4, 0, none⟩) 1 1 W5 (HT.out.1.below (mb_bb B.out (mb_bb HACC.out hSW)) (Nat.le_refl _)) (HR1.out.past hWW)).mono ?_
      rintro e w8 ⟨rfl, b⟩
      rw [HVL.out]
      refine hK _ _ (mb_bb hSW b) ?_
      clear hSW hWW b
      clear hK K; (try simp only [Act.put, List.setIfInBounds_toArray, List.set_cons_zero, List.set_cons_succ])
      refine ord_take RD 17 (at_list (by rw [HOP.out]; rfl)) HNS.out HPQ.out (by rw [HOP.out]; kernel_rfl) (by rw [HOP.out]; kernel_rfl) (by rw [HOP.out]; rfl) (fun K hK => ?_); apply Exists.intro; refine ⟨fun W hSW => ?_, hK _ ?_⟩; (focus ((try dsimp only at hSW); go_simp; try with_reducible rfl)); clear hK K; (try simp only [Act.put, List.setIfInBounds_toArray, List.set_cons_zero, List.set_cons_succ])
      refine ord_take RD 18 (at_list (by rw [HOP.out]; rfl)) HNS.out HPQ.out (by rw [HOP.out]; kernel_rfl) (by rw [HOP.out]; kernel_rfl) (by rw [HOP.out]; rfl) (fun K hK => ?_); apply Exists.intro; refine ⟨fun W hSW => ?_, hK _ ?_⟩; (focus ((try dsimp only at hSW); go_simp; try with_reducible rfl)); clear hK K; (try simp only [Act.put, List.setIfInBounds_toArray, List.set_cons_zero, List.set_cons_succ])
      refine ord_done (by rw [HOP.out]; kernel_rfl) (fun W6 hWW hSW => HN.out _ _ ?_); clear HOP HNS HPQ HN RD; (try dsimp only at hSW)
      have B6 := Lib.hid (mb_bb HACC.out hSW)
      clear hSW hWW
      go_wp2_with fail
      exact ⟨⟨k + 1, HK.out, by go_num, B6.out⟩, by simp [intOf]; have := HK.out; omega⟩
    have k1 : ¬ (k : Int) < 5 := by omega
    obtain rfl : k = 5 := by omega
    clear hk hlt L5
    replace B := Lib.hid (mb_bb B.out HACC.out)
    clear HACC acc
    rename World => wn
    have kz : ∀ W : World, (Instr.makeSlice 35 (.int .i64 8191) (.int .i64 8191)).run Tryd.prog W = .ok (.slice (some ⟨W.heap.size, 0, none⟩) 8191 8191) (W.alloc (.cells (zCells 8191) 5)) := fun W => mk8 8191 (by omega) W
    go_upto_region 9 with fail
    have S1 : (wn.alloc (.cells (zCells 8191) 5)).heap.size = wn.heap.size + 1 := by simp
    have S2 : ((wn.alloc (.cells (zCells 8191) 5)).alloc (.cells #[.int .u8 1] 5)).heap.size = wn.heap.size + 1 + 1 := by simp
    have Q1 := in_z ((has_z wn 5 8191 (by decide) rfl).below (mb_new (wn.alloc (.cells (zCells 8191) 5)) (.cells #[.int .u8 1] 5)) (Nat.le_refl _))
    have Q2 := in_b (l := [1]) (Lies.fresh_at (t := 5) (cs := ([1] : List Int).map (Value.int .u8)) S1) rfl (by decide) (by decide)
    have HF := Lib.hid (memB2 (w := ((wn.alloc (.cells (zCells 8191) 5)).alloc (.cells #[.int .u8 1] 5))) (q := ⟨loN, ⟨some ⟨wn.heap.size, 0, none⟩, 8191, 8191, List.replicate 8191 0⟩⟩) (t := ⟨bN, ⟨some ⟨wn.heap.size + 1, 0, none⟩, 1, 1, [1]⟩⟩) S2 Q1 Q2)
    have b := mb_bb (mb_new wn (.cells (zCells 8191) 5)) (mb_bb (mb_new (wn.alloc (.cells (zCells 8191) 5)) (.cells #[.int .u8 1] 5)) (mb_new ((wn.alloc (.cells (zCells 8191) 5)).alloc (.cells #[.int .u8 1] 5)) (.cells #[.string ⟨#[33, 126, 97, 97, 97, 97, 97, 97, 97, 97, 97, 97, 97, 97, 97, 97, 97, 97, 97, 97, 97, 97, 97, 97, 97, 97, 97, 97, 97, 97, 97, 97, 97, 97, 97, 97, 97, 97, 97, 97]⟩, .slice (some ⟨wn.heap.size, 0, none⟩) 8191 8191, .string ⟨#[98]⟩, .slice (some ⟨wn.heap.size + 1, 0, none⟩) 1 1] 37)))
    replace B := Lib.hid (mb_bb B.out b)
    clear b S1 S2 Q1 Q2
    skip
    change Hid (MemB (((wn.alloc (.cells (zCells 8191) 5)).alloc (.cells #[.int .u8 1] 5)).alloc (.cells #[.string ⟨#[33, 126, 97, 97, 97, 97, 97, 97, 97, 97, 97, 97, 97, 97, 97, 97, 97, 97, 97, 97, 97, 97, 97, 97, 97, 97, 97, 97, 97, 97, 97, 97, 97, 97, 97, 97, 97, 97, 97, 97]⟩, .slice (some ⟨wn.heap.size, 0, none⟩) 8191 8191, .string ⟨#[98]⟩, .slice (some ⟨wn.heap.size + 1, 0, none⟩) 1 1] 37)) _ 2 2 (fu (some ⟨wn.heap.size, 0, none⟩) (some ⟨wn.heap.size + 1, 0, none⟩) (List.replicate 8191 0))) at HF
    generalize hwx : (((wn.alloc (.cells (zCells 8191) 5)).alloc (.cells #[.int .u8 1] 5)).alloc (.cells #[.string ⟨#[33, 126, 97, 97, 97, 97, 97, 97, 97, 97, 97, 97, 97, 97, 97, 97, 97, 97, 97, 97, 97, 97, 97, 97, 97, 97, 97, 97, 97, 97, 97, 97, 97, 97, 97, 97, 97, 97, 97, 97]⟩, .slice (some ⟨wn.heap.size, 0, none⟩) 8191 8191, .string ⟨#[98]⟩, .slice (some ⟨wn.heap.size + 1, 0, none⟩) 1 1] 37)) = wx at *
    obtain ⟨PHF, hPHF⟩ : ∃ P, (some ⟨wn.heap.size, 0, none⟩ : Option Addr) = P := ⟨_, rfl⟩
    obtain ⟨QHF, hQHF⟩ : ∃ P, (some ⟨wn.heap.size + 1, 0, none⟩ : Option Addr) = P := ⟨_, rfl⟩
    rw [hPHF, hQHF] at HF
    obtain ⟨gHF, hgHF⟩ : ∃ g, wn.heap.size + 1 + 1 = g := ⟨_, rfl⟩
    rw [hgHF] at HF ⊢
    clear hPHF hQHF hgHF hwx
    rename World => wn
    go_upto_region 10 with fail
    have S1 : (wn.alloc (.cells (zCells 8191) 5)).heap.size = wn.heap.size + 1 := by simp
    have S2 : ((wn.alloc (.cells (zCells 8191) 5)).alloc (.cells #[.int .u8 1, .int .u8 2] 5)).heap.size = wn.heap.size + 1 + 1 := by simp
    have Q1 := in_z ((has_z wn 5 8191 (by decide) rfl).below (mb_new (wn.alloc (.cells (zCells 8191) 5)) (.cells #[.int .u8 1, .int .u8 2] 5)) (Nat.le_refl _))
    have Q2 := in_b (l := [1, 2]) (Lies.fresh_at (t := 5) (cs := ([1, 2] : List Int).map (Value.int .u8)) S1) rfl (by decide) (by decide)
    have HO := Lib.hid (memB2 (w := ((wn.alloc (.cells (zCells 8191) 5)).alloc (.cells #[.int .u8 1, .int .u8 2] 5))) (q := ⟨loN, ⟨some ⟨wn.heap.size, 0, none⟩, 8191, 8191, List.replicate 8191 0⟩⟩) (t := ⟨bN, ⟨some ⟨wn.heap.size + 1, 0, none⟩, 2, 2, [1, 2]⟩⟩) S2 Q1 Q2)
    have b := mb_bb (mb_new wn (.cells (zCells 8191) 5)) (mb_bb (mb_new (wn.alloc (.cells (zCells 8191) 5)) (.cells #[.int .u8 1, .int .u8 2] 5)) (mb_new ((wn.alloc (.cells (zCells 8191) 5)).alloc (.cells #[.int .u8 1, .int .u8 2] 5)) (.cells #[.string ⟨#[33, 126, 97, 97, 97, 97, 97, 97, 97, 97, 97, 97, 97, 97, 97, 97, 97, 97, 97, 97, 97, 97, 97, 97, 97, 97, 97, 97, 97, 97, 97, 97, 97, 97, 97, 97, 97, 97, 97, 97]⟩, .slice (some ⟨wn.heap.size, 0, none⟩) 8191 8191, .string ⟨#[98]⟩, .slice (some ⟨wn.heap.size + 1, 0, none⟩) 2 2] 37)))
    replace HF := Lib.hid (HF.out.past b)
    replace B := Lib.hid (mb_bb B.out b)
    clear b S1 S2 Q1 Q2
    skip
    change Hid (MemB (((wn.alloc (.cells (zCells 8191) 5)).alloc (.cells #[.int .u8 1, .int .u8 2] 5)).alloc (.cells #[.string ⟨#[33, 126, 97, 97, 97, 97, 97, 97, 97, 97, 97, 97, 97, 97, 97, 97, 97, 97, 97, 97, 97, 97, 97, 97, 97, 97, 97, 97, 97, 97, 97, 97, 97, 97, 97, 97, 97, 97, 97, 97]⟩, .slice (some ⟨wn.heap.size, 0, none⟩) 8191 8191, .string ⟨#[98]⟩, .slice (some ⟨wn.heap.size + 1, 0, none⟩) 2 2] 37)) _ 2 2 (ov (some ⟨wn.heap.size, 0, none⟩) (some ⟨wn.heap.size + 1, 0, none⟩) (List.replicate 8191 0))) at HO
    generalize hwx : (((wn.alloc (.cells (zCells 8191) 5)).alloc (.cells #[.int .u8 1, .int .u8 2] 5)).alloc (.cells #[.string ⟨#[33, 126, 97, 97, 97, 97, 97, 97, 97, 97, 97, 97, 97, 97, 97, 97, 97, 97, 97, 97, 97, 97, 97, 97, 97, 97, 97, 97, 97, 97, 97, 97, 97, 97, 97, 97, 97, 97, 97, 97]⟩, .slice (some ⟨wn.heap.size, 0, none⟩) 8191 8191, .string ⟨#[98]⟩, .slice (some ⟨wn.heap.size + 1, 0, none⟩) 2 2] 37)) = wx at *
    obtain ⟨PHO, hPHO⟩ : ∃ P, (some ⟨wn.heap.size, 0, none⟩ : Option Addr) = P := ⟨_, rfl⟩
    obtain ⟨QHO, hQHO⟩ : ∃ P, (some ⟨wn.heap.size + 1, 0, none⟩ : Option Addr) = P := ⟨_, rfl⟩
    rw [hPHO, hQHO] at HO
    obtain ⟨gHO, hgHO⟩ : ∃ g, wn.heap.size + 1 + 1 = g := ⟨_, rfl⟩
    rw [hgHO] at HO ⊢
    clear hPHO hQHO hgHO hwx
    rename World => wn
    clear kz
    go_wp2_with fail
    refine (Of_any (ov PHO QHO (List.replicate 8191 0)) (some ⟨gHO, 0, none⟩) 2 2 wn (HT.out.1.below B.out (Nat.le_refl _)) HO.out).mono ?_
    rintro e wn ⟨hof, b⟩
    rcases hof with ⟨hz, _⟩ | ⟨_, rfl⟩
    · exact absurd ((ck_ov PHO QHO (List.replicate 8191 0)).symm.trans hz) (by decide)
    rw [ck_ov PHO QHO (List.replicate 8191 0)]
    replace HF := Lib.hid (HF.out.past b)
    replace HO := Lib.hid (HO.out.past b)
    replace B := Lib.hid (mb_bb B.out b)
    clear b
    rename World => wn
    clear HO
    have km : ∀ W : World, (Instr.makeSlice 22 (.int .i64 17) (.int .i64 17)).run Tryd.prog W = .ok (.slice (some ⟨W.heap.size, 0, none⟩) 17 17) (W.alloc (.cells (mCells 17) 37)) := fun W => mkM 17 (by omega) W
    go_wp2_with fail
    clear km
    have HM := Lib.hid (memZ wn 17 (by decide) rfl)
    have b := mb_new wn (.cells (mCells 17) 37)
    replace HF := Lib.hid (HF.out.past b)
    replace B := Lib.hid (mb_bb B.out b)
    clear b
    refine (Of_any (List.replicate 17 mb0) (some ⟨wn.heap.size, 0, none⟩) 17 17 _ (HT.out.1.below B.out (Nat.le_refl _)) HM.out).mono ?_
    rintro e wn ⟨hof, b⟩
    rcases hof with ⟨hz, _⟩ | ⟨_, rfl⟩
    · exact absurd ((ck_17).symm.trans hz) (by decide)
    rw [ck_17]
    replace HF := Lib.hid (HF.out.past b)
    replace B := Lib.hid (mb_bb B.out b)
    clear b
    rename World => wn
    clear HM
    go_wp2_with fail
    have HM := Lib.hid (memB2 (w := wn) (q := ⟨xN, r80⟩) (t := ⟨xN, r80⟩) rfl (inr0 wn) (inr0 wn))
    have b := mb_new wn (.cells #[.string ⟨#[120]⟩, .slice none 0 0, .string ⟨#[120]⟩, .slice none 0 0] 37)
    replace HF := Lib.hid (HF.out.past b)
    replace B := Lib.hid (mb_bb B.out b)
    clear b
    refine (Of_any [⟨xN, r80⟩, ⟨xN, r80⟩] (some ⟨wn.heap.size, 0, none⟩) 2 2 _ (HT.out.1.below B.out (Nat.le_refl _)) HM.out).mono ?_
    rintro e wn ⟨hof, b⟩
    rcases hof with ⟨hz, _⟩ | ⟨_, rfl⟩
    · exact absurd ((ck_xx).symm.trans hz) (by decide)
    rw [ck_xx]
    replace HF := Lib.hid (HF.out.past b)
    replace B := Lib.hid (mb_bb B.out b)
    clear b
    rename World => wn
    clear HM
    go_wp2_with fail
    refine (Of_any (fu PHF QHF (List.replicate 8191 0)) (some ⟨gHF, 0, none⟩) 2 2 _ (HT.out.1.below B.out (Nat.le_refl _)) HF.out).mono ?_
    rintro e wn ⟨hof, b⟩
    rcases hof with ⟨_, X, xc, rfl, ho⟩ | ⟨hz, _⟩
    case inr => exact absurd (ck_fu PHF QHF (List.replicate 8191 0)) hz
    have HL := Lib.hid (show RecB wn X 2 xc (ofL (fu PHF QHF (List.replicate 8191 0))) from ⟨ho.has, by rw [ofL_len]; rfl, ho.len.2.1, by have := ho.len.2.2; unfold maxLen at this; omega, fun r hr => (ofL_ok (ck_fu _ _ _) r hr).z, fun r hr => (ofL_ok (ck_fu _ _ _) r hr).d⟩)
    clear ho
    replace HF := Lib.hid (HF.out.past b)
    replace B := Lib.hid (mb_bb B.out b)
    clear b
    rename World => wn
    go_upto_region 15 with fail
    have S1 : (wn.alloc (.cells #[.string ⟨#[120]⟩, .int .i64 (-1), .int .u8 0, .int .u8 0, .int .u8 0, .int .u8 0, .int .u8 0, .int .u8 0, .int .u8 0, .int .u8 0, .int .u8 0, .int .u8 0, .int .u8 0, .int .u8 0, .int .u8 0, .int .u8 0, .int .u8 0, .int .u8 0, .int .u8 0, .int .u8 0, .int .u8 0, .int .u8 0] 54)).heap.size = wn.heap.size + 1 := by simp
    have S2 : ((wn.alloc (.cells #[.string ⟨#[120]⟩, .int .i64 (-1), .int .u8 0, .int .u8 0, .int .u8 0, .int .u8 0, .int .u8 0, .int .u8 0, .int .u8 0, .int .u8 0, .int .u8 0, .int .u8 0, .int .u8 0, .int .u8 0, .int .u8 0, .int .u8 0, .int .u8 0, .int .u8 0, .int .u8 0, .int .u8 0, .int .u8 0, .int .u8 0] 54)).alloc (.cells #[.string ⟨#[120]⟩, .int .i64 8193, .int .u8 0, .int .u8 0, .int .u8 0, .int .u8 0, .int .u8 0, .int .u8 0, .int .u8 0, .int .u8 0, .int .u8 0, .int .u8 0, .int .u8 0, .int .u8 0, .int .u8 0, .int .u8 0, .int .u8 0, .int .u8 0, .int .u8 0, .int .u8 0, .int .u8 0, .int .u8 0] 54)).heap.size = wn.heap.size + 1 + 1 := by simp
    have S3 : (((wn.alloc (.cells #[.string ⟨#[120]⟩, .int .i64 (-1), .int .u8 0, .int .u8 0, .int .u8 0, .int .u8 0, .int .u8 0, .int .u8 0, .int .u8 0, .int .u8 0, .int .u8 0, .int .u8 0, .int .u8 0, .int .u8 0, .int .u8 0, .int .u8 0, .int .u8 0, .int .u8 0, .int .u8 0, .int .u8 0, .int .u8 0, .int .u8 0] 54)).alloc (.cells #[.string ⟨#[120]⟩, .int .i64 8193, .int .u8 0, .int .u8 0, .int .u8 0, .int .u8 0, .int .u8 0, .int .u8 0, .int .u8 0, .int .u8 0, .int .u8 0, .int .u8 0, .int .u8 0, .int .u8 0, .int .u8 0, .int .u8 0, .int .u8 0, .int .u8 0, .int .u8 0, .int .u8 0, .int .u8 0, .int .u8 0] 54)).alloc (.cells #[.string ⟨#[120]⟩, .int .i64 0, .int .u8 0, .int .u8 0, .int .u8 0, .int .u8 0, .int .u8 0, .int .u8 0, .int .u8 0, .int .u8 0, .int .u8 0, .int .u8 0, .int .u8 0, .int .u8 0, .int .u8 0, .int .u8 0, .int .u8 0, .int .u8 0, .int .u8 0, .int .u8 0, .int .u8 0, .int .u8 0] 54)).heap.size = wn.heap.size + 1 + 1 + 1 := by simp
    have HB0 : Hid (RecB ((((wn.alloc (.cells #[.string ⟨#[120]⟩, .int .i64 (-1), .int .u8 0, .int .u8 0, .int .u8 0, .int .u8 0, .int .u8 0, .int .u8 0, .int .u8 0, .int .u8 0, .int .u8 0, .int .u8 0, .int .u8 0, .int .u8 0, .int .u8 0, .int .u8 0, .int .u8 0, .int .u8 0, .int .u8 0, .int .u8 0, .int .u8 0, .int .u8 0] 54)).alloc (.cells #[.string ⟨#[120]⟩, .int .i64 8193, .int .u8 0, .int .u8 0, .int .u8 0, .int .u8 0, .int .u8 0, .int .u8 0, .int .u8 0, .int .u8 0, .int .u8 0, .int .u8 0, .int .u8 0, .int .u8 0, .int .u8 0, .int .u8 0, .int .u8 0, .int .u8 0, .int .u8 0, .int .u8 0, .int .u8 0, .int .u8 0] 54)).alloc (.cells #[.string ⟨#[120]⟩, .int .i64 0, .int .u8 0, .int .u8 0, .int .u8 0, .int .u8 0, .int .u8 0, .int .u8 0, .int .u8 0, .int .u8 0, .int .u8 0, .int .u8 0, .int .u8 0, .int .u8 0, .int .u8 0, .int .u8 0, .int .u8 0, .int .u8 0, .int .u8 0, .int .u8 0, .int .u8 0, .int .u8 0] 54)).alloc (.cells #[.slice (some ⟨wn.heap.size, 0, none⟩) 1 1, .slice (some ⟨wn.heap.size + 1, 0, none⟩) 1 1, .slice (some ⟨wn.heap.size + 1 + 1, 0, none⟩) 1 1] 25)) (some ⟨wn.heap.size, 0, none⟩) 1 1 [bdR 0]) := Lib.hid ((recB1 (w := wn) (r := bdR 0) rfl (bd_z (by decide)) zd_isD).past (mb_bb (mb_new (wn.alloc (.cells #[.string ⟨#[120]⟩, .int .i64 (-1), .int .u8 0, .int .u8 0, .int .u8 0, .int .u8 0, .int .u8 0, .int .u8 0, .int .u8 0, .int .u8 0, .int .u8 0, .int .u8 0, .int .u8 0, .int .u8 0, .int .u8 0, .int .u8 0, .int .u8 0, .int .u8 0, .int .u8 0, .int .u8 0, .int .u8 0, .int .u8 0] 54)) (.cells #[.string ⟨#[120]⟩, .int .i64 8193, .int .u8 0, .int .u8 0, .int .u8 0, .int .u8 0, .int .u8 0, .int .u8 0, .int .u8 0, .int .u8 0, .int .u8 0, .int .u8 0, .int .u8 0, .int .u8 0, .int .u8 0, .int .u8 0, .int .u8 0, .int .u8 0, .int .u8 0, .int .u8 0, .int .u8 0, .int .u8 0] 54)) (mb_bb (mb_new ((wn.alloc (.cells #[.string ⟨#[120]⟩, .int .i64 (-1), .int .u8 0, .int .u8 0, .int .u8 0, .int .u8 0, .int .u8 0, .int .u8 0, .int .u8 0, .int .u8 0, .int .u8 0, .int .u8 0, .int .u8 0, .int .u8 0, .int .u8 0, .int .u8 0, .int .u8 0, .int .u8 0, .int .u8 0, .int .u8 0, .int .u8 0, .int .u8 0] 54)).alloc (.cells #[.string ⟨#[120]⟩, .int .i64 8193, .int .u8 0, .int .u8 0, .int .u8 0, .int .u8 0, .int .u8 0, .int .u8 0, .int .u8 0, .int .u8 0, .int .u8 0, .int .u8 0, .int .u8 0, .int .u8 0, .int .u8 0, .int .u8 0, .int .u8 0, .int .u8 0, .int .u8 0, .int .u8 0, .int .u8 0, .int .u8 0] 54)) (.cells #[.string ⟨#[120]⟩, .int .i64 0, .int .u8 0, .int .u8 0, .int .u8 0, .int .u8 0, .int .u8 0, .int .u8 0, .int .u8 0, .int .u8 0, .int .u8 0, .int .u8 0, .int .u8 0, .int .u8 0, .int .u8 0, .int .u8 0, .int .u8 0, .int .u8 0, .int .u8 0, .int .u8 0, .int .u8 0, .int .u8 0] 54)) (mb_new (((wn.alloc (.cells #[.string ⟨#[120]⟩, .int .i64 (-1), .int .u8 0, .int .u8 0, .int .u8 0, .int .u8 0, .int .u8 0, .int .u8 0, .int .u8 0, .int .u8 0, .int .u8 0, .int .u8 0, .int .u8 0, .int .u8 0, .int .u8 0, .int .u8 0, .int .u8 0, .int .u8 0, .int .u8 0, .int .u8 0, .int .u8 0, .int .u8 0] 54)).alloc (.cells #[.string ⟨#[120]⟩, .int .i64 8193, .int .u8 0, .int .u8 0, .int .u8 0, .int .u8 0, .int .u8 0, .int .u8 0, .int .u8 0, .int .u8 0, .int .u8 0, .int .u8 0, .int .u8 0, .int .u8 0, .int .u8 0, .int .u8 0, .int .u8 0, .int .u8 0, .int .u8 0, .int .u8 0, .int .u8 0, .int .u8 0] 54)).alloc (.cells #[.string ⟨#[120]⟩, .int .i64 0, .int .u8 0, .int .u8 0, .int .u8 0, .int .u8 0, .int .u8 0, .int .u8 0, .int .u8 0, .int .u8 0, .int .u8 0, .int .u8 0, .int .u8 0, .int .u8 0, .int .u8 0, .int .u8 0, .int .u8 0, .int .u8 0, .int .u8 0, .int .u8 0, .int .u8 0, .int .u8 0] 54)) (.cells #[.slice (some ⟨wn.heap.size, 0, none⟩) 1 1, .slice (some ⟨wn.heap.size + 1, 0, none⟩) 1 1, .slice (some ⟨wn.heap.size + 1 + 1, 0, none⟩) 1 1] 25)))))
    have HB1 : Hid (RecB ((((wn.alloc (.cells #[.string ⟨#[120]⟩, .int .i64 (-1), .int .u8 0, .int .u8 0, .int .u8 0, .int .u8 0, .int .u8 0, .int .u8 0, .int .u8 0, .int .u8 0, .int .u8 0, .int .u8 0, .int .u8 0, .int .u8 0, .int .u8 0, .int .u8 0, .int .u8 0, .int .u8 0, .int .u8 0, .int .u8 0, .int .u8 0, .int .u8 0] 54)).alloc (.cells #[.string ⟨#[120]⟩, .int .i64 8193, .int .u8 0, .int .u8 0, .int .u8 0, .int .u8 0, .int .u8 0, .int .u8 0, .int .u8 0, .int .u8 0, .int .u8 0, .int .u8 0, .int .u8 0, .int .u8 0, .int .u8 0, .int .u8 0, .int .u8 0, .int .u8 0, .int .u8 0, .int .u8 0, .int .u8 0, .int .u8 0] 54)).alloc (.cells #[.string ⟨#[120]⟩, .int .i64 0, .int .u8 0, .int .u8 0, .int .u8 0, .int .u8 0, .int .u8 0, .int .u8 0, .int .u8 0, .int .u8 0, .int .u8 0, .int .u8 0, .int .u8 0, .int .u8 0, .int .u8 0, .int .u8 0, .int .u8 0, .int .u8 0, .int .u8 0, .int .u8 0, .int .u8 0, .int .u8 0] 54)).alloc (.cells #[.slice (some ⟨wn.heap.size, 0, none⟩) 1 1, .slice (some ⟨wn.heap.size + 1, 0, none⟩) 1 1, .slice (some ⟨wn.heap.size + 1 + 1, 0, none⟩) 1 1] 25)) (some ⟨wn.heap.size + 1, 0, none⟩) 1 1 [bdR 1]) := Lib.hid ((recB1 (w := (wn.alloc (.cells #[.string ⟨#[120]⟩, .int .i64 (-1), .int .u8 0, .int .u8 0, .int .u8 0, .int .u8 0, .int .u8 0, .int .u8 0, .int .u8 0, .int .u8 0, .int .u8 0, .int .u8 0, .int .u8 0, .int .u8 0, .int .u8 0, .int .u8 0, .int .u8 0, .int .u8 0, .int .u8 0, .int .u8 0, .int .u8 0, .int .u8 0] 54))) (r := bdR 1) S1 (bd_z (by decide)) zd_isD).past (mb_bb (mb_new ((wn.alloc (.cells #[.string ⟨#[120]⟩, .int .i64 (-1), .int .u8 0, .int .u8 0, .int .u8 0, .int .u8 0, .int .u8 0, .int .u8 0, .int .u8 0, .int .u8 0, .int .u8 0, .int .u8 0, .int .u8 0, .int .u8 0, .int .u8 0, .int .u8 0, .int .u8 0, .int .u8 0, .int .u8 0, .int .u8 0, .int .u8 0, .int .u8 0] 54)).alloc (.cells #[.string ⟨#[120]⟩, .int .i64 8193, .int .u8 0, .int .u8 0, .int .u8 0, .int .u8 0, .int .u8 0, .int .u8 0, .int .u8 0, .int .u8 0, .int .u8 0, .int .u8 0, .int .u8 0, .int .u8 0, .int .u8 0, .int .u8 0, .int .u8 0, .int .u8 0, .int .u8 0, .int .u8 0, .int .u8 0, .int .u8 0] 54)) (.cells #[.string ⟨#[120]⟩, .int .i64 0, .int .u8 0, .int .u8 0, .int .u8 0, .int .u8 0, .int .u8 0, .int .u8 0, .int .u8 0, .int .u8 0, .int .u8 0, .int .u8 0, .int .u8 0, .int .u8 0, .int .u8 0, .int .u8 0, .int .u8 0, .int .u8 0, .int .u8 0, .int .u8 0, .int .u8 0, .int .u8 0] 54)) (mb_new (((wn.alloc (.cells #[.string ⟨#[120]⟩, .int .i64 (-1), .int .u8 0, .int .u8 0, .int .u8 0, .int .u8 0, .int .u8 0, .int .u8 0, .int .u8 0, .int .u8 0, .int .u8 0, .int .u8 0, .int .u8 0, .int .u8 0, .int .u8 0, .int .u8 0, .int .u8 0, .int .u8 0, .int .u8 0, .int .u8 0, .int .u8 0, .int .u8 0] 54)).alloc (.cells #[.string ⟨#[120]⟩, .int .i64 8193, .int .u8 0, .int .u8 0, .int .u8 0, .int .u8 0, .int .u8 0, .int .u8 0, .int .u8 0, .int .u8 0, .int .u8 0, .int .u8 0, .int .u8 0, .int .u8 0, .int .u8 0, .int .u8 0, .int .u8 0, .int .u8 0, .int .u8 0, .int .u8 0, .int .u8 0, .int .u8 0] 54)).alloc (.cells #[.string ⟨#[120]⟩, .int .i64 0, .int .u8 0, .int .u8 0, .int .u8 0, .int .u8 0, .int .u8 0, .int .u8 0, .int .u8 0, .int .u8 0, .int .u8 0, .int .u8 0, .int .u8 0, .int .u8 0, .int .u8 0, .int .u8 0, .int .u8 0, .int .u8 0, .int .u8 0, .int .u8 0, .int .u8 0, .int .u8 0] 54)) (.cells #[.slice (some ⟨wn.heap.size, 0, none⟩) 1 1, .slice (some ⟨wn.heap.size + 1, 0, none⟩) 1 1, .slice (some ⟨wn.heap.size + 1 + 1, 0, none⟩) 1 1] 25))))
    have HB2 : Hid (RecB ((((wn.alloc (.cells #[.string ⟨#[120]⟩, .int .i64 (-1), .int .u8 0, .int .u8 0, .int .u8 0, .int .u8 0, .int .u8 0, .int .u8 0, .int .u8 0, .int .u8 0, .int .u8 0, .int .u8 0, .int .u8 0, .int .u8 0, .int .u8 0, .int .u8 0, .int .u8 0, .int .u8 0, .int .u8 0, .int .u8 0, .int .u8 0, .int .u8 0] 54)).alloc (.cells #[.string ⟨#[120]⟩, .int .i64 8193, .int .u8 0, .int .u8 0, .int .u8 0, .int .u8 0, .int .u8 0, .int .u8 0, .int .u8 0, .int .u8 0, .int .u8 0, .int .u8 0, .int .u8 0, .int .u8 0, .int .u8 0, .int .u8 0, .int .u8 0, .int .u8 0, .int .u8 0, .int .u8 0, .int .u8 0, .int .u8 0] 54)).alloc (.cells #[.string ⟨#[120]⟩, .int .i64 0, .int .u8 0, .int .u8 0, .int .u8 0, .int .u8 0, .int .u8 0, .int .u8 0, .int .u8 0, .int .u8 0, .int .u8 0, .int .u8 0, .int .u8 0, .int .u8 0, .int .u8 0, .int .u8 0, .int .u8 0, .int .u8 0, .int .u8 0, .int .u8 0, .int .u8 0, .int .u8 0] 54)).alloc (.cells #[.slice (some ⟨wn.heap.size, 0, none⟩) 1 1, .slice (some ⟨wn.heap.size + 1, 0, none⟩) 1 1, .slice (some ⟨wn.heap.size + 1 + 1, 0, none⟩) 1 1] 25)) (some ⟨wn.heap.size + 1 + 1, 0, none⟩) 1 1 [bdR 2]) := Lib.hid ((recB1 (w := ((wn.alloc (.cells #[.string ⟨#[120]⟩, .int .i64 (-1), .int .u8 0, .int .u8 0, .int .u8 0, .int .u8 0, .int .u8 0, .int .u8 0, .int .u8 0, .int .u8 0, .int .u8 0, .int .u8 0, .int .u8 0, .int .u8 0, .int .u8 0, .int .u8 0, .int .u8 0, .int .u8 0, .int .u8 0, .int .u8 0, .int .u8 0, .int .u8 0] 54)).alloc (.cells #[.string ⟨#[120]⟩, .int .i64 8193, .int .u8 0, .int .u8 0, .int .u8 0, .int .u8 0, .int .u8 0, .int .u8 0, .int .u8 0, .int .u8 0, .int .u8 0, .int .u8 0, .int .u8 0, .int .u8 0, .int .u8 0, .int .u8 0, .int .u8 0, .int .u8 0, .int .u8 0, .int .u8 0, .int .u8 0, .int .u8 0] 54))) (r := bdR 2) S2 (bd_z (by decide)) zd_isD).past (mb_new (((wn.alloc (.cells #[.string ⟨#[120]⟩, .int .i64 (-1), .int .u8 0, .int .u8 0, .int .u8 0, .int .u8 0, .int .u8 0, .int .u8 0, .int .u8 0, .int .u8 0, .int .u8 0, .int .u8 0, .int .u8 0, .int .u8 0, .int .u8 0, .int .u8 0, .int .u8 0, .int .u8 0, .int .u8 0, .int .u8 0, .int .u8 0, .int .u8 0] 54)).alloc (.cells #[.string ⟨#[120]⟩, .int .i64 8193, .int .u8 0, .int .u8 0, .int .u8 0, .int .u8 0, .int .u8 0, .int .u8 0, .int .u8 0, .int .u8 0, .int .u8 0, .int .u8 0, .int .u8 0, .int .u8 0, .int .u8 0, .int .u8 0, .int .u8 0, .int .u8 0, .int .u8 0, .int .u8 0, .int .u8 0, .int .u8 0] 54)).alloc (.cells #[.string ⟨#[120]⟩, .int .i64 0, .int .u8 0, .int .u8 0, .int .u8 0, .int .u8 0, .int .u8 0, .int .u8 0, .int .u8 0, .int .u8 0, .int .u8 0, .int .u8 0, .int .u8 0, .int .u8 0, .int .u8 0, .int .u8 0, .int .u8 0, .int .u8 0, .int .u8 0, .int .u8 0, .int .u8 0, .int .u8 0] 54)) (.cells #[.slice (some ⟨wn.heap.size, 0, none⟩) 1 1, .slice (some ⟨wn.heap.size + 1, 0, none⟩) 1 1, .slice (some ⟨wn.heap.size + 1 + 1, 0, none⟩) 1 1] 25)))
    have L3 := Lib.hid (Lies.fresh_at (w := (((wn.alloc (.cells #[.string ⟨#[120]⟩, .int .i64 (-1), .int .u8 0, .int .u8 0, .int .u8 0, .int .u8 0, .int .u8 0, .int .u8 0, .int .u8 0, .int .u8 0, .int .u8 0, .int .u8 0, .int .u8 0, .int .u8 0, .int .u8 0, .int .u8 0, .int .u8 0, .int .u8 0, .int .u8 0, .int .u8 0, .int .u8 0, .int .u8 0] 54)).alloc (.cells #[.string ⟨#[120]⟩, .int .i64 8193, .int .u8 0, .int .u8 0, .int .u8 0, .int .u8 0, .int .u8 0, .int .u8 0, .int .u8 0, .int .u8 0, .int .u8 0, .int .u8 0, .int .u8 0, .int .u8 0, .int .u8 0, .int .u8 0, .int .u8 0, .int .u8 0, .int .u8 0, .int .u8 0, .int .u8 0, .int .u8 0] 54)).alloc (.cells #[.string ⟨#[120]⟩, .int .i64 0, .int .u8 0, .int .u8 0, .int .u8 0, .int .u8 0, .int .u8 0, .int .u8 0, .int .u8 0, .int .u8 0, .int .u8 0, .int .u8 0, .int .u8 0, .int .u8 0, .int .u8 0, .int .u8 0, .int .u8 0, .int .u8 0, .int .u8 0, .int .u8 0, .int .u8 0, .int .u8 0] 54))) (t := 25) (cs := [.slice (some ⟨wn.heap.size, 0, none⟩) 1 1, .slice (some ⟨wn.heap.size + 1, 0, none⟩) 1 1, .slice (some ⟨wn.heap.size + 1 + 1, 0, none⟩) 1 1]) S3)
    have b := mb_bb (mb_new wn (.cells #[.string ⟨#[120]⟩, .int .i64 (-1), .int .u8 0, .int .u8 0, .int .u8 0, .int .u8 0, .int .u8 0, .int .u8 0, .int .u8 0, .int .u8 0, .int .u8 0, .int .u8 0, .int .u8 0, .int .u8 0, .int .u8 0, .int .u8 0, .int .u8 0, .int .u8 0, .int .u8 0, .int .u8 0, .int .u8 0, .int .u8 0] 54)) (mb_bb (mb_new (wn.alloc (.cells #[.string ⟨#[120]⟩, .int .i64 (-1), .int .u8 0, .int .u8 0, .int .u8 0, .int .u8 0, .int .u8 0, .int .u8 0, .int .u8 0, .int .u8 0, .int .u8 0, .int .u8 0, .int .u8 0, .int .u8 0, .int .u8 0, .int .u8 0, .int .u8 0, .int .u8 0, .int .u8 0, .int .u8 0, .int .u8 0, .int .u8 0] 54)) (.cells #[.string ⟨#[120]⟩, .int .i64 8193, .int .u8 0, .int .u8 0, .int .u8 0, .int .u8 0, .int .u8 0, .int .u8 0, .int .u8 0, .int .u8 0, .int .u8 0, .int .u8 0, .int .u8 0, .int .u8 0, .int .u8 0, .int .u8 0, .int .u8 0, .int .u8 0, .int .u8 0, .int .u8 0, .int .u8 0, .int .u8 0] 54)) (mb_bb (mb_new ((wn.alloc (.cells #[.string ⟨#[120]⟩, .int .i64 (-1), .int .u8 0, .int .u8 0, .int .u8 0, .int .u8 0, .int .u8 0, .int .u8 0, .int .u8 0, .int .u8 0, .int .u8 0, .int .u8 0, .int .u8 0, .int .u8 0, .int .u8 0, .int .u8 0, .int .u8 0, .int .u8 0, .int .u8 0, .int .u8 0, .int .u8 0, .int .u8 0] 54)).alloc (.cells #[.string ⟨#[120]⟩, .int .i64 8193, .int .u8 0, .int .u8 0, .int .u8 0, .int .u8 0, .int .u8 0, .int .u8 0, .int .u8 0, .int .u8 0, .int .u8 0, .int .u8 0, .int .u8 0, .int .u8 0, .int .u8 0, .int .u8 0, .int .u8 0, .int .u8 0, .int .u8 0, .int .u8 0, .int .u8 0, .int .u8 0] 54)) (.cells #[.string ⟨#[120]⟩, .int .i64 0, .int .u8 0, .int .u8 0, .int .u8 0, .int .u8 0, .int .u8 0, .int .u8 0, .int .u8 0, .int .u8 0, .int .u8 0, .int .u8 0, .int .u8 0, .int .u8 0, .int .u8 0, .int .u8 0, .int .u8 0, .int .u8 0, .int .u8 0, .int .u8 0, .int .u8 0, .int .u8 0] 54)) (mb_new (((wn.alloc (.cells #[.string ⟨#[120]⟩, .int .i64 (-1), .int .u8 0, .int .u8 0, .int .u8 0, .int .u8 0, .int .u8 0, .int .u8 0, .int .u8 0, .int .u8 0, .int .u8 0, .int .u8 0, .int .u8 0, .int .u8 0, .int .u8 0, .int .u8 0, .int .u8 0, .int .u8 0, .int .u8 0, .int .u8 0, .int .u8 0, .int .u8 0] 54)).alloc (.cells #[.string ⟨#[120]⟩, .int .i64 8193, .int .u8 0, .int .u8 0, .int .u8 0, .int .u8 0, .int .u8 0, .int .u8 0, .int .u8 0, .int .u8 0, .int .u8 0, .int .u8 0, .int .u8 0, .int .u8 0, .int .u8 0, .int .u8 0, .int .u8 0, .int .u8 0, .int .u8 0, .int .u8 0, .int .u8 0, .int .u8 0] 54)).alloc (.cells #[.string ⟨#[120]⟩, .int .i64 0, .int .u8 0, .int .u8 0, .int .u8 0, .int .u8 0, .int .u8 0, .int .u8 0, .int .u8 0, .int .u8 0, .int .u8 0, .int .u8 0, .int .u8 0, .int .u8 0, .int .u8 0, .int .u8 0, .int .u8 0, .int .u8 0, .int .u8 0, .int .u8 0, .int .u8 0, .int .u8 0] 54)) (.cells #[.slice (some ⟨wn.heap.size, 0, none⟩) 1 1, .slice (some ⟨wn.heap.size + 1, 0, none⟩) 1 1, .slice (some ⟨wn.heap.size + 1 + 1, 0, none⟩) 1 1] 25))))
    replace HF := Lib.hid (HF.out.past b)
    replace HL := Lib.hid (HL.out.past b)
    replace B := Lib.hid (mb_bb B.out b)
    clear b S1 S2 S3
    generalize hwx : ((((wn.alloc (.cells #[.string ⟨#[120]⟩, .int .i64 (-1), .int .u8 0, .int .u8 0, .int .u8 0, .int .u8 0, .int .u8 0, .int .u8 0, .int .u8 0, .int .u8 0, .int .u8 0, .int .u8 0, .int .u8 0, .int .u8 0, .int .u8 0, .int .u8 0, .int .u8 0, .int .u8 0, .int .u8 0, .int .u8 0, .int .u8 0, .int .u8 0] 54)).alloc (.cells #[.string ⟨#[120]⟩, .int .i64 8193, .int .u8 0, .int .u8 0, .int .u8 0, .int .u8 0, .int .u8 0, .int .u8 0, .int .u8 0, .int .u8 0, .int .u8 0, .int .u8 0, .int .u8 0, .int .u8 0, .int .u8 0, .int .u8 0, .int .u8 0, .int .u8 0, .int .u8 0, .int .u8 0, .int .u8 0, .int .u8 0] 54)).alloc (.cells #[.string ⟨#[120]⟩, .int .i64 0, .int .u8 0, .int .u8 0, .int .u8 0, .int .u8 0, .int .u8 0, .int .u8 0, .int .u8 0, .int .u8 0, .int .u8 0, .int .u8 0, .int .u8 0, .int .u8 0, .int .u8 0, .int .u8 0, .int .u8 0, .int .u8 0, .int .u8 0, .int .u8 0, .int .u8 0, .int .u8 0] 54)).alloc (.cells #[.slice (some ⟨wn.heap.size, 0, none⟩) 1 1, .slice (some ⟨wn.heap.size + 1, 0, none⟩) 1 1, .slice (some ⟨wn.heap.size + 1 + 1, 0, none⟩) 1 1] 25)) = wx at *
    clear hwx
    obtain ⟨gb, hgb⟩ : ∃ g, wn.heap.size = g := ⟨_, rfl⟩
    rw [hgb] at HB0 HB1 HB2 L3 ⊢
    clear hgb
    rename World => wb
    have HBK : Hid (∀ k, k < 3 → ∀ x, Below wb.heap.size wb x → x.cell? ⟨gb + 1 + 1 + 1, k, none⟩ = some (.slice (some ⟨gb + k, 0, none⟩) 1 1) ∧ RecB x (some ⟨gb + k, 0, none⟩) 1 1 [bdR k]) := Lib.hid (fun k hk x hb => by
      rw [(L3.out.past hb).cell]
      rcases (show k = 0 ∨ k = 1 ∨ k = 2 by omega) with rfl | rfl | rfl
      · exact ⟨rfl, HB0.out.past hb⟩
      · exact ⟨rfl, HB1.out.past hb⟩
      · exact ⟨rfl, HB2.out.past hb⟩)
    clear HB0 HB1 HB2 L3
    go_wp2_with fail
    go_loopw [15] (fun iv wr => ∃ k : Nat, k ≤ 3 ∧ iv = .int .i64 (k : Int) ∧ Below wb.heap.size wb wr) (fun iv _ => 3 - (intOf iv).toNat)
    case atStart => exact ⟨0, by decide, rfl, Below.refl _ _⟩
    case round =>
      obtain ⟨k, hk, rfl, acc⟩ := hrel
      rename World => wr
      by_cases hlt : k < 3
      · have HACC := Lib.hid acc
        have HK := Lib.hid hlt
        have k1 : (k : Int) < 3 := by omega
        have k0 : 0 ≤ (k : Int) := by omega
        have HV := Lib.hid (vl_bd hlt)
        have HZ := Lib.hid (bd_z hlt)
        have HD : Hid (IsD (bdR k).sum) := Lib.hid zd_isD
        have HQ := Lib.hid (HBK.out k hlt)
        obtain ⟨y, -⟩ := HQ.out _ acc
        have ltb : gb + 1 + 1 + 1 < wr.heap.size := lt_of_cell y
        have HWN : Hid (wrV [bdR k] = []) := Lib.hid (wr_no (by rw [HV.out]; decide))
        have HFB : Hid (fdE [bdR k] xN = 8) := Lib.hid (by rw [(fd_bad xN (by rw [HV.out]; decide)).2, HV.out])
        generalize bdR k = r at *
        clear hk hlt acc
        go_wp2_with fail
        refine (Write_any [r] (some ⟨gb + k, 0, none⟩) 1 1 wr (HT.out.1.below (mb_bb B.out HACC.out) (Nat.le_refl _)) (HQ.out _ HACC.out).2).mono ?_
        rintro e wq ⟨A3, n3, c3, rfl, hn3, -, -, -, b⟩
        rw [HV.out]
        clear hn3 y ltb
        replace HACC := Lib.hid (mb_bb HACC.out b)
        obtain ⟨y, -⟩ := HQ.out _ HACC.out
        have ltb : gb + 1 + 1 + 1 < wq.heap.size := lt_of_cell y
        clear b
        go_wp2_with fail
        refine (Find_any [r] xN (some ⟨gb + k, 0, none⟩) 1 1 _ (HT.out.1.below (mb_bb B.out HACC.out) (Nat.le_refl _)) (HQ.out _ HACC.out).2).mono ?_
        rintro e wq ⟨rfl, b⟩
        rw [HFB.out]
        clear y ltb
        replace HACC := Lib.hid (mb_bb HACC.out b)
        obtain ⟨y, -⟩ := HQ.out _ HACC.out
        have ltb : gb + 1 + 1 + 1 < wq.heap.size := lt_of_cell y
        clear b
        have RX := Lib.hid (Enc.Has.rng (HQ.out _ HACC.out).2.h (i := 0) (Nat.zero_lt_one))
        rw [show ([r] : List Rc).getD 0 RE.d = r from rfl] at RX
        go_wp2_with (first | (show wpList _ _ _ ({ dst := _, op := Op.load 54 _, type := _, pos := _, after := _, guard := _ } :: _) _ _; go_must (refine Enc.wp_ld RE (x := r) (P := Tryd.prog) Tryd.underlying54 rfl info22 (by rfl) _ rfl (RX.out) rfl ?_)))
        refine (Right_any r ⟨xN, r80⟩ _ (HT.out.1.below (mb_bb B.out HACC.out) (Nat.le_refl _)) HZ.out HD.out (inr0 _) (by decide)).mono ?_
        rintro e wq ⟨rfl, b⟩
        rw [HV.out]
        clear y ltb RX
        replace HACC := Lib.hid (mb_bb HACC.out b)
        obtain ⟨y, -⟩ := HQ.out _ HACC.out
        have ltb : gb + 1 + 1 + 1 < wq.heap.size := lt_of_cell y
        clear b
        go_wp2_with fail
        refine (Valid_any [r] (some ⟨gb + k, 0, none⟩) 1 1 _ (HT.out.1.below (mb_bb B.out HACC.out) (Nat.le_refl _)) (HQ.out _ HACC.out).2).mono ?_
        rintro e wq ⟨rfl, b⟩
        rw [HV.out]
        clear y ltb
        replace HACC := Lib.hid (mb_bb HACC.out b)
        obtain ⟨y, -⟩ := HQ.out _ HACC.out
        have ltb : gb + 1 + 1 + 1 < wq.heap.size := lt_of_cell y
        clear b
        go_wp2_with fail
        exact ⟨⟨k + 1, HK.out, by go_num, HACC.out⟩, by simp [intOf]; have := HK.out; omega⟩
      have k1 : ¬ (k : Int) < 3 := by omega
      obtain rfl : k = 3 := by omega
      clear hk hlt HBK
      replace HF := Lib.hid (HF.out.past acc)
      replace HL := Lib.hid (HL.out.past acc)
      replace B := Lib.hid (mb_bb B.out acc)
      clear acc
      rename World => wn
      go_wp2_with fail
      have HM : Hid (RecB (wn.alloc (.cells #[.string ⟨#[120]⟩, .int .i64 8192, .int .u8 0, .int .u8 0, .int .u8 0, .int .u8 0, .int .u8 0, .int .u8 0, .int .u8 0, .int .u8 0, .int .u8 0, .int .u8 0, .int .u8 0, .int .u8 0, .int .u8 0, .int .u8 0, .int .u8 0, .int .u8 0, .int .u8 0, .int .u8 0, .int .u8 0, .int .u8 0, .string ⟨#[121]⟩, .int .i64 1, .int .u8 0, .int .u8 0, .int .u8 0, .int .u8 0, .int .u8 0, .int .u8 0, .int .u8 0, .int .u8 0, .int .u8 0, .int .u8 0, .int .u8 0, .int .u8 0, .int .u8 0, .int .u8 0, .int .u8 0, .int .u8 0, .int .u8 0, .int .u8 0, .int .u8 0, .int .u8 0] 54)) (some ⟨wn.heap.size, 0, none⟩) 2 2 [⟨xN, 8192, zd⟩, ⟨yN, 1, zd⟩]) := Lib.hid (recL wn [⟨xN, 8192, zd⟩, ⟨yN, 1, zd⟩] rfl (by decide) rfl (by decide) (by simp; exact zd_isD))
      have b := mb_new wn (.cells #[.string ⟨#[120]⟩, .int .i64 8192, .int .u8 0, .int .u8 0, .int .u8 0, .int .u8 0, .int .u8 0, .int .u8 0, .int .u8 0, .int .u8 0, .int .u8 0, .int .u8 0, .int .u8 0, .int .u8 0, .int .u8 0, .int .u8 0, .int .u8 0, .int .u8 0, .int .u8 0, .int .u8 0, .int .u8 0, .int .u8 0, .string ⟨#[121]⟩, .int .i64 1, .int .u8 0, .int .u8 0, .int .u8 0, .int .u8 0, .int .u8 0, .int .u8 0, .int .u8 0, .int .u8 0, .int .u8 0, .int .u8 0, .int .u8 0, .int .u8 0, .int .u8 0, .int .u8 0, .int .u8 0, .int .u8 0, .int .u8 0, .int .u8 0, .int .u8 0, .int .u8 0] 54)
      replace HF := Lib.hid (HF.out.past b)
      replace HL := Lib.hid (HL.out.past b)
      replace B := Lib.hid (mb_bb B.out b)
      clear b
      refine (Valid_any [⟨xN, 8192, zd⟩, ⟨yN, 1, zd⟩] (some ⟨wn.heap.size, 0, none⟩) 2 2 _ (HT.out.1.below B.out (Nat.le_refl _)) HM.out).mono ?_
      rintro e wn ⟨rfl, b⟩
      rw [vl_mn]
      clear HM
      replace HF := Lib.hid (HF.out.past b)
      replace HL := Lib.hid (HL.out.past b)
      replace B := Lib.hid (mb_bb B.out b)
      clear b
      rename World => wn
      go_wp2_with fail
      have HM : Hid (RecB (wn.alloc (.cells #[.string ⟨#[120]⟩, .int .i64 1, .int .u8 0, .int .u8 0, .int .u8 0, .int .u8 0, .int .u8 0, .int .u8 0, .int .u8 0, .int .u8 0, .int .u8 0, .int .u8 0, .int .u8 0, .int .u8 0, .int .u8 0, .int .u8 0, .int .u8 0, .int .u8 0, .int .u8 0, .int .u8 0, .int .u8 0, .int .u8 0, .string ⟨#[120]⟩, .int .i64 1, .int .u8 0, .int .u8 0, .int .u8 0, .int .u8 0, .int .u8 0, .int .u8 0, .int .u8 0, .int .u8 0, .int .u8 0, .int .u8 0, .int .u8 0, .int .u8 0, .int .u8 0, .int .u8 0, .int .u8 0, .int .u8 0, .int .u8 0, .int .u8 0, .int .u8 0, .int .u8 0] 54)) (some ⟨wn.heap.size, 0, none⟩) 2 2 [⟨xN, 1, zd⟩, ⟨xN, 1, zd⟩]) := Lib.hid (recL wn [⟨xN, 1, zd⟩, ⟨xN, 1, zd⟩] rfl (by decide) rfl (by decide) (by simp; exact zd_isD))
      have b := mb_new wn (.cells #[.string ⟨#[120]⟩, .int .i64 1, .int .u8 0, .int .u8 0, .int .u8 0, .int .u8 0, .int .u8 0, .int .u8 0, .int .u8 0, .int .u8 0, .int .u8 0, .int .u8 0, .int .u8 0, .int .u8 0, .int .u8 0, .int .u8 0, .int .u8 0, .int .u8 0, .int .u8 0, .int .u8 0, .int .u8 0, .int .u8 0, .string ⟨#[120]⟩, .int .i64 1, .int .u8 0, .int .u8 0, .int .u8 0, .int .u8 0, .int .u8 0, .int .u8 0, .int .u8 0, .int .u8 0, .int .u8 0, .int .u8 0, .int .u8 0, .int .u8 0, .int .u8 0, .int .u8 0, .int .u8 0, .int .u8 0, .int .u8 0, .int .u8 0, .int .u8 0, .int .u8 0] 54)
      replace HF := Lib.hid (HF.out.past b)
      replace HL := Lib.hid (HL.out.past b)
      replace B := Lib.hid (mb_bb B.out b)
      clear b
      refine (Valid_any [⟨xN, 1, zd⟩, ⟨xN, 1, zd⟩] (some ⟨wn.heap.size, 0, none⟩) 2 2 _ (HT.out.1.below B.out (Nat.le_refl _)) HM.out).mono ?_
      rintro e wn ⟨rfl, b⟩
      rw [vl_xx]
      clear HM
      replace HF := Lib.hid (HF.out.past b)
      replace HL := Lib.hid (HL.out.past b)
      replace B := Lib.hid (mb_bb B.out b)
      clear b
      rename World => wn
      have km : ∀ W : World, (Instr.makeSlice 25 (.int .i64 17) (.int .i64 17)).run Tryd.prog W = .ok (.slice (some ⟨W.heap.size, 0, none⟩) 17 17) (W.alloc (.cells (rCells 17) 54)) := fun W => mkR 17 (by omega) W
      go_wp2_with fail
      clear km
      have HM := Lib.hid (recZ wn 17 (by decide) rfl)
      have b := mb_new wn (.cells (rCells 17) 54)
      replace HF := Lib.hid (HF.out.past b)
      replace HL := Lib.hid (HL.out.past b)
      replace B := Lib.hid (mb_bb B.out b)
      clear b
      refine (Write_any (List.replicate 17 rc0) (some ⟨wn.heap.size, 0, none⟩) 17 17 _ (HT.out.1.below B.out (Nat.le_refl _)) HM.out).mono ?_
      rintro e wn ⟨A4, n4, c4, rfl, hn4, -, -, -, b⟩
      rw [vl_17]
      clear HM hn4
      replace HF := Lib.hid (HF.out.past b)
      replace HL := Lib.hid (HL.out.past b)
      replace B := Lib.hid (mb_bb B.out b)
      clear b
      rename World => wn
      go_wp2_with fail
      refine (Find_any (ofL (fu PHF QHF (List.replicate 8191 0))) zzN X 2 xc _ (HT.out.1.below B.out (Nat.le_refl _)) HL.out).mono ?_
      rintro e wn ⟨rfl, b⟩
      rw [(fd_zz PHF QHF).1, (fd_zz PHF QHF).2]
      replace HF := Lib.hid (HF.out.past b)
      replace HL := Lib.hid (HL.out.past b)
      replace B := Lib.hid (mb_bb B.out b)
      clear b
      rename World => wn
      go_wp2_with fail
      refine (Find_any (ofL (fu PHF QHF (List.replicate 8191 0))) bN X 2 xc _ (HT.out.1.below B.out (Nat.le_refl _)) HL.out).mono ?_
      rintro e wn ⟨rfl, b⟩
      rw [(fd_b PHF QHF).1, (fd_b PHF QHF).2]
      replace HF := Lib.hid (HF.out.past b)
      replace HL := Lib.hid (HL.out.past b)
      replace B := Lib.hid (mb_bb B.out b)
      clear b
      rename World => wn
      go_wp2_with fail
      refine (Read_m [] none 0 0 (-1) _ (.inl rfl) rfl (Nat.le_refl _) (by decide) (fun z hz => by cases hz) (HT.out.1.below B.out (Nat.le_refl _)) (HT.out.2.below B.out (Nat.le_refl _)) (by decide) (by decide)).mono ?_
      rintro e wn ⟨A5, n5, c5, rfl, o5, b⟩
      rw [mr_1]
      generalize (mrP _ _ : Nat) = p5
      clear o5
      replace HF := Lib.hid (HF.out.past b)
      replace HL := Lib.hid (HL.out.past b)
      replace B := Lib.hid (mb_bb B.out b)
      clear b
      rename World => wn
      have kz : ∀ W : World, (Instr.makeSlice 35 (.int .i64 50001) (.int .i64 50001)).run Tryd.prog W = .ok (.slice (some ⟨W.heap.size, 0, none⟩) 50001 50001) (W.alloc (.cells (zCells 50001) 5)) := fun W => mk8 50001 (by omega) W
      go_wp2_with fail
      clear kz
      have HM := Lib.hid (has_z wn 5 50001 (by decide) rfl)
      have b := mb_new wn (.cells (zCells 50001) 5)
      replace HF := Lib.hid (HF.out.past b)
      replace HL := Lib.hid (HL.out.past b)
      replace B := Lib.hid (mb_bb B.out b)
      clear b
      refine (Read_m (List.replicate 50001 0) (some ⟨wn.heap.size, 0, none⟩) 50001 50001 17 _ HM.out List.length_replicate (Nat.le_refl _) (by decide) (zero_lt _) (HT.out.1.below B.out (Nat.le_refl _)) (HT.out.2.below B.out (Nat.le_refl _)) (by decide) (by decide)).mono ?_
      rintro e wn ⟨A5, n5, c5, rfl, o5, b⟩
      rw [mr_17]
      generalize (mrP _ _ : Nat) = p5
      clear o5
      replace HF := Lib.hid (HF.out.past b)
      replace HL := Lib.hid (HL.out.past b)
      replace B := Lib.hid (mb_bb B.out b)
      clear b
      rename World => wn
      clear HM
      have kz : ∀ W : World, (Instr.makeSlice 35 (.int .i64 50001) (.int .i64 50001)).run Tryd.prog W = .ok (.slice (some ⟨W.heap.size, 0, none⟩) 50001 50001) (W.alloc (.cells (zCells 50001) 5)) := fun W => mk8 50001 (by omega) W
      go_wp2_with fail
      clear kz
      have HM := Lib.hid (has_z wn 5 50001 (by decide) rfl)
      have b := mb_new wn (.cells (zCells 50001) 5)
      replace HF := Lib.hid (HF.out.past b)
      replace HL := Lib.hid (HL.out.past b)
      replace B := Lib.hid (mb_bb B.out b)
      clear b
      refine (Read_m (List.replicate 50001 0) (some ⟨wn.heap.size, 0, none⟩) 50001 50001 16 _ HM.out List.length_replicate (Nat.le_refl _) (by decide) (zero_lt _) (HT.out.1.below B.out (Nat.le_refl _)) (HT.out.2.below B.out (Nat.le_refl _)) (by decide) (by decide)).mono ?_
      rintro e wn ⟨A5, n5, c5, rfl, o5, b⟩
      rw [mr_16]
      generalize (mrP _ _ : Nat) = p5
      clear o5
      replace HF := Lib.hid (HF.out.past b)
      replace HL := Lib.hid (HL.out.past b)
      replace B := Lib.hid (mb_bb B.out b)
      clear b
      rename World => wn
      clear HM
      go_wp2_with fail
      refine (Read_m [] none 0 0 1 _ (.inl rfl) rfl (Nat.le_refl _) (by decide) (fun z hz => by cases hz) (HT.out.1.below B.out (Nat.le_refl _)) (HT.out.2.below B.out (Nat.le_refl _)) (by decide) (by decide)).mono ?_
      rintro e wn ⟨A5, n5, c5, rfl, o5, b⟩
      rw [mr_e]
      generalize (mrP _ _ : Nat) = p5
      clear o5
      replace HF := Lib.hid (HF.out.past b)
      replace HL := Lib.hid (HL.out.past b)
      replace B := Lib.hid (mb_bb B.out b)
      clear b
      rename World => wn
      have kz : ∀ W : World, (Instr.makeSlice 35 (.int .i64 22) (.int .i64 22)).run Tryd.prog W = .ok (.slice (some ⟨W.heap.size, 0, none⟩) 22 22) (W.alloc (.cells (zCells 22) 5)) := fun W => mk8 22 (by omega) W
      go_wp2_with fail
      clear kz
      have HM := Lib.hid (has_z wn 5 22 (by decide) rfl)
      have b := mb_new wn (.cells (zCells 22) 5)
      replace HF := Lib.hid (HF.out.past b)
      replace HL := Lib.hid (HL.out.past b)
      replace B := Lib.hid (mb_bb B.out b)
      clear b
      refine (Read_m (List.replicate 22 0) (some ⟨wn.heap.size, 0, none⟩) 22 22 1 _ HM.out List.length_replicate (Nat.le_refl _) (by decide) (zero_lt _) (HT.out.1.below B.out (Nat.le_refl _)) (HT.out.2.below B.out (Nat.le_refl _)) (by decide) (by decide)).mono ?_
      rintro e wn ⟨A5, n5, c5, rfl, o5, b⟩
      rw [mr_22]
      generalize (mrP _ _ : Nat) = p5
      clear o5
      replace HF := Lib.hid (HF.out.past b)
      replace HL := Lib.hid (HL.out.past b)
      replace B := Lib.hid (mb_bb B.out b)
      clear b
      rename World => wn
      clear HM
      have kz : ∀ W : World, (Instr.makeSlice 35 (.int .i64 23) (.int .i64 23)).run Tryd.prog W = .ok (.slice (some ⟨W.heap.size, 0, none⟩) 23 23) (W.alloc (.cells (zCells 23) 5)) := fun W => mk8 23 (by omega) W
      go_wp2_with fail
      clear kz
      have HM := Lib.hid (has_z wn 5 23 (by decide) rfl)
      have b := mb_new wn (.cells (zCells 23) 5)
      replace HF := Lib.hid (HF.out.past b)
      replace HL := Lib.hid (HL.out.past b)
      replace B := Lib.hid (mb_bb B.out b)
      clear b
      refine (Read_m (List.replicate 23 0) (some ⟨wn.heap.size, 0, none⟩) 23 23 1 _ HM.out List.length_replicate (Nat.le_refl _) (by decide) (zero_lt _) (HT.out.1.below B.out (Nat.le_refl _)) (HT.out.2.below B.out (Nat.le_refl _)) (by decide) (by decide)).mono ?_
      rintro e wn ⟨A5, n5, c5, rfl, o5, b⟩
      rw [mr_23]
      generalize (mrP _ _ : Nat) = p5
      clear o5
      replace HF := Lib.hid (HF.out.past b)
      replace HL := Lib.hid (HL.out.past b)
      replace B := Lib.hid (mb_bb B.out b)
      clear b
      rename World => wn
      clear HM
      go_wp2_with fail
      have HM := Lib.hid (in_b (l := [9]) (Lies.fresh wn 5 (([9] : List Int).map (Value.int .u8))) rfl (by decide) (by decide)).h
      have b := mb_new wn (.cells #[.int .u8 9] 5)
      replace HF := Lib.hid (HF.out.past b)
      replace HL := Lib.hid (HL.out.past b)
      replace B := Lib.hid (mb_bb B.out b)
      clear b
      refine (Read_m [9] (some ⟨wn.heap.size, 0, none⟩) 1 1 0 _ HM.out rfl (Nat.le_refl _) (by decide) (by intro z hz; simp at hz; omega) (HT.out.1.below B.out (Nat.le_refl _)) (HT.out.2.below B.out (Nat.le_refl _)) (by decide) (by decide)).mono ?_
      rintro e wn ⟨A5, n5, c5, rfl, o5, b⟩
      rw [(mr_9).1]
      rw [(mr_9).2.2]
      rw [(mr_9).2.1] at o5
      have h5 := o5.len.1
      obtain rfl : n5 = 0 := by simpa using h5
      clear h5
      clear o5
      replace HF := Lib.hid (HF.out.past b)
      replace HL := Lib.hid (HL.out.past b)
      replace B := Lib.hid (mb_bb B.out b)
      clear b
      rename World => wn
      clear HM
      go_upto_region 35 with fail
      refine wp_region_lit ?_
      iterate 6 (refine wpList_step fun K hK => ?_; go_simp; refine hK _ _ ?_; clear hK K)
      refine wpList_step fun K hK => ?_
      go_simp
      refine (alive_yes _ (HT.out.1.below B.out (Nat.le_refl _))).mono ?_
      rintro e wm ⟨rfl, b⟩
      refine hK _ _ ?_
      clear hK K
      replace HF := Lib.hid (HF.out.past b)
      replace HL := Lib.hid (HL.out.past b)
      replace B := Lib.hid (mb_bb B.out b)
      clear b
      iterate 3 (refine wpList_step fun K hK => ?_; go_simp; refine hK _ _ ?_; clear hK K)
      refine wpList_step fun K hK => ?_
      go_simp
      refine (Check_any (fu PHF QHF (List.replicate 8191 0)) (some ⟨gHF, 0, none⟩) 2 2 _ HF.out).mono ?_
      rintro e wm ⟨rfl, b⟩
      rw [ck_fu]
      refine hK _ _ ?_
      clear hK K
      replace HF := Lib.hid (HF.out.past b)
      replace HL := Lib.hid (HL.out.past b)
      replace B := Lib.hid (mb_bb B.out b)
      clear b
      iterate 40 (refine wpList_step fun K hK => ?_; go_simp; refine hK _ _ ?_; clear hK K)
      go_upto_region 36 with fail
      refine wp_region_lit ?_
      iterate 47 (refine wpList_step fun K hK => ?_; go_simp; refine hK _ _ ?_; clear hK K)
      go_wp2_with fail
      go_ret
      exact ⟨rfl, B.out⟩
end Go.Proofs.YtiihafhnaiicoaaDoor.mbW
