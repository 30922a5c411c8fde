/- The reference's check of rings, by walks. -/
import Derived.Test.YtpggdijhfdddpaaDoorRgW5
namespace Go.Proofs.YtpggdijhfdddpaaDoor.rgW
open Go.RowKit Go.Proofs.YtpggdijhfdddpaaDoor.base Go.Proofs.YtpggdijhfdddpaaDoor.rgP
set_option linter.unusedVariables false
set_option linter.unusedSimpArgs false

set_option maxHeartbeats 2000000 in
theorem rCheck_shape (r : Rg) (A : Option Addr) (n c : Nat) (w : World) (h : RgIn w A n c r) (hs : ¬ (lvB r.l = true ∧ r.b.length = szOf r.l ∧ 0 ≤ r.n ∧ r.n ≤ 1073741824)) :
    Calls Tryd.prog 19 #[.agg #[.int .i64 (r).l, .slice A n c, .int .i64 (r).n]] w fun e w' => e = .returned (.int .i64 8) ∧ Below w.heap.size w w' := by
  have he := h.e
  obtain ⟨l1, l2, n1, n2, -, -, c1, c2, -⟩ := h
  have hn9 : (n : Int) ≤ 9223372036854775807 := by omega
  have HS := Lib.hid hs
  have HC := Lib.hid (And.intro c1 c2)
  have HEN := Lib.hid he
  clear hs c1 c2 he
  cases hl : lvB r.l
  · have HLV : Hid (∀ w : World, Calls Tryd.prog 34 #[.int .i64 r.l] w fun e w' => e = .returned (.bool false) ∧ w = w') := Lib.hid (fun w => by have := rLevel_any r.l w; rwa [hl] at this)
    clear hl
    generalize r.l = l at *
    generalize r.n = m at *
    go_enter Tryd.func19, Tryd.ntmps19
    go_wp2_with fail
    go_quiet ((first | (go_at_call 34; exact Calls.quiet_of_same (turned (HLV.out _)))))
    go_wp2
    go_ret
    exact ⟨rfl, by (repeat' (first | (with_reducible exact Below.refl _ _) | (with_reducible assumption) | (with_reducible refine below_drewN ?_ _) | (with_reducible refine below_new ?_ _) | (with_reducible refine Below.alloc ?_ ?_ _) | (with_reducible refine Below.drew ?_) | (with_reducible refine Below.setCell ?_ ?_ _) | (with_reducible apply below_at; (case k => (with_reducible assumption)); (case hB => omega)) | (with_reducible apply below_on; (with_reducible assumption)) | (go_size; done) | (with_reducible apply size_of)))⟩
  · have HLV : Hid (∀ w : World, Calls Tryd.prog 34 #[.int .i64 r.l] w fun e w' => e = .returned (.bool true) ∧ w = w') := Lib.hid (fun w => by have := rLevel_any r.l w; rwa [hl] at this)
    have HPL : Hid (∀ w : World, Calls Tryd.prog 35 #[.int .i64 r.l] w fun e w' => e = .returned (.int .i64 (szOf r.l : Int)) ∧ w = w') := Lib.hid (fun w => rSize_ok r.l w hl)
    have hsz := sz_bd hl
    have hz1 : (64 : Int) ≤ (szOf r.l : Int) := by omega
    have hz2 : (szOf r.l : Int) ≤ 8192 := by omega
    clear hsz
    by_cases hln : (n : Int) = (szOf r.l : Int)
    · have hbe : ((n : Int) != (szOf r.l : Int)) = false := by simpa using hln
      have hx : r.n < 0 ∨ (0 ≤ r.n ∧ 1073741824 < r.n) := by
        rcases Int.lt_or_le r.n 0 with h | h
        · exact .inl h
        · refine .inr ⟨h, Int.lt_of_not_ge (fun h2 => HS.out ⟨hl, by have := HEN.out; omega, h, h2⟩)⟩
      clear hl hln
      generalize (szOf r.l : Int) = sz at *
      generalize r.l = l at *
      generalize r.n = m at *
      rcases hx with hx | ⟨hx, hy⟩
      · have d1 : decide (m < 0) = true := decide_eq_true hx
        go_enter Tryd.func19, Tryd.ntmps19
        go_wp2_with fail
        go_quiet ((first | (go_at_call 34; exact Calls.quiet_of_same (turned (HLV.out _))) | (go_at_call 35; exact Calls.quiet_of_same (turned (HPL.out _)))))
        go_wp2
        go_ret
        exact ⟨rfl, by (repeat' (first | (with_reducible exact Below.refl _ _) | (with_reducible assumption) | (with_reducible refine below_drewN ?_ _) | (with_reducible refine below_new ?_ _) | (with_reducible refine Below.alloc ?_ ?_ _) | (with_reducible refine Below.drew ?_) | (with_reducible refine Below.setCell ?_ ?_ _) | (with_reducible apply below_at; (case k => (with_reducible assumption)); (case hB => omega)) | (with_reducible apply below_on; (with_reducible assumption)) | (go_size; done) | (with_reducible apply size_of)))⟩
      · have d1 : decide (m < 0) = false := by simpa using hx
        have d2 : decide (1073741824 < m) = true := decide_eq_true hy
        go_enter Tryd.func19, Tryd.ntmps19
        go_wp2_with fail
        go_quiet ((first | (go_at_call 34; exact Calls.quiet_of_same (turned (HLV.out _))) | (go_at_call 35; exact Calls.quiet_of_same (turned (HPL.out _)))))
        go_wp2
        go_ret
        exact ⟨rfl, by (repeat' (first | (with_reducible exact Below.refl _ _) | (with_reducible assumption) | (with_reducible refine below_drewN ?_ _) | (with_reducible refine below_new ?_ _) | (with_reducible refine Below.alloc ?_ ?_ _) | (with_reducible refine Below.drew ?_) | (with_reducible refine Below.setCell ?_ ?_ _) | (with_reducible apply below_at; (case k => (with_reducible assumption)); (case hB => omega)) | (with_reducible apply below_on; (with_reducible assumption)) | (go_size; done) | (with_reducible apply size_of)))⟩
    · have hbe : ((n : Int) != (szOf r.l : Int)) = true := by simpa using hln
      clear hl
      generalize (szOf r.l : Int) = sz at *
      generalize r.l = l at *
      generalize r.n = m at *
      go_enter Tryd.func19, Tryd.ntmps19
      go_wp2_with fail
      go_quiet ((first | (go_at_call 34; exact Calls.quiet_of_same (turned (HLV.out _))) | (go_at_call 35; exact Calls.quiet_of_same (turned (HPL.out _)))))
      go_wp2
      go_ret
      exact ⟨rfl, by (repeat' (first | (with_reducible exact Below.refl _ _) | (with_reducible assumption) | (with_reducible refine below_drewN ?_ _) | (with_reducible refine below_new ?_ _) | (with_reducible refine Below.alloc ?_ ?_ _) | (with_reducible refine Below.drew ?_) | (with_reducible refine Below.setCell ?_ ?_ _) | (with_reducible apply below_at; (case k => (with_reducible assumption)); (case hB => omega)) | (with_reducible apply below_on; (with_reducible assumption)) | (go_size; done) | (with_reducible apply size_of)))⟩
/-- The places from the first one on are empty, as far as k. -/
def upTo (b : List Int) (i k : Nat) : Prop := ∀ j, i ≤ j → j < k → b.getD j 0 = 0
set_option maxHeartbeats 4000000 in
theorem rCheck_good (r : Rg) (A : Option Addr) (n c : Nat) (w : World) (h : RgIn w A n c r) (hl : lvB r.l = true) (hsz : r.b.length = szOf r.l) (n0 : 0 ≤ r.n) (nm : r.n ≤ 1073741824) :
    Calls Tryd.prog 19 #[.agg #[.int .i64 (r).l, .slice A n c, .int .i64 (r).n]] w fun e w' => e = .returned (.int .i64 (rgE r)) ∧ Below w.heap.size w w' := by
  have hs := sz_bd hl
  have HLV : Hid (∀ w : World, Calls Tryd.prog 34 #[.int .i64 r.l] w fun e w' => e = .returned (.bool true) ∧ w = w') := Lib.hid (fun w => by have := rLevel_any r.l w; rwa [hl] at this)
  have HPL : Hid (∀ w : World, Calls Tryd.prog 35 #[.int .i64 r.l] w fun e w' => e = .returned (.int .i64 (n : Int)) ∧ w = w') := Lib.hid (fun w => by rw [← h.e, hsz]; exact rSize_ok r.l w hl)
  have HYES : Hid (upTo r.b r.n.toNat n → rgE r = 0) := Lib.hid (fun hu => rgE_yes ((rgOk_iff r).2 ⟨⟨hl, hsz, n0, nm⟩, fun i hi => by
    rcases Nat.lt_or_ge i n with h1 | h1
    · exact hu i hi h1
    · rw [List.getD_eq_getElem?_getD, List.getElem?_eq_none (by rw [h.e]; exact h1)]; rfl⟩))
  have HNO : Hid (∀ i, r.n.toNat ≤ i → r.b.getD i 0 ≠ 0 → rgE r = 8) := Lib.hid (fun i hi hx => rgE_no (by
    cases h' : rgOk r
    · rfl
    · exact absurd (((rgOk_iff r).1 h').2 i hi) hx))
  have hn9 : (n : Int) ≤ 8192 := by have := h.e; omega
  have hn8 : (64 : Int) ≤ n := by have := h.e; omega
  have d1 : decide (r.n < 0) = false := by simpa using n0
  have d2 : decide (1073741824 < r.n) = false := by simpa using nm
  obtain ⟨b, off, rfl, hb, hc⟩ := has_some h.h (by rw [h.e]; omega)
  have HCE := Lib.hid hc
  have HEN := Lib.hid h.e
  have hbe : ((n : Int) != (n : Int)) = false := by simp
  clear h hl hsz hs hc
  generalize r.l = l at *
  generalize r.n = m at *
  have LL := Lib.hid (Lies.fresh w 24 [.int .i64 l, .slice (some ⟨b, off, none⟩) n c, .int .i64 m])
  go_enter Tryd.func19, Tryd.ntmps19
  go_wp2_with fail
  go_quiet ((first | (go_at_call 34; exact Calls.quiet_of_same (turned (HLV.out _))) | (go_at_call 35; exact Calls.quiet_of_same (turned (HPL.out _)))))
  go_wp2_with fail
  clear d1 d2 hbe
  go_loopw [3] (fun i wr => ∃ q : Int, m ≤ q ∧ i = .int .i64 q ∧ (q ≤ 1073741824) ∧ upTo r.b m.toNat q.toNat ∧ Lies wr w.heap.size 24 [.int .i64 l, .slice (some ⟨b, off, none⟩) n c, .int .i64 m] ∧ Below w.heap.size w wr) (fun i _ => n - (intOf i).toNat)
  case atStart => exact ⟨m, Int.le_refl _, rfl, nm, fun j h1 h2 => by omega, by have := LL.out; (repeat' (first | (with_reducible assumption) | (with_reducible exact Lies.fresh _ _ _) | (with_reducible apply Lies.fresh_at; (first | (with_reducible rfl) | (simp; done))) | (with_reducible refine Lies.drew ?_) | (with_reducible refine Lies.drewN ?_ _) | (with_reducible refine Lies.alloc ?_ _) | (with_reducible apply Lies.past; case hb => (with_reducible assumption)) | (with_reducible apply Lies.keeps; (case k => (with_reducible assumption)); (case ht => decide)) | (with_reducible apply Lies.store3) | (with_reducible apply Lies.other; case hp => (first | omega | (simp; done) | (simp; omega))))), by (repeat' (first | (with_reducible exact Below.refl _ _) | (with_reducible assumption) | (with_reducible refine below_drewN ?_ _) | (with_reducible refine below_new ?_ _) | (with_reducible refine Below.alloc ?_ ?_ _) | (with_reducible refine Below.drew ?_) | (with_reducible refine Below.setCell ?_ ?_ _) | (with_reducible apply below_at; (case k => (with_reducible assumption)); (case hB => omega)) | (with_reducible apply below_on; (with_reducible assumption)) | (go_size; done) | (with_reducible apply size_of)))⟩
  case round =>
    obtain ⟨q, q1, rfl, q2, hall, K, acc⟩ := hrel
    obtain ⟨p0, p1, p2, -, -, -⟩ := K.three
    have lt := K.lt
    have HA := Lib.hid hall
    have HK := Lib.hid K
    have HACC := Lib.hid acc
    have hq0 : 0 ≤ q := by omega
    by_cases hlt : q < (n : Int)
    · have hcell : wr.cell? ⟨b, off + q.toNat, none⟩ = some (.int .u8 (r.b.getD q.toNat 0)) := by rw [(bcell acc).1 b _ hb]; exact HCE.out q.toNat (by have := HEN.out; omega)
      have HX : Hid (r.b.getD q.toNat 0 ≠ 0 → rgE r = 8) := Lib.hid (HNO.out q.toNat (by omega))
      have HN : Hid (r.b.getD q.toNat 0 = 0 → upTo r.b m.toNat (q + 1).toNat) := Lib.hid (fun e j h1 h2 => by
        rcases Nat.lt_or_ge j q.toNat with h3 | h3
        · exact HA.out j h1 h3
        · rw [show j = q.toNat by omega]; exact e)
      clear hall K acc
      generalize r.b.getD q.toNat 0 = x at *
      by_cases hx : x = 0
      · subst hx
        go_wp2
        go_roundw
        case rel => exact ⟨q + 1, by omega, by first | rfl | go_num, by omega, HN.out rfl, by have := HK.out; (repeat' (first | (with_reducible assumption) | (with_reducible exact Lies.fresh _ _ _) | (with_reducible apply Lies.fresh_at; (first | (with_reducible rfl) | (simp; done))) | (with_reducible refine Lies.drew ?_) | (with_reducible refine Lies.drewN ?_ _) | (with_reducible refine Lies.alloc ?_ _) | (with_reducible apply Lies.past; case hb => (with_reducible assumption)) | (with_reducible apply Lies.keeps; (case k => (with_reducible assumption)); (case ht => decide)) | (with_reducible apply Lies.store3) | (with_reducible apply Lies.other; case hp => (first | omega | (simp; done) | (simp; omega))))), by have := HACC.out; (repeat' (first | (with_reducible exact Below.refl _ _) | (with_reducible assumption) | (with_reducible refine below_drewN ?_ _) | (with_reducible refine below_new ?_ _) | (with_reducible refine Below.alloc ?_ ?_ _) | (with_reducible refine Below.drew ?_) | (with_reducible refine Below.setCell ?_ ?_ _) | (with_reducible apply below_at; (case k => (with_reducible assumption)); (case hB => omega)) | (with_reducible apply below_on; (with_reducible assumption)) | (go_size; done) | (with_reducible apply size_of)))⟩
        case measure => simp [intOf]; omega
      · have hxb : (x != 0) = true := by simpa using hx
        go_wp2
        go_ret
        exact ⟨ret1 (HX.out hx).symm, by have := HACC.out; (repeat' (first | (with_reducible exact Below.refl _ _) | (with_reducible assumption) | (with_reducible refine below_drewN ?_ _) | (with_reducible refine below_new ?_ _) | (with_reducible refine Below.alloc ?_ ?_ _) | (with_reducible refine Below.drew ?_) | (with_reducible refine Below.setCell ?_ ?_ _) | (with_reducible apply below_at; (case k => (with_reducible assumption)); (case hB => omega)) | (with_reducible apply below_on; (with_reducible assumption)) | (go_size; done) | (with_reducible apply size_of)))⟩
    · clear hall K acc
      have HG : Hid (rgE r = 0) := Lib.hid (HYES.out (fun j h1 h2 => HA.out j h1 (by omega)))
      go_wp2
      go_ret
      exact ⟨ret1 HG.out.symm, by have := HACC.out; (repeat' (first | (with_reducible exact Below.refl _ _) | (with_reducible assumption) | (with_reducible refine below_drewN ?_ _) | (with_reducible refine below_new ?_ _) | (with_reducible refine Below.alloc ?_ ?_ _) | (with_reducible refine Below.drew ?_) | (with_reducible refine Below.setCell ?_ ?_ _) | (with_reducible apply below_at; (case k => (with_reducible assumption)); (case hB => omega)) | (with_reducible apply below_on; (with_reducible assumption)) | (go_size; done) | (with_reducible apply size_of)))⟩
theorem rCheck_any (r : Rg) (A : Option Addr) (n c : Nat) (w : World) (h : RgIn w A n c r) :
    Calls Tryd.prog 19 #[.agg #[.int .i64 (r).l, .slice A n c, .int .i64 (r).n]] w fun e w' => e = .returned (.int .i64 (rgE r)) ∧ Below w.heap.size w w' := by
  by_cases hs : lvB r.l = true ∧ r.b.length = szOf r.l ∧ 0 ≤ r.n ∧ r.n ≤ 1073741824
  · exact rCheck_good r A n c w h hs.1 hs.2.1 hs.2.2.1 hs.2.2.2
  · rw [rgE_no (shape_no hs)]
    exact rCheck_shape r A n c w h hs
end Go.Proofs.YtpggdijhfdddpaaDoor.rgW
