/- The reference's check of finders, places, finding, by walks. -/
import Derived.Test.YtbdipdnnjbpibaaFdW
namespace Go.Proofs.Ytbdipdnnjbpibaa.fdW
open Go.RowKit Go.Proofs.Ytbdipdnnjbpibaa.base Go.Proofs.Ytbdipdnnjbpibaa.rgP Go.Proofs.Ytbdipdnnjbpibaa.rgW Go.Proofs.Ytbdipdnnjbpibaa.fdP Go.Proofs.Ytbdipdnnjbpibaa.hashW
set_option linter.unusedVariables false
set_option linter.unusedSimpArgs false

set_option maxHeartbeats 4000000 in
theorem rCheck_any (f : Fnd) (A : Option Addr) (n c : Nat) (w : World) (h : FdIn w A n c f) :
    Calls Try.prog 24 #[.agg #[.int .i64 (f).l, .slice A n c]] w fun e w' => e = .returned (.int .i64 (fdE f)) ∧ Below w.heap.size w w' := by
  have he := h.e
  have h9 : (n : Int) ≤ 9223372036854775807 := by have := h.c1; have := h.c2; omega
  have HF := Lib.hid h
  have HEN := Lib.hid he
  clear h
  cases hl : lvB f.l
  · have HV : Hid (fdE f = 8) := Lib.hid (fdE_no (by
      cases h' : fdOk f
      · rfl
      · have := ((fdOk_iff f).1 h').1.1; rw [hl] at this; cases this))
    have HLV : Hid (∀ w : World, Calls Try.prog 27 #[.int .i64 f.l] w fun e w' => e = .returned (.bool false) ∧ w = w') := Lib.hid (fun w => by have := rLevel_any f.l w; rwa [hl] at this)
    clear hl he
    generalize f.l = l at *
    go_enter Try.func24, Try.ntmps24
    go_wp2_with fail
    go_quiet ((first | (go_at_call 27; exact Calls.quiet_of_same (turned (HLV.out _)))))
    go_wp2
    go_ret
    exact ⟨ret1 HV.out.symm, by (repeat' (first | (with_reducible exact Below.refl _ _) | (with_reducible assumption) | (with_reducible refine below_drewN ?_ _) | (with_reducible refine below_new ?_ _) | (with_reducible refine Below.alloc ?_ ?_ _) | (with_reducible refine Below.drew ?_) | (with_reducible refine Below.setCell ?_ ?_ _) | (with_reducible apply below_at; (case k => (with_reducible assumption)); (case hB => omega)) | (with_reducible apply below_on; (with_reducible assumption)) | (go_size; done) | (with_reducible apply size_of)))⟩
  · have HLV : Hid (∀ w : World, Calls Try.prog 27 #[.int .i64 f.l] w fun e w' => e = .returned (.bool true) ∧ w = w') := Lib.hid (fun w => by have := rLevel_any f.l w; rwa [hl] at this)
    have HPL : Hid (∀ w : World, Calls Try.prog 29 #[.int .i64 f.l] w fun e w' => e = .returned (.int .i64 (szOf f.l : Int)) ∧ w = w') := Lib.hid (fun w => rSize_ok f.l w hl)
    have hsz := sz_bd hl
    have hz1 : (64 : Int) ≤ (szOf f.l : Int) := by omega
    have hz2 : (szOf f.l : Int) ≤ 8192 := by omega
    by_cases hln : (n : Int) = (szOf f.l : Int)
    · have hbe : ((n : Int) != (n : Int)) = false := by simp
      have hn8 : (n : Int) ≤ 8192 := by omega
      rw [← hln] at HPL
      have HYES : Hid (nums f.s n → fdE f = 0) := Lib.hid (fun hu => fdE_yes ((fdOk_iff f).2 ⟨⟨hl, by omega⟩, nums_all (by rw [he]; exact hu)⟩))
      obtain ⟨b, off, rfl, hb, hc⟩ := has_some HF.out.h (by rw [he]; omega)
      have HCE := Lib.hid hc
      clear hl hln hsz hz1 hz2 hc he
      generalize hll : f.l = l at *
      clear hll
      have LL := Lib.hid (Lies.fresh w 24 [.int .i64 l, .slice (some ⟨b, off, none⟩) n c])
      go_enter Try.func24, Try.ntmps24
      go_wp2_with fail
      go_quiet ((first | (go_at_call 27; exact Calls.quiet_of_same (turned (HLV.out _))) | (go_at_call 29; exact Calls.quiet_of_same (turned (HPL.out _)))))
      go_wp2_with fail
      go_loopw [3] (fun i wr => ∃ q : Nat, q ≤ n ∧ i = .int .i64 (q : Int) ∧ nums f.s q ∧ Lies wr w.heap.size 24 [.int .i64 l, .slice (some ⟨b, off, none⟩) n c] ∧ Below w.heap.size w wr) (fun i _ => n - (intOf i).toNat)
      case atStart => exact ⟨0, Nat.zero_le _, rfl, fun j hj => by omega, by have := LL.out; (repeat' (first | (with_reducible assumption) | (with_reducible exact Lies.fresh _ _ _) | (with_reducible apply Lies.fresh_at; (first | (with_reducible rfl) | (simp; done))) | (with_reducible refine Lies.drew ?_) | (with_reducible refine Lies.drewN ?_ _) | (with_reducible refine Lies.alloc ?_ _) | (with_reducible apply Lies.past; case hb => (with_reducible assumption)) | (with_reducible apply Lies.keeps; (case k => (with_reducible assumption)); (case ht => decide)) | (with_reducible apply Lies.store3) | (with_reducible apply Lies.other; case hp => (first | omega | (simp; done) | (simp; omega))))), by (repeat' (first | (with_reducible exact Below.refl _ _) | (with_reducible assumption) | (with_reducible refine below_drewN ?_ _) | (with_reducible refine below_new ?_ _) | (with_reducible refine Below.alloc ?_ ?_ _) | (with_reducible refine Below.drew ?_) | (with_reducible refine Below.setCell ?_ ?_ _) | (with_reducible apply below_at; (case k => (with_reducible assumption)); (case hB => omega)) | (with_reducible apply below_on; (with_reducible assumption)) | (go_size; done) | (with_reducible apply size_of)))⟩
      case round =>
        obtain ⟨q, hq, rfl, hall, K, acc⟩ := hrel
        have HA := Lib.hid hall
        have HACC := Lib.hid acc
        have HK := Lib.hid K
        obtain ⟨p0, p1, -, -⟩ := K.two
        by_cases hlt : q < n
        · have hcell : wr.cell? ⟨b, off + q, none⟩ = some (.int .i64 (f.s.getD q 0)) := by rw [(bcell acc).1 b _ hb]; exact HCE.out q (by rw [HEN.out]; exact hlt)
          have HX : Hid (¬ (-1 ≤ f.s.getD q 0 ∧ f.s.getD q 0 ≤ 1073741824) → fdE f = 8) := Lib.hid (nums_bad (by rw [HEN.out]; exact hlt))
          have HNX : Hid (-1 ≤ f.s.getD q 0 ∧ f.s.getD q 0 ≤ 1073741824 → nums f.s (q + 1)) := Lib.hid (fun e j h1 => by
            rcases Nat.lt_or_ge j q with h3 | h3
            · exact HA.out j h3
            · rw [show j = q by omega]; exact e)
          have k1 : (q : Int) < n := by omega
          have k0 : (0 : Int) ≤ q := by omega
          have HLT := Lib.hid hlt
          clear hall acc hlt hq K
          generalize f.s.getD q 0 = x at *
          by_cases hx : -1 ≤ x
          · by_cases hy : x ≤ 1073741824
            · go_wp2_with fail
              go_roundw
              case rel => exact ⟨q + 1, HLT.out, by go_num, HNX.out ⟨hx, hy⟩, by have := HK.out; (repeat' (first | (with_reducible assumption) | (with_reducible exact Lies.fresh _ _ _) | (with_reducible apply Lies.fresh_at; (first | (with_reducible rfl) | (simp; done))) | (with_reducible refine Lies.drew ?_) | (with_reducible refine Lies.drewN ?_ _) | (with_reducible refine Lies.alloc ?_ _) | (with_reducible apply Lies.past; case hb => (with_reducible assumption)) | (with_reducible apply Lies.keeps; (case k => (with_reducible assumption)); (case ht => decide)) | (with_reducible apply Lies.store3) | (with_reducible apply Lies.other; case hp => (first | omega | (simp; done) | (simp; omega))))), by have := HACC.out; (repeat' (first | (with_reducible exact Below.refl _ _) | (with_reducible assumption) | (with_reducible refine below_drewN ?_ _) | (with_reducible refine below_new ?_ _) | (with_reducible refine Below.alloc ?_ ?_ _) | (with_reducible refine Below.drew ?_) | (with_reducible refine Below.setCell ?_ ?_ _) | (with_reducible apply below_at; (case k => (with_reducible assumption)); (case hB => omega)) | (with_reducible apply below_on; (with_reducible assumption)) | (go_size; done) | (with_reducible apply size_of)))⟩
              case measure => simp [intOf]; have := HLT.out; omega
            · go_wp2_with fail
              go_ret
              exact ⟨ret1 (HX.out (by omega)).symm, by have := HACC.out; (repeat' (first | (with_reducible exact Below.refl _ _) | (with_reducible assumption) | (with_reducible refine below_drewN ?_ _) | (with_reducible refine below_new ?_ _) | (with_reducible refine Below.alloc ?_ ?_ _) | (with_reducible refine Below.drew ?_) | (with_reducible refine Below.setCell ?_ ?_ _) | (with_reducible apply below_at; (case k => (with_reducible assumption)); (case hB => omega)) | (with_reducible apply below_on; (with_reducible assumption)) | (go_size; done) | (with_reducible apply size_of)))⟩
          · go_wp2_with fail
            go_ret
            exact ⟨ret1 (HX.out (by omega)).symm, by have := HACC.out; (repeat' (first | (with_reducible exact Below.refl _ _) | (with_reducible assumption) | (with_reducible refine below_drewN ?_ _) | (with_reducible refine below_new ?_ _) | (with_reducible refine Below.alloc ?_ ?_ _) | (with_reducible refine Below.drew ?_) | (with_reducible refine Below.setCell ?_ ?_ _) | (with_reducible apply below_at; (case k => (with_reducible assumption)); (case hB => omega)) | (with_reducible apply below_on; (with_reducible assumption)) | (go_size; done) | (with_reducible apply size_of)))⟩
        · have he : q = n := by omega
          subst he
          have HG := Lib.hid (HYES.out hall)
          clear hall acc hq hlt K
          go_wp2_with fail
          go_ret
          exact ⟨ret1 HG.out.symm, by have := HACC.out; (repeat' (first | (with_reducible exact Below.refl _ _) | (with_reducible assumption) | (with_reducible refine below_drewN ?_ _) | (with_reducible refine below_new ?_ _) | (with_reducible refine Below.alloc ?_ ?_ _) | (with_reducible refine Below.drew ?_) | (with_reducible refine Below.setCell ?_ ?_ _) | (with_reducible apply below_at; (case k => (with_reducible assumption)); (case hB => omega)) | (with_reducible apply below_on; (with_reducible assumption)) | (go_size; done) | (with_reducible apply size_of)))⟩
    · have hbe : ((n : Int) != (szOf f.l : Int)) = true := by simpa using hln
      have HV : Hid (fdE f = 8) := Lib.hid (fdE_no (by
        cases h' : fdOk f
        · rfl
        · have := ((fdOk_iff f).1 h').1.2; omega))
      clear hl hln hsz he
      generalize (szOf f.l : Int) = sz at *
      generalize f.l = l at *
      go_enter Try.func24, Try.ntmps24
      go_wp2_with fail
      go_quiet ((first | (go_at_call 27; exact Calls.quiet_of_same (turned (HLV.out _))) | (go_at_call 29; exact Calls.quiet_of_same (turned (HPL.out _)))))
      go_wp2
      go_ret
      exact ⟨ret1 HV.out.symm, by (repeat' (first | (with_reducible exact Below.refl _ _) | (with_reducible assumption) | (with_reducible refine below_drewN ?_ _) | (with_reducible refine below_new ?_ _) | (with_reducible refine Below.alloc ?_ ?_ _) | (with_reducible refine Below.drew ?_) | (with_reducible refine Below.setCell ?_ ?_ _) | (with_reducible apply below_at; (case k => (with_reducible assumption)); (case hB => omega)) | (with_reducible apply below_on; (with_reducible assumption)) | (go_size; done) | (with_reducible apply size_of)))⟩
theorem fd_place {f : Fnd} (h : fdOk f = true) (x : Int) : placeV x (f.s.length : Int) = (plc f x : Int) ∧ placeE (f.s.length : Int) = 0 := by
  have h1 := (fdOk_iff f).1 h
  have hs : sizeB (f.s.length : Int) = true := by
    obtain ⟨k, hk, e⟩ := szOf_pow h1.1.1
    exact (sizeB_iff _).2 ⟨k, hk, by rw [h1.1.2]; exact e⟩
  exact ⟨by rw [placeV, if_pos hs, plc_int h], by rw [placeE, if_pos hs]⟩
def plE (f : Fnd) : Int := fdE f
def plV (f : Fnd) (x : Int) : Int := if fdOk f then (plc f x : Int) else 0
set_option maxHeartbeats 1000000 in
theorem placeOf_any (f : Fnd) (A : Option Addr) (n c : Nat) (x : Int) (w : World) (h : FdIn w A n c f) (h1 : 0 ≤ x) (h2 : x ≤ 4294967295) :
    Calls Try.prog 34 #[.agg #[.int .i64 (f).l, .slice A n c], .int .u32 x] w fun e w' => e = .returned (.tuple #[.int .i64 (plV f x), .int .i64 (fdE f)]) ∧ Below w.heap.size w w' := by
  have H := Lib.hid h
  have hn : (n : Int) ≤ 9223372036854775807 := by have := h.c1; have := h.c2; omega
  cases hok : fdOk f
  · have e1 := fdE_no hok
    have HV : Hid (plV f x = 0 ∧ fdE f = 8) := Lib.hid ⟨by rw [plV, if_neg (by rw [hok]; decide)], e1⟩
    clear h hok
    go_enter Try.func34, Try.ntmps34
    go_wp2_with (first | (go_at_call 13; refine (Check_any f A n c _ (H.out.below (by (repeat' (first | (with_reducible exact Below.refl _ _) | (with_reducible assumption) | (with_reducible refine below_drewN ?_ _) | (with_reducible refine below_new ?_ _) | (with_reducible refine Below.alloc ?_ ?_ _) | (with_reducible refine Below.drew ?_) | (with_reducible refine Below.setCell ?_ ?_ _) | (with_reducible apply below_at; (case k => (with_reducible assumption)); (case hB => omega)) | (with_reducible apply below_on; (with_reducible assumption)) | (go_size; done) | (with_reducible apply size_of)))))).mono ?_; rintro e w1 ⟨rfl, hb1⟩; rw [e1]; have K1 : Lies (w1) (w.heap.size) 24 [.int .i64 (f).l, .slice (A) (n) (c)] := (by (repeat' (first | (with_reducible assumption) | (with_reducible exact Lies.fresh _ _ _) | (with_reducible apply Lies.fresh_at; (first | (with_reducible rfl) | (simp; done))) | (with_reducible refine Lies.drew ?_) | (with_reducible refine Lies.drewN ?_ _) | (with_reducible refine Lies.alloc ?_ _) | (with_reducible apply Lies.past; case hb => (with_reducible assumption)) | (with_reducible apply Lies.keeps; (case k => (with_reducible assumption)); (case ht => decide)) | (with_reducible apply Lies.store3) | (with_reducible apply Lies.other; case hp => (first | omega | (simp; done) | (simp; omega)))))); obtain ⟨p0, p1, -, -⟩ := K1.two))
    go_ret2
    exact ⟨ret2 HV.out.1.symm HV.out.2.symm, by (repeat' (first | (with_reducible exact Below.refl _ _) | (with_reducible assumption) | (with_reducible refine below_drewN ?_ _) | (with_reducible refine below_new ?_ _) | (with_reducible refine Below.alloc ?_ ?_ _) | (with_reducible refine Below.drew ?_) | (with_reducible refine Below.setCell ?_ ?_ _) | (with_reducible apply below_at; (case k => (with_reducible assumption)); (case hB => omega)) | (with_reducible apply below_on; (with_reducible assumption)) | (go_size; done) | (with_reducible apply size_of)))⟩
  · have e1 := fdE_yes hok
    have HV : Hid (plV f x = (plc f x : Int) ∧ fdE f = 0 ∧ placeV x (n : Int) = (plc f x : Int) ∧ placeE (n : Int) = 0) := Lib.hid ⟨by rw [plV, if_pos hok], e1, by rw [← h.e]; exact (fd_place hok x).1, by rw [← h.e]; exact (fd_place hok x).2⟩
    clear h hok
    go_enter Try.func34, Try.ntmps34
    go_wp2_with (first | (go_at_call 13; refine (Check_any f A n c _ (H.out.below (by (repeat' (first | (with_reducible exact Below.refl _ _) | (with_reducible assumption) | (with_reducible refine below_drewN ?_ _) | (with_reducible refine below_new ?_ _) | (with_reducible refine Below.alloc ?_ ?_ _) | (with_reducible refine Below.drew ?_) | (with_reducible refine Below.setCell ?_ ?_ _) | (with_reducible apply below_at; (case k => (with_reducible assumption)); (case hB => omega)) | (with_reducible apply below_on; (with_reducible assumption)) | (go_size; done) | (with_reducible apply size_of)))))).mono ?_; rintro e w1 ⟨rfl, hb1⟩; rw [e1]; have K1 : Lies (w1) (w.heap.size) 24 [.int .i64 (f).l, .slice (A) (n) (c)] := (by (repeat' (first | (with_reducible assumption) | (with_reducible exact Lies.fresh _ _ _) | (with_reducible apply Lies.fresh_at; (first | (with_reducible rfl) | (simp; done))) | (with_reducible refine Lies.drew ?_) | (with_reducible refine Lies.drewN ?_ _) | (with_reducible refine Lies.alloc ?_ _) | (with_reducible apply Lies.past; case hb => (with_reducible assumption)) | (with_reducible apply Lies.keeps; (case k => (with_reducible assumption)); (case ht => decide)) | (with_reducible apply Lies.store3) | (with_reducible apply Lies.other; case hp => (first | omega | (simp; done) | (simp; omega)))))); obtain ⟨p0, p1, -, -⟩ := K1.two) | (go_at_call 28; refine (place_any x (n : Int) _ h1 h2).mono ?_; rintro e w2 ⟨rfl, rfl⟩; rw [HV.out.2.2.1, HV.out.2.2.2]))
    go_ret2
    exact ⟨ret2 HV.out.1.symm HV.out.2.1.symm, by (repeat' (first | (with_reducible exact Below.refl _ _) | (with_reducible assumption) | (with_reducible refine below_drewN ?_ _) | (with_reducible refine below_new ?_ _) | (with_reducible refine Below.alloc ?_ ?_ _) | (with_reducible refine Below.drew ?_) | (with_reducible refine Below.setCell ?_ ?_ _) | (with_reducible apply below_at; (case k => (with_reducible assumption)); (case hB => omega)) | (with_reducible apply below_on; (with_reducible assumption)) | (go_size; done) | (with_reducible apply size_of)))⟩
end Go.Proofs.Ytbdipdnnjbpibaa.fdW
