/- Markers: At, Find, Places, All of the reference, by walks. -/
import Derived.Test.YthcpanenjcjgpaaMkW2
import Derived.Test.YthcpanenjcjgpaaOwnV
namespace Go.Proofs.Ythcpanenjcjgpaa.mkW
open Go.RowKit Go.Proofs.Ythcpanenjcjgpaa.base Go.Proofs.Ythcpanenjcjgpaa.mkP
set_option linter.unusedVariables false
set_option linter.unusedSimpArgs false
def atV (b : List Int) (i : Int) : Bool := decide (asE b i = 0) && occI b i
theorem asE_in {b : List Int} {i : Int} (h : asE b i = 0) : 0 ≤ i ∧ i ≤ b.length ∧ b.length ≤ 50000 := by
  unfold asE at h
  by_cases c : b.length ≤ 50000
  · rw [if_pos c] at h
    by_cases d : 0 ≤ i ∧ i ≤ b.length
    · exact ⟨d.1, d.2, c⟩
    · rw [if_neg d] at h; omega
  · rw [if_neg c] at h; omega
theorem asE_cases (b : List Int) (i : Int) : asE b i = 0 ∨ asE b i = 2 ∨ asE b i = 4 := by
  unfold asE
  split
  · split <;> simp
  · simp
set_option maxHeartbeats 1000000 in
theorem rAt (b : List Int) (A : Option Addr) (n c : Nat) (i : Int) (w : World) (h : InR w ⟨A, n, c, b⟩) (l1 : -9223372036854775808 ≤ i) (l2 : i ≤ 9223372036854775807) :
    Calls Try.prog 10 #[.slice A n c, .int .i64 i] w fun e w' => e = .returned (.tuple #[.bool (atV b i), .int .i64 (asE b i)]) ∧ Below w.heap.size w w' := by
  have HH := Lib.hid h
  by_cases ce : asE b i = 0
  · have HE := Lib.hid ce
    have HV : Hid (atV b i = occI b i) := Lib.hid (by rw [atV, decide_eq_true ce, Bool.true_and])
    clear h ce
    go_enter Try.func10, Try.ntmps10
    go_wp2_with (first | (go_at_call 25; refine (rAsked b A n c i _ HH.out l1 l2).mono ?_; rintro e w' ⟨rfl, rfl⟩; rw [HE.out]) | (go_at_call 26; refine (rStands b A n c i _ HH.out l1 l2).mono ?_; rintro e w1 ⟨rfl, hb1⟩))
    go_ret2
    exact ⟨by rw [HV.out, HE.out]; rfl, hb1⟩
  · have HN := Lib.hid ce
    have HV : Hid (atV b i = false) := Lib.hid (by rw [atV, decide_eq_false ce, Bool.false_and])
    have ce2 : (asE b i == 0) = false := by simpa using ce
    have ce3 : (asE b i != 0) = true := by simpa using ce
    clear h ce
    go_enter Try.func10, Try.ntmps10
    go_wp2_with (first | (go_at_call 25; refine (rAsked b A n c i _ HH.out l1 l2).mono ?_; rintro e w' ⟨rfl, rfl⟩))
    go_ret2
    exact ⟨by rw [HV.out]; rfl, Below.refl _ _⟩
/-- What Find gives. -/
def fiE (b : List Int) (i : Int) : Int := if asE b i = 0 then (if nx b i.toNat < b.length then 0 else 6) else asE b i
def fiV (b : List Int) (i : Int) : Int := if asE b i = 0 then (if nx b i.toNat < b.length then (nx b i.toNat : Int) else 0) else 0
set_option maxHeartbeats 1000000 in
theorem rFind (b : List Int) (A : Option Addr) (n c : Nat) (i : Int) (w : World) (h : InR w ⟨A, n, c, b⟩) (l1 : -9223372036854775808 ≤ i) (l2 : i ≤ 9223372036854775807) :
    Calls Try.prog 12 #[.slice A n c, .int .i64 i] w fun e w' => e = .returned (.tuple #[.int .i64 (fiV b i), .int .i64 (fiE b i)]) ∧ Below w.heap.size w w' := by
  have HH := Lib.hid h
  have hn : b.length = n := h.e
  have HN := Lib.hid hn
  by_cases ce : asE b i = 0
  · have HE := Lib.hid ce
    obtain ⟨i1, i2, i3⟩ := asE_in ce
    obtain ⟨q, rfl⟩ := Int.eq_ofNat_of_zero_le i1
    have hq : q ≤ n := by omega
    have HV : Hid ((nx b q < b.length → fiV b q = nx b q ∧ fiE b q = 0) ∧ (¬ nx b q < b.length → fiV b q = 0 ∧ fiE b q = 6)) := Lib.hid ⟨fun hh => by rw [fiV, fiE, if_pos ce, if_pos ce, Int.toNat_natCast, if_pos hh, if_pos hh]; exact ⟨rfl, rfl⟩, fun hh => by rw [fiV, fiE, if_pos ce, if_pos ce, Int.toNat_natCast, if_neg hh, if_neg hh]; exact ⟨rfl, rfl⟩⟩
    have n9 : (n : Int) ≤ 50000 := by omega
    clear h ce i1 i2 i3 hn
    go_enter Try.func12, Try.ntmps12
    go_wp2_with (first | (go_at_call 25; refine (rAsked b A n c q _ HH.out l1 l2).mono ?_; rintro e w' ⟨rfl, rfl⟩; rw [HE.out]))
    go_loopw [7] (fun j wr => ∃ k : Nat, q ≤ k ∧ k ≤ n ∧ j = .int .i64 k ∧ nx b q = nx b k ∧ Below w.heap.size w wr) (fun j _ => n - (intOf j).toNat)
    case atStart => exact ⟨q, Nat.le_refl _, hq, rfl, rfl, by (repeat' (first | (with_reducible exact Below.refl _ _) | (with_reducible assumption) | (with_reducible refine below_drewN ?_ _) | (with_reducible refine below_new ?_ _) | (with_reducible refine Below.alloc ?_ ?_ _) | (with_reducible refine Below.drew ?_) | (with_reducible refine Below.setCell ?_ ?_ _) | (with_reducible apply below_at; (case k => (with_reducible assumption)); (case hB => omega)) | (with_reducible apply below_on; (with_reducible assumption)) | (go_size; done) | (with_reducible apply size_of)))⟩
    case round =>
      obtain ⟨k, hqk, hk, rfl, hnx, acc⟩ := hrel
      have HX := Lib.hid hnx
      have HACC := Lib.hid acc
      by_cases hlt : k < n
      · have HLT : Hid (q ≤ k ∧ k < n) := Lib.hid ⟨hqk, hlt⟩
        have k1 : (k : Int) < n := by omega
        have k3 : (k : Int) ≤ 9223372036854775807 := by omega
        have k4 : -9223372036854775808 ≤ (k : Int) := by omega
        have eo : occI b k = occ b k := by rw [occI, Int.toNat_natCast, decide_eq_true (by omega), Bool.true_and]
        have HO := Lib.hid eo
        clear hqk hk hnx acc hlt eo
        cases ho : occ b k with
        | true =>
          have HT := Lib.hid ho
          clear ho
          go_wp2_with (first | (go_at_call 26; refine (rStands b A n c k _ (HH.out.below HACC.out (Nat.le_refl _)) k4 k3).mono ?_; rintro e w1 ⟨rfl, hb1⟩; rw [HO.out, HT.out]))
          go_ret2
          have e1 : nx b q = k := by rw [HX.out, nx_hit HT.out]
          obtain ⟨e2, e3⟩ := HV.out.1 (by rw [e1, HN.out]; exact HLT.out.2)
          exact ⟨by rw [e2, e3, e1]; rfl, HACC.out.trans (hb1.mono HACC.out.size)⟩
        | false =>
          have HT := Lib.hid ho
          clear ho
          go_wp2_with (first | (go_at_call 26; refine (rStands b A n c k _ (HH.out.below HACC.out (Nat.le_refl _)) k4 k3).mono ?_; rintro e w1 ⟨rfl, hb1⟩; rw [HO.out, HT.out]))
          go_roundw
          case rel => exact ⟨k + 1, by have := HLT.out; omega, by have := HLT.out; omega, by go_num, by rw [HX.out, nx_miss (by rw [HN.out]; exact HLT.out.2) HT.out], HACC.out.trans (hb1.mono HACC.out.size)⟩
          case measure => simp [intOf]; have := HLT.out; omega
      · have e1 : nx b q = k := by rw [hnx, nx_end (by rw [HN.out]; omega)]
        have HR := Lib.hid (HV.out.2 (by rw [e1, HN.out]; omega))
        have k1 : ¬ (k : Int) < n := by omega
        clear hqk hk hnx acc hlt e1
        go_wp2_with fail
        go_ret2
        obtain ⟨e2, e3⟩ := HR.out
        exact ⟨by rw [e2, e3]; rfl, HACC.out⟩
  · have HV : Hid (fiV b i = 0 ∧ fiE b i = asE b i) := Lib.hid ⟨by rw [fiV, if_neg ce], by rw [fiE, if_neg ce]⟩
    have ce2 : (asE b i == 0) = false := by simpa using ce
    have ce3 : (asE b i != 0) = true := by simpa using ce
    clear h ce hn
    go_enter Try.func12, Try.ntmps12
    go_wp2_with (first | (go_at_call 25; refine (rAsked b A n c i _ HH.out l1 l2).mono ?_; rintro e w' ⟨rfl, rfl⟩))
    go_ret2
    exact ⟨by rw [HV.out.1, HV.out.2]; rfl, Below.refl _ _⟩
end Go.Proofs.Ythcpanenjcjgpaa.mkW
