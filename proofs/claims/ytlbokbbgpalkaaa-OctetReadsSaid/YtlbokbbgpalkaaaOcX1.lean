/- The reference's writing, by walks. -/
import Derived.Test.YtlbokbbgpalkaaaOcWa
import Derived.Test.YtlbokbbgpalkaaaOcW8
namespace Go.Proofs.Ytlbokbbgpalkaaa.ocW
open Go.RowKit Go.Proofs.Ytlbokbbgpalkaaa.base Go.Proofs.Ytlbokbbgpalkaaa.ocP
set_option linter.unusedVariables false
set_option linter.unusedSimpArgs false

/-- The last k of q bytes of a number, zeros ahead of them. -/
def dR (x : Int) (q k : Nat) : List Int := (List.range q).map fun (i : Nat) => if q - k ≤ i then x / 256 ^ (q - 1 - i) % 256 else 0
theorem dR_len (x : Int) (q k : Nat) : (dR x q k).length = q := by simp [dR]
theorem dR_zero (x : Int) (q : Nat) : dR x q 0 = List.replicate q 0 := by
  unfold dR
  apply List.ext_getElem
  · simp
  · intro i h1 h2
    simp at h1 ⊢
    intro h; omega
theorem dR_all (x : Int) (q : Nat) : dR x q q = digs x q := by simp [dR, digs]
theorem dR_set (x : Int) {q j : Nat} (h : j < q) : (dR x q (q - 1 - j)).set j (x / 256 ^ (q - 1 - j) % 256) = dR x q (q - j) := by
  apply List.ext_getElem
  · simp [dR]
  · intro i h1 h2
    simp [dR] at h1
    simp only [dR, List.getElem_set, List.getElem_map, List.getElem_range]
    by_cases c : j = i
    · subst c; rw [if_pos rfl, if_pos (by omega)]
    · rw [if_neg c]
      by_cases c2 : q - (q - 1 - j) ≤ i
      · rw [if_pos c2, if_pos (by omega)]
      · rw [if_neg c2, if_neg (by omega)]
theorem dR_some {w : World} {B g q : Nat} {x : Int} {k : Nat} (h : OwnI w B 5 .u8 (.slice (some ⟨g, 0, none⟩) q q) (dR x q k)) {j : Nat} (hj : j < q) : ∃ v, w.cell? ⟨g, j, none⟩ = some v := ⟨_, h.cell j (by rw [dR_len]; exact hj)⟩
set_option maxHeartbeats 1000000 in
theorem rDigits_any (x : Int) (q : Nat) (w : World) (h1 : 0 ≤ x) (h2 : x ≤ 18446744073709551615) (hq : 1 ≤ q ∧ q ≤ 8) :
    Calls Try.prog 36 #[.int .u64 x, .int .i64 q] w fun e w' => ∃ A' c', e = .returned (.slice A' q c') ∧ OwnZ w' w.heap.size (.slice A' q c') (digs x q) ∧ Below w.heap.size w w' := by
  have HQ := Lib.hid hq
  have q8 : (q : Int) ≤ 8 := by omega
  have q1 : 1 ≤ (q : Int) := by omega
  clear hq
  go_enter Try.func36, Try.ntmps36
  go_wp2_with (first | (at_make; refine make8 rfl _ _ rfl _ _ q rfl rfl (by have := HQ.out; omega) w.heap.size (Nat.le_refl _) ?_; intro wm own hbm; have HO := Lib.hid own; have HB := Lib.hid hbm))
  go_loopw [0, 6] (fun a i wr => ∃ j : Nat, j ≤ q ∧ i = .int .i64 ((j : Int) - 1) ∧ a = .int .u64 (x / 256 ^ (q - j)) ∧ OwnI wr w.heap.size 5 .u8 (.slice (some ⟨w.heap.size, 0, none⟩) q q) (dR x q (q - j)) ∧ Below w.heap.size w wr) (fun _ i _ => (intOf i + 1).toNat)
  case atStart => exact ⟨q, Nat.le_refl _, rfl, by simp, by rw [Nat.sub_self, dR_zero]; exact HO.out, HB.out⟩
  case round =>
    obtain ⟨j, hj, rfl, rfl, own2, acc⟩ := hrel
    have HOW := Lib.hid own2
    have HACC := Lib.hid acc
    rcases j with _ | j
    · clear own2 acc hj
      generalize x / 256 ^ (q - 0) = v at *
      go_wp2
      go_ret
      refine ⟨_, _, rfl, .inl ?_, HACC.out⟩
      have := HOW.out
      rwa [Nat.sub_zero, dR_all] at this
    · have hb := fit_bd h1 h2 (q - (j + 1))
      have e1 : ((j + 1 : Nat) : Int) - 1 = (j : Int) := by omega
      rw [e1]
      have hf := own2.frozen (j : Nat)
      obtain ⟨v0, hc⟩ := dR_some own2 (show j < q by omega)
      have lt := own2.base_le.2
      have HS := Lib.hid (fit_step x (q - (j + 1)))
      have HLT : Hid (j < q) := Lib.hid (by omega)
      have jl : (j : Int) < q := by omega
      clear own2 acc hj e1
      obtain ⟨v, hv⟩ : ∃ v, x / 256 ^ (q - (j + 1)) = v := ⟨_, rfl⟩
      rw [hv] at hb ⊢
      have HVV := Lib.hid hv
      clear hv
      have v1 := hb.1
      have v2 := hb.2
      go_wp2
      go_roundw
      case rel =>
        refine ⟨j, by have := HLT.out; omega, rfl, ?_, ?_, ?_⟩
        · rw [show q - j = q - (j + 1) + 1 by have := HLT.out; omega, ← HS.out, HVV.out]
        · have hs := HOW.out.store j (v % 256)
          have e : q - (j + 1) = q - 1 - j := by have := HLT.out; omega
          have hvv := HVV.out
          rw [e] at hs hvv
          rw [← hvv, dR_set x HLT.out, hvv] at hs
          simpa using hs
        · have := HACC.out; (repeat' (first | (with_reducible exact Below.refl _ _) | (with_reducible assumption) | (with_reducible refine below_drewN ?_ _) | (with_reducible refine below_new ?_ _) | (with_reducible refine Below.alloc ?_ ?_ _) | (with_reducible refine Below.drew ?_) | (with_reducible refine Below.setCell ?_ ?_ _) | (with_reducible apply below_at; (case k => (with_reducible assumption)); (case hB => omega)) | (with_reducible apply below_on; (with_reducible assumption)) | (go_size; done) | (with_reducible apply size_of)))
      case measure => simp [intOf]; try omega
theorem num_cases {x : Int} {q : Nat} (h : 0 ≤ x) : (x / 256 ^ q == 0) = decide (x < 256 ^ q) := by
  by_cases c : x < 256 ^ q
  · rw [decide_eq_true c, Int.ediv_eq_zero_of_lt h c]; rfl
  · rw [decide_eq_false c]
    have : 1 ≤ x / 256 ^ q := (Int.le_ediv_iff_mul_le (Int.pow_pos (by omega))).2 (by omega)
    simp; omega
set_option maxHeartbeats 1000000 in
theorem rNumber_any (x l : Int) (w : World) (h1 : 0 ≤ x) (h2 : x ≤ 18446744073709551615) :
    Calls Try.prog 20 #[.int .u64 x, .int .i64 l] w fun e w' => ∃ A' n' c', e = .returned (.tuple #[.slice A' n' c', .int .i64 (numE x l)]) ∧ n' = (numV x l).length ∧ OwnZ w' w.heap.size (.slice A' n' c') (numV x l) ∧ Below w.heap.size w w' := by
  cases hw : wdB l
  · have e2 : numE x l = 2 := by simp [numE, hw]
    have HV : Hid (numE x l = 2 ∧ numV x l = []) := Lib.hid ⟨e2, by simp [numV, e2]⟩
    have HW := Lib.hid hw
    clear hw e2
    go_enter Try.func20, Try.ntmps20
    go_wp2_with (first | (go_at_call 29; refine (rWidth_any _ _).mono ?_; rintro e w1 ⟨rfl, rfl⟩; rw [HW.out]))
    refine bodyPost_ret (by simp [results, Try.results20, go_sem, ]; try rfl) rfl ?_
    exact ⟨none, 0, 0, by rw [HV.out.1], by rw [HV.out.2]; rfl, by rw [HV.out.2]; exact .inr ⟨rfl, _, rfl⟩, by (repeat' (first | (with_reducible exact Below.refl _ _) | (with_reducible assumption) | (with_reducible refine below_drewN ?_ _) | (with_reducible refine below_new ?_ _) | (with_reducible refine Below.alloc ?_ ?_ _) | (with_reducible refine Below.drew ?_) | (with_reducible refine Below.setCell ?_ ?_ _) | (with_reducible apply below_at; (case k => (with_reducible assumption)); (case hB => omega)) | (with_reducible apply below_on; (with_reducible assumption)) | (go_size; done) | (with_reducible apply size_of)))⟩
  · have hl := (wdB_iff l).1 hw
    obtain ⟨q, rfl⟩ := Int.eq_ofNat_of_zero_le (show 0 ≤ l by omega)
    have HQ : Hid (1 ≤ q ∧ q ≤ 8) := Lib.hid (by omega)
    have HW := Lib.hid hw
    by_cases hf : x < 256 ^ q
    · have e2 : numE x q = 0 := by simp [numE, hw, hf]
      have HV : Hid (numE x q = 0 ∧ numV x q = digs x q) := Lib.hid ⟨e2, by simp [numV, e2]⟩
      have HF : Hid ((x / 256 ^ q == 0) = true) := Lib.hid (by rw [num_cases h1, decide_eq_true hf])
      clear hw hl hf e2
      go_enter Try.func20, Try.ntmps20
      go_wp2_with (first | (go_at_call 29; refine (rWidth_any _ _).mono ?_; rintro e w1 ⟨rfl, rfl⟩; rw [HW.out]) | (go_at_call 30; refine (rFits_any x q _ (by omega) (by omega) (by have := HQ.out; omega)).mono ?_; rintro e w2 ⟨rfl, rfl⟩; rw [HF.out]) | (go_at_call 36; refine (rDigits_any x q _ (by omega) (by omega) HQ.out).mono ?_; rintro e w3 ⟨A3, c3, rfl, ho3, hb3⟩; have HO3 := Lib.hid ho3; have HB3 := Lib.hid hb3; clear ho3))
      refine bodyPost_ret (by simp [results, Try.results20, go_sem, ]; try rfl) rfl ?_
      exact ⟨A3, q, c3, by rw [HV.out.1], by rw [HV.out.2, digs_len], by rw [HV.out.2]; exact HO3.out, by have := HB3.out; (repeat' (first | (with_reducible exact Below.refl _ _) | (with_reducible assumption) | (with_reducible refine below_drewN ?_ _) | (with_reducible refine below_new ?_ _) | (with_reducible refine Below.alloc ?_ ?_ _) | (with_reducible refine Below.drew ?_) | (with_reducible refine Below.setCell ?_ ?_ _) | (with_reducible apply below_at; (case k => (with_reducible assumption)); (case hB => omega)) | (with_reducible apply below_on; (with_reducible assumption)) | (go_size; done) | (with_reducible apply size_of)))⟩
    · have e2 : numE x q = 16 := by simp [numE, hw, hf]
      have HV : Hid (numE x q = 16 ∧ numV x q = []) := Lib.hid ⟨e2, by simp [numV, e2]⟩
      have HF : Hid ((x / 256 ^ q == 0) = false) := Lib.hid (by rw [num_cases h1, decide_eq_false hf])
      clear hw hl hf e2
      go_enter Try.func20, Try.ntmps20
      go_wp2_with (first | (go_at_call 29; refine (rWidth_any _ _).mono ?_; rintro e w1 ⟨rfl, rfl⟩; rw [HW.out]) | (go_at_call 30; refine (rFits_any x q _ (by omega) (by omega) (by have := HQ.out; omega)).mono ?_; rintro e w2 ⟨rfl, rfl⟩; rw [HF.out]))
      refine bodyPost_ret (by simp [results, Try.results20, go_sem, ]; try rfl) rfl ?_
      exact ⟨none, 0, 0, by rw [HV.out.1], by rw [HV.out.2]; rfl, by rw [HV.out.2]; exact .inr ⟨rfl, _, rfl⟩, by (repeat' (first | (with_reducible exact Below.refl _ _) | (with_reducible assumption) | (with_reducible refine below_drewN ?_ _) | (with_reducible refine below_new ?_ _) | (with_reducible refine Below.alloc ?_ ?_ _) | (with_reducible refine Below.drew ?_) | (with_reducible refine Below.setCell ?_ ?_ _) | (with_reducible apply below_at; (case k => (with_reducible assumption)); (case hB => omega)) | (with_reducible apply below_on; (with_reducible assumption)) | (go_size; done) | (with_reducible apply size_of)))⟩
set_option maxHeartbeats 4000000 in
theorem rString_any (s : List Int) (l : Int) (A : Option Addr) (n d : Nat) (w : World) (hA : Has .u8 w A s) (eA : s.length = n) (hd : n ≤ d) (hm : d ≤ 9223372036854775807) :
    Calls Try.prog 21 #[.slice A n d, .int .i64 l] w fun e w' => ∃ A' n' c', e = .returned (.tuple #[.slice A' n' c', .int .i64 (strE s l)]) ∧ n' = (strV s l).length ∧ OwnZ w' w.heap.size (.slice A' n' c') (strV s l) ∧ Below w.heap.size w w' := by
  have n9 : (n : Int) ≤ 9223372036854775807 := by omega
  have HA := Lib.hid hA
  have HE := Lib.hid eA
  cases hw : wdB l
  · have HV : Hid (strE s l = 2 ∧ strV s l = []) := by
      have e : strE s l = 2 := by simp [strE, hw]
      exact Lib.hid ⟨e, by simp [strV, e]⟩
    have HW := Lib.hid hw
    clear hA eA hd hm hw
    go_enter Try.func21, Try.ntmps21
    go_wp2_with (first | (go_at_call 29; refine (rWidth_any _ _).mono ?_; rintro e w1 ⟨rfl, rfl⟩; rw [HW.out]))
    refine bodyPost_ret (by simp [results, Try.results21, go_sem, ]; try rfl) rfl ?_
    (obtain ⟨e2, e3⟩ := HV.out; exact ⟨none, 0, 0, by rw [e2], by rw [e3]; rfl, by rw [e3]; exact .inr ⟨rfl, _, rfl⟩, by (repeat' (first | (with_reducible exact Below.refl _ _) | (with_reducible assumption) | (with_reducible refine below_drewN ?_ _) | (with_reducible refine below_new ?_ _) | (with_reducible refine Below.alloc ?_ ?_ _) | (with_reducible refine Below.drew ?_) | (with_reducible refine Below.setCell ?_ ?_ _) | (with_reducible apply below_at; (case k => (with_reducible assumption)); (case hB => omega)) | (with_reducible apply below_on; (with_reducible assumption)) | (go_size; done) | (with_reducible apply size_of)))⟩)
  · have hl := (wdB_iff l).1 hw
    obtain ⟨q, rfl⟩ := Int.eq_ofNat_of_zero_le (show 0 ≤ l by omega)
    have HQ : Hid (1 ≤ q ∧ q ≤ 8) := Lib.hid (by omega)
    have HW := Lib.hid hw
    by_cases c1 : (n : Int) ≤ 20000
    · have HX : Hid (n ≤ 20000) := Lib.hid (by omega)
      have e1 : strE s q = numE n q := by rw [strE, if_pos hw, if_pos (by omega), eA]
      by_cases hf : (n : Int) < 256 ^ q
      · have e2 : numE n q = 0 := by simp [numE, hw, hf]
        have HV : Hid (strE s q = 0 ∧ strV s q = digs n q ++ s) := Lib.hid ⟨by rw [e1, e2], by rw [strV, if_pos (by rw [e1, e2]), eA, Int.toNat_natCast]⟩
        have HF : Hid (((n : Int) / 256 ^ q == 0) = true) := Lib.hid (by rw [num_cases (by omega), decide_eq_true hf])
        clear hA eA hd hm hw hl hf e1 e2
        go_enter Try.func21, Try.ntmps21
        go_wp2_with (first | (go_at_call 29; refine (rWidth_any _ _).mono ?_; rintro e w1 ⟨rfl, rfl⟩; rw [HW.out]) | (go_at_call 30; refine (rFits_any (n : Int) q _ (by omega) (by omega) (by have := HQ.out; omega)).mono ?_; rintro e w2 ⟨rfl, rfl⟩; rw [HF.out]) | (go_at_call 36; refine (rDigits_any (n : Int) q _ (by omega) (by omega) HQ.out).mono ?_; rintro e w3 ⟨A3, c3, rfl, ho3, hb3⟩; have HO3 := Lib.hid ho3; have HB3 := Lib.hid hb3; clear ho3) | (at_builtin; refine app8z rfl _ _ rfl w.heap.size _ _ rfl HO3.out A n d s rfl HE.out (HA.out.below HB3.out (Nat.le_refl _)) (q + n) ?c0 ?c1 ?c2 ?_; (case c0 => (rw [digs_len])); (case c1 => (have := HQ.out; have := HX.out; omega)); (case c2 => exact HB3.out.size); intro A4 c4 w4 ho4 hl4 hb4))
        refine bodyPost_ret (by simp [results, Try.results21, go_sem, ]; try rfl) rfl ?_
        obtain ⟨e2, e3⟩ := HV.out
        exact ⟨A4, q + n, c4, by rw [e2], by rw [e3, List.length_append, digs_len, HE.out], by rw [e3]; exact ho4, by have := HB3.out; (repeat' (first | (with_reducible exact Below.refl _ _) | (with_reducible assumption) | (with_reducible refine below_drewN ?_ _) | (with_reducible refine below_new ?_ _) | (with_reducible refine Below.alloc ?_ ?_ _) | (with_reducible refine Below.drew ?_) | (with_reducible refine Below.setCell ?_ ?_ _) | (with_reducible apply below_at; (case k => (with_reducible assumption)); (case hB => omega)) | (with_reducible apply below_on; (with_reducible assumption)) | (go_size; done) | (with_reducible apply size_of)))⟩
      · have e2 : numE n q = 16 := by simp [numE, hw, hf]
        have HV : Hid (strE s q = 16 ∧ strV s q = []) := Lib.hid ⟨by rw [e1, e2], by simp [strV, e1, e2]⟩
        have HF : Hid (((n : Int) / 256 ^ q == 0) = false) := Lib.hid (by rw [num_cases (by omega), decide_eq_false hf])
        clear hA eA hd hm hw hl hf e1 e2
        go_enter Try.func21, Try.ntmps21
        go_wp2_with (first | (go_at_call 29; refine (rWidth_any _ _).mono ?_; rintro e w1 ⟨rfl, rfl⟩; rw [HW.out]) | (go_at_call 30; refine (rFits_any (n : Int) q _ (by omega) (by omega) (by have := HQ.out; omega)).mono ?_; rintro e w2 ⟨rfl, rfl⟩; rw [HF.out]))
        refine bodyPost_ret (by simp [results, Try.results21, go_sem, ]; try rfl) rfl ?_
        (obtain ⟨e2, e3⟩ := HV.out; exact ⟨none, 0, 0, by rw [e2], by rw [e3]; rfl, by rw [e3]; exact .inr ⟨rfl, _, rfl⟩, by (repeat' (first | (with_reducible exact Below.refl _ _) | (with_reducible assumption) | (with_reducible refine below_drewN ?_ _) | (with_reducible refine below_new ?_ _) | (with_reducible refine Below.alloc ?_ ?_ _) | (with_reducible refine Below.drew ?_) | (with_reducible refine Below.setCell ?_ ?_ _) | (with_reducible apply below_at; (case k => (with_reducible assumption)); (case hB => omega)) | (with_reducible apply below_on; (with_reducible assumption)) | (go_size; done) | (with_reducible apply size_of)))⟩)
    · have HV : Hid (strE s q = 4 ∧ strV s q = []) := by
        have e : strE s q = 4 := by rw [strE, if_pos hw, if_neg (by omega)]
        exact Lib.hid ⟨e, by simp [strV, e]⟩
      clear hA eA hd hm hw hl
      go_enter Try.func21, Try.ntmps21
      go_wp2_with (first | (go_at_call 29; refine (rWidth_any _ _).mono ?_; rintro e w1 ⟨rfl, rfl⟩; rw [HW.out]))
      refine bodyPost_ret (by simp [results, Try.results21, go_sem, ]; try rfl) rfl ?_
      (obtain ⟨e2, e3⟩ := HV.out; exact ⟨none, 0, 0, by rw [e2], by rw [e3]; rfl, by rw [e3]; exact .inr ⟨rfl, _, rfl⟩, by (repeat' (first | (with_reducible exact Below.refl _ _) | (with_reducible assumption) | (with_reducible refine below_drewN ?_ _) | (with_reducible refine below_new ?_ _) | (with_reducible refine Below.alloc ?_ ?_ _) | (with_reducible refine Below.drew ?_) | (with_reducible refine Below.setCell ?_ ?_ _) | (with_reducible apply below_at; (case k => (with_reducible assumption)); (case hB => omega)) | (with_reducible apply below_on; (with_reducible assumption)) | (go_size; done) | (with_reducible apply size_of)))⟩)
set_option maxHeartbeats 1000000 in
theorem rNew_any (b : List Int) (A : Option Addr) (n d : Nat) (w : World) (hA : Has .u8 w A b) (eA : b.length = n) (hd : n ≤ d) (hm : d ≤ 9223372036854775807) :
    Calls Try.prog 22 #[.slice A n d] w fun e w' => ∃ A' n' c', e = .returned (.tuple #[.agg #[.slice A' n' c', .int .i64 0], .int .i64 (newE b)]) ∧ n' = (newB b).length ∧ OwnZ w' w.heap.size (.slice A' n' c') (newB b) ∧ Below w.heap.size w w' := by
  have n9 : (n : Int) ≤ 9223372036854775807 := by omega
  have HA := Lib.hid hA
  have HE := Lib.hid eA
  have HD := Lib.hid hd
  by_cases c1 : (n : Int) ≤ 50000
  · have HN : Hid (n ≤ 140737488355328) := Lib.hid (by omega)
    have HV : Hid (newB b = b ∧ newE b = 0) := Lib.hid ⟨by rw [newB, if_pos (by omega)], by rw [newE, if_pos (by omega)]⟩
    clear hA eA hd hm
    go_enter Try.func22, Try.ntmps22
    go_wp2_with (at_builtin; refine app8z rfl _ _ rfl (w.heap.size + 1) _ [] rfl (.inr ⟨rfl, _, rfl⟩) A n d b rfl HE.out (HA.out.below (by (repeat' (first | (with_reducible exact Below.refl _ _) | (with_reducible assumption) | (with_reducible refine below_drewN ?_ _) | (with_reducible refine below_new ?_ _) | (with_reducible refine Below.alloc ?_ ?_ _) | (with_reducible refine Below.drew ?_) | (with_reducible refine Below.setCell ?_ ?_ _) | (with_reducible apply below_at; (case k => (with_reducible assumption)); (case hB => omega)) | (with_reducible apply below_on; (with_reducible assumption)) | (go_size; done) | (with_reducible apply size_of)))) (Nat.le_refl _)) n (by simp) HN.out (by simp) ?_; intro A1 c1' w1 ho1 hk1 hb1; rw [List.nil_append] at ho1; have K1 : Lies (w1) (w.heap.size) 29 [.slice none 0 0, .int .i64 0] := (Lies.keeps (by (repeat' (first | (with_reducible assumption) | (with_reducible exact Lies.fresh _ _ _) | (with_reducible apply Lies.fresh_at; (first | (with_reducible rfl) | (simp; done))) | (with_reducible refine Lies.drew ?_) | (with_reducible refine Lies.drewN ?_ _) | (with_reducible refine Lies.alloc ?_ _) | (with_reducible apply Lies.past; case hb => (with_reducible assumption)) | (with_reducible apply Lies.keeps; (case k => (with_reducible assumption)); (case ht => decide)) | (with_reducible apply Lies.store3) | (with_reducible apply Lies.other; case hp => (first | omega | (simp; done) | (simp; omega)))))) hk1 (by decide)); obtain ⟨p0, p1, f0, f1⟩ := K1.two; have HK := Lib.hid K1; have lt := K1.lt; have HO := Lib.hid ho1; have HB := Lib.hid hb1)
    obtain ⟨t0, t1, -, -⟩ := (lies_store2 HK.out (a := .slice A1 n c1') (b := .int .i64 0)).two
    clear p0 p1 f0 f1 lt
    refine bodyPost_ret (by simp [results, Try.results22, go_sem, t0, t1]; try rfl) rfl ?_
    have o := OwnZ.store2 HO.out HK.out (by decide) (a := .slice A1 n c1') (b := .int .i64 0)
    refine ⟨A1, n, c1', by rw [HV.out.2], by rw [HV.out.1, HE.out], by rw [HV.out.1]; exact o.mono (by simp), ?_⟩
    have := HB.out
    (repeat' (first | (with_reducible exact Below.refl _ _) | (with_reducible assumption) | (with_reducible refine below_drewN ?_ _) | (with_reducible refine below_new ?_ _) | (with_reducible refine Below.alloc ?_ ?_ _) | (with_reducible refine Below.drew ?_) | (with_reducible refine Below.setCell ?_ ?_ _) | (with_reducible apply below_at; (case k => (with_reducible assumption)); (case hB => omega)) | (with_reducible apply below_on; (with_reducible assumption)) | (go_size; done) | (with_reducible apply size_of)))
  · have HV : Hid (newB b = [] ∧ newE b = 4) := Lib.hid ⟨by rw [newB, if_neg (by omega)], by rw [newE, if_neg (by omega)]⟩
    clear hA eA hd hm
    go_enter Try.func22, Try.ntmps22
    go_wp2_with fail
    refine bodyPost_ret (by simp [results, Try.results22, go_sem, ]; try rfl) rfl ?_
    exact ⟨none, 0, 0, by rw [HV.out.2], by rw [HV.out.1]; rfl, by rw [HV.out.1]; exact .inr ⟨rfl, _, rfl⟩, by (repeat' (first | (with_reducible exact Below.refl _ _) | (with_reducible assumption) | (with_reducible refine below_drewN ?_ _) | (with_reducible refine below_new ?_ _) | (with_reducible refine Below.alloc ?_ ?_ _) | (with_reducible refine Below.drew ?_) | (with_reducible refine Below.setCell ?_ ?_ _) | (with_reducible apply below_at; (case k => (with_reducible assumption)); (case hB => omega)) | (with_reducible apply below_on; (with_reducible assumption)) | (go_size; done) | (with_reducible apply size_of)))⟩
def grB (n : Int) : Bool := decide (2000 < n) && decide (n ≤ 50000) || decide (50100 < n)
theorem grB_no {n : Int} (h : grB n = false) : n ≤ 2000 ∨ 50000 < n ∧ n ≤ 50100 := by simp [grB] at h; omega
set_option maxHeartbeats 1000000 in
theorem rGreat_any (A : Option Addr) (n d : Nat) (w : World) (hm : n ≤ 9223372036854775807) :
    Calls Try.prog 19 #[.slice A n d] w fun e w' => e = .returned (.bool (grB n)) ∧ w = w' := by
  have n9 : (n : Int) ≤ 9223372036854775807 := by omega
  clear hm
  by_cases c1 : (n : Int) ≤ 2000
  · go_enter Try.func19, Try.ntmps19
    go_wp2
    go_ret
    exact ⟨retb (by simp [grB]; omega), rfl⟩
  · by_cases c2 : (n : Int) ≤ 50000
    · go_enter Try.func19, Try.ntmps19
      go_wp2
      go_ret
      exact ⟨retb (by simp [grB]; omega), rfl⟩
    · by_cases c3 : (n : Int) ≤ 50100
      · go_enter Try.func19, Try.ntmps19
        go_wp2
        go_ret
        exact ⟨retb (by simp [grB]; omega), rfl⟩
      · go_enter Try.func19, Try.ntmps19
        go_wp2
        go_ret
        exact ⟨retb (by simp [grB]; omega), rfl⟩
end Go.Proofs.Ytlbokbbgpalkaaa.ocW
