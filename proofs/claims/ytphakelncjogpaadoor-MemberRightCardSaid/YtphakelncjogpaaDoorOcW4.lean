/- Strings, by walks. -/
import Derived.Test.YtphakelncjogpaaDoorOcW3
namespace Go.Proofs.YtphakelncjogpaaDoor.ocW
set_option maxRecDepth 100000
open Go.RowKit Go.Proofs.YtphakelncjogpaaDoor.base Go.Proofs.YtphakelncjogpaaDoor.ocP
set_option linter.unusedVariables false
set_option linter.unusedSimpArgs false

def strE (s : List Int) (l : Int) : Int := if wdB l then (if s.length ≤ 20000 then numE s.length l else 4) else 2
def strV (s : List Int) (l : Int) : List Int := if strE s l = 0 then digs s.length l.toNat ++ s else []
set_option maxHeartbeats 4000000 in
theorem String_any (s : List Int) (l : Int) (A : Option Addr) (n d : Nat) (w : World) (hA : Has .u8 w A s) (eA : s.length = n) (hd : n ≤ d) (hm : d ≤ 9223372036854775807) :
    Calls Tryd.prog 35 #[.slice A n d, .int .i64 l] w fun e w' => ∃ A' n' c', e = .returned (.tuple #[.slice A' n' c', .int .i64 (strE s l)]) ∧ n' = (strV s l).length ∧ OwnZ w' w.heap.size (.slice A' n' c') (strV s l) ∧ Below w.heap.size w w' := by
  have n9 : (n : Int) ≤ 9223372036854775807 := by omega
  have HA := Lib.hid hA
  have HE := Lib.hid eA
  have HD := Lib.hid hd
  cases hw : wdB l
  · have HV : Hid (strE s l = 2 ∧ strV s l = []) := by
      have e : strE s l = 2 := by simp [strE, hw]
      exact Lib.hid ⟨e, by simp [strV, e]⟩
    have HW := Lib.hid hw
    clear hA eA hd hm hw
    go_enter Tryd.func35, Tryd.ntmps35
    go_wp2_with (first | (go_at_call 43; refine (isWidth_any _ _).mono ?_; rintro e w1 ⟨rfl, rfl⟩; rw [HW.out]))
    refine bodyPost_ret (by simp [results, Tryd.results35, go_sem, ]; try rfl) rfl ?_
    (obtain ⟨e2, e3⟩ := HV.out; exact ⟨none, 0, 0, by rw [e2], by rw [e3]; rfl, by rw [e3]; exact .inr ⟨rfl, _, rfl⟩, by (repeat' (first | (with_reducible exact Below.refl _ _) | (with_reducible assumption) | (with_reducible refine below_drewN ?_ _) | (with_reducible refine below_new ?_ _) | (with_reducible refine Below.alloc ?_ ?_ _) | (with_reducible refine Below.drew ?_) | (with_reducible refine Below.setCell ?_ ?_ _) | (with_reducible apply below_at; (case k => (with_reducible assumption)); (case hB => omega)) | (with_reducible apply below_on; (with_reducible assumption)) | (go_size; done) | (with_reducible apply size_of)))⟩)
  · have HW := Lib.hid hw
    by_cases c1 : (n : Int) ≤ 20000
    · have HX : Hid (n ≤ 20000) := Lib.hid (by omega)
      have e1 : strE s l = numE n l := by rw [strE, if_pos hw, if_pos (by omega), eA]
      by_cases c2 : numE n l = 0
      · have hv : numV n l = digs n l.toNat := by rw [numV, if_pos c2]
        have HV : Hid (strE s l = 0 ∧ strV s l = digs n l.toNat ++ s) := Lib.hid ⟨by rw [e1, c2], by rw [strV, if_pos (by rw [e1, c2]), eA]⟩
        have HM : Hid (l.toNat ≤ 8 ∧ numE n l = 0) := Lib.hid ⟨by rw [wdB_iff] at hw; omega, c2⟩
        have HNV := Lib.hid hv
        clear hA eA hd hm hw e1 c2 hv
        go_enter Tryd.func35, Tryd.ntmps35
        go_wp2_with (first | (go_at_call 43; refine (isWidth_any _ _).mono ?_; rintro e w1 ⟨rfl, rfl⟩; rw [HW.out]) | (go_at_call 36; refine (Number_any (n : Int) l _ (by omega) (by omega)).mono ?_; rintro e w2 ⟨A2, n2, c2, rfl, hn2, ho2, hb2⟩; rw [HM.out.2]; have HN2 := Lib.hid hn2; have HO2 := Lib.hid ho2; have HB2 := Lib.hid hb2; clear hn2 ho2) | (at_builtin; refine app8z rfl _ _ rfl w.heap.size _ _ rfl HO2.out A n d s rfl HE.out (HA.out.below HB2.out (Nat.le_refl _)) (n2 + n) ?c0 ?c1 ?c2 ?_; (case c0 => (rw [HN2.out])); (case c1 => (have h1 := HN2.out; rw [HNV.out, digs_len] at h1; have := HM.out.1; have := HX.out; omega)); (case c2 => exact HB2.out.size); intro A3 c3 w3 ho3 hl3 hb3))
        refine bodyPost_ret (by simp [results, Tryd.results35, go_sem, ]; try rfl) rfl ?_
        obtain ⟨e2, e3⟩ := HV.out
        rw [HNV.out] at ho3
        refine ⟨A3, n2 + n, c3, by rw [e2], ?_, by rw [e3]; exact ho3, by have := HB2.out; (repeat' (first | (with_reducible exact Below.refl _ _) | (with_reducible assumption) | (with_reducible refine below_drewN ?_ _) | (with_reducible refine below_new ?_ _) | (with_reducible refine Below.alloc ?_ ?_ _) | (with_reducible refine Below.drew ?_) | (with_reducible refine Below.setCell ?_ ?_ _) | (with_reducible apply below_at; (case k => (with_reducible assumption)); (case hB => omega)) | (with_reducible apply below_on; (with_reducible assumption)) | (go_size; done) | (with_reducible apply size_of)))⟩
        rw [e3, HN2.out, HNV.out, List.length_append, HE.out]
      · have HM : Hid (numE n l = 16) := Lib.hid (by
          unfold numE at c2 ⊢
          rw [if_pos hw] at c2 ⊢
          by_cases h : (n : Int) < 256 ^ l.toNat
          · rw [if_pos h] at c2; exact absurd rfl c2
          · rw [if_neg h])
        have HV : Hid (strE s l = 16 ∧ strV s l = []) := by
          have e : strE s l = 16 := by rw [e1, HM.out]
          exact Lib.hid ⟨e, by simp [strV, e]⟩
        clear hA eA hd hm hw e1 c2
        go_enter Tryd.func35, Tryd.ntmps35
        go_wp2_with (first | (go_at_call 43; refine (isWidth_any _ _).mono ?_; rintro e w1 ⟨rfl, rfl⟩; rw [HW.out]) | (go_at_call 36; refine (Number_any (n : Int) l _ (by omega) (by omega)).mono ?_; rintro e w2 ⟨A2, n2, c2, rfl, hn2, ho2, hb2⟩; rw [HM.out]; clear hn2))
        refine bodyPost_ret (by simp [results, Tryd.results35, go_sem, ]; try rfl) rfl ?_
        (obtain ⟨e2, e3⟩ := HV.out; exact ⟨none, 0, 0, by rw [e2], by rw [e3]; rfl, by rw [e3]; exact .inr ⟨rfl, _, rfl⟩, by (repeat' (first | (with_reducible exact Below.refl _ _) | (with_reducible assumption) | (with_reducible refine below_drewN ?_ _) | (with_reducible refine below_new ?_ _) | (with_reducible refine Below.alloc ?_ ?_ _) | (with_reducible refine Below.drew ?_) | (with_reducible refine Below.setCell ?_ ?_ _) | (with_reducible apply below_at; (case k => (with_reducible assumption)); (case hB => omega)) | (with_reducible apply below_on; (with_reducible assumption)) | (go_size; done) | (with_reducible apply size_of)))⟩)
    · have HV : Hid (strE s l = 4 ∧ strV s l = []) := by
        have e : strE s l = 4 := by rw [strE, if_pos hw, if_neg (by omega)]
        exact Lib.hid ⟨e, by simp [strV, e]⟩
      clear hA eA hd hm hw
      go_enter Tryd.func35, Tryd.ntmps35
      go_wp2_with (first | (go_at_call 43; refine (isWidth_any _ _).mono ?_; rintro e w1 ⟨rfl, rfl⟩; rw [HW.out]))
      refine bodyPost_ret (by simp [results, Tryd.results35, go_sem, ]; try rfl) rfl ?_
      (obtain ⟨e2, e3⟩ := HV.out; exact ⟨none, 0, 0, by rw [e2], by rw [e3]; rfl, by rw [e3]; exact .inr ⟨rfl, _, rfl⟩, by (repeat' (first | (with_reducible exact Below.refl _ _) | (with_reducible assumption) | (with_reducible refine below_drewN ?_ _) | (with_reducible refine below_new ?_ _) | (with_reducible refine Below.alloc ?_ ?_ _) | (with_reducible refine Below.drew ?_) | (with_reducible refine Below.setCell ?_ ?_ _) | (with_reducible apply below_at; (case k => (with_reducible assumption)); (case hB => omega)) | (with_reducible apply below_on; (with_reducible assumption)) | (go_size; done) | (with_reducible apply size_of)))⟩)
end Go.Proofs.YtphakelncjogpaaDoor.ocW
