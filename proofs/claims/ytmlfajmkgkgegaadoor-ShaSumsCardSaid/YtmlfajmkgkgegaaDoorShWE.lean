/- Long, Pieces, by walks. -/
import Derived.Test.YtmlfajmkgkgegaaDoorShWD
namespace Go.Proofs.YtmlfajmkgkgegaaDoor.shW
open Go.RowKit Go.Proofs.YtmlfajmkgkgegaaDoor.base Go.Proofs.YtmlfajmkgkgegaaDoor.shP
set_option linter.unusedVariables false
set_option linter.unusedSimpArgs false
def badN (n : Nat) : Bool := (decide (700 < n) && decide (n ≤ 20000)) || decide (40000 < n)
def longB (rs : List R8) : Bool := ((rs.take 31).any fun r => badN r.n) || decide (30 < rs.length)
theorem longB_no {rs : List R8} (h : longB rs = false) : rs.length ≤ 30 ∧ ∀ r ∈ rs, r.n ≤ 700 ∨ (20000 < r.n ∧ r.n ≤ 40000) := by
  simp only [longB, Bool.or_eq_false_iff, decide_eq_false_iff_not, List.any_eq_false] at h
  refine ⟨by omega, fun r hr => ?_⟩
  have := h.1 r (by rw [List.take_of_length_le (by omega)]; exact hr)
  simp [badN] at this
  omega
theorem long_step (rs : List R8) (k : Nat) (hk : k < rs.length) (h : ((rs.take k).any fun r => badN r.n) = false) (hb : badN (rs.getD k r80).n = false) : ((rs.take (k + 1)).any fun r => badN r.n) = false := by
  rw [take_snoc r80 rs k hk, List.any_append, h, Bool.false_or, List.any_cons, hb]; rfl
theorem long_yes (rs : List R8) (k : Nat) (hk : k < rs.length) (h30 : k ≤ 30) (hb : badN (rs.getD k r80).n = true) : longB rs = true := by
  have : ((rs.take 31).any fun r => badN r.n) = true := by
    rw [List.any_eq_true]
    refine ⟨rs.getD k r80, ?_, hb⟩
    rw [List.getD_eq_getElem?_getD, List.getElem?_eq_getElem hk]
    exact List.mem_take_iff_getElem.2 ⟨k, by omega, rfl⟩
  simp [longB, this]
set_option maxHeartbeats 4000000 in
theorem rLong (rs : List R8) (P : Option Addr) (m d : Nat) (w : World) (h : HasL w P rs) (hl : rs.length = m) (hm : m ≤ 9223372036854775807) :
    Calls Tryd.prog 14 #[.slice P m d] w fun e w' => e = .returned (.bool (longB rs)) ∧ w = w' := by
  have n9 : (m : Int) ≤ 9223372036854775807 := by omega
  have H := Lib.hid h
  have HL := Lib.hid hl
  clear h hl hm
  go_enter Tryd.func14, Tryd.ntmps14
  go_wp2_with fail
  go_loop [3] (fun i => ∃ k : Nat, k ≤ m ∧ k ≤ 31 ∧ i = .int .i64 k ∧ ((rs.take k).any fun r => badN r.n) = false) (fun i => 31 - (intOf i).toNat)
  case atStart => exact ⟨0, Nat.zero_le _, by omega, rfl, by simp⟩
  case round =>
    obtain ⟨k, hk, h31, rfl, hany⟩ := hrel
    have HANY := Lib.hid hany
    by_cases hlt : k < m
    · by_cases h30 : k ≤ 30
      · obtain ⟨b, off, rfl, hb, hc⟩ := H.out.some (by rw [HL.out]; omega)
        have hcell := hc k (by rw [HL.out]; exact hlt)
        have hin := H.out.get k (by rw [HL.out]; exact hlt)
        have hr9 : (rs.getD k r80).n ≤ 9223372036854775807 := Nat.le_trans hin.c1 hin.c2
        have HST := Lib.hid (long_step rs k (by rw [HL.out]; exact hlt) hany)
        have HY := Lib.hid (long_yes rs k (by rw [HL.out]; exact hlt) h30)
        have HLT : Hid (k < m ∧ k ≤ 30) := Lib.hid ⟨hlt, h30⟩
        have k1 : (k : Int) < m := by omega
        have k2 : (k : Int) ≤ 30 := by omega
        generalize rs.getD k r80 = r at *
        obtain ⟨rA, rn, rc, rb⟩ := r
        simp only [] at *
        have r9 : (rn : Int) ≤ 9223372036854775807 := by omega
        clear hk h31 hany hlt h30 hin hc hr9
        by_cases c1 : (rn : Int) ≤ 700
        · have c3 : ¬ (40000 : Int) < rn := by omega
          have HB : Hid (badN rn = false) := Lib.hid (by simp [badN]; omega)
          go_wp2
          go_round
          case rel => exact ⟨k + 1, by have := HLT.out; omega, by have := HLT.out; omega, by go_num, HST.out HB.out⟩
          case measure => simp [intOf]; have := HLT.out; omega
        · by_cases c2 : (rn : Int) ≤ 20000
          · have HB : Hid (badN rn = true) := Lib.hid (by simp [badN]; omega)
            go_wp2
            go_ret
            exact ⟨by rw [HY.out HB.out]; rfl, rfl⟩
          · by_cases c3 : (40000 : Int) < rn
            · have HB : Hid (badN rn = true) := Lib.hid (by simp [badN]; omega)
              go_wp2
              go_ret
              exact ⟨by rw [HY.out HB.out]; rfl, rfl⟩
            · have HB : Hid (badN rn = false) := Lib.hid (by simp [badN]; omega)
              go_wp2
              go_round
              case rel => exact ⟨k + 1, by have := HLT.out; omega, by have := HLT.out; omega, by go_num, HST.out HB.out⟩
              case measure => simp [intOf]; have := HLT.out; omega
      · have k1 : (k : Int) < m := by omega
        have k2 : ¬ (k : Int) ≤ 30 := by omega
        have m30 : (30 : Int) < m := by omega
        have HR : Hid (longB rs = true) := Lib.hid (by simp [longB]; right; rw [HL.out]; omega)
        clear hk h31 hany hlt h30
        go_wp2
        go_ret
        exact ⟨by rw [HR.out]; rfl, rfl⟩
    · have k1 : ¬ (k : Int) < m := by omega
      have hkm : k = m := by omega
      have HT : Hid (rs.take 31 = rs.take k) := Lib.hid (by rw [List.take_of_length_le (by rw [HL.out]; omega), List.take_of_length_le (by rw [HL.out]; omega)])
      by_cases h30 : (30 : Int) < m
      · have HR : Hid (longB rs = true) := Lib.hid (by simp [longB]; right; rw [HL.out]; omega)
        clear hk h31 hany hlt hkm
        go_wp2
        go_ret
        exact ⟨by rw [HR.out]; rfl, rfl⟩
      · have HR : Hid (longB rs = false) := Lib.hid (by
          unfold longB
          rw [HT.out, HANY.out, HL.out, Bool.false_or]
          exact decide_eq_false (by omega))
        clear hk h31 hany hlt hkm
        go_wp2
        go_ret
        exact ⟨by rw [HR.out]; rfl, rfl⟩
def piB (rs : List R8) : Bool := decide (rs.length ≤ 20) && decide ((wholeL rs).length ≤ 20000)
def piE (rs : List R8) : Int := if piB rs then 0 else 4
def piV (rs : List R8) : List Int := if piB rs then digest (wholeL rs) else zd
theorem pi_yes {rs : List R8} (h1 : rs.length ≤ 20) (h2 : (wholeL rs).length ≤ 20000) : piE rs = 0 ∧ piV rs = digest (wholeL rs) := by
  have : piB rs = true := by simp [piB, h1, h2]
  exact ⟨by rw [piE, if_pos this], by rw [piV, if_pos this]⟩
theorem pi_no {rs : List R8} (h : ¬ (rs.length ≤ 20 ∧ (wholeL rs).length ≤ 20000)) : piE rs = 4 ∧ piV rs = zd := by
  have : ¬ piB rs = true := by simp [piB]; intro h1; have := fun h2 => h ⟨h1, h2⟩; omega
  exact ⟨by rw [piE, if_neg this], by rw [piV, if_neg this]⟩
end Go.Proofs.YtmlfajmkgkgegaaDoor.shW
