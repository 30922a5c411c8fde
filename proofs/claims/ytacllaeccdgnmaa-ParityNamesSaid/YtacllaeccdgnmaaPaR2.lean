/- The reference's parity of a group, and whether a list is great, by walks. -/
import Derived.Test.YtacllaeccdgnmaaPaR
import Derived.Test.YtacllaeccdgnmaaPaW5
namespace Go.Proofs.Ytacllaeccdgnmaa.paW
set_option maxRecDepth 100000
open Go.RowKit Go.Proofs.Ytacllaeccdgnmaa.base Go.Proofs.Ytacllaeccdgnmaa.paP
set_option linter.unusedVariables false
set_option linter.unusedSimpArgs false
set_option maxRecDepth 100000
theorem othR_front {α : Type} (a b : List α) (k : Int) : ∃ t, othR (a ++ b) k = othR a k ++ t := by
  unfold othR
  split
  · rcases Nat.lt_or_ge k.toNat a.length with h | h
    · exact ⟨b, List.eraseIdx_append_of_lt_length h _⟩
    · exact ⟨b.eraseIdx (k.toNat - a.length), by rw [List.eraseIdx_append_of_length_le h, List.eraseIdx_of_length_le (l := a) h]⟩
  · exact ⟨b, rfl⟩
theorem wd_app (a b : List (List Int)) : wd (a ++ b) = max (wd a) (wd b) := by
  induction a with
  | nil => simp [wd]
  | cons s a ih => rw [List.cons_append, wd_cons, wd_cons, ih]; omega
theorem oth_take_le (l : List (List Int)) (k : Int) (q : Nat) : wd (oth (l.take q) k) ≤ wd (oth l k) := by
  obtain ⟨t, ht⟩ := othR_front (l.take q) (l.drop q) k
  rw [List.take_append_drop] at ht
  rw [oth_eq, oth_eq, ht, wd_app]; omega
theorem bs_oth' (rs : List R8) (k : Int) (q : Nat) (hq : q < rs.length) : oth (bs (rs.take (q + 1))) k = if (q : Int) = k then oth (bs (rs.take q)) k else oth (bs (rs.take q)) k ++ [(rs.getD q r80).b] := by
  have e : ∀ l : List R8, oth (bs l) k = bs (othR l k) := fun l => (othR_map R8.b l k).symm
  rw [e, e, othR_step r80 rs k q hq]
  split
  · rfl
  · simp [bs]
theorem bs_take' (rs : List R8) (q : Nat) : bs (rs.take q) = (bs rs).take q := by simp [bs, List.map_take]
set_option maxHeartbeats 2000000 in
theorem long_any (P : Option Addr) (m d : Nat) (k : Int) (rs : List R8) (w : World) (hr : RowsB w P m d rs) :
    Calls Try.prog 34 #[.slice P m d, .int .i64 k] w fun e w' => e = .returned (.bool (decide (5000 < wd (oth (bs rs) k)))) ∧ w' = w := by
  have HR := Lib.hid hr
  have m1 : (m : Int) ≤ 9223372036854775807 := by have := hr.c1; have := hr.c2; omega
  clear hr
  go_enter Try.func34, Try.ntmps34
  go_wp2_with fail
  go_loopw [5] (fun i wr => ∃ q : Nat, q ≤ m ∧ i = .int .i64 (q : Int) ∧ wd (oth (bs (rs.take q)) k) ≤ 5000 ∧ wr = w) (fun i _ => m - (intOf i).toNat)
  case atStart => exact ⟨0, Nat.zero_le _, rfl, by rw [List.take_zero]; show wd (othR [] k) ≤ 5000; unfold othR; split <;> simp [wd], rfl⟩
  case round =>
    obtain ⟨q, hq, rfl, hle, rfl⟩ := hrel
    have HLE := Lib.hid hle
    by_cases hlt : q < m
    · have q1 : (q : Int) < m := by omega
      have q0 : 0 ≤ (q : Int) := by omega
      have HQ := Lib.hid hlt
      have hS := bs_oth' rs k q (by rw [HR.out.l]; exact hlt)
      obtain ⟨b, off, rfl, hb, hc⟩ := rb_cell HR.out hlt
      have c1 := hc q hlt
      have HN := Lib.hid (rb_n HR.out hlt)
      obtain ⟨r, hrr⟩ : ∃ r, rs.getD q r80 = r := ⟨_, rfl⟩
      rw [hrr] at c1 HN hS
      obtain ⟨rA, rn, rc, rb⟩ := r
      dsimp only at c1 HN hS
      by_cases hk : (q : Int) = k
      · have k1 : ((q : Int) == k) = true := by simpa using hk
        have k2 : ((q : Int) != k) = false := by simpa using hk
        rw [if_pos hk] at hS
        have HS := Lib.hid hS
        clear hlt hq hk hS hle hrr hc
        go_wp2_with fail
        go_roundw
        case rel => exact ⟨q + 1, HQ.out, by go_num, by rw [HS.out]; exact HLE.out, by trivial⟩
        case measure => simp [intOf]; have := HQ.out; omega
      · have k1 : ((q : Int) == k) = false := by simpa using hk
        have k2 : ((q : Int) != k) = true := by simpa using hk
        rw [if_neg hk] at hS
        have HS := Lib.hid hS
        by_cases hn : 5000 < rn
        · have n1 : (5000 : Int) < rn := by omega
          have HT : Hid (decide (5000 < wd (oth (bs rs) k)) = true) := Lib.hid (by
            have h1 := oth_take_le (bs rs) k (q + 1)
            rw [← bs_take', hS, wd_snoc] at h1
            have h2 := HN.out
            exact decide_eq_true (by omega))
          clear hlt hq hk hS hle hrr hc hn
          go_wp2_with fail
          go_ret
          exact ⟨by rw [HT.out]; rfl, rfl⟩
        · have n1 : ¬ (5000 : Int) < rn := by omega
          have HT : Hid (rn ≤ 5000) := Lib.hid (by omega)
          clear hlt hq hk hS hle hrr hc hn
          go_wp2_with fail
          go_roundw
          case rel => exact ⟨q + 1, HQ.out, by go_num, by rw [HS.out, wd_snoc]; have h1 := HLE.out; have h2 := HN.out; have h3 := HT.out; omega, by trivial⟩
          case measure => simp [intOf]; have := HQ.out; omega
    · obtain rfl : q = m := by omega
      have q1 : ¬ (q : Int) < q := by omega
      have HE : Hid (decide (5000 < wd (oth (bs rs) k)) = false) := Lib.hid (by
        rw [List.take_of_length_le (by rw [HR.out.l]; exact Nat.le_refl _)] at hle
        exact decide_eq_false (by omega))
      clear hlt hq hle
      go_wp2_with fail
      go_ret
      exact ⟨by rw [HE.out]; rfl, rfl⟩
def GP (m : Nat) (e : Ending) : Prop := ∃ b : Bool, e = .returned (.bool b) ∧ (b = false → m ≤ 120)
set_option maxHeartbeats 2000000 in
theorem great_any (P : Option Addr) (m d : Nat) (rs : List R8) (w : World) (hr : RowsB w P m d rs) :
    Calls Try.prog 8 #[.slice P m d] w fun e w' => GP m e ∧ w' = w := by
  have HR := Lib.hid hr
  have m1 : (m : Int) ≤ 9223372036854775807 := by have := hr.c1; have := hr.c2; omega
  clear hr
  go_enter Try.func8, Try.ntmps8
  go_wp2_with fail
  go_loopw [3, 4] (fun a i wr => ∃ q s : Nat, q ≤ m ∧ q ≤ 101 ∧ i = .int .i64 (q : Int) ∧ a = .int .i64 (s : Int) ∧ s ≤ 5000 * q ∧ wr = w) (fun a i _ => m - (intOf i).toNat)
  case atStart => exact ⟨0, 0, Nat.zero_le _, by omega, rfl, rfl, by omega, rfl⟩
  case round =>
    obtain ⟨q, s, hq, hq2, rfl, rfl, hs, rfl⟩ := hrel
    have s1 : (s : Int) ≤ 505000 := by omega
    have s0 : 0 ≤ (s : Int) := by omega
    have HS := Lib.hid (And.intro hs hq2)
    by_cases hlt : q < m
    · have q1 : (q : Int) < m := by omega
      have q0 : 0 ≤ (q : Int) := by omega
      have HQ := Lib.hid hlt
      by_cases hq3 : q ≤ 100
      · have q3 : (q : Int) ≤ 100 := by omega
        have HQ3 := Lib.hid hq3
        obtain ⟨b, off, rfl, hb, hc⟩ := rb_cell HR.out hlt
        have c1 := hc q hlt
        obtain ⟨r, hrr⟩ : ∃ r, rs.getD q r80 = r := ⟨_, rfl⟩
        rw [hrr] at c1
        obtain ⟨rA, rn, rc, rb⟩ := r
        dsimp only at c1
        by_cases hn : rn ≤ 5000
        · have n1 : (rn : Int) ≤ 5000 := by omega
          have HN := Lib.hid hn
          clear hlt hq hrr hc hn hs hq2 hq3
          go_wp2_with fail
          go_roundw
          case rel => exact ⟨q + 1, s + rn, HQ.out, by have := HQ3.out; omega, by go_num, by go_num, by have := HN.out; have := HS.out; omega, by trivial⟩
          case measure => simp [intOf]; have := HQ.out; omega
        · have n1 : ¬ (rn : Int) ≤ 5000 := by omega
          clear hlt hq hrr hc hn hs hq2 hq3
          go_wp2_with fail
          go_roundw
          case rel => exact ⟨q + 1, s, HQ.out, by have := HQ3.out; omega, by go_num, rfl, by have := HS.out; omega, by trivial⟩
          case measure => simp [intOf]; have := HQ.out; omega
      · have q3 : ¬ (q : Int) ≤ 100 := by omega
        clear hlt hq hq3 hs hq2
        go_wp2_with fail
        all_goals
          go_ret
          refine ⟨⟨_, rfl, fun h => ?_⟩, rfl⟩
          first | (simp at h; done) | (simp at h; omega) | omega
    · obtain rfl : q = m := by omega
      have q1 : ¬ (q : Int) < q := by omega
      clear hlt hq hs hq2
      go_wp2_with fail
      all_goals
        go_ret
        refine ⟨⟨_, rfl, fun h => ?_⟩, rfl⟩
        first | (simp at h; done) | (simp at h; omega) | omega
end Go.Proofs.Ytacllaeccdgnmaa.paW
