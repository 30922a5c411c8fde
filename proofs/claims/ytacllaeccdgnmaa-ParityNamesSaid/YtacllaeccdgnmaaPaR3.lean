/- The reference's parity of a group, by walks. -/
import Derived.Test.YtacllaeccdgnmaaPaR2
namespace Go.Proofs.Ytacllaeccdgnmaa.paW
set_option maxRecDepth 100000
open Go.RowKit Go.Proofs.Ytacllaeccdgnmaa.base Go.Proofs.Ytacllaeccdgnmaa.paP
set_option linter.unusedVariables false
set_option linter.unusedSimpArgs false
set_option maxRecDepth 100000
set_option maxHeartbeats 4000000 in
theorem parity_any (P : Option Addr) (m d : Nat) (rs : List R8) (w : World) (hr : RowsB w P m d rs) (hw : wd (bs rs) ≤ 5000) :
    Calls Try.prog 35 #[.slice P m d] w fun e w' => ∃ A c, e = .returned (.slice A (parP (bs rs)).length c) ∧ OwnI w' w.heap.size 5 .u8 (.slice A (parP (bs rs)).length c) (parP (bs rs)) ∧ Below w.heap.size w w' := by
  have HR := Lib.hid hr
  have m1 : (m : Int) ≤ 9223372036854775807 := by have := hr.c1; have := hr.c2; omega
  obtain ⟨v, hv⟩ : ∃ v, wd (bs rs) = v := ⟨_, rfl⟩
  rw [hv] at hw
  have HV := Lib.hid (And.intro hv hw)
  have v1 : (v : Int) ≤ 5000 := by omega
  have v0 : 0 ≤ (v : Int) := by omega
  have HPL : Hid (parP (bs rs) = mixL v (List.replicate (v + 2) 0) (bs rs) ∧ (parP (bs rs)).length = v + 2) := Lib.hid ⟨by unfold parP; rw [hv], by rw [parP_len, hv]⟩
  obtain ⟨t, ht⟩ : ∃ t, v + 2 = t := ⟨_, rfl⟩
  have HT := Lib.hid ht
  rw [HPL.out.2, HPL.out.1]
  clear hr hv hw
  rw [ht]
  clear ht
  go_enter Try.func35, Try.ntmps35
  go_wp2_with fail
  go_loopw [3, 4] (fun a i wr => ∃ q : Nat, q ≤ m ∧ i = .int .i64 (q : Int) ∧ a = .int .i64 (wd (bs (rs.take q)) : Int) ∧ wr = w) (fun _ i _ => m - (intOf i).toNat)
  case atStart => exact ⟨0, Nat.zero_le _, rfl, rfl, rfl⟩
  case round =>
    obtain ⟨q, hq, rfl, rfl, rfl⟩ := hrel
    by_cases hlt : q < m
    · have q1 : (q : Int) < m := by omega
      have q0 : 0 ≤ (q : Int) := by omega
      have HQ := Lib.hid hlt
      have hS := bs_take rs q (by rw [HR.out.l]; exact hlt)
      obtain ⟨b, off, rfl, hb, hc⟩ := rb_cell HR.out hlt
      have c1 := hc q hlt
      have HN := Lib.hid (rb_n HR.out hlt)
      obtain ⟨r, hrr⟩ : ∃ r, rs.getD q r80 = r := ⟨_, rfl⟩
      rw [hrr] at c1 HN hS
      obtain ⟨rA, rn, rc, rb⟩ := r
      dsimp only at c1 HN hS
      have HS : Hid (wd (bs (rs.take (q + 1))) = max (wd (bs (rs.take q))) rn) := Lib.hid (by rw [hS, wd_snoc, HN.out])
      generalize wd (bs (rs.take q)) = u at *
      clear hlt hq hS hrr hc
      go_wp2_with fail
      go_roundw
      case rel => exact ⟨q + 1, HQ.out, by go_num, by rw [HS.out]; congr 1; split <;> omega, by trivial⟩
      case measure => simp [intOf]; have := HQ.out; omega
    · obtain rfl : q = m := by omega
      have q1 : ¬ (q : Int) < q := by omega
      have HE : rs.take q = rs := List.take_of_length_le (by rw [HR.out.l]; exact Nat.le_refl _)
      rw [HE, HV.out.1]
      clear hlt hq HE
      go_wp2_with (go_at_call 37; refine (framed_any none 0 0 v [] _ (.inl rfl) rfl (Nat.le_refl _) (by omega) (by have := HV.out; omega)).mono ?_; rw [fr_nil, List.length_replicate, HT.out]; rintro e w4 ⟨g, c4, rfl, ho4, hb4⟩; have HO4 := Lib.hid ho4; have HB4 := Lib.hid hb4; clear ho4 hb4)
      go_loopw [5, 6] (fun a i w5 => ∃ (p c5 : Nat) (A5 : Option Addr), p ≤ q ∧ i = .int .i64 (p : Int) ∧ a = .slice A5 t c5 ∧ OwnI w5 wr.heap.size 5 .u8 (.slice A5 t c5) (mixL v (List.replicate t 0) (bs (rs.take p))) ∧ Below wr.heap.size wr w5) (fun _ i _ => q - (intOf i).toNat)
      case atStart => exact ⟨0, c4, some ⟨g, 0, none⟩, Nat.zero_le _, rfl, rfl, HO4.out, HB4.out⟩
      case round =>
        rename World => w5
        obtain ⟨p, c5, A5, hp, rfl, rfl, own, acc⟩ := hrel
        have HO := Lib.hid own
        have HA := Lib.hid acc
        by_cases hlt : p < q
        · have p1 : (p : Int) < q := by omega
          have p0 : 0 ≤ (p : Int) := by omega
          have HQ := Lib.hid hlt
          have hpr : p < rs.length := by rw [HR.out.l]; exact hlt
          have hS := bs_take rs p hpr
          obtain ⟨b, off, rfl, hb, hc⟩ := rb_cell HR.out hlt
          have c1 : w5.cell? ⟨b, off + p, none⟩ = some (.slice (rs.getD p r80).A (rs.getD p r80).n (rs.getD p r80).c) := by rw [acc.cell (p := ⟨b, off + p, none⟩) hb]; exact hc p hlt
          have hin := HR.out.h.get p hpr
          have hwl := wd_le (bs_get hpr)
          rw [HV.out.1] at hwl
          obtain ⟨r, hrr⟩ : ∃ r, rs.getD p r80 = r := ⟨_, rfl⟩
          rw [hrr] at c1 hin hS hwl
          obtain ⟨rA, rn, rc, rb⟩ := r
          dsimp only at c1 hS hwl
          have HI := Lib.hid hin
          have HWL : Hid (rb.length ≤ v) := Lib.hid hwl
          have hrn : rb.length = rn := hin.e
          have HRN := Lib.hid hrn
          have HS := Lib.hid hS
          have HML : Hid ((mixL v (List.replicate t 0) (bs (rs.take p))).length = t ∧ Byt (mixL v (List.replicate t 0) (bs (rs.take p)))) := Lib.hid
            ⟨by rw [← HT.out]; exact mixL_len (by simp) fun s hs => by have h1 := wd_le (bs_take_mem hs); rw [HV.out.1] at h1; exact h1,
             mixL_byt (by have := HV.out; omega) (zeros_byt _) fun s hs => ⟨bs_byt HR.out s (bs_take_mem hs), by have h1 := wd_le (bs_take_mem hs); rw [HV.out.1] at h1; exact h1⟩⟩
          clear own acc hlt hp hpr hS hc hb hin hwl hrr hrn
          go_wp2_with (first
            | (go_at_call 37; refine (framed_any rA rn rc v rb w5 (HI.out.h.below HA.out (Nat.le_refl _)) HRN.out HI.out.c1 (by have := HWL.out; have := HV.out; have := HRN.out; omega) (by have := HV.out; omega)).mono ?_; rw [fr_len HWL.out, HT.out]; rintro e w6 ⟨g6, c6, rfl, ho6, hb6⟩; have HO6 := Lib.hid ho6; have HB6 := Lib.hid hb6; clear ho6 hb6)
            | (go_at_call 36; refine (mixed_any A5 _ t c5 c6 _ (fr rb v) w6 (HO.out.has.below HB6.out (Nat.le_refl _)) HO6.out.has HML.out.1 (by rw [fr_len HWL.out, HT.out]) (by have := HT.out; have := HV.out; omega) HML.out.2 (fr_byt HI.out.b (by have h1 := HWL.out; have := HV.out; show rb.length ≤ 65535; omega))).mono ?_; rintro e w7 ⟨A7, c7, rfl, ho7, hb7⟩; have HO7 := Lib.hid ho7; have HB7 := Lib.hid hb7; clear ho7 hb7))
          go_roundw
          case rel =>
            have hb6 : Below wr.heap.size wr w6 := HA.out.trans (HB6.out.mono HA.out.size)
            exact ⟨p + 1, c7, A7, HQ.out, by go_num, rfl, by rw [HS.out, mixL_snoc]; exact HO7.out.mono hb6.size, hb6.trans (HB7.out.mono hb6.size)⟩
          case measure => simp [intOf]; have := HQ.out; omega
        · obtain rfl : p = q := by omega
          have p1 : ¬ (p : Int) < p := by omega
          have HE : Hid (rs.take p = rs) := Lib.hid (List.take_of_length_le (by rw [HR.out.l]; exact Nat.le_refl _))
          clear own acc hlt hp
          go_wp2_with fail
          go_ret
          exact ⟨A5, c5, rfl, by have h := HO.out; rw [HE.out] at h; exact h, HA.out⟩
set_option maxHeartbeats 2000000 in
theorem rOf_any (P : Option Addr) (m d : Nat) (rs : List R8) (w : World) (hr : RowsB w P m d rs) :
    Calls Try.prog 33 #[.slice P m d] w fun e w' => ∃ A c, e = .returned (.tuple #[.slice A (ofV (bs rs)).length c, .int .i64 (gE (bs rs))]) ∧ OwnZ w' w.heap.size (.slice A (ofV (bs rs)).length c) (ofV (bs rs)) ∧ Below w.heap.size w w' := by
  have HR := Lib.hid hr
  have HBL := Lib.hid (bs_len hr)
  have m1 : (m : Int) ≤ 9223372036854775807 := by have := hr.c1; have := hr.c2; omega
  have HO1 : Hid (oth (bs rs) (-1) = bs rs) := Lib.hid rfl
  clear hr
  by_cases c1 : 16 < m
  · have c2 : (16 : Int) < m := by omega
    have e : gE (bs rs) = 4 := by unfold gE; rw [if_pos (by have := HBL.out; omega)]
    have e2 : ofV (bs rs) = [] := by unfold ofV; rw [if_neg (by omega)]
    rw [e, e2]
    clear c1 e e2
    go_enter Try.func33, Try.ntmps33
    go_wp2_with fail
    go_ret2
    exact ⟨none, 0, rfl, .inr ⟨rfl, none, rfl⟩, Below.refl _ _⟩
  · have c2 : ¬ (16 : Int) < m := by omega
    by_cases c3 : 5000 < wd (bs rs)
    · have e : gE (bs rs) = 4 := by unfold gE; rw [if_pos (.inr c3)]
      have e2 : ofV (bs rs) = [] := by unfold ofV; rw [if_neg (by omega)]
      have HL : Hid (decide (5000 < wd (oth (bs rs) (-1))) = true) := Lib.hid (by rw [HO1.out]; exact decide_eq_true c3)
      rw [e, e2]
      clear c1 c3 e e2
      go_enter Try.func33, Try.ntmps33
      go_wp2_with (go_at_call 34; refine (long_any P m d (-1) rs _ HR.out).mono ?_; rw [HL.out]; rintro e w2 ⟨rfl, rfl⟩)
      go_ret2
      exact ⟨none, 0, rfl, .inr ⟨rfl, none, rfl⟩, Below.refl _ _⟩
    · have e : gE (bs rs) = 0 := by unfold gE; rw [if_neg (by have := HBL.out; omega)]
      have e2 : ofV (bs rs) = parP (bs rs) := by unfold ofV; rw [if_pos e]
      have HL : Hid (decide (5000 < wd (oth (bs rs) (-1))) = false) := Lib.hid (by rw [HO1.out]; exact decide_eq_false c3)
      have HW : Hid (wd (bs rs) ≤ 5000) := Lib.hid (by omega)
      rw [e, e2]
      clear c1 c3 e e2
      go_enter Try.func33, Try.ntmps33
      go_wp2_with (first
        | (go_at_call 34; refine (long_any P m d (-1) rs _ HR.out).mono ?_; rw [HL.out]; rintro e w2 ⟨rfl, rfl⟩)
        | (go_at_call 35; refine (parity_any P m d rs _ HR.out HW.out).mono ?_; rintro e w3 ⟨A3, c3, rfl, ho3, hb3⟩))
      go_ret2
      exact ⟨A3, c3, rfl, .inl ho3, hb3⟩
end Go.Proofs.Ytacllaeccdgnmaa.paW
