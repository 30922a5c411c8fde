/- What fits, by a walk; and that a step lessens the error. -/
import Derived.Test.YtjikddndlnimoaaDoorMxA1
namespace Go.Proofs.YtjikddndlnimoaaDoor.mxP
set_option maxRecDepth 100000
open Go.Proofs.YtjikddndlnimoaaDoor.base Go.Proofs.YtjikddndlnimoaaDoor.rfP Go.Proofs.YtjikddndlnimoaaDoor.sqP Go.Proofs.YtjikddndlnimoaaDoor.fixP
def fitM (l : List (List Int)) (set : Int) (ins : List Int) : Bool := decide (l.length ≤ 20) && decide (mAskE l set ins = 0)
theorem fitM_iff {l : List (List Int)} {set : Int} {ins : List Int} (h : fitM l set ins = true) : l.length ≤ 20 ∧ mAskE l set ins = 0 := by
  unfold fitM at h
  rw [Bool.and_eq_true, decide_eq_true_eq, decide_eq_true_eq] at h
  exact h
theorem tau_up {w x off : Int} (h0 : -2147483648 ≤ w) (h1 : w ≤ 2147483647) (ho : 0 ≤ off) : w * x ≤ tau w x off * x := by
  by_cases hx : 0 ≤ x
  · have hm := Int.mul_nonneg hx ho
    have hs : w ≤ tau w x off := by
      unfold tau
      rw [rnd14]
      have hm7 : 0 ≤ x * off * 7 := by omega
      unfold sat
      split
      · omega
      · split <;> omega
    exact Int.mul_le_mul_of_nonneg_right hs hx
  · have hm : x * off ≤ 0 := Int.mul_nonpos_of_nonpos_of_nonneg (by omega) ho
    have hs : tau w x off ≤ w := by
      unfold tau
      rw [rnd14]
      have hm7 : x * off * 7 ≤ 0 := by omega
      unfold sat
      split
      · omega
      · split <;> omega
    exact Int.mul_le_mul_of_nonpos_right hs (by omega)
theorem tau_down {w x off : Int} (h0 : -2147483648 ≤ w) (h1 : w ≤ 2147483647) (ho : off ≤ 0) : tau w x off * x ≤ w * x := by
  by_cases hx : 0 ≤ x
  · have hm : x * off ≤ 0 := Int.mul_nonpos_of_nonneg_of_nonpos hx ho
    have hs : tau w x off ≤ w := by
      unfold tau
      rw [rnd14]
      have hm7 : x * off * 7 ≤ 0 := by omega
      unfold sat
      split
      · omega
      · split <;> omega
    exact Int.mul_le_mul_of_nonneg_right hs hx
  · have hm : 0 ≤ x * off := Int.mul_nonneg_of_nonpos_of_nonpos (by omega) ho
    have hs : w ≤ tau w x off := by
      unfold tau
      rw [rnd14]
      have hm7 : 0 ≤ x * off * 7 := by omega
      unfold sat
      split
      · omega
      · split <;> omega
    exact Int.mul_le_mul_of_nonpos_right hs (by omega)
theorem dots_up {off : Int} (ho : 0 ≤ off) : ∀ (ws ins : List Int), (∀ z ∈ ws, -2147483648 ≤ z ∧ z ≤ 2147483647) → (prods ws ins).sum ≤ (prods (tauL ws ins off) ins).sum
  | [], ins, _ => by simp [prods, tauL]
  | w :: ws, [], _ => by simp [prods, tauL]
  | w :: ws, x :: ins, h => by
    have a := dots_up ho ws ins (fun z hz => h z (by simp [hz]))
    have b := h w (by simp)
    have c := tau_up (x := x) b.1 b.2 ho
    simp only [prods, tauL, List.zipWith_cons_cons, List.sum_cons] at a ⊢
    omega
theorem dots_down {off : Int} (ho : off ≤ 0) : ∀ (ws ins : List Int), (∀ z ∈ ws, -2147483648 ≤ z ∧ z ≤ 2147483647) → (prods (tauL ws ins off) ins).sum ≤ (prods ws ins).sum
  | [], ins, _ => by simp [prods, tauL]
  | w :: ws, [], _ => by simp [prods, tauL]
  | w :: ws, x :: ins, h => by
    have a := dots_down ho ws ins (fun z hz => h z (by simp [hz]))
    have b := h w (by simp)
    have c := tau_down (x := x) b.1 b.2 ho
    simp only [prods, tauL, List.zipWith_cons_cons, List.sum_cons] at a ⊢
    omega
theorem mix_up {ws ins : List Int} {off : Int} (ho : 0 ≤ off) (h : ∀ z ∈ ws, -2147483648 ≤ z ∧ z ≤ 2147483647) : mixD ws ins ≤ mixD (tauL ws ins off) ins := by
  have a := sat_mono (dots_up ho ws ins h)
  unfold mixD dotP
  exact clamp_mono (by omega)
theorem mix_down {ws ins : List Int} {off : Int} (ho : off ≤ 0) (h : ∀ z ∈ ws, -2147483648 ≤ z ∧ z ≤ 2147483647) : mixD (tauL ws ins off) ins ≤ mixD ws ins := by
  have a := sat_mono (dots_down ho ws ins h)
  unfold mixD dotP
  exact clamp_mono (by omega)
/-- After learning. -/
theorem learnM_ok {l : List (List Int)} (h : mxB l = true) {k : Nat} (hk : k < l.length) {ins : List Int} (hi : inB ins = true) (off : Int) : mxB (learnM l k ins off) = true ∧ (learnM l k ins off).length = l.length ∧ (learnM l k ins off).getD k [] = tauL (l.getD k []) ins off := by
  obtain ⟨h1, h2, h3⟩ := (mxB_iff _).1 h
  have hl : (learnM l k ins off).length = l.length := by simp [learnM]
  refine ⟨?_, hl, by unfold learnM; rw [gd_set_eq hk]⟩
  rw [mxB_iff, hl]
  refine ⟨h1, h2, fun z hz => ?_⟩
  rcases List.mem_or_eq_of_mem_set hz with hz | rfl
  · exact h3 z hz
  · exact tauL_len (mx_row h k hk) ((inB_iff _).1 hi).1
theorem learn_at {l : List (List Int)} {k : Nat} {ins : List Int} {p : Int} (bit : Bool) (h : mAskE l (k : Int) ins = 0) (p0 : 0 ≤ p) (p1 : p ≤ 4095) :
    learnME l k ins p = 0 ∧ learnMV l k ins p bit = learnM l k ins (offP p bit) ∧ mAskE (learnM l k ins (offP p bit)) (k : Int) ins = 0 := by
  have hw : wrongE p = 0 := by unfold wrongE; rw [if_neg (by omega)]
  have e : learnME l k ins p = 0 := by unfold learnME; rw [if_pos h, hw]
  obtain ⟨a1, a2, a3, a4⟩ := mAsk_zero h
  have hl := learnM_ok a1 (k := k) (by omega) a4 (offP p bit)
  refine ⟨e, by unfold learnMV; rw [if_pos e, Int.toNat_natCast], mAsk_ok hl.1 a2 (by rw [hl.2.1]; exact a3) a4⟩
/-- What the clamped 65,536th part says of a number. -/
theorem mix_says (t : Int) : (-2047 < clampD (t / 65536) → clampD (t / 65536) < 2047 → clampD (t / 65536) * 65536 ≤ t ∧ t ≤ clampD (t / 65536) * 65536 + 65535) ∧ (clampD (t / 65536) = 2047 → 134152192 ≤ t) ∧ (clampD (t / 65536) = -2047 → t ≤ -134086657) := by
  unfold clampD
  refine ⟨fun a b => ?_, fun a => ?_, fun a => ?_⟩ <;> omega
/-- A weight that does not saturate learns its part within a half. -/
theorem tau_says {w x off : Int} (h0 : -2147400000 ≤ w) (h1 : w ≤ 2147400000) (hb : -8382465 ≤ x * off ∧ x * off ≤ 8382465) : -8192 ≤ x * off * 7 - (tau w x off - w) * 16384 ∧ x * off * 7 - (tau w x off - w) * 16384 ≤ 8192 := by
  unfold tau
  rw [rnd14]
  have : sat (w + (x * off * 7 + 8192) / 16384) = w + (x * off * 7 + 8192) / 16384 := sat_in (by omega) (by omega)
  rw [this]
  omega
end Go.Proofs.YtjikddndlnimoaaDoor.mxP
namespace Go.Proofs.YtjikddndlnimoaaDoor.mxL
set_option maxRecDepth 100000
open Go.RowKit Go.Proofs.YtjikddndlnimoaaDoor.base Go.Proofs.YtjikddndlnimoaaDoor.rfP Go.Proofs.YtjikddndlnimoaaDoor.mxP Go.Proofs.YtjikddndlnimoaaDoor.mxW Go.Proofs.YtjikddndlnimoaaDoor.sqP Go.Proofs.YtjikddndlnimoaaDoor.sqW
set_option linter.unusedVariables false
set_option linter.unusedSimpArgs false
theorem rows_len {w : World} {A : Option Addr} {n d : Nat} {qs : List RY} (h : RowsY w A n d qs) : (numsY qs).length = n := by rw [nums_len]; exact h.l
theorem rows_bd {w : World} {A : Option Addr} {n d : Nat} {qs : List RY} (h : RowsY w A n d qs) (k : Nat) (hk : k < n) : ∀ z ∈ (numsY qs).getD k [], -2147483648 ≤ z ∧ z ≤ 2147483647 := by
  have hl := h.l
  rw [nums_at qs k (by omega)]
  exact (h.h.get k (by omega)).b
/-- A row's number, as the walk reads it. -/
theorem row_cells {w : World} {A : Option Addr} {n d : Nat} {qs : List RY} (h : RowsY w A n d qs) (k j : Nat) (hk : k < n) (hj : j < ((numsY qs).getD k []).length) :
    ∃ b o b1 o1 c1, A = some ⟨b, o, none⟩ ∧ w.cell? ⟨b, o + k, none⟩ = some (.slice (some ⟨b1, o1, none⟩) ((numsY qs).getD k []).length c1) ∧ w.cell? ⟨b1, o1 + j, none⟩ = some (.int .i32 (((numsY qs).getD k []).getD j 0)) := by
  have hl := h.l
  obtain ⟨b, o, rfl, hb, hc⟩ := h.h.some (by omega)
  have hn := nums_at qs k (by omega)
  have hi := h.h.get k (by omega)
  have hck := hc k (by omega)
  rw [hn] at hj ⊢
  generalize qs.getD k ry0 = r at *
  obtain ⟨A1, n1, d1, y1⟩ := r
  obtain ⟨b1, o1, hA, hb1, hc1⟩ := has_some hi.h (by show 0 < y1.length; have : j < y1.length := hj; omega)
  have hA : A1 = some ⟨b1, o1, none⟩ := hA
  subst hA
  have e1 : y1.length = n1 := hi.e
  subst e1
  exact ⟨b, o, b1, o1, d1, rfl, hck, hc1 j hj⟩
/-- A row as a slice. -/
theorem row_slice {w : World} {A : Option Addr} {n d : Nat} {qs : List RY} (h : RowsY w A n d qs) (k : Nat) (hk : k < n) :
    ∃ b o A1 c1, A = some ⟨b, o, none⟩ ∧ w.cell? ⟨b, o + k, none⟩ = some (.slice A1 ((numsY qs).getD k []).length c1) ∧ Has .i32 w A1 ((numsY qs).getD k []) := by
  have hl := h.l
  obtain ⟨b, o, rfl, hb, hc⟩ := h.h.some (by omega)
  have hn := nums_at qs k (by omega)
  have hi := h.h.get k (by omega)
  have hck := hc k (by omega)
  rw [hn]
  generalize qs.getD k ry0 = r at *
  obtain ⟨A1, n1, d1, y1⟩ := r
  have e1 : y1.length = n1 := hi.e
  subst e1
  exact ⟨b, o, A1, d1, rfl, hck, hi.h⟩
theorem in_cells {w : World} {B : Option Addr} {n c : Nat} {ys : List Int} (h : In8 w B n c ys) (hp : 0 < n) : ∃ b o, B = some ⟨b, o, none⟩ ∧ ∀ x', Below w.heap.size w x' → ∀ i, i < n → x'.cell? ⟨b, o + i, none⟩ = some (.int .i32 (ys.getD i 0)) := by
  obtain ⟨b, o, rfl, hb, hc⟩ := has_some h.h (by rw [h.e]; exact hp)
  exact ⟨b, o, rfl, fun x' hx i hi => ((bcell hx).1 b _ hb).trans (hc i (by rw [h.e]; exact hi))⟩
set_option maxHeartbeats 400000 in
theorem fit_any (P : Option Addr) (m c : Nat) (rs : List RY) (set : Int) (B : Option Addr) (n d : Nat) (ys : List Int) (w : World) (h : RowsY w P m c rs) (hi : In8 w B n d ys) :
    Calls Tryd.prog 21 #[.agg #[.slice P m c], .int .i64 set, .slice B n d] w fun e w' => e = .returned (.bool (fitM (numsY rs) set ys)) ∧ Below w.heap.size w w' := by
  have H := Lib.hid (And.intro h hi)
  have HL := Lib.hid (rows_len h)
  have S0 : Hid (MxAt (w.alloc (.cells #[.slice P m c] 24)) w.heap.size P m c rs ∧ Below w.heap.size w (w.alloc (.cells #[.slice P m c] 24))) := Lib.hid ⟨mxAt_new h, by (repeat' (first | (with_reducible exact Below.refl _ _) | (with_reducible assumption) | (with_reducible refine below_drewN ?_ _) | (with_reducible refine below_new ?_ _) | (with_reducible refine Below.alloc ?_ ?_ _) | (with_reducible refine Below.drew ?_) | (with_reducible refine Below.setCell ?_ ?_ _) | (with_reducible apply below_at; (case k => (with_reducible assumption)); (case hB => omega)) | (with_reducible apply below_on; (with_reducible assumption)) | (go_size; done) | (with_reducible apply size_of)))⟩
  clear h hi
  by_cases hm : m ≤ 20
  · have m1 : (m : Int) ≤ 20 := by omega
    have HF : Hid (fitM (numsY rs) set ys = decide (mAskE (numsY rs) set ys = 0)) := Lib.hid (by unfold fitM; rw [HL.out, decide_eq_true hm]; rfl)
    rw [HF.out]
    obtain ⟨v, hv⟩ : ∃ v, mAskE (numsY rs) set ys = v := ⟨_, rfl⟩
    have HV := Lib.hid hv
    rw [hv]
    clear hv HF
    go_enter Tryd.func21, Tryd.ntmps21
    go_wp2_with fail
    generalize hw0 : (w.alloc (.cells #[.slice P m c] 24)) = w0 at *
    refine (rAsked_any P m c rs set B n d ys w0 S0.out.1.rows (H.out.2.past S0.out.2)).mono ?_
    rintro e w1 ⟨rfl, b1⟩
    have HB := Lib.hid (below_bs S0.out.2 b1)
    clear b1
    rw [HV.out]
    by_cases hv : v = 0
    · subst hv
      go_wp2_with fail
      go_ret
      exact ⟨rfl, HB.out⟩
    · have hv2 : (v == 0) = false := by simpa using hv
      have HD := Lib.hid (decide_eq_false hv)
      clear hv
      go_wp2_with fail
      go_ret
      exact ⟨retb HD.out.symm, HB.out⟩
  · have m1 : ¬ (m : Int) ≤ 20 := by omega
    have HF : Hid (fitM (numsY rs) set ys = false) := Lib.hid (by unfold fitM; rw [HL.out, decide_eq_false hm]; rfl)
    rw [HF.out]
    go_enter Tryd.func21, Tryd.ntmps21
    go_wp2_with fail
    go_ret
    exact ⟨rfl, S0.out.2⟩
end Go.Proofs.YtjikddndlnimoaaDoor.mxL
