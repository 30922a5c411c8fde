/- The order of numbers, by walks. -/
import Derived.Test.YthdgoahfhcoccaaOcL
namespace Go.Proofs.Ythdgoahfhcoccaa.ocL
open Go.RowKit Go.Proofs.Ythdgoahfhcoccaa.base Go.Proofs.Ythdgoahfhcoccaa.ocP Go.Proofs.Ythdgoahfhcoccaa.ocW
set_option linter.unusedVariables false
set_option linter.unusedSimpArgs false

/-- Two numbers are the same in their first k digits of w. -/
def eqTo (x y : Int) (w k : Nat) : Prop := x / 256 ^ (w - k) = y / 256 ^ (w - k)
theorem digs_get {x : Int} {w k : Nat} (h : k < w) : (digs x w).getD k 0 = x / 256 ^ (w - 1 - k) % 256 := by simp [digs, h]
theorem pw {w k : Nat} (h : k < w) : (256 : Int) ^ (w - k) = 256 ^ (w - 1 - k) * 256 := by rw [show w - k = (w - 1 - k) + 1 by omega, Int.pow_succ]
theorem pw_pos (j : Nat) : (0 : Int) < 256 ^ j := Int.pow_pos (by omega)
theorem eqTo_zero {x y : Int} {w : Nat} (x1 : 0 ≤ x) (x2 : x < 256 ^ w) (y1 : 0 ≤ y) (y2 : y < 256 ^ w) : eqTo x y w 0 := by
  unfold eqTo
  rw [Nat.sub_zero, Int.ediv_eq_zero_of_lt x1 x2, Int.ediv_eq_zero_of_lt y1 y2]
theorem eqTo_step {x y : Int} {w k : Nat} (h : k < w) (e : eqTo x y w k) (d : (digs x w).getD k 0 = (digs y w).getD k 0) : eqTo x y w (k + 1) := by
  unfold eqTo at *
  rw [digs_get h, digs_get h] at d
  rw [pw h, ← Int.ediv_ediv_of_nonneg (Int.le_of_lt (pw_pos _)), ← Int.ediv_ediv_of_nonneg (Int.le_of_lt (pw_pos _))] at e
  rw [show w - (k + 1) = w - 1 - k by omega]
  generalize x / 256 ^ (w - 1 - k) = u at *
  generalize y / 256 ^ (w - 1 - k) = v at *
  omega
theorem eqTo_full {x y : Int} {w : Nat} (e : eqTo x y w w) : x = y := by
  unfold eqTo at e
  simpa using e
theorem eqTo_ne {x y : Int} {w k : Nat} (h : k < w) (e : eqTo x y w k) (d : (digs x w).getD k 0 ≠ (digs y w).getD k 0) : ((digs x w).getD k 0 < (digs y w).getD k 0 ↔ x < y) ∧ x ≠ y := by
  unfold eqTo at *
  rw [digs_get h, digs_get h] at d ⊢
  rw [pw h, ← Int.ediv_ediv_of_nonneg (Int.le_of_lt (pw_pos _)), ← Int.ediv_ediv_of_nonneg (Int.le_of_lt (pw_pos _))] at e
  have m1 : x ≤ y → x / 256 ^ (w - 1 - k) ≤ y / 256 ^ (w - 1 - k) := fun h => Int.ediv_le_ediv (pw_pos _) h
  have m2 : y ≤ x → y / 256 ^ (w - 1 - k) ≤ x / 256 ^ (w - 1 - k) := fun h => Int.ediv_le_ediv (pw_pos _) h
  generalize x / 256 ^ (w - 1 - k) = u at *
  generalize y / 256 ^ (w - 1 - k) = v at *
  omega
theorem numE_zero {x l : Int} (h : numE x l = 0) : wdB l = true ∧ x < 256 ^ l.toNat ∧ numV x l = digs x l.toNat := by
  have h0 := h
  unfold numE at h
  cases hw : wdB l
  · rw [hw] at h; simp at h
  · rw [hw, if_pos rfl] at h
    by_cases hf : x < 256 ^ l.toNat
    · exact ⟨rfl, hf, by rw [numV, if_pos h0]⟩
    · rw [if_neg hf] at h; simp at h
set_option maxHeartbeats 4000000 in
theorem order (x y l : Int) (w : World) (x1 : 0 ≤ x) (x2 : x ≤ 18446744073709551615) (y1 : 0 ≤ y) (y2 : y ≤ 18446744073709551615) (l1 : -9223372036854775808 ≤ l) (l2 : l ≤ 9223372036854775807) :
    Calls Try.prog 8 #[.int .u64 x, .int .u64 y, .int .i64 l] w fun e w' => e = .returned (.bool true) ∧ Below w.heap.size w w' := by
  by_cases hx : numE x l = 0
  · by_cases hy : numE y l = 0
    · obtain ⟨hw, fx, vx⟩ := numE_zero hx
      obtain ⟨-, fy, vy⟩ := numE_zero hy
      have hl := (wdB_iff l).1 hw
      obtain ⟨q, rfl⟩ := Int.eq_ofNat_of_zero_le (show 0 ≤ l by omega)
      simp only [Int.toNat_natCast] at fx fy vx vy
      obtain ⟨ds, hds⟩ : ∃ ds, digs x q = ds := ⟨_, rfl⟩
      obtain ⟨es, hes⟩ : ∃ es, digs y q = es := ⟨_, rfl⟩
      have HX : Hid (numE x q = 0 ∧ numV x q = ds) := Lib.hid ⟨hx, by rw [vx, hds]⟩
      have HY : Hid (numE y q = 0 ∧ numV y q = es) := Lib.hid ⟨hy, by rw [vy, hes]⟩
      have HD : Hid (ds.length = q ∧ (∀ z ∈ ds, 0 ≤ z ∧ z ≤ 255) ∧ es.length = q ∧ (∀ z ∈ es, 0 ≤ z ∧ z ≤ 255)) := Lib.hid ⟨by rw [← hds, digs_len], by rw [← hds]; exact digs_b x q, by rw [← hes, digs_len], by rw [← hes]; exact digs_b y q⟩
      have HZ : Hid (eqTo x y q 0) := Lib.hid (eqTo_zero x1 fx y1 fy)
      have HS : Hid (∀ k, k < q → eqTo x y q k → ds.getD k 0 = es.getD k 0 → eqTo x y q (k + 1)) := Lib.hid (by rw [← hds, ← hes]; exact fun k h e d => eqTo_step h e d)
      have HN : Hid (∀ k, k < q → eqTo x y q k → ds.getD k 0 ≠ es.getD k 0 → (ds.getD k 0 < es.getD k 0 ↔ x < y) ∧ x ≠ y) := Lib.hid (by rw [← hds, ← hes]; exact fun k h e d => eqTo_ne h e d)
      have hl1 := hl.1
      have hl2 := hl.2
      clear hx hy hw fx fy vx vy hds hes hl
      go_enter Try.func8, Try.ntmps8
      go_wp2_with fail
      refine (Number_any x q _ x1 x2).mono ?_
      rintro e w1 ⟨A1, n1, c1, rfl, hn1, ho1, hb1⟩
      rw [HX.out.1]
      rw [HX.out.2] at hn1 ho1
      rw [HD.out.1] at hn1
      obtain rfl := hn1
      have H1 := Lib.hid ho1.has
      clear ho1
      go_wp2_with fail
      refine (Number_any y n1 _ y1 y2).mono ?_
      rintro e w2 ⟨A2, n2, c2, rfl, hn2, ho2, hb2⟩
      rw [HY.out.1]
      rw [HY.out.2] at hn2 ho2
      rw [HD.out.2.2.1] at hn2
      subst hn2
      have H2 := Lib.hid ho2.has
      clear ho2
      obtain ⟨b1, o1, rfl, t1, hc1⟩ := has_some H1.out (by rw [HD.out.1]; omega)
      obtain ⟨b2, o2, rfl, t2, hc2⟩ := has_some H2.out (by rw [HD.out.2.2.1]; omega)
      have HC1 := Lib.hid hc1
      have HC2 := Lib.hid hc2
      have HT := Lib.hid (And.intro t1 t2)
      have hbe : ((n2 : Int) != (n2 : Int)) = false := by simp
      clear hc1 hc2
      go_wp2_with fail
      go_loopw [11] (fun i wr => ∃ k : Nat, k ≤ n2 ∧ i = .int .i64 (k : Int) ∧ eqTo x y n2 k ∧ Below w2.heap.size w2 wr) (fun i _ => n2 - (intOf i).toNat)
      case atStart => exact ⟨0, Nat.zero_le _, rfl, HZ.out, by (repeat' (first | (with_reducible exact Below.refl _ _) | (with_reducible assumption) | (with_reducible refine below_drewN ?_ _) | (with_reducible refine below_new ?_ _) | (with_reducible refine Below.alloc ?_ ?_ _) | (with_reducible refine Below.drew ?_) | (with_reducible refine Below.setCell ?_ ?_ _) | (with_reducible apply below_at; (case k => (with_reducible assumption)); (case hB => omega)) | (with_reducible apply below_on; (with_reducible assumption)) | (go_size; done) | (with_reducible apply size_of)))⟩
      case round =>
        obtain ⟨k, hk, rfl, heq, acc⟩ := hrel
        have HACC := Lib.hid acc
        have HB2 := Lib.hid hb2
        by_cases hlt : k < n2
        · have d1 := HC1.out k (by rw [HD.out.1]; exact hlt)
          have d2 := HC2.out k (by rw [HD.out.2.2.1]; exact hlt)
          have g1 : wr.cell? ⟨b1, o1 + k, none⟩ = some (.int .u8 (ds.getD k 0)) := by
            rw [(bcell (show Below w1.heap.size w1 wr by have := HB2.out; (repeat' (first | (with_reducible exact Below.refl _ _) | (with_reducible assumption) | (with_reducible refine below_drewN ?_ _) | (with_reducible refine below_new ?_ _) | (with_reducible refine Below.alloc ?_ ?_ _) | (with_reducible refine Below.drew ?_) | (with_reducible refine Below.setCell ?_ ?_ _) | (with_reducible apply below_at; (case k => (with_reducible assumption)); (case hB => omega)) | (with_reducible apply below_on; (with_reducible assumption)) | (go_size; done) | (with_reducible apply size_of))))).1 _ _ HT.out.1]; exact d1
          have g2 : wr.cell? ⟨b2, o2 + k, none⟩ = some (.int .u8 (es.getD k 0)) := by rw [(bcell acc).1 _ _ HT.out.2]; exact d2
          have HK := Lib.hid (And.intro (HS.out k hlt heq) (HN.out k hlt heq))
          have HLT := Lib.hid hlt
          have k1 : (k : Int) < n2 := by omega
          clear d1 d2 hk heq acc hlt
          generalize ds.getD k 0 = p at *
          generalize es.getD k 0 = r at *
          have HG := Lib.hid (And.intro g1 g2)
          rcases Int.lt_trichotomy p r with h | h | h
          · have hn1 : (p != r) = true := by simp; omega
            have hn2 : (p == r) = false := by simp; omega
            have hh := HK.out.2 (by omega)
            have hxy : x < y := hh.1.1 h
            have hn3 : (x != y) = true := by simp; omega
            have hn4 : (x == y) = false := by simp; omega
            clear hh
            go_wp2_with fail
            go_quiet (fail)
            ((go_wp2_with fail); (go_region_held3 (fun x' => x'.cell? ⟨b1, o1 + k, none⟩ = some (.int .u8 p) ∧ x'.cell? ⟨b2, o2 + k, none⟩ = some (.int .u8 r)) (first | (exact ⟨HG.out.1, HG.out.2⟩) | (exact ⟨by rw [(bcell (show Below wr.heap.size wr _ by (repeat' (first | (with_reducible exact Below.refl _ _) | (with_reducible assumption) | (with_reducible refine below_drewN ?_ _) | (with_reducible refine below_new ?_ _) | (with_reducible refine Below.alloc ?_ ?_ _) | (with_reducible refine Below.drew ?_) | (with_reducible refine Below.setCell ?_ ?_ _) | (with_reducible apply below_at; (case k => (with_reducible assumption)); (case hB => omega)) | (with_reducible apply below_on; (with_reducible assumption)) | (go_size; done) | (with_reducible apply size_of))))).1 _ _ (lt_of_cell HG.out.1)]; exact HG.out.1, by rw [(bcell (show Below wr.heap.size wr _ by (repeat' (first | (with_reducible exact Below.refl _ _) | (with_reducible assumption) | (with_reducible refine below_drewN ?_ _) | (with_reducible refine below_new ?_ _) | (with_reducible refine Below.alloc ?_ ?_ _) | (with_reducible refine Below.drew ?_) | (with_reducible refine Below.setCell ?_ ?_ _) | (with_reducible apply below_at; (case k => (with_reducible assumption)); (case hB => omega)) | (with_reducible apply below_on; (with_reducible assumption)) | (go_size; done) | (with_reducible apply size_of))))).1 _ _ (lt_of_cell HG.out.2)]; exact HG.out.2⟩)) (first | (go_at_call 18; refine (alive _).mono ?_; rintro e w3 ⟨rfl, hb3⟩))))

            (all_goals (go_wp2_with fail; go_ret; exact ⟨rfl, by have := HACC.out; have := HB2.out; (repeat' (first | (with_reducible exact Below.refl _ _) | (with_reducible assumption) | (with_reducible refine below_drewN ?_ _) | (with_reducible refine below_new ?_ _) | (with_reducible refine Below.alloc ?_ ?_ _) | (with_reducible refine Below.drew ?_) | (with_reducible refine Below.setCell ?_ ?_ _) | (with_reducible apply below_at; (case k => (with_reducible assumption)); (case hB => omega)) | (with_reducible apply below_on; (with_reducible assumption)) | (go_size; done) | (with_reducible apply size_of)))⟩))
          · subst h
            have hn1 : (p != p) = false := by simp
            have HKK := Lib.hid (HK.out.1 rfl)
            clear HK
            go_wp2_with fail
            go_quiet (fail)
            go_wp2_with fail
            refine ⟨⟨k + 1, HLT.out, by go_num, HKK.out, by have := HACC.out; (repeat' (first | (with_reducible exact Below.refl _ _) | (with_reducible assumption) | (with_reducible refine below_drewN ?_ _) | (with_reducible refine below_new ?_ _) | (with_reducible refine Below.alloc ?_ ?_ _) | (with_reducible refine Below.drew ?_) | (with_reducible refine Below.setCell ?_ ?_ _) | (with_reducible apply below_at; (case k => (with_reducible assumption)); (case hB => omega)) | (with_reducible apply below_on; (with_reducible assumption)) | (go_size; done) | (with_reducible apply size_of)))⟩, ?_⟩
            simp [intOf]; have := HLT.out; omega
          · have hn1 : (p != r) = true := by simp; omega
            have hn2 : (p == r) = false := by simp; omega
            have hh := HK.out.2 (by omega)
            have hxy : y < x := by
              have a1 := hh.1
              have a2 := hh.2
              have a3 : ¬ x < y := fun h' => by have := a1.2 h'; omega
              omega
            have hn3 : (x != y) = true := by simp; omega
            have hn4 : (x == y) = false := by simp; omega
            have hd1 : decide (p < r) = false := decide_eq_false (by omega)
            have hd2 : decide (x < y) = false := decide_eq_false (by omega)
            have hd3 : ((false : Bool) == false) = true := rfl
            clear hh
            go_wp2_with fail
            go_quiet (fail)
            ((go_wp2_with fail); (go_region_held3 (fun x' => x'.cell? ⟨b1, o1 + k, none⟩ = some (.int .u8 p) ∧ x'.cell? ⟨b2, o2 + k, none⟩ = some (.int .u8 r)) (first | (exact ⟨HG.out.1, HG.out.2⟩) | (exact ⟨by rw [(bcell (show Below wr.heap.size wr _ by (repeat' (first | (with_reducible exact Below.refl _ _) | (with_reducible assumption) | (with_reducible refine below_drewN ?_ _) | (with_reducible refine below_new ?_ _) | (with_reducible refine Below.alloc ?_ ?_ _) | (with_reducible refine Below.drew ?_) | (with_reducible refine Below.setCell ?_ ?_ _) | (with_reducible apply below_at; (case k => (with_reducible assumption)); (case hB => omega)) | (with_reducible apply below_on; (with_reducible assumption)) | (go_size; done) | (with_reducible apply size_of))))).1 _ _ (lt_of_cell HG.out.1)]; exact HG.out.1, by rw [(bcell (show Below wr.heap.size wr _ by (repeat' (first | (with_reducible exact Below.refl _ _) | (with_reducible assumption) | (with_reducible refine below_drewN ?_ _) | (with_reducible refine below_new ?_ _) | (with_reducible refine Below.alloc ?_ ?_ _) | (with_reducible refine Below.drew ?_) | (with_reducible refine Below.setCell ?_ ?_ _) | (with_reducible apply below_at; (case k => (with_reducible assumption)); (case hB => omega)) | (with_reducible apply below_on; (with_reducible assumption)) | (go_size; done) | (with_reducible apply size_of))))).1 _ _ (lt_of_cell HG.out.2)]; exact HG.out.2⟩)) (first | (go_at_call 18; refine (alive _).mono ?_; rintro e w3 ⟨rfl, hb3⟩))))

            (all_goals (go_wp2_with fail; go_ret; exact ⟨rfl, by have := HACC.out; have := HB2.out; (repeat' (first | (with_reducible exact Below.refl _ _) | (with_reducible assumption) | (with_reducible refine below_drewN ?_ _) | (with_reducible refine below_new ?_ _) | (with_reducible refine Below.alloc ?_ ?_ _) | (with_reducible refine Below.drew ?_) | (with_reducible refine Below.setCell ?_ ?_ _) | (with_reducible apply below_at; (case k => (with_reducible assumption)); (case hB => omega)) | (with_reducible apply below_on; (with_reducible assumption)) | (go_size; done) | (with_reducible apply size_of)))⟩))
        · have hkl : k = n2 := by omega
          subst hkl
          have hxy := eqTo_full heq
          subst hxy
          have hbx : (x == x) = true := by simp
          clear hlt hk heq acc
          go_wp2_with (first | (go_at_call 18; refine (alive _).mono ?_; rintro e w3 ⟨rfl, hb3⟩))
          go_ret
          exact ⟨rfl, by have := HACC.out; have := HB2.out; (repeat' (first | (with_reducible exact Below.refl _ _) | (with_reducible assumption) | (with_reducible refine below_drewN ?_ _) | (with_reducible refine below_new ?_ _) | (with_reducible refine Below.alloc ?_ ?_ _) | (with_reducible refine Below.drew ?_) | (with_reducible refine Below.setCell ?_ ?_ _) | (with_reducible apply below_at; (case k => (with_reducible assumption)); (case hB => omega)) | (with_reducible apply below_on; (with_reducible assumption)) | (go_size; done) | (with_reducible apply size_of)))⟩
    · obtain ⟨E, hE⟩ : ∃ E, numE y l = E := ⟨_, rfl⟩
      rw [hE] at hy
      have HE := Lib.hid hE
      have HX := Lib.hid hx
      have b1 : (E != 0) = true := by simpa using hy
      have b2 : (E == 0) = false := by simpa using hy
      clear hE hx hy
      go_enter Try.func8, Try.ntmps8
      go_wp2_with fail
      refine (Number_any x l _ x1 x2).mono ?_
      rintro e w1 ⟨A1, n1, c1, rfl, -, -, hb1⟩
      rw [HX.out]
      go_wp2_with fail
      refine (Number_any y l _ y1 y2).mono ?_
      rintro e w2 ⟨A2, n2, c2, rfl, -, -, hb2⟩
      rw [HE.out]
      go_wp2_with (first | (go_at_call 18; refine (alive _).mono ?_; rintro e w3 ⟨rfl, hb3⟩))
      go_ret
      exact ⟨rfl, by (repeat' (first | (with_reducible exact Below.refl _ _) | (with_reducible assumption) | (with_reducible refine below_drewN ?_ _) | (with_reducible refine below_new ?_ _) | (with_reducible refine Below.alloc ?_ ?_ _) | (with_reducible refine Below.drew ?_) | (with_reducible refine Below.setCell ?_ ?_ _) | (with_reducible apply below_at; (case k => (with_reducible assumption)); (case hB => omega)) | (with_reducible apply below_on; (with_reducible assumption)) | (go_size; done) | (with_reducible apply size_of)))⟩
  · obtain ⟨E, hE⟩ : ∃ E, numE x l = E := ⟨_, rfl⟩
    obtain ⟨G, hG⟩ : ∃ E, numE y l = E := ⟨_, rfl⟩
    rw [hE] at hx
    have HE := Lib.hid hE
    have HG := Lib.hid hG
    have b1 : (E != 0) = true := by simpa using hx
    have b2 : (E == 0) = false := by simpa using hx
    clear hE hG hx
    go_enter Try.func8, Try.ntmps8
    go_wp2_with fail
    refine (Number_any x l _ x1 x2).mono ?_
    rintro e w1 ⟨A1, n1, c1, rfl, -, -, hb1⟩
    rw [HE.out]
    go_wp2_with fail
    refine (Number_any y l _ y1 y2).mono ?_
    rintro e w2 ⟨A2, n2, c2, rfl, -, -, hb2⟩
    rw [HG.out]
    go_wp2_with (first | (go_at_call 18; refine (alive _).mono ?_; rintro e w3 ⟨rfl, hb3⟩))
    go_ret
    exact ⟨rfl, by (repeat' (first | (with_reducible exact Below.refl _ _) | (with_reducible assumption) | (with_reducible refine below_drewN ?_ _) | (with_reducible refine below_new ?_ _) | (with_reducible refine Below.alloc ?_ ?_ _) | (with_reducible refine Below.drew ?_) | (with_reducible refine Below.setCell ?_ ?_ _) | (with_reducible apply below_at; (case k => (with_reducible assumption)); (case hB => omega)) | (with_reducible apply below_on; (with_reducible assumption)) | (go_size; done) | (with_reducible apply size_of)))⟩
end Go.Proofs.Ythdgoahfhcoccaa.ocL
