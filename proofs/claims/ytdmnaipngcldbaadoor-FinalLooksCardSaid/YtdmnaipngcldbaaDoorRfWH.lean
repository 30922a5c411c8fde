/- The contracts of refiners joined: whatever is asked. -/
import Derived.Test.YtdmnaipngcldbaaDoorRfWG
import Derived.Test.YtdmnaipngcldbaaDoorRfWB
namespace Go.Proofs.YtdmnaipngcldbaaDoor.rfP
set_option maxRecDepth 100000
open Go.Proofs.YtdmnaipngcldbaaDoor.base
def newE (n : Int) : Int := if 1 ≤ n ∧ n ≤ 256 then 0 else 2
def newV (n : Int) : List (List Int) := if 1 ≤ n ∧ n ≤ 256 then List.replicate n.toNat sqRow else []
def lookE (l : List (List Int)) (row d : Int) : Int := if askE l row = 0 then (if d < -2047 ∨ 2047 < d then 2 else 0) else askE l row
def lookV (l : List (List Int)) (row d : Int) : Int := if lookE l row d = 0 then seenP (l.getD row.toNat []) (d + 2048).toNat else 0
def lookJ (l : List (List Int)) (row d : Int) : Int := if lookE l row d = 0 then (nearJ (d + 2048).toNat : Int) else 0
def learnE (l : List (List Int)) (row near : Int) : Int := if askE l row = 0 then (if near < 0 ∨ 33 ≤ near then 2 else 0) else askE l row
def learnV (l : List (List Int)) (row near : Int) (bit : Bool) : List (List Int) := if learnE l row near = 0 then learnP l row.toNat near.toNat bit else []
theorem ask_zero {l : List (List Int)} {row : Int} (h : askE l row = 0) : rfB l = true ∧ 0 ≤ row ∧ row < l.length := by
  unfold askE at h
  split at h
  · rename_i h1
    split at h
    · cases h
    · exact ⟨h1, by omega, by omega⟩
  · cases h
end Go.Proofs.YtdmnaipngcldbaaDoor.rfP
namespace Go.Proofs.YtdmnaipngcldbaaDoor.rfW
set_option maxRecDepth 100000
open Go.RowKit Go.Proofs.YtdmnaipngcldbaaDoor.base Go.Proofs.YtdmnaipngcldbaaDoor.rfP Go.Proofs.YtdmnaipngcldbaaDoor.sqP Go.Proofs.YtdmnaipngcldbaaDoor.sqW
set_option linter.unusedVariables false
set_option linter.unusedSimpArgs false
set_option maxHeartbeats 400000 in
theorem Look_bad (P : Option Addr) (m c : Nat) (rs : List RY) (row d : Int) (w : World) (h : RowsY w P m c rs) (hb : askE (numsY rs) row ≠ 0) :
    Calls Tryd.prog 24 #[.agg #[.slice P m c], .int .i64 row, .int .i32 d] w fun e w' => e = .returned (.tuple #[.int .i32 0, .int .i64 0, .int .i64 (askE (numsY rs) row)]) ∧ Below w.heap.size w w' := by
  have H := Lib.hid h
  clear h
  obtain ⟨v, hv⟩ : ∃ v, askE (numsY rs) row = v := ⟨_, rfl⟩
  have HV := Lib.hid hv
  rw [hv] at hb ⊢
  clear hv
  go_enter Tryd.func24, Tryd.ntmps24
  go_wp2_with fail
  refine (checkAt_any P m c rs row _ (H.out.below (B := w.heap.size) (by (repeat' (first | (with_reducible exact Below.refl _ _) | (with_reducible assumption) | (with_reducible refine below_drewN ?_ _) | (with_reducible refine below_new ?_ _) | (with_reducible refine Below.alloc ?_ ?_ _) | (with_reducible refine Below.drew ?_) | (with_reducible refine Below.setCell ?_ ?_ _) | (with_reducible apply below_at; (case k => (with_reducible assumption)); (case hB => omega)) | (with_reducible apply below_on; (with_reducible assumption)) | (go_size; done) | (with_reducible apply size_of)))) (Nat.le_refl _))).mono ?_
  rintro e w1 ⟨rfl, hb1⟩
  rw [HV.out]
  have HB1 : Hid (Below w.heap.size w w1) := Lib.hid (by (repeat' (first | (with_reducible exact Below.refl _ _) | (with_reducible assumption) | (with_reducible refine below_drewN ?_ _) | (with_reducible refine below_new ?_ _) | (with_reducible refine Below.alloc ?_ ?_ _) | (with_reducible refine Below.drew ?_) | (with_reducible refine Below.setCell ?_ ?_ _) | (with_reducible apply below_at; (case k => (with_reducible assumption)); (case hB => omega)) | (with_reducible apply below_on; (with_reducible assumption)) | (go_size; done) | (with_reducible apply size_of))))
  clear hb1
  go_wp2_with fail
  refine bodyPost_ret (by simp [results, Tryd.results24, go_sem, ]; try rfl) rfl ?_
  exact ⟨rfl, HB1.out⟩
set_option maxHeartbeats 400000 in
theorem Look_far (P : Option Addr) (m c : Nat) (rs : List RY) (row d : Int) (w : World) (h : RowsY w P m c rs) (hb : askE (numsY rs) row = 0) (hd : d < -2047 ∨ 2047 < d) :
    Calls Tryd.prog 24 #[.agg #[.slice P m c], .int .i64 row, .int .i32 d] w fun e w' => e = .returned (.tuple #[.int .i32 0, .int .i64 0, .int .i64 2]) ∧ Below w.heap.size w w' := by
  have H := Lib.hid h
  have HV := Lib.hid hb
  clear h hb
  by_cases c1 : d < -2047
  · clear hd
    go_enter Tryd.func24, Tryd.ntmps24
    go_wp2_with fail
    refine (checkAt_any P m c rs row _ (H.out.below (B := w.heap.size) (by (repeat' (first | (with_reducible exact Below.refl _ _) | (with_reducible assumption) | (with_reducible refine below_drewN ?_ _) | (with_reducible refine below_new ?_ _) | (with_reducible refine Below.alloc ?_ ?_ _) | (with_reducible refine Below.drew ?_) | (with_reducible refine Below.setCell ?_ ?_ _) | (with_reducible apply below_at; (case k => (with_reducible assumption)); (case hB => omega)) | (with_reducible apply below_on; (with_reducible assumption)) | (go_size; done) | (with_reducible apply size_of)))) (Nat.le_refl _))).mono ?_
    rintro e w1 ⟨rfl, hb1⟩
    rw [HV.out]
    have HB1 : Hid (Below w.heap.size w w1) := Lib.hid (by (repeat' (first | (with_reducible exact Below.refl _ _) | (with_reducible assumption) | (with_reducible refine below_drewN ?_ _) | (with_reducible refine below_new ?_ _) | (with_reducible refine Below.alloc ?_ ?_ _) | (with_reducible refine Below.drew ?_) | (with_reducible refine Below.setCell ?_ ?_ _) | (with_reducible apply below_at; (case k => (with_reducible assumption)); (case hB => omega)) | (with_reducible apply below_on; (with_reducible assumption)) | (go_size; done) | (with_reducible apply size_of))))
    clear hb1
    go_wp2_with fail
    refine bodyPost_ret (by simp [results, Tryd.results24, go_sem, ]; try rfl) rfl ?_
    exact ⟨rfl, HB1.out⟩
  · have c2 : 2047 < d := by omega
    have c3 : decide (d < -2047) = false := decide_eq_false c1
    have c4 : 0 ≤ d := by omega
    clear hd c1
    go_enter Tryd.func24, Tryd.ntmps24
    go_wp2_with fail
    refine (checkAt_any P m c rs row _ (H.out.below (B := w.heap.size) (by (repeat' (first | (with_reducible exact Below.refl _ _) | (with_reducible assumption) | (with_reducible refine below_drewN ?_ _) | (with_reducible refine below_new ?_ _) | (with_reducible refine Below.alloc ?_ ?_ _) | (with_reducible refine Below.drew ?_) | (with_reducible refine Below.setCell ?_ ?_ _) | (with_reducible apply below_at; (case k => (with_reducible assumption)); (case hB => omega)) | (with_reducible apply below_on; (with_reducible assumption)) | (go_size; done) | (with_reducible apply size_of)))) (Nat.le_refl _))).mono ?_
    rintro e w1 ⟨rfl, hb1⟩
    rw [HV.out]
    have HB1 : Hid (Below w.heap.size w w1) := Lib.hid (by (repeat' (first | (with_reducible exact Below.refl _ _) | (with_reducible assumption) | (with_reducible refine below_drewN ?_ _) | (with_reducible refine below_new ?_ _) | (with_reducible refine Below.alloc ?_ ?_ _) | (with_reducible refine Below.drew ?_) | (with_reducible refine Below.setCell ?_ ?_ _) | (with_reducible apply below_at; (case k => (with_reducible assumption)); (case hB => omega)) | (with_reducible apply below_on; (with_reducible assumption)) | (go_size; done) | (with_reducible apply size_of))))
    clear hb1
    go_wp2_with fail
    refine bodyPost_ret (by simp [results, Tryd.results24, go_sem, ]; try rfl) rfl ?_
    exact ⟨rfl, HB1.out⟩
section
variable {f : FuncId}
theorem look_join {P : Option Addr} {m c : Nat} {rs : List RY} {row d : Int} {w : World} (h : RowsY w P m c rs)
    (bad : askE (numsY rs) row ≠ 0 → Calls Tryd.prog f #[.agg #[.slice P m c], .int .i64 row, .int .i32 d] w fun e w' => e = .returned (.tuple #[.int .i32 0, .int .i64 0, .int .i64 (askE (numsY rs) row)]) ∧ Below w.heap.size w w')
    (far : askE (numsY rs) row = 0 → (d < -2047 ∨ 2047 < d) → Calls Tryd.prog f #[.agg #[.slice P m c], .int .i64 row, .int .i32 d] w fun e w' => e = .returned (.tuple #[.int .i32 0, .int .i64 0, .int .i64 2]) ∧ Below w.heap.size w w')
    (ok : ∀ k t : Nat, rfB (numsY rs) = true → k < m → 1 ≤ t → t ≤ 4095 → Calls Tryd.prog f #[.agg #[.slice P m c], .int .i64 k, .int .i32 ((t : Int) - 2048)] w fun e w' => e = .returned (.tuple #[.int .i32 (seenP ((numsY rs).getD k []) t), .int .i64 (nearJ t), .int .i64 0]) ∧ Below w.heap.size w w') :
    Calls Tryd.prog f #[.agg #[.slice P m c], .int .i64 row, .int .i32 d] w fun e w' => e = .returned (.tuple #[.int .i32 (lookV (numsY rs) row d), .int .i64 (lookJ (numsY rs) row d), .int .i64 (lookE (numsY rs) row d)]) ∧ Below w.heap.size w w' := by
  by_cases h1 : askE (numsY rs) row = 0
  · by_cases h2 : d < -2047 ∨ 2047 < d
    · have e : lookE (numsY rs) row d = 2 := by unfold lookE; rw [if_pos h1, if_pos h2]
      unfold lookV lookJ
      rw [e]
      exact far h1 h2
    · have e : lookE (numsY rs) row d = 0 := by unfold lookE; rw [if_pos h1, if_neg h2]
      obtain ⟨z1, z2, z3⟩ := ask_zero h1
      rw [nums_len, h.l] at z3
      have := ok row.toNat (d + 2048).toNat z1 (by omega) (by omega) (by omega)
      rw [show ((row.toNat : Nat) : Int) = row by omega, show (((d + 2048).toNat : Nat) : Int) - 2048 = d by omega] at this
      unfold lookV lookJ
      rw [e]
      exact this
  · have e : lookE (numsY rs) row d = askE (numsY rs) row := by unfold lookE; rw [if_neg h1]
    unfold lookV lookJ
    rw [e, if_neg h1, if_neg h1]
    exact bad h1
theorem learn_join {P : Option Addr} {m c : Nat} {rs : List RY} {row near : Int} {bit : Bool} {w : World} (h : RowsY w P m c rs)
    (bad : askE (numsY rs) row ≠ 0 → Calls Tryd.prog f #[.agg #[.slice P m c], .int .i64 row, .int .i64 near, .bool bit] w fun e w' => e = .returned (.tuple #[.agg #[.slice none 0 0], .int .i64 (askE (numsY rs) row)]) ∧ Below w.heap.size w w')
    (far : askE (numsY rs) row = 0 → (near < 0 ∨ 33 ≤ near) → Calls Tryd.prog f #[.agg #[.slice P m c], .int .i64 row, .int .i64 near, .bool bit] w fun e w' => e = .returned (.tuple #[.agg #[.slice none 0 0], .int .i64 2]) ∧ Below w.heap.size w w')
    (ok : ∀ k j : Nat, rfB (numsY rs) = true → k < m → j < 33 → Calls Tryd.prog f #[.agg #[.slice P m c], .int .i64 k, .int .i64 j, .bool bit] w fun e w' => ∃ A d qs, e = .returned (.tuple #[.agg #[.slice A m d], .int .i64 0]) ∧ OwnR w' w.heap.size (.slice A m d) qs ∧ numsY qs = learnP (numsY rs) k j bit ∧ Below w.heap.size w w') :
    Calls Tryd.prog f #[.agg #[.slice P m c], .int .i64 row, .int .i64 near, .bool bit] w fun e w' => ∃ A n d qs, e = .returned (.tuple #[.agg #[.slice A n d], .int .i64 (learnE (numsY rs) row near)]) ∧ OwnR w' w.heap.size (.slice A n d) qs ∧ numsY qs = learnV (numsY rs) row near bit ∧ Below w.heap.size w w' := by
  by_cases h1 : askE (numsY rs) row = 0
  · by_cases h2 : near < 0 ∨ 33 ≤ near
    · have e : learnE (numsY rs) row near = 2 := by unfold learnE; rw [if_pos h1, if_pos h2]
      unfold learnV
      rw [e]
      exact (far h1 h2).mono fun e w' ⟨he, hb⟩ => ⟨none, 0, 0, [], he, OwnR.nil _ _, rfl, hb⟩
    · have e : learnE (numsY rs) row near = 0 := by unfold learnE; rw [if_pos h1, if_neg h2]
      obtain ⟨z1, z2, z3⟩ := ask_zero h1
      rw [nums_len, h.l] at z3
      have := ok row.toNat near.toNat z1 (by omega) (by omega)
      rw [show ((row.toNat : Nat) : Int) = row by omega, show ((near.toNat : Nat) : Int) = near by omega] at this
      unfold learnV
      rw [e]
      exact this.mono fun e w' ⟨A, d, qs, h1, h2, h3, h4⟩ => ⟨A, m, d, qs, h1, h2, h3, h4⟩
  · have e : learnE (numsY rs) row near = askE (numsY rs) row := by unfold learnE; rw [if_neg h1]
    unfold learnV
    rw [e, if_neg h1]
    exact (bad h1).mono fun e w' ⟨he, hb⟩ => ⟨none, 0, 0, [], he, OwnR.nil _ _, rfl, hb⟩
theorem new_join {n : Int} {w : World}
    (bad : (n < 1 ∨ 256 < n) → Calls Tryd.prog f #[.int .i64 n] w fun e w' => e = .returned (.tuple #[.agg #[.slice none 0 0], .int .i64 2]) ∧ Below w.heap.size w w')
    (ok : ∀ m : Nat, 1 ≤ m → m ≤ 256 → Calls Tryd.prog f #[.int .i64 m] w fun e w' => ∃ A c rs, e = .returned (.tuple #[.agg #[.slice A m c], .int .i64 0]) ∧ OwnR w' w.heap.size (.slice A m c) rs ∧ rs.length = m ∧ numsY rs = List.replicate m sqRow ∧ Below w.heap.size w w') :
    Calls Tryd.prog f #[.int .i64 n] w fun e w' => ∃ A m d qs, e = .returned (.tuple #[.agg #[.slice A m d], .int .i64 (newE n)]) ∧ OwnR w' w.heap.size (.slice A m d) qs ∧ numsY qs = newV n ∧ Below w.heap.size w w' := by
  unfold newE newV
  by_cases h : 1 ≤ n ∧ n ≤ 256
  · rw [if_pos h, if_pos h]
    have := ok n.toNat (by omega) (by omega)
    rw [show ((n.toNat : Nat) : Int) = n by omega] at this
    exact this.mono fun e w' ⟨A, d, qs, h1, h2, _, h3, h4⟩ => ⟨A, n.toNat, d, qs, h1, h2, h3, h4⟩
  · rw [if_neg h, if_neg h]
    exact (bad (by omega)).mono fun e w' ⟨he, hb⟩ => ⟨none, 0, 0, [], he, OwnR.nil _ _, rfl, hb⟩
end
theorem Look_any (P : Option Addr) (m c : Nat) (rs : List RY) (row d : Int) (w : World) (h : RowsY w P m c rs) :
    Calls Tryd.prog 24 #[.agg #[.slice P m c], .int .i64 row, .int .i32 d] w fun e w' => e = .returned (.tuple #[.int .i32 (lookV (numsY rs) row d), .int .i64 (lookJ (numsY rs) row d), .int .i64 (lookE (numsY rs) row d)]) ∧ Below w.heap.size w w' :=
  look_join h (fun hb => Look_bad P m c rs row d w h hb) (fun h1 h2 => Look_far P m c rs row d w h h1 h2) (fun k t h1 h2 h3 h4 => Look_ok P m c rs k t w h h1 h2 h3 h4)
theorem Learn_any (P : Option Addr) (m c : Nat) (rs : List RY) (row near : Int) (bit : Bool) (w : World) (h : RowsY w P m c rs) :
    Calls Tryd.prog 40 #[.agg #[.slice P m c], .int .i64 row, .int .i64 near, .bool bit] w fun e w' => ∃ A n d qs, e = .returned (.tuple #[.agg #[.slice A n d], .int .i64 (learnE (numsY rs) row near)]) ∧ OwnR w' w.heap.size (.slice A n d) qs ∧ numsY qs = learnV (numsY rs) row near bit ∧ Below w.heap.size w w' :=
  learn_join h (fun hb => Learn_bad P m c rs row near bit w h hb) (fun h1 h2 => Learn_far P m c rs row near bit w h h1 h2) (fun k j h1 h2 h3 => Learn_ok P m c rs k j bit w h h1 h2 h3)
theorem New_any (n : Int) (w : World) (hT : Tab w) :
    Calls Tryd.prog 35 #[.int .i64 n] w fun e w' => ∃ A m d qs, e = .returned (.tuple #[.agg #[.slice A m d], .int .i64 (newE n)]) ∧ OwnR w' w.heap.size (.slice A m d) qs ∧ numsY qs = newV n ∧ Below w.heap.size w w' :=
  new_join (fun h => New_bad n w h) (fun m h1 h2 => (New_ok m w hT h1 h2).mono fun e w' ⟨g, rs, h1, h2, h3, h4, h5⟩ => ⟨some ⟨g, 0, none⟩, m, rs, h1, h2, h3, h4, h5⟩)
theorem rNew_any (n : Int) (w : World) :
    Calls Tryd.prog 36 #[.int .i64 n] w fun e w' => ∃ A m d qs, e = .returned (.tuple #[.agg #[.slice A m d], .int .i64 (newE n)]) ∧ OwnR w' w.heap.size (.slice A m d) qs ∧ numsY qs = newV n ∧ Below w.heap.size w w' :=
  new_join (fun h => rNew_bad n w h) (fun m h1 h2 => rNew_ok m w h1 h2)
end Go.Proofs.YtdmnaipngcldbaaDoor.rfW
