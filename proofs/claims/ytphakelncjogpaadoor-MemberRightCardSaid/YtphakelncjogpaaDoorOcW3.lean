/- Numbers, by walks. -/
import Derived.Test.YtphakelncjogpaaDoorOcW2
namespace Go.Proofs.YtphakelncjogpaaDoor.ocW
set_option maxRecDepth 100000
open Go.RowKit Go.Proofs.YtphakelncjogpaaDoor.base Go.Proofs.YtphakelncjogpaaDoor.ocP
set_option linter.unusedVariables false
set_option linter.unusedSimpArgs false

theorem l8_set {w : World} {g : Nat} (n : Int) {k : Nat} (h : Lies (w) (g) 94 ((dK n k).map fun z => Value.int .u8 z)) (hk : k < 8) {j : Nat} (hj : j = 7 - k) (z : Int) (hz : z = n / 256 ^ k % 256) : Lies (w.setCell ⟨g, j, none⟩ (.int .u8 z)) (g) 94 ((dK n (k + 1)).map fun z => Value.int .u8 z) := by
  subst hj hz
  have := h.set (7 - k) (.int .u8 (n / 256 ^ k % 256))
  rwa [← List.map_set, dK_set n hk] at this
theorem l8_has {w : World} {g : Nat} {n : Int} (h : Lies (w) (g) 94 ((dK n 8).map fun z => Value.int .u8 z)) {m j : Nat} (hm : m ≤ 8) (hj : j = 8 - m) : Has .u8 w (some ⟨g, j, none⟩) (digs n m) := by
  subst hj
  refine .inr ⟨g, 8 - m, rfl, h.lt, fun i hi => ?_⟩
  rw [h.cell, ← dK_drop n hm, List.getElem?_map]
  rw [← dK_drop n hm] at hi
  have hi2 : i < m := by simp [dK_len] at hi; omega
  rw [List.getElem?_eq_getElem (by rw [dK_len]; omega), List.getD_eq_getElem?_getD, List.getElem?_drop, List.getElem?_eq_getElem (by rw [dK_len]; omega)]
  rfl
theorem wd8 {l : Int} (h : wdB l = true) : l = 1 ∧ l.toNat = 1 ∨ l = 2 ∧ l.toNat = 2 ∨ l = 3 ∧ l.toNat = 3 ∨ l = 4 ∧ l.toNat = 4 ∨ l = 5 ∧ l.toNat = 5 ∨ l = 6 ∧ l.toNat = 6 ∨ l = 7 ∧ l.toNat = 7 ∨ l = 8 ∧ l.toNat = 8 := by rw [wdB_iff] at h; omega
set_option maxHeartbeats 40000000 in
theorem Number_ok (x l : Int) (m : Nat) (w : World) (hl : l = 1 ∧ m = 1 ∨ l = 2 ∧ m = 2 ∨ l = 3 ∧ m = 3 ∨ l = 4 ∧ m = 4 ∨ l = 5 ∧ m = 5 ∨ l = 6 ∧ m = 6 ∨ l = 7 ∧ m = 7 ∨ l = 8 ∧ m = 8) (h1 : 0 ≤ x) (h2 : x ≤ 18446744073709551615) (hf : x < 256 ^ m) :
    Calls Tryd.prog 36 #[.int .u64 x, .int .i64 l] w fun e w' => ∃ A' c', e = .returned (.tuple #[.slice A' m c', .int .i64 0]) ∧ OwnZ w' w.heap.size (.slice A' m c') (digs x m) ∧ Below w.heap.size w w' := by
  rcases hl with ⟨rfl, rfl⟩ | ⟨rfl, rfl⟩ | ⟨rfl, rfl⟩ | ⟨rfl, rfl⟩ | ⟨rfl, rfl⟩ | ⟨rfl, rfl⟩ | ⟨rfl, rfl⟩ | ⟨rfl, rfl⟩
  all_goals
    go_enter Tryd.func36, Tryd.ntmps36
    go_wp2_with (first | (go_at_call 43; refine (isWidth_any _ _).mono ?_; rintro e w1 ⟨rfl, rfl⟩; rw [show wdB _ = true from rfl]))
    go_loopw [20] (fun i wr => ∃ k : Nat, k ≤ 8 ∧ i = .int .i64 (k : Int) ∧ Lies (wr) (w.heap.size) 94 ((dK x k).map fun z => Value.int .u8 z) ∧ Below w.heap.size w wr) (fun i _ => 8 - (intOf i).toNat)
    case atStart => exact ⟨0, Nat.zero_le _, rfl, Lies.fresh w 94 [.int .u8 0, .int .u8 0, .int .u8 0, .int .u8 0, .int .u8 0, .int .u8 0, .int .u8 0, .int .u8 0], by (repeat' (first | (with_reducible exact Below.refl _ _) | (with_reducible assumption) | (with_reducible refine below_drewN ?_ _) | (with_reducible refine below_new ?_ _) | (with_reducible refine Below.alloc ?_ ?_ _) | (with_reducible refine Below.drew ?_) | (with_reducible refine Below.setCell ?_ ?_ _) | (with_reducible apply below_at; (case k => (with_reducible assumption)); (case hB => omega)) | (with_reducible apply below_on; (with_reducible assumption)) | (go_size; done) | (with_reducible apply size_of)))⟩
    case round =>
      obtain ⟨k, hk, rfl, K, acc⟩ := hrel
      have HK := Lib.hid K
      have HACC := Lib.hid acc
      rcases (show k = 0 ∨ k = 1 ∨ k = 2 ∨ k = 3 ∨ k = 4 ∨ k = 5 ∨ k = 6 ∨ k = 7 ∨ k = 8 by omega) with rfl | rfl | rfl | rfl | rfl | rfl | rfl | rfl | rfl
      all_goals
        clear acc hk
        obtain ⟨p0, p1, p2, p3, p4, p5, p6, p7⟩ := (show wr.frozen? ⟨w.heap.size, 0, none⟩ = false ∧ wr.frozen? ⟨w.heap.size, 1, none⟩ = false ∧ wr.frozen? ⟨w.heap.size, 2, none⟩ = false ∧ wr.frozen? ⟨w.heap.size, 3, none⟩ = false ∧ wr.frozen? ⟨w.heap.size, 4, none⟩ = false ∧ wr.frozen? ⟨w.heap.size, 5, none⟩ = false ∧ wr.frozen? ⟨w.heap.size, 6, none⟩ = false ∧ wr.frozen? ⟨w.heap.size, 7, none⟩ = false from ⟨K.free _, K.free _, K.free _, K.free _, K.free _, K.free _, K.free _, K.free _⟩)
        have lt := K.lt
        have C0 : ∃ v, wr.cell? ⟨w.heap.size, 0, none⟩ = some v := ⟨_, K.cell 0⟩
        have C1 : ∃ v, wr.cell? ⟨w.heap.size, 1, none⟩ = some v := ⟨_, K.cell 1⟩
        have C2 : ∃ v, wr.cell? ⟨w.heap.size, 2, none⟩ = some v := ⟨_, K.cell 2⟩
        have C3 : ∃ v, wr.cell? ⟨w.heap.size, 3, none⟩ = some v := ⟨_, K.cell 3⟩
        have C4 : ∃ v, wr.cell? ⟨w.heap.size, 4, none⟩ = some v := ⟨_, K.cell 4⟩
        have C5 : ∃ v, wr.cell? ⟨w.heap.size, 5, none⟩ = some v := ⟨_, K.cell 5⟩
        have C6 : ∃ v, wr.cell? ⟨w.heap.size, 6, none⟩ = some v := ⟨_, K.cell 6⟩
        have C7 : ∃ v, wr.cell? ⟨w.heap.size, 7, none⟩ = some v := ⟨_, K.cell 7⟩
        obtain ⟨v0, c0⟩ := C0
        obtain ⟨v1, c1⟩ := C1
        obtain ⟨v2, c2⟩ := C2
        obtain ⟨v3, c3⟩ := C3
        obtain ⟨v4, c4⟩ := C4
        obtain ⟨v5, c5⟩ := C5
        obtain ⟨v6, c6⟩ := C6
        obtain ⟨v7, c7⟩ := C7
        clear K
        go_wp2_with (first | (go_at_call 44; refine (Clone8 (l8_has HK.out (by omega) (by rfl)) (digs_len _ _) (by omega) (by omega)).mono ?_; rintro e w3 ⟨A3, c3, rfl, hh3, ho3, hb3⟩))
      all_goals first
        | (refine ⟨⟨_, ?_, ?_, l8_set x HK.out (by omega) (by omega) _ (by simp; try omega), ?_⟩, ?_⟩
           · omega
           · rfl
           · have := HACC.out; (repeat' (first | (with_reducible exact Below.refl _ _) | (with_reducible assumption) | (with_reducible refine below_drewN ?_ _) | (with_reducible refine below_new ?_ _) | (with_reducible refine Below.alloc ?_ ?_ _) | (with_reducible refine Below.drew ?_) | (with_reducible refine Below.setCell ?_ ?_ _) | (with_reducible apply below_at; (case k => (with_reducible assumption)); (case hB => omega)) | (with_reducible apply below_on; (with_reducible assumption)) | (go_size; done) | (with_reducible apply size_of)))
           · simp [intOf])
        | (refine bodyPost_ret (by simp [results, Tryd.results36, go_sem, ]; try rfl) rfl ?_
           exact ⟨A3, c3, rfl, ho3.mono (by have := HK.out.lt; omega), by have := HACC.out; (repeat' (first | (with_reducible exact Below.refl _ _) | (with_reducible assumption) | (with_reducible refine below_drewN ?_ _) | (with_reducible refine below_new ?_ _) | (with_reducible refine Below.alloc ?_ ?_ _) | (with_reducible refine Below.drew ?_) | (with_reducible refine Below.setCell ?_ ?_ _) | (with_reducible apply below_at; (case k => (with_reducible assumption)); (case hB => omega)) | (with_reducible apply below_on; (with_reducible assumption)) | (go_size; done) | (with_reducible apply size_of)))⟩)
set_option maxHeartbeats 4000000 in
theorem Number_w (x l : Int) (w : World) (h : wdB l = false) :
    Calls Tryd.prog 36 #[.int .u64 x, .int .i64 l] w fun e w' => e = .returned (.tuple #[.slice none 0 0, .int .i64 2]) ∧ Below w.heap.size w w' := by
  have HW := Lib.hid h
  clear h
  go_enter Tryd.func36, Tryd.ntmps36
  go_wp2_with (first | (go_at_call 43; refine (isWidth_any _ _).mono ?_; rintro e w1 ⟨rfl, rfl⟩; rw [HW.out]))
  refine bodyPost_ret (by simp [results, Tryd.results36, go_sem, ]; try rfl) rfl ?_
  exact ⟨rfl, by (repeat' (first | (with_reducible exact Below.refl _ _) | (with_reducible assumption) | (with_reducible refine below_drewN ?_ _) | (with_reducible refine below_new ?_ _) | (with_reducible refine Below.alloc ?_ ?_ _) | (with_reducible refine Below.drew ?_) | (with_reducible refine Below.setCell ?_ ?_ _) | (with_reducible apply below_at; (case k => (with_reducible assumption)); (case hB => omega)) | (with_reducible apply below_on; (with_reducible assumption)) | (go_size; done) | (with_reducible apply size_of)))⟩
set_option maxHeartbeats 4000000 in
theorem Number_r (x l : Int) (m : Nat) (w : World) (hl : l = 1 ∧ m = 1 ∨ l = 2 ∧ m = 2 ∨ l = 3 ∧ m = 3 ∨ l = 4 ∧ m = 4 ∨ l = 5 ∧ m = 5 ∨ l = 6 ∧ m = 6 ∨ l = 7 ∧ m = 7 ∨ l = 8 ∧ m = 8) (h1 : 0 ≤ x) (h2 : x ≤ 18446744073709551615) (hf : ¬ x < 256 ^ m) :
    Calls Tryd.prog 36 #[.int .u64 x, .int .i64 l] w fun e w' => e = .returned (.tuple #[.slice none 0 0, .int .i64 16]) ∧ Below w.heap.size w w' := by
  rcases hl with ⟨rfl, rfl⟩ | ⟨rfl, rfl⟩ | ⟨rfl, rfl⟩ | ⟨rfl, rfl⟩ | ⟨rfl, rfl⟩ | ⟨rfl, rfl⟩ | ⟨rfl, rfl⟩ | ⟨rfl, rfl⟩
  all_goals
    (first | (exfalso; omega) | skip)
  all_goals
    go_enter Tryd.func36, Tryd.ntmps36
    go_wp2_with (first | (go_at_call 43; refine (isWidth_any _ _).mono ?_; rintro e w1 ⟨rfl, rfl⟩; rw [show wdB _ = true from rfl]))
    refine bodyPost_ret (by simp [results, Tryd.results36, go_sem, ]; try rfl) rfl ?_
    exact ⟨rfl, by (repeat' (first | (with_reducible exact Below.refl _ _) | (with_reducible assumption) | (with_reducible refine below_drewN ?_ _) | (with_reducible refine below_new ?_ _) | (with_reducible refine Below.alloc ?_ ?_ _) | (with_reducible refine Below.drew ?_) | (with_reducible refine Below.setCell ?_ ?_ _) | (with_reducible apply below_at; (case k => (with_reducible assumption)); (case hB => omega)) | (with_reducible apply below_on; (with_reducible assumption)) | (go_size; done) | (with_reducible apply size_of)))⟩
theorem Number_any (x l : Int) (w : World) (h1 : 0 ≤ x) (h2 : x ≤ 18446744073709551615) :
    Calls Tryd.prog 36 #[.int .u64 x, .int .i64 l] w fun e w' => ∃ A' n' c', e = .returned (.tuple #[.slice A' n' c', .int .i64 (numE x l)]) ∧ n' = (numV x l).length ∧ OwnZ w' w.heap.size (.slice A' n' c') (numV x l) ∧ Below w.heap.size w w' := by
  cases hw : wdB l
  · refine (Number_w x l w hw).mono ?_
    rintro e w' ⟨rfl, hb⟩
    have e2 : numE x l = 2 := by simp [numE, hw]
    have e3 : numV x l = [] := by simp [numV, e2]
    exact ⟨none, 0, 0, by rw [e2], by rw [e3]; rfl, by rw [e3]; exact .inr ⟨rfl, _, rfl⟩, hb⟩
  · by_cases hf : x < 256 ^ l.toNat
    · refine (Number_ok x l l.toNat w (wd8 hw) h1 h2 hf).mono ?_
      rintro e w' ⟨A', c', rfl, ho, hb⟩
      have e2 : numE x l = 0 := by simp [numE, hw, hf]
      have e3 : numV x l = digs x l.toNat := by simp [numV, e2]
      exact ⟨A', l.toNat, c', by rw [e2], by rw [e3, digs_len], by rw [e3]; exact ho, hb⟩
    · refine (Number_r x l l.toNat w (wd8 hw) h1 h2 hf).mono ?_
      rintro e w' ⟨rfl, hb⟩
      have e2 : numE x l = 16 := by simp [numE, hw, hf]
      have e3 : numV x l = [] := by simp [numV, e2]
      exact ⟨none, 0, 0, by rw [e2], by rw [e3]; rfl, by rw [e3]; exact .inr ⟨rfl, _, rfl⟩, hb⟩
end Go.Proofs.YtphakelncjogpaaDoor.ocW
