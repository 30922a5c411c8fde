/- What nextByte, Check, Over and the reference's Byte, Check, Over return, by walks. -/
import Derived.Test.YtckbiielahgliaaEncW3
import Derived.Test.YtckbiielahgliaaDecPlain
namespace Go.Proofs.Ytckbiielahgliaa.decW
open Go.RowKit Go.Proofs.Ytckbiielahgliaa.base Go.Proofs.Ytckbiielahgliaa.encP Go.Proofs.Ytckbiielahgliaa.encW Go.Proofs.Ytckbiielahgliaa.decP
set_option linter.unusedVariables false
set_option linter.unusedSimpArgs false

theorem five {w : World} {g : Nat} {t : TypeId} {a b c d e : Value} (h : Lies w g t [a, b, c, d, e]) : (w.cell? ⟨g, 0, none⟩ = some a ∧ w.cell? ⟨g, 1, none⟩ = some b ∧ w.cell? ⟨g, 2, none⟩ = some c ∧ w.cell? ⟨g, 3, none⟩ = some d ∧ w.cell? ⟨g, 4, none⟩ = some e) ∧ (w.frozen? ⟨g, 0, none⟩ = false ∧ w.frozen? ⟨g, 1, none⟩ = false ∧ w.frozen? ⟨g, 2, none⟩ = false ∧ w.frozen? ⟨g, 3, none⟩ = false ∧ w.frozen? ⟨g, 4, none⟩ = false) :=
  ⟨⟨h.cell 0, h.cell 1, h.cell 2, h.cell 3, h.cell 4⟩, h.free 0, h.free 1, h.free 2, h.free 3, h.free 4⟩
theorem store5 {w : World} {g : Nat} {t : TypeId} {a b c d e a' b' c' d' e' : Value} (h : Lies w g t [a, b, c, d, e]) :
    Lies (((((w.setCell ⟨g, 0, none⟩ a').setCell ⟨g, 1, none⟩ b').setCell ⟨g, 2, none⟩ c').setCell ⟨g, 3, none⟩ d').setCell ⟨g, 4, none⟩ e') g t [a', b', c', d', e'] := ((((h.set 0 a').set 1 b').set 2 c').set 3 d').set 4 e'
set_option maxHeartbeats 1000000 in
theorem nextByte_any (x1 x2 x : Int) (A : Option Addr) (n c t : Nat) (zs : List Int) (w : World) (hA : Has .u8 w A zs) (hn : zs.length = n) (hc : n ≤ c) (hm : c ≤ 9223372036854775807) (ht : t ≤ 9223372036854775807) (hb : InB zs) :
    Calls Try.prog 28 #[.agg #[.int .u32 (x1), .int .u32 (x2), .int .u32 (x), .slice (A) (n) (c), .int .i64 (t)]] w fun e w' => e = .returned (.int .u32 (byt zs t)) ∧ Below w.heap.size w w' := by
  obtain ⟨u1, u2⟩ := byt_bd hb t
  subst hn
  by_cases h : t < zs.length
  · obtain ⟨b, off, rfl, hbl, hcl⟩ := has_some hA (by omega)
    have hcell : (w.alloc (.cells #[.int .u32 x1, .int .u32 x2, .int .u32 x, .slice (some ⟨b, off, none⟩) zs.length c, .int .i64 t] 25)).cell? ⟨b, off + t, none⟩ = some (.int .u8 (byt zs t)) := by
      rw [((Below.refl w.heap.size w).alloc (Nat.le_refl _) _).cell (p := ⟨b, off + t, none⟩) hbl]; exact hcl t h
    have i1 : (0 : Int) ≤ t := by omega
    have i2 : (t : Int) < zs.length := by omega
    clear hcl hA hb
    generalize byt zs t = v at *
    go_enter Try.func28, Try.ntmps28
    go_wp2
    go_ret
    exact ⟨rfl, by (repeat' (first | (with_reducible exact Below.refl _ _) | (with_reducible assumption) | (with_reducible refine below_drewN ?_ _) | (with_reducible refine below_new ?_ _) | (with_reducible refine Below.alloc ?_ ?_ _) | (with_reducible refine Below.drew ?_) | (with_reducible refine Below.setCell ?_ ?_ _) | (with_reducible apply below_at; (case k => (with_reducible assumption)); (case hB => omega)) | (with_reducible apply below_on; (with_reducible assumption)) | (go_size; done) | (with_reducible apply size_of)))⟩
  · have e0 : byt zs t = 0 := by unfold byt; rw [List.getD_eq_getElem?_getD, List.getElem?_eq_none (by omega)]; rfl
    rw [e0]
    clear hA hb e0 u1 u2
    go_enter Try.func28, Try.ntmps28
    go_wp2
    go_ret
    exact ⟨rfl, by (repeat' (first | (with_reducible exact Below.refl _ _) | (with_reducible assumption) | (with_reducible refine below_drewN ?_ _) | (with_reducible refine below_new ?_ _) | (with_reducible refine Below.alloc ?_ ?_ _) | (with_reducible refine Below.drew ?_) | (with_reducible refine Below.setCell ?_ ?_ _) | (with_reducible apply below_at; (case k => (with_reducible assumption)); (case hB => omega)) | (with_reducible apply below_on; (with_reducible assumption)) | (go_size; done) | (with_reducible apply size_of)))⟩
set_option maxHeartbeats 1000000 in
theorem rByte_any (A : Option Addr) (n c t : Nat) (zs : List Int) (w : World) (hA : Has .u8 w A zs) (hn : zs.length = n) (hm : n ≤ 9223372036854775807) (ht : t ≤ 9223372036854775807) :
    Calls Try.prog 26 #[.slice A n c, .int .i64 t] w fun e w' => e = .returned (.int .u8 (byt zs t)) ∧ w = w' := by
  subst hn
  by_cases h : t < zs.length
  · obtain ⟨b, off, rfl, hbl, hcl⟩ := has_some hA (by omega)
    have hcell : w.cell? ⟨b, off + t, none⟩ = some (.int .u8 (byt zs t)) := hcl t h
    have i1 : (0 : Int) ≤ t := by omega
    have i2 : (t : Int) < zs.length := by omega
    clear hcl hA
    generalize byt zs t = v at *
    go_enter Try.func26, Try.ntmps26
    go_wp2
    go_ret
    exact ⟨rfl, rfl⟩
  · have e0 : byt zs t = 0 := by unfold byt; rw [List.getD_eq_getElem?_getD, List.getElem?_eq_none (by omega)]; rfl
    rw [e0]
    clear hA e0
    go_enter Try.func26, Try.ntmps26
    go_wp2
    go_ret
    exact ⟨rfl, rfl⟩
set_option maxHeartbeats 4000000 in
theorem Check_any (x1 x2 x : Int) (A : Option Addr) (n c : Nat) (t : Int) (w : World) (a1 : 0 ≤ x1) (a2 : x1 ≤ 4294967295) (b1 : 0 ≤ x2) (b2 : x2 ≤ 4294967295) (c1 : 0 ≤ x) (c2 : x ≤ 4294967295) (m : n ≤ 9223372036854775807) :
    Calls Try.prog 16 #[.agg #[.int .u32 (x1), .int .u32 (x2), .int .u32 (x), .slice (A) (n) (c), .int .i64 (t)]] w fun e w' => e = .returned (.int .i64 (dcV x1 x2 x n t)) ∧ Below w.heap.size w w' := by
  by_cases h1 : x1 / 16777216 = x2 / 16777216
  · have HV : Hid (dcV x1 x2 x n t = 8) := Lib.hid (by simp [dcV, decOk, h1])
    have g1 : (x1 / 16777216 == x2 / 16777216) = true := by simpa using h1
    clear h1
    (go_enter Try.func16, Try.ntmps16; go_wp2; go_ret; exact ⟨ret1 (by rw [HV.out]), by (repeat' (first | (with_reducible exact Below.refl _ _) | (with_reducible assumption) | (with_reducible refine below_drewN ?_ _) | (with_reducible refine below_new ?_ _) | (with_reducible refine Below.alloc ?_ ?_ _) | (with_reducible refine Below.drew ?_) | (with_reducible refine Below.setCell ?_ ?_ _) | (with_reducible apply below_at; (case k => (with_reducible assumption)); (case hB => omega)) | (with_reducible apply below_on; (with_reducible assumption)) | (go_size; done) | (with_reducible apply size_of)))⟩)
  · have g1 : (x1 / 16777216 == x2 / 16777216) = false := by simpa using h1
    by_cases h2 : x1 < x2
    · by_cases h3 : x1 ≤ x
      · by_cases h4 : x ≤ x2
        · by_cases h5 : n ≤ 20000
          · by_cases h6 : 4 ≤ t
            · by_cases h7 : t ≤ 1000000
              · have HV : Hid (dcV x1 x2 x n t = 0) := Lib.hid (by simp [dcV, decOk, h1, h2, h3, h4, h5, h6, h7])
                clear h1
                (go_enter Try.func16, Try.ntmps16; go_wp2; go_ret; exact ⟨ret1 (by rw [HV.out]), by (repeat' (first | (with_reducible exact Below.refl _ _) | (with_reducible assumption) | (with_reducible refine below_drewN ?_ _) | (with_reducible refine below_new ?_ _) | (with_reducible refine Below.alloc ?_ ?_ _) | (with_reducible refine Below.drew ?_) | (with_reducible refine Below.setCell ?_ ?_ _) | (with_reducible apply below_at; (case k => (with_reducible assumption)); (case hB => omega)) | (with_reducible apply below_on; (with_reducible assumption)) | (go_size; done) | (with_reducible apply size_of)))⟩)
              · have HV : Hid (dcV x1 x2 x n t = 8) := Lib.hid (by simp [dcV, decOk, h7])
                clear h1
                (go_enter Try.func16, Try.ntmps16; go_wp2; go_ret; exact ⟨ret1 (by rw [HV.out]), by (repeat' (first | (with_reducible exact Below.refl _ _) | (with_reducible assumption) | (with_reducible refine below_drewN ?_ _) | (with_reducible refine below_new ?_ _) | (with_reducible refine Below.alloc ?_ ?_ _) | (with_reducible refine Below.drew ?_) | (with_reducible refine Below.setCell ?_ ?_ _) | (with_reducible apply below_at; (case k => (with_reducible assumption)); (case hB => omega)) | (with_reducible apply below_on; (with_reducible assumption)) | (go_size; done) | (with_reducible apply size_of)))⟩)
            · have HV : Hid (dcV x1 x2 x n t = 8) := Lib.hid (by simp [dcV, decOk, h6])
              clear h1
              (go_enter Try.func16, Try.ntmps16; go_wp2; go_ret; exact ⟨ret1 (by rw [HV.out]), by (repeat' (first | (with_reducible exact Below.refl _ _) | (with_reducible assumption) | (with_reducible refine below_drewN ?_ _) | (with_reducible refine below_new ?_ _) | (with_reducible refine Below.alloc ?_ ?_ _) | (with_reducible refine Below.drew ?_) | (with_reducible refine Below.setCell ?_ ?_ _) | (with_reducible apply below_at; (case k => (with_reducible assumption)); (case hB => omega)) | (with_reducible apply below_on; (with_reducible assumption)) | (go_size; done) | (with_reducible apply size_of)))⟩)
          · have HV : Hid (dcV x1 x2 x n t = 8) := Lib.hid (by simp [dcV, decOk, h5])
            clear h1
            (go_enter Try.func16, Try.ntmps16; go_wp2; go_ret; exact ⟨ret1 (by rw [HV.out]), by (repeat' (first | (with_reducible exact Below.refl _ _) | (with_reducible assumption) | (with_reducible refine below_drewN ?_ _) | (with_reducible refine below_new ?_ _) | (with_reducible refine Below.alloc ?_ ?_ _) | (with_reducible refine Below.drew ?_) | (with_reducible refine Below.setCell ?_ ?_ _) | (with_reducible apply below_at; (case k => (with_reducible assumption)); (case hB => omega)) | (with_reducible apply below_on; (with_reducible assumption)) | (go_size; done) | (with_reducible apply size_of)))⟩)
        · have HV : Hid (dcV x1 x2 x n t = 8) := Lib.hid (by simp [dcV, decOk, h4])
          clear h1
          (go_enter Try.func16, Try.ntmps16; go_wp2; go_ret; exact ⟨ret1 (by rw [HV.out]), by (repeat' (first | (with_reducible exact Below.refl _ _) | (with_reducible assumption) | (with_reducible refine below_drewN ?_ _) | (with_reducible refine below_new ?_ _) | (with_reducible refine Below.alloc ?_ ?_ _) | (with_reducible refine Below.drew ?_) | (with_reducible refine Below.setCell ?_ ?_ _) | (with_reducible apply below_at; (case k => (with_reducible assumption)); (case hB => omega)) | (with_reducible apply below_on; (with_reducible assumption)) | (go_size; done) | (with_reducible apply size_of)))⟩)
      · have HV : Hid (dcV x1 x2 x n t = 8) := Lib.hid (by simp [dcV, decOk, h3])
        clear h1
        (go_enter Try.func16, Try.ntmps16; go_wp2; go_ret; exact ⟨ret1 (by rw [HV.out]), by (repeat' (first | (with_reducible exact Below.refl _ _) | (with_reducible assumption) | (with_reducible refine below_drewN ?_ _) | (with_reducible refine below_new ?_ _) | (with_reducible refine Below.alloc ?_ ?_ _) | (with_reducible refine Below.drew ?_) | (with_reducible refine Below.setCell ?_ ?_ _) | (with_reducible apply below_at; (case k => (with_reducible assumption)); (case hB => omega)) | (with_reducible apply below_on; (with_reducible assumption)) | (go_size; done) | (with_reducible apply size_of)))⟩)
    · have HV : Hid (dcV x1 x2 x n t = 8) := Lib.hid (by simp [dcV, decOk, h2])
      clear h1
      (go_enter Try.func16, Try.ntmps16; go_wp2; go_ret; exact ⟨ret1 (by rw [HV.out]), by (repeat' (first | (with_reducible exact Below.refl _ _) | (with_reducible assumption) | (with_reducible refine below_drewN ?_ _) | (with_reducible refine below_new ?_ _) | (with_reducible refine Below.alloc ?_ ?_ _) | (with_reducible refine Below.drew ?_) | (with_reducible refine Below.setCell ?_ ?_ _) | (with_reducible apply below_at; (case k => (with_reducible assumption)); (case hB => omega)) | (with_reducible apply below_on; (with_reducible assumption)) | (go_size; done) | (with_reducible apply size_of)))⟩)
set_option maxHeartbeats 4000000 in
theorem rCheckD_any (x1 x2 x : Int) (A : Option Addr) (n c : Nat) (t : Int) (w : World) (a1 : 0 ≤ x1) (a2 : x1 ≤ 4294967295) (b1 : 0 ≤ x2) (b2 : x2 ≤ 4294967295) (c1 : 0 ≤ x) (c2 : x ≤ 4294967295) (m : n ≤ 9223372036854775807) :
    Calls Try.prog 17 #[.agg #[.int .u32 (x1), .int .u32 (x2), .int .u32 (x), .slice (A) (n) (c), .int .i64 (t)]] w fun e w' => e = .returned (.int .i64 (dcV x1 x2 x n t)) ∧ Below w.heap.size w w' := by
  by_cases h2 : x1 < x2
  · by_cases h1 : x1 / 16777216 = x2 / 16777216
    · have HV : Hid (dcV x1 x2 x n t = 8) := Lib.hid (by simp [dcV, decOk, h1])
      have g1 : (x1 / 16777216 == x2 / 16777216) = true := by simpa using h1
      clear h1
      (go_enter Try.func17, Try.ntmps17; go_wp2; go_ret; exact ⟨ret1 (by rw [HV.out]), by (repeat' (first | (with_reducible exact Below.refl _ _) | (with_reducible assumption) | (with_reducible refine below_drewN ?_ _) | (with_reducible refine below_new ?_ _) | (with_reducible refine Below.alloc ?_ ?_ _) | (with_reducible refine Below.drew ?_) | (with_reducible refine Below.setCell ?_ ?_ _) | (with_reducible apply below_at; (case k => (with_reducible assumption)); (case hB => omega)) | (with_reducible apply below_on; (with_reducible assumption)) | (go_size; done) | (with_reducible apply size_of)))⟩)
    · have g1 : (x1 / 16777216 == x2 / 16777216) = false := by simpa using h1
      by_cases h3 : x1 ≤ x
      · by_cases h4 : x ≤ x2
        · by_cases h5 : n ≤ 20000
          · by_cases h6 : 4 ≤ t
            · by_cases h7 : t ≤ 1000000
              · have HV : Hid (dcV x1 x2 x n t = 0) := Lib.hid (by simp [dcV, decOk, h1, h2, h3, h4, h5, h6, h7])
                clear h1
                (go_enter Try.func17, Try.ntmps17; go_wp2; go_ret; exact ⟨ret1 (by rw [HV.out]), by (repeat' (first | (with_reducible exact Below.refl _ _) | (with_reducible assumption) | (with_reducible refine below_drewN ?_ _) | (with_reducible refine below_new ?_ _) | (with_reducible refine Below.alloc ?_ ?_ _) | (with_reducible refine Below.drew ?_) | (with_reducible refine Below.setCell ?_ ?_ _) | (with_reducible apply below_at; (case k => (with_reducible assumption)); (case hB => omega)) | (with_reducible apply below_on; (with_reducible assumption)) | (go_size; done) | (with_reducible apply size_of)))⟩)
              · have HV : Hid (dcV x1 x2 x n t = 8) := Lib.hid (by simp [dcV, decOk, h7])
                clear h1
                (go_enter Try.func17, Try.ntmps17; go_wp2; go_ret; exact ⟨ret1 (by rw [HV.out]), by (repeat' (first | (with_reducible exact Below.refl _ _) | (with_reducible assumption) | (with_reducible refine below_drewN ?_ _) | (with_reducible refine below_new ?_ _) | (with_reducible refine Below.alloc ?_ ?_ _) | (with_reducible refine Below.drew ?_) | (with_reducible refine Below.setCell ?_ ?_ _) | (with_reducible apply below_at; (case k => (with_reducible assumption)); (case hB => omega)) | (with_reducible apply below_on; (with_reducible assumption)) | (go_size; done) | (with_reducible apply size_of)))⟩)
            · have HV : Hid (dcV x1 x2 x n t = 8) := Lib.hid (by simp [dcV, decOk, h6])
              clear h1
              (go_enter Try.func17, Try.ntmps17; go_wp2; go_ret; exact ⟨ret1 (by rw [HV.out]), by (repeat' (first | (with_reducible exact Below.refl _ _) | (with_reducible assumption) | (with_reducible refine below_drewN ?_ _) | (with_reducible refine below_new ?_ _) | (with_reducible refine Below.alloc ?_ ?_ _) | (with_reducible refine Below.drew ?_) | (with_reducible refine Below.setCell ?_ ?_ _) | (with_reducible apply below_at; (case k => (with_reducible assumption)); (case hB => omega)) | (with_reducible apply below_on; (with_reducible assumption)) | (go_size; done) | (with_reducible apply size_of)))⟩)
          · have HV : Hid (dcV x1 x2 x n t = 8) := Lib.hid (by simp [dcV, decOk, h5])
            clear h1
            (go_enter Try.func17, Try.ntmps17; go_wp2; go_ret; exact ⟨ret1 (by rw [HV.out]), by (repeat' (first | (with_reducible exact Below.refl _ _) | (with_reducible assumption) | (with_reducible refine below_drewN ?_ _) | (with_reducible refine below_new ?_ _) | (with_reducible refine Below.alloc ?_ ?_ _) | (with_reducible refine Below.drew ?_) | (with_reducible refine Below.setCell ?_ ?_ _) | (with_reducible apply below_at; (case k => (with_reducible assumption)); (case hB => omega)) | (with_reducible apply below_on; (with_reducible assumption)) | (go_size; done) | (with_reducible apply size_of)))⟩)
        · have HV : Hid (dcV x1 x2 x n t = 8) := Lib.hid (by simp [dcV, decOk, h4])
          clear h1
          (go_enter Try.func17, Try.ntmps17; go_wp2; go_ret; exact ⟨ret1 (by rw [HV.out]), by (repeat' (first | (with_reducible exact Below.refl _ _) | (with_reducible assumption) | (with_reducible refine below_drewN ?_ _) | (with_reducible refine below_new ?_ _) | (with_reducible refine Below.alloc ?_ ?_ _) | (with_reducible refine Below.drew ?_) | (with_reducible refine Below.setCell ?_ ?_ _) | (with_reducible apply below_at; (case k => (with_reducible assumption)); (case hB => omega)) | (with_reducible apply below_on; (with_reducible assumption)) | (go_size; done) | (with_reducible apply size_of)))⟩)
      · have HV : Hid (dcV x1 x2 x n t = 8) := Lib.hid (by simp [dcV, decOk, h3])
        clear h1
        (go_enter Try.func17, Try.ntmps17; go_wp2; go_ret; exact ⟨ret1 (by rw [HV.out]), by (repeat' (first | (with_reducible exact Below.refl _ _) | (with_reducible assumption) | (with_reducible refine below_drewN ?_ _) | (with_reducible refine below_new ?_ _) | (with_reducible refine Below.alloc ?_ ?_ _) | (with_reducible refine Below.drew ?_) | (with_reducible refine Below.setCell ?_ ?_ _) | (with_reducible apply below_at; (case k => (with_reducible assumption)); (case hB => omega)) | (with_reducible apply below_on; (with_reducible assumption)) | (go_size; done) | (with_reducible apply size_of)))⟩)
  · have HV : Hid (dcV x1 x2 x n t = 8) := Lib.hid (by simp [dcV, decOk, h2])
    (go_enter Try.func17, Try.ntmps17; go_wp2; go_ret; exact ⟨ret1 (by rw [HV.out]), by (repeat' (first | (with_reducible exact Below.refl _ _) | (with_reducible assumption) | (with_reducible refine below_drewN ?_ _) | (with_reducible refine below_new ?_ _) | (with_reducible refine Below.alloc ?_ ?_ _) | (with_reducible refine Below.drew ?_) | (with_reducible refine Below.setCell ?_ ?_ _) | (with_reducible apply below_at; (case k => (with_reducible assumption)); (case hB => omega)) | (with_reducible apply below_on; (with_reducible assumption)) | (go_size; done) | (with_reducible apply size_of)))⟩)
end Go.Proofs.Ytckbiielahgliaa.decW
