/- Sizes: the program's and the reference's. -/
import Derived.Test.YthckpenindchlaaSpPlain
namespace Go.Proofs.Ythckpenindchlaa.spW
set_option maxRecDepth 100000
open Go.RowKit Go.Proofs.Ythckpenindchlaa.base Go.Proofs.Ythckpenindchlaa.mbW
set_option linter.unusedVariables false
set_option linter.unusedSimpArgs false
set_option maxRecDepth 100000
structure ZsB (w : World) (P : Option Addr) (m d : Nat) (zs : List Int) : Prop where
  h : Has .i64 w P zs
  l : zs.length = m
  c1 : m ≤ d
  c2 : d ≤ 9223372036854775807
  z : ∀ x ∈ zs, -9223372036854775808 ≤ x ∧ x ≤ 9223372036854775807
theorem ZsB.past {w w' : World} {P : Option Addr} {m d : Nat} {zs : List Int} (h : ZsB w P m d zs) (hb : Below w.heap.size w w') : ZsB w' P m d zs := ⟨h.h.below hb (Nat.le_refl _), h.l, h.c1, h.c2, h.z⟩
/-- One of the numbers, in a later world. -/
theorem zsAt {w : World} {P : Option Addr} {m d : Nat} {zs : List Int} (h : ZsB w P m d zs) {k : Nat} (hk : k < m) : ∃ b off, P = some ⟨b, off, none⟩ ∧ b < w.heap.size ∧ (∀ j, j < m → ∀ w', Below w.heap.size w w' → w'.cell? ⟨b, off + j, none⟩ = some (.int .i64 (zs.getD j 0))) := by
  have hl := h.l
  rcases h.h with e | ⟨b, off, e, hb, hc⟩
  · rw [e] at hl; simp at hl; omega
  · exact ⟨b, off, e, hb, fun j hj w' hw => by rw [hw.cell (p := ⟨b, off + j, none⟩) hb]; exact hc j (by omega)⟩
theorem zsZ {w : World} {P : Option Addr} {m d : Nat} {zs : List Int} (h : ZsB w P m d zs) {k : Nat} (hk : k < m) : -9223372036854775808 ≤ zs.getD k 0 ∧ zs.getD k 0 ≤ 9223372036854775807 := by
  have hl := h.l
  rw [List.getD_eq_getElem?_getD, List.getElem?_eq_getElem (by omega)]
  exact h.z _ (List.getElem_mem _)
theorem snocN {zs : List Int} {k : Nat} (h : ∀ j, j < k → 0 ≤ zs.getD j 0) (hk : 0 ≤ zs.getD k 0) : ∀ j, j < k + 1 → 0 ≤ zs.getD j 0 := by
  intro j hj
  rcases Nat.lt_or_ge j k with h' | h'
  · exact h j h'
  · obtain rfl : j = k := by omega
    exact hk
set_option maxHeartbeats 3200000 in
theorem checkSizes_any (zs : List Int) (P : Option Addr) (m d : Nat) (w : World) (hR : ZsB w P m d zs) :
    Calls Try.prog 21 #[.slice P m d] w fun e w' => e = .returned (.int .i64 (szE zs)) ∧ w' = w := by
  have HR := Lib.hid hR
  have HL := Lib.hid hR.l
  have m9 : (m : Int) ≤ 9223372036854775807 := by have := hR.c1; have := hR.c2; omega
  clear hR
  go_enter Try.func21, Try.ntmps21
  go_wp2_with fail
  go_loopw [10] (fun iv wr => ∃ k : Nat, k ≤ m ∧ iv = .int .i64 (k : Int) ∧ (∀ j, j < k → 0 ≤ zs.getD j 0) ∧ wr = w) (fun iv _ => m - (intOf iv).toNat)
  case atStart => exact ⟨0, Nat.zero_le _, rfl, by intro j hj; omega, rfl⟩
  case round =>
    obtain ⟨k, hk, rfl, hs, rfl⟩ := hrel
    rename World => w
    have HS := Lib.hid hs
    by_cases hlt : k < m
    · obtain ⟨b, off, rfl, hb, hc⟩ := zsAt HR.out hlt
      have x0 := hc k hlt w (Below.refl _ _)
      have HK := Lib.hid hlt
      have k1 : (k : Int) < m := by omega
      have k0 : 0 ≤ (k : Int) := by omega
      by_cases c0 : zs.getD k 0 < 0
      · have HE := Lib.hid (sz_neg (zs := zs) (by rw [HL.out]; exact hlt) c0)
        generalize zs.getD k 0 = x at *
        clear hk hlt hs hc
        go_wp2_with fail
        go_ret
        exact ⟨by rw [HE.out]; rfl, rfl⟩
      · have HN := Lib.hid (snocN hs (by omega))
        generalize zs.getD k 0 = x at *
        clear hk hlt hs hc
        go_wp2_with fail
        go_roundw
        case rel => exact ⟨k + 1, HK.out, by go_num, HN.out, by trivial⟩
        case measure => simp [intOf]; have := HK.out; omega
    · have k1 : ¬ (k : Int) < m := by omega
      obtain rfl : k = m := by omega
      clear hk hlt hs
      have HA : Hid (∀ j, j < zs.length → 0 ≤ zs.getD j 0) := Lib.hid (by rw [HL.out]; exact HS.out)
      by_cases c1 : (16 : Int) < k
      · have HE := Lib.hid (sz_many HA.out (by rw [HL.out]; omega))
        go_wp2_with fail
        go_ret
        exact ⟨by rw [HE.out]; rfl, rfl⟩
      · have HC := Lib.hid c1
        go_wp2_with fail
        go_loopw [5, 22] (fun lv iv wr => ∃ j : Nat, j ≤ k ∧ iv = .int .i64 (j : Int) ∧ lv = .int .i64 (8192 - (zs.take j).sum) ∧ (zs.take j).sum ≤ 8192 ∧ wr = w) (fun _ iv _ => k - (intOf iv).toNat)
        case atStart => exact ⟨0, Nat.zero_le _, rfl, by simp, by simp, by trivial⟩
        case round =>
          obtain ⟨j, hj, rfl, rfl, hsum, rfl⟩ := hrel
          rename World => w
          have HSUM := Lib.hid hsum
          have HST := Lib.hid (sum_take HA.out j)
          by_cases hlt : j < k
          · obtain ⟨b, off, rfl, hb, hc⟩ := zsAt HR.out hlt
            have x0 := hc j hlt w (Below.refl _ _)
            have HK := Lib.hid hlt
            have j1 : (j : Int) < k := by omega
            have j0 : 0 ≤ (j : Int) := by omega
            have HSN := Lib.hid (sum_snoc zs (k := j) (by rw [HL.out]; exact hlt))
            have HX := Lib.hid (HA.out j (by rw [HL.out]; exact hlt))
            by_cases c2 : 8192 - (zs.take j).sum < zs.getD j 0
            · have HE := Lib.hid (sz_sum HA.out (by have h1 := (sum_take HA.out (j + 1)).2; have h2 := HSN.out; omega))
              generalize zs.getD j 0 = x at *
              generalize (zs.take j).sum = s at *
              clear hj hlt hsum hc
              go_wp2_with fail
              go_ret
              exact ⟨by rw [HE.out]; rfl, rfl⟩
            · have x1 : 0 ≤ zs.getD j 0 := HX.out
              have hw : IntKind.i64.wrap (8192 - (zs.take j).sum - zs.getD j 0) = 8192 - (zs.take (j + 1)).sum := by
                have h1 := HST.out; have h2 := HSN.out
                rw [IntKind.wrap_i64]; omega
              have HS2 : Hid ((zs.take (j + 1)).sum ≤ 8192) := Lib.hid (by have h2 := HSN.out; omega)
              have hs1 : 0 ≤ (zs.take j).sum := HST.out.1
              generalize hx : zs.getD j 0 = x at *
              generalize hs : (zs.take j).sum = s at *
              generalize hs2 : (zs.take (j + 1)).sum = s2 at *
              clear hj hlt hc HST HSN hx hs
              go_wp2_with fail
              go_roundw
              case rel => exact ⟨j + 1, HK.out, by go_num, by rw [hs2], by rw [hs2]; exact HS2.out, by trivial⟩
              case measure => simp [intOf]; have := HK.out; omega
          · have j1 : ¬ (j : Int) < k := by omega
            have HE : Hid (szE zs = 0) := Lib.hid (sz_ok HA.out (by rw [HL.out]; omega) (by
              have : zs.take j = zs := List.take_of_length_le (by rw [HL.out]; omega)
              rw [this] at hsum; omega))
            clear hj hlt hsum
            go_wp2_with fail
            go_ret
            exact ⟨by rw [HE.out]; rfl, rfl⟩
set_option maxHeartbeats 3200000 in
theorem rSizes_any (zs : List Int) (P : Option Addr) (m d : Nat) (w : World) (hR : ZsB w P m d zs) :
    Calls Try.prog 17 #[.slice P m d] w fun e w' => e = .returned (.int .i64 (szE zs)) ∧ w' = w := by
  have HR := Lib.hid hR
  have HL := Lib.hid hR.l
  have m9 : (m : Int) ≤ 9223372036854775807 := by have := hR.c1; have := hR.c2; omega
  clear hR
  go_enter Try.func17, Try.ntmps17
  go_wp2_with fail
  go_loopw [3] (fun iv wr => ∃ k : Nat, k ≤ m ∧ iv = .int .i64 (k : Int) ∧ (∀ j, j < k → 0 ≤ zs.getD j 0) ∧ wr = w) (fun iv _ => m - (intOf iv).toNat)
  case atStart => exact ⟨0, Nat.zero_le _, rfl, by intro j hj; omega, rfl⟩
  case round =>
    obtain ⟨k, hk, rfl, hs, rfl⟩ := hrel
    rename World => w
    have HS := Lib.hid hs
    by_cases hlt : k < m
    · obtain ⟨b, off, rfl, hb, hc⟩ := zsAt HR.out hlt
      have x0 := hc k hlt w (Below.refl _ _)
      have HK := Lib.hid hlt
      have k1 : (k : Int) < m := by omega
      have k0 : 0 ≤ (k : Int) := by omega
      by_cases c0 : zs.getD k 0 < 0
      · have HE := Lib.hid (sz_neg (zs := zs) (by rw [HL.out]; exact hlt) c0)
        generalize zs.getD k 0 = x at *
        clear hk hlt hs hc
        go_wp2_with fail
        go_ret
        exact ⟨by rw [HE.out]; rfl, rfl⟩
      · have HN := Lib.hid (snocN hs (by omega))
        generalize zs.getD k 0 = x at *
        clear hk hlt hs hc
        go_wp2_with fail
        go_roundw
        case rel => exact ⟨k + 1, HK.out, by go_num, HN.out, by trivial⟩
        case measure => simp [intOf]; have := HK.out; omega
    · have k1 : ¬ (k : Int) < m := by omega
      obtain rfl : k = m := by omega
      clear hk hlt hs
      have HA : Hid (∀ j, j < zs.length → 0 ≤ zs.getD j 0) := Lib.hid (by rw [HL.out]; exact HS.out)
      by_cases c1 : (16 : Int) < k
      · have HE := Lib.hid (sz_many HA.out (by rw [HL.out]; omega))
        go_wp2_with fail
        go_ret
        exact ⟨by rw [HE.out]; rfl, rfl⟩
      · have HC := Lib.hid c1
        go_wp2_with fail
        go_loopw [4, 5] (fun lv iv wr => ∃ j : Nat, j ≤ k ∧ iv = .int .i64 (j : Int) ∧ lv = .int .i64 (8192 - (zs.take j).sum) ∧ (zs.take j).sum ≤ 8192 ∧ wr = w) (fun _ iv _ => k - (intOf iv).toNat)
        case atStart => exact ⟨0, Nat.zero_le _, rfl, by simp, by simp, by trivial⟩
        case round =>
          obtain ⟨j, hj, rfl, rfl, hsum, rfl⟩ := hrel
          rename World => w
          have HSUM := Lib.hid hsum
          have HST := Lib.hid (sum_take HA.out j)
          by_cases hlt : j < k
          · obtain ⟨b, off, rfl, hb, hc⟩ := zsAt HR.out hlt
            have x0 := hc j hlt w (Below.refl _ _)
            have HK := Lib.hid hlt
            have j1 : (j : Int) < k := by omega
            have j0 : 0 ≤ (j : Int) := by omega
            have HSN := Lib.hid (sum_snoc zs (k := j) (by rw [HL.out]; exact hlt))
            have HX := Lib.hid (HA.out j (by rw [HL.out]; exact hlt))
            by_cases c2 : 8192 - (zs.take j).sum < zs.getD j 0
            · have HE := Lib.hid (sz_sum HA.out (by have h1 := (sum_take HA.out (j + 1)).2; have h2 := HSN.out; omega))
              generalize zs.getD j 0 = x at *
              generalize (zs.take j).sum = s at *
              clear hj hlt hsum hc
              go_wp2_with fail
              go_ret
              exact ⟨by rw [HE.out]; rfl, rfl⟩
            · have x1 : 0 ≤ zs.getD j 0 := HX.out
              have hw : IntKind.i64.wrap (8192 - (zs.take j).sum - zs.getD j 0) = 8192 - (zs.take (j + 1)).sum := by
                have h1 := HST.out; have h2 := HSN.out
                rw [IntKind.wrap_i64]; omega
              have HS2 : Hid ((zs.take (j + 1)).sum ≤ 8192) := Lib.hid (by have h2 := HSN.out; omega)
              have hs1 : 0 ≤ (zs.take j).sum := HST.out.1
              generalize hx : zs.getD j 0 = x at *
              generalize hs : (zs.take j).sum = s at *
              generalize hs2 : (zs.take (j + 1)).sum = s2 at *
              clear hj hlt hc HST HSN hx hs
              go_wp2_with fail
              go_roundw
              case rel => exact ⟨j + 1, HK.out, by go_num, by rw [hs2], by rw [hs2]; exact HS2.out, by trivial⟩
              case measure => simp [intOf]; have := HK.out; omega
          · have j1 : ¬ (j : Int) < k := by omega
            have HE : Hid (szE zs = 0) := Lib.hid (sz_ok HA.out (by rw [HL.out]; omega) (by
              have : zs.take j = zs := List.take_of_length_le (by rw [HL.out]; omega)
              rw [this] at hsum; omega))
            clear hj hlt hsum
            go_wp2_with fail
            go_ret
            exact ⟨by rw [HE.out]; rfl, rfl⟩
theorem rBlock_any (b : Int) (w : World) : Calls Try.prog 18 #[.int .i64 b] w fun e w' => e = .returned (.bool (blB b)) ∧ w' = w := by
  by_cases h1 : 16 ≤ b
  · go_enter Try.func18, Try.ntmps18
    go_wp2_with fail
    go_ret
    exact ⟨by simp [blB, h1], rfl⟩
  · go_enter Try.func18, Try.ntmps18
    go_wp2_with fail
    go_ret
    exact ⟨by unfold blB; rw [show decide (16 ≤ b) = false from decide_eq_false (by omega)]; rfl, rfl⟩
end Go.Proofs.Ythckpenindchlaa.spW
