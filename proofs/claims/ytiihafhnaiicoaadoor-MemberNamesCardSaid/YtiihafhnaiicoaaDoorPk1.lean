/- Several texts as one: ShW, ShW2, ShW3, ShW4, ShW5, ShW6, ShW7, ShW9, ShWA, ShWB, ShW8, ShWC, ShWG. -/
import Derived.Test.YtiihafhnaiicoaaDoorShPlain
import Derived.Test.YtiihafhnaiicoaaDoorBits
import Derived.Test.YtiihafhnaiicoaaDoorMem8
import Derived.Test.YtiihafhnaiicoaaDoorReg
import Derived.Test.YtiihafhnaiicoaaDoorBlock
import Derived.Test.YtiihafhnaiicoaaDoorStep
import Derived.Test.YtiihafhnaiicoaaDoorOwnZ
import Derived.Test.YtiihafhnaiicoaaDoorArr
import Derived.Lib.Hide
import Derived.BigQuiet
import Derived.BigRegion
import Derived.StillTailTactics
import Derived.Deep.RegionHeld3
import Derived.Deep.RegionLaw
import Derived.Deep.DeepCutAuto
import Derived.WalkMore
import Derived.IntWalk
import Derived.Test.YtiihafhnaiicoaaDoorShPlain2
import Derived.Test.YtiihafhnaiicoaaDoorShPlain3
import Derived.OwnWalk
import Derived.Test.YtiihafhnaiicoaaDoorMemU
import Derived.Test.YtiihafhnaiicoaaDoorOrd
namespace Go.Proofs.YtiihafhnaiicoaaDoor.shW
set_option maxRecDepth 100000
open Go.RowKit Go.Proofs.YtiihafhnaiicoaaDoor.base Go.Proofs.YtiihafhnaiicoaaDoor.shP
set_option linter.unusedVariables false
set_option linter.unusedSimpArgs false

theorem ror (a b c d : Int) (h : a = c) (h' : b = d) : bits .or .u32 a b = bits .or .u32 c d := by rw [h, h']
def kk (k : Nat) : Prop := k = 1 ∨ k = 5 ∨ k = 30
set_option maxHeartbeats 400000 in
theorem rotate (x : Int) (k : Nat) (w : World) (hk : kk k) (h1 : 0 ≤ x) (h2 : x ≤ 4294967295) : Calls Tryd.prog 71 #[.int .u32 x, .int .i64 k] w fun e w' => e = .returned (.int .u32 (rot x k)) ∧ w = w' := by
  rcases hk with rfl | rfl | rfl
  · have b5 : bits .and .u64 1 31 = 1 := by decide
    go_enter Tryd.func71, Tryd.ntmps71
    go_wp2
    go_ret
    exact ⟨rfl, rfl⟩
  · have b5 : bits .and .u64 5 31 = 5 := by decide
    go_enter Tryd.func71, Tryd.ntmps71
    go_wp2
    go_ret
    exact ⟨rfl, rfl⟩
  · have b5 : bits .and .u64 30 31 = 30 := by decide
    go_enter Tryd.func71, Tryd.ntmps71
    go_wp2
    go_ret
    exact ⟨rfl, rfl⟩
theorem rotate1 (x : Int) (w : World) (h1 : 0 ≤ x) (h2 : x ≤ 4294967295) : Calls Tryd.prog 71 #[.int .u32 x, .int .i64 1] w fun e w' => e = .returned (.int .u32 (rot x 1)) ∧ w = w' := rotate x 1 w (.inl rfl) h1 h2
theorem rotate5 (x : Int) (w : World) (h1 : 0 ≤ x) (h2 : x ≤ 4294967295) : Calls Tryd.prog 71 #[.int .u32 x, .int .i64 5] w fun e w' => e = .returned (.int .u32 (rot x 5)) ∧ w = w' := rotate x 5 w (.inr (.inl rfl)) h1 h2
theorem rotate30 (x : Int) (w : World) (h1 : 0 ≤ x) (h2 : x ≤ 4294967295) : Calls Tryd.prog 71 #[.int .u32 x, .int .i64 30] w fun e w' => e = .returned (.int .u32 (rot x 30)) ∧ w = w' := rotate x 30 w (.inr (.inr rfl)) h1 h2
set_option maxHeartbeats 400000 in
theorem turn (x : Int) (k : Nat) (w : World) (hk : kk k) (h1 : 0 ≤ x) (h2 : x ≤ 4294967295) : Calls Tryd.prog 56 #[.int .u32 x, .int .i64 k] w fun e w' => e = .returned (.int .u32 (rot x k)) ∧ ∃ n, w' = w.drewN n := by
  rcases hk with rfl | rfl | rfl
  all_goals
    go_enter Tryd.func56, Tryd.ntmps56
    go_wp2
    go_quiet (fail)
    go_wp2
    go_ret
    exact ⟨rfl, _, rfl⟩
theorem turn1 (x : Int) (w : World) (h1 : 0 ≤ x) (h2 : x ≤ 4294967295) : Calls Tryd.prog 56 #[.int .u32 x, .int .i64 1] w fun e w' => e = .returned (.int .u32 (rot x 1)) ∧ ∃ n, w' = w.drewN n := turn x 1 w (.inl rfl) h1 h2
theorem turn5 (x : Int) (w : World) (h1 : 0 ≤ x) (h2 : x ≤ 4294967295) : Calls Tryd.prog 56 #[.int .u32 x, .int .i64 5] w fun e w' => e = .returned (.int .u32 (rot x 5)) ∧ ∃ n, w' = w.drewN n := turn x 5 w (.inr (.inl rfl)) h1 h2
theorem turn30 (x : Int) (w : World) (h1 : 0 ≤ x) (h2 : x ≤ 4294967295) : Calls Tryd.prog 56 #[.int .u32 x, .int .i64 30] w fun e w' => e = .returned (.int .u32 (rot x 30)) ∧ ∃ n, w' = w.drewN n := turn x 30 w (.inr (.inr rfl)) h1 h2
set_option maxHeartbeats 1000000 in
theorem mixed (t : Nat) (b c d : Int) (w : World) (ht : t < 80) : Calls Tryd.prog 70 #[.int .i64 t, .int .u32 b, .int .u32 c, .int .u32 d] w fun e w' => e = .returned (.tuple #[.int .u32 (fR t b c d), .int .u32 (kR t)]) ∧ w = w' := by
  have hs : IntKind.u32.signed = false := rfl
  have hmx : IntKind.u32.max = 4294967295 := rfl
  by_cases h1 : (t : Int) < 20
  · have HF : Hid (fR t b c d = bits .or .u32 (bits .and .u32 b c) (bits .and .u32 (bits .xor .u32 4294967295 b) d) ∧ kR t = 1518500249) := Lib.hid ⟨by rw [fR, if_pos (by omega)], by rw [kR, if_pos (by omega)]⟩
    clear ht
    go_enter Tryd.func70, Tryd.ntmps70
    go_wp2
    go_ret2
    exact ⟨ret2 HF.out.1.symm HF.out.2.symm, rfl⟩
  · by_cases h2 : (t : Int) < 40
    · have HF : Hid (fR t b c d = bits .xor .u32 (bits .xor .u32 b c) d ∧ kR t = 1859775393) := Lib.hid ⟨by rw [fR, if_neg (by omega), if_pos (by omega)], by rw [kR, if_neg (by omega), if_pos (by omega)]⟩
      clear ht
      go_enter Tryd.func70, Tryd.ntmps70
      go_wp2
      go_ret2
      exact ⟨ret2 HF.out.1.symm HF.out.2.symm, rfl⟩
    · by_cases h3 : (t : Int) < 60
      · have HF : Hid (fR t b c d = bits .or .u32 (bits .or .u32 (bits .and .u32 b c) (bits .and .u32 b d)) (bits .and .u32 c d) ∧ kR t = 2400959708) := Lib.hid ⟨by rw [fR, if_neg (by omega), if_neg (by omega), if_pos (by omega)], by rw [kR, if_neg (by omega), if_neg (by omega), if_pos (by omega)]⟩
        clear ht
        go_enter Tryd.func70, Tryd.ntmps70
        go_wp2
        go_ret2
        exact ⟨ret2 HF.out.1.symm HF.out.2.symm, rfl⟩
      · have HF : Hid (fR t b c d = bits .xor .u32 (bits .xor .u32 b c) d ∧ kR t = 3395469782) := Lib.hid ⟨by rw [fR, if_neg (by omega), if_neg (by omega), if_neg (by omega)], by rw [kR, if_neg (by omega), if_neg (by omega), if_neg (by omega)]⟩
        clear ht
        go_enter Tryd.func70, Tryd.ntmps70
        go_wp2
        go_ret2
        exact ⟨ret2 HF.out.1.symm HF.out.2.symm, rfl⟩
set_option maxHeartbeats 1000000 in
theorem part (t : Nat) (b c d : Int) (w : World) (ht : t < 80) : Calls Tryd.prog 57 #[.int .i64 t, .int .u32 b, .int .u32 c, .int .u32 d] w fun e w' => e = .returned (.tuple #[.int .u32 (fR t b c d), .int .u32 (kR t)]) ∧ w = w' := by
  have hs : IntKind.u32.signed = false := rfl
  have hmx : IntKind.u32.max = 4294967295 := rfl
  by_cases h1 : (t : Int) < 20
  · have HF : Hid (fR t b c d = bits .or .u32 (bits .and .u32 b c) (bits .and .u32 (bits .xor .u32 4294967295 b) d) ∧ kR t = 1518500249) := Lib.hid ⟨by rw [fR, if_pos (by omega)], by rw [kR, if_pos (by omega)]⟩
    clear ht
    go_enter Tryd.func57, Tryd.ntmps57
    go_wp2
    go_ret2
    exact ⟨ret2 HF.out.1.symm HF.out.2.symm, rfl⟩
  · by_cases h2 : (t : Int) < 40
    · have HF : Hid (fR t b c d = bits .xor .u32 (bits .xor .u32 b c) d ∧ kR t = 1859775393) := Lib.hid ⟨by rw [fR, if_neg (by omega), if_pos (by omega)], by rw [kR, if_neg (by omega), if_pos (by omega)]⟩
      clear ht
      go_enter Tryd.func57, Tryd.ntmps57
      go_wp2
      go_ret2
      exact ⟨ret2 HF.out.1.symm HF.out.2.symm, rfl⟩
    · by_cases h3 : (t : Int) < 60
      · have HF : Hid (fR t b c d = bits .or .u32 (bits .or .u32 (bits .and .u32 b c) (bits .and .u32 b d)) (bits .and .u32 c d) ∧ kR t = 2400959708) := Lib.hid ⟨by rw [fR, if_neg (by omega), if_neg (by omega), if_pos (by omega)], by rw [kR, if_neg (by omega), if_neg (by omega), if_pos (by omega)]⟩
        clear ht
        go_enter Tryd.func57, Tryd.ntmps57
        go_wp2
        go_ret2
        exact ⟨ret2 HF.out.1.symm HF.out.2.symm, rfl⟩
      · have HF : Hid (fR t b c d = bits .xor .u32 (bits .xor .u32 b c) d ∧ kR t = 3395469782) := Lib.hid ⟨by rw [fR, if_neg (by omega), if_neg (by omega), if_neg (by omega)], by rw [kR, if_neg (by omega), if_neg (by omega), if_neg (by omega)]⟩
        clear ht
        go_enter Tryd.func57, Tryd.ntmps57
        go_wp2
        go_ret2
        exact ⟨ret2 HF.out.1.symm HF.out.2.symm, rfl⟩
theorem bits_bd (o : BinOp) (a b : Int) : 0 ≤ bits o .u32 a b ∧ bits o .u32 a b ≤ 4294967295 := by
  unfold bits
  split <;> (rw [IntKind.wrap_u32]; omega)
theorem rot_bd (x : Int) (k : Nat) : 0 ≤ rot x k ∧ rot x k ≤ 4294967295 := bits_bd _ _ _
theorem fR_bd (t : Nat) (b c d : Int) : 0 ≤ fR t b c d ∧ fR t b c d ≤ 4294967295 := by
  unfold fR
  split
  · exact bits_bd _ _ _
  · split
    · exact bits_bd _ _ _
    · split
      · exact bits_bd _ _ _
      · exact bits_bd _ _ _
theorem kR_bd (t : Nat) : 0 ≤ kR t ∧ kR t ≤ 4294967295 := by unfold kR; split <;> (try split) <;> (try split) <;> omega
def In5 (v : W5) : Prop := (0 ≤ v.a ∧ v.a ≤ 4294967295) ∧ (0 ≤ v.b ∧ v.b ≤ 4294967295) ∧ (0 ≤ v.c ∧ v.c ≤ 4294967295) ∧ (0 ≤ v.d ∧ v.d ≤ 4294967295) ∧ (0 ≤ v.e ∧ v.e ≤ 4294967295)
theorem add_bd (x y : Int) : 0 ≤ add32 x y ∧ add32 x y ≤ 4294967295 := by unfold add32; omega
theorem rnd_in {x : Int} {t : Nat} {v : W5} (h : In5 v) : In5 (rnd x t v) := ⟨add_bd _ _, h.1, rot_bd _ _, h.2.2.1, h.2.2.2.1⟩
theorem rnds_in {W : List Int} {v : W5} (h : In5 v) : ∀ k, In5 (rnds W k v)
  | 0 => h
  | k + 1 => rnd_in (rnds_in h k)
theorem addW_in (h v : W5) : In5 (addW h v) := ⟨add_bd _ _, add_bd _ _, add_bd _ _, add_bd _ _, add_bd _ _⟩
theorem sch_len (b : List Int) : ∀ t, (sch b t).length = t
  | 0 => rfl
  | t + 1 => by simp [sch, sch_len b t]
theorem sch_bd {b : List Int} (hb : ∀ z ∈ b, 0 ≤ z ∧ z ≤ 255) : ∀ t, ∀ z ∈ sch b t, 0 ≤ z ∧ z ≤ 4294967295
  | 0, z, h => by simp [sch] at h
  | t + 1, z, h => by
    simp only [sch, List.mem_append, List.mem_singleton] at h
    rcases h with h | h
    · exact sch_bd hb t z h
    · subst h
      split
      · have g : ∀ i, 0 ≤ b.getD i 0 ∧ b.getD i 0 ≤ 255 := fun i => by
          rw [List.getD_eq_getElem?_getD]
          rcases Nat.lt_or_ge i b.length with hi | hi
          · rw [List.getElem?_eq_getElem hi]; exact hb _ (List.getElem_mem hi)
          · rw [List.getElem?_eq_none hi]; simp
        unfold w16
        have := g (4 * t); have := g (4 * t + 1); have := g (4 * t + 2); have := g (4 * t + 3)
        omega
      · exact rot_bd _ _
end Go.Proofs.YtiihafhnaiicoaaDoor.shW

namespace Go.Proofs.YtiihafhnaiicoaaDoor.shW
set_option maxRecDepth 100000
open Go.RowKit Go.Proofs.YtiihafhnaiicoaaDoor.base Go.Proofs.YtiihafhnaiicoaaDoor.shP
set_option linter.unusedVariables false
set_option linter.unusedSimpArgs false

/-- 'h * 2^i | l' of words. -/
theorem or_join32 (h l : Int) (i : Nat) (m : Int) (hm : m = 2 ^ i) (h0 : 0 ≤ h) (l0 : 0 ≤ l) (l1 : l < m) (b : h * m + l ≤ 4294967295) : bits .or .u32 (h * m) l = h * m + l := by
  subst hm
  obtain ⟨a, rfl⟩ := Int.eq_ofNat_of_zero_le h0
  obtain ⟨c, rfl⟩ := Int.eq_ofNat_of_zero_le l0
  have hp : 0 < 2 ^ i := Nat.two_pow_pos i
  have e0 : ((a : Int) * 2 ^ i) = ((2 ^ i * a : Nat) : Int) := by rw [Int.natCast_mul, Int.mul_comm]; simp
  have e1 : ((2 : Int) ^ i) = ((2 ^ i : Nat) : Int) := by simp
  rw [e1] at l1
  rw [e0] at b ⊢
  have hl : c < 2 ^ i := by omega
  have hs : 2 ^ i * a + c ≤ 4294967295 := by omega
  have q : (2 : Nat) ^ 32 = 4294967296 := by decide
  show IntKind.u32.wrap (((BitVec.ofInt 32 ((2 ^ i * a : Nat) : Int)) ||| (BitVec.ofInt 32 (c : Int))).toNat : Int) = _
  rw [BitVec.toNat_or, BitVec.ofInt_natCast, BitVec.ofInt_natCast, BitVec.toNat_ofNat, BitVec.toNat_ofNat, Nat.mod_eq_of_lt (by omega), Nat.mod_eq_of_lt (by omega), ← Nat.two_pow_add_eq_or_of_lt hl a, IntKind.wrap_u32]
  omega
theorem or4 {a b c d : Int} (ha : 0 ≤ a ∧ a ≤ 255) (hb : 0 ≤ b ∧ b ≤ 255) (hc : 0 ≤ c ∧ c ≤ 255) (hd : 0 ≤ d ∧ d ≤ 255) :
    bits .or .u32 (bits .or .u32 (bits .or .u32 (a * 16777216) (b * 65536)) (c * 256)) d = ((a * 256 + b) * 256 + c) * 256 + d := by
  rw [or_join32 a (b * 65536) 24 16777216 (by decide) (by omega) (by omega) (by omega) (by omega)]
  rw [show a * 16777216 + b * 65536 = (a * 256 + b) * 65536 by omega, or_join32 (a * 256 + b) (c * 256) 16 65536 (by decide) (by omega) (by omega) (by omega) (by omega)]
  rw [show (a * 256 + b) * 65536 + c * 256 = ((a * 256 + b) * 256 + c) * 256 by omega, or_join32 ((a * 256 + b) * 256 + c) d 8 256 (by decide) (by omega) (by omega) (by omega) (by omega)]
theorem sch_take (b : List Int) : ∀ t u, t ≤ u → (sch b u).take t = sch b t := by
  intro t u h
  induction u with
  | zero => obtain rfl : t = 0 := by omega
            rfl
  | succ u ih =>
    rcases Nat.eq_or_lt_of_le h with e | h2
    · subst e; exact List.take_of_length_le (by rw [sch_len]; exact Nat.le_refl _)
    · rw [sch, List.take_append_of_le_length (by rw [sch_len]; omega), ih (by omega)]
theorem sch_at (b : List Int) (t u : Nat) (h : t < u) : (sch b u).getD t 0 = if t < 16 then w16 b t else nxt (sch b t) t := by
  have e : (sch b u).take (t + 1) = sch b (t + 1) := sch_take b (t + 1) u h
  have e2 : (sch b u).getD t 0 = ((sch b u).take (t + 1)).getD t 0 := by simp [List.getD_eq_getElem?_getD, List.getElem?_take]
  rw [e2, e, sch, List.getD_eq_getElem?_getD, List.getElem?_append_right (by rw [sch_len]; exact Nat.le_refl _), sch_len]
  simp
theorem nxt_any (b : List Int) (t u : Nat) (h : t ≤ u) (h16 : 16 ≤ t) : nxt (sch b u) t = nxt (sch b t) t := by
  have g : ∀ i, i < t → (sch b u).getD i 0 = (sch b t).getD i 0 := fun i hi => by
    rw [sch_at b i u (by omega), sch_at b i t hi]
  unfold nxt
  rw [g (t - 3) (by omega), g (t - 8) (by omega), g (t - 14) (by omega), g (t - 16) (by omega)]
/-- The words so far, zeros behind. -/
def swds (b : List Int) (t : Nat) : List Value := fill (.int .u32 0) ((sch b 80).map (Value.int .u32)) t
theorem swds_len (b : List Int) {t : Nat} (h : t ≤ 80) : (swds b t).length = 80 := by rw [swds, fill_len (by simp [sch_len]; omega)]; simp [sch_len]
theorem swds_at (b : List Int) {t i : Nat} (h : i < t) (ht : t ≤ 80) : (swds b t)[i]? = some (.int .u32 ((sch b 80).getD i 0)) := by
  unfold swds fill
  have e : i < (sch b 80).length := by rw [sch_len]; omega
  rw [List.getElem?_append_left (by simp [sch_len]; omega), List.getElem?_take, if_pos h, List.getElem?_map, List.getD_eq_getElem?_getD, List.getElem?_eq_getElem e]
  rfl
theorem swds_set (b : List Int) {t : Nat} (h : t < 80) (x : Int) (hx : x = (sch b 80).getD t 0) : (swds b t).set t (.int .u32 x) = swds b (t + 1) := by
  have e := fill_set (z := Value.int .u32 0) (l := (sch b 80).map (Value.int .u32)) (k := t) (by simp [sch_len]; omega) (.int .u32 0)
  have e2 : ((sch b 80).map (Value.int .u32)).getD t (.int .u32 0) = .int .u32 x := by
    have h2 : t < (sch b 80).length := by rw [sch_len]; omega
    rw [hx, List.getD_eq_getElem?_getD, List.getElem?_map, List.getD_eq_getElem?_getD, List.getElem?_eq_getElem h2]; rfl
  rw [e2] at e
  exact e
theorem swds_zero (b : List Int) : swds b 0 = List.replicate 80 (.int .u32 0) := by rw [swds, fill_zero]; simp [sch_len]
theorem swds_all (b : List Int) : swds b 80 = (sch b 80).map (Value.int .u32) := by rw [swds, fill_all (by simp [sch_len])]
theorem four_cells {w : World} {B off : Nat} {b : List Int} (h : ∀ i, i < b.length → w.cell? ⟨B, off + i, none⟩ = some (.int .u8 (b.getD i 0))) (hl : b.length = 64) {k : Nat} (hk : k < 16) :
    w.cell? ⟨B, off + 4 * k, none⟩ = some (.int .u8 (b.getD (4 * k) 0)) ∧ w.cell? ⟨B, off + (4 * k + 1), none⟩ = some (.int .u8 (b.getD (4 * k + 1) 0)) ∧ w.cell? ⟨B, off + (4 * k + 2), none⟩ = some (.int .u8 (b.getD (4 * k + 2) 0)) ∧ w.cell? ⟨B, off + (4 * k + 3), none⟩ = some (.int .u8 (b.getD (4 * k + 3) 0)) :=
  ⟨h _ (by omega), h _ (by omega), h _ (by omega), h _ (by omega)⟩
theorem getD_bd {b : List Int} (hb : ∀ z ∈ b, 0 ≤ z ∧ z ≤ 255) (i : Nat) : 0 ≤ b.getD i 0 ∧ b.getD i 0 ≤ 255 := by
  rw [List.getD_eq_getElem?_getD]
  rcases Nat.lt_or_ge i b.length with hi | hi
  · rw [List.getElem?_eq_getElem hi]; exact hb _ (List.getElem_mem hi)
  · rw [List.getElem?_eq_none hi]; simp
end Go.Proofs.YtiihafhnaiicoaaDoor.shW

namespace Go.Proofs.YtiihafhnaiicoaaDoor.shW
set_option maxRecDepth 100000
open Go.RowKit Go.Proofs.YtiihafhnaiicoaaDoor.base Go.Proofs.YtiihafhnaiicoaaDoor.shP
set_option linter.unusedVariables false
set_option linter.unusedSimpArgs false
def sarr (b : List Int) : Array Value := ((sch b 80).map (Value.int .u32)).toArray
theorem sch_one (b : List Int) : ∀ v ∈ (sarr b).toList, v.oneCell' = true := by
  intro v hv
  simp only [sarr, List.mem_map] at hv
  obtain ⟨i, _, rfl⟩ := hv
  rfl
theorem sarr_len (b : List Int) : (sarr b).size = 80 := by simp [sarr, sch_len]
theorem sarr_size (b : List Int) : (List.replicate 80 (Value.int .u32 0)).toArray.size = (sarr b).size := by rw [sarr_len]; simp
theorem info80 (b : List Int) : (Tryd.prog.info? 146).map (·.size) = some (sarr b).size := by rw [sarr_len]; kernel_rfl
theorem sarr_lies {w : World} {g : Nat} {b : List Int} {k : Nat} (h : Lies (w) (g) 146 (swds b k)) (hk : k = 80) : w.heap[g]? = some (.cells (sarr b) 146 (0, 0)) := by
  subst hk
  have := h
  rw [swds_all] at this
  exact this
def z80 : List Value := List.replicate 80 (.int .u32 0)
def z80A : Array Value := z80.toArray
theorem z80A_size : z80A.size = 80 := rfl
theorem z80A_ne : ¬ z80A = #[] := fun h => by have := congrArg Array.size h; rw [z80A_size] at this; simp at this
theorem zv80 (w : World) : (zeroValue 146).run Tryd.prog w = .ok (.agg z80A) w := by kernel_rfl
theorem z80_new (w : World) {g : Nat} (hg : w.heap.size = g) : Lies (w.alloc (.cells z80A 146)) (g) 146 (z80) := Lies.fresh_at (t := 146) (cs := z80) hg
theorem z80_size (b : List Int) : z80.toArray.size = (sarr b).size := sarr_size b
theorem z80_0 (b : List Int) : z80 = swds b 0 := (swds_zero b).symm
attribute [irreducible] sarr z80 z80A
attribute [local irreducible] sch
set_option maxRecDepth 100000 in
set_option maxHeartbeats 4000000 in
theorem schedule (b : List Int) (A : Option Addr) (d : Nat) (w : World) (h : Has .u8 w A b) (hl : b.length = 64) (hd : 64 ≤ d) (hb : ∀ z ∈ b, 0 ≤ z ∧ z ≤ 255) :
    Calls Tryd.prog 69 #[.slice A 64 d] w fun e w' => e = .returned (.agg (sarr b)) ∧ Below w.heap.size w w' := by
  obtain ⟨B, off, rfl, hB, hc⟩ := has_some h (by omega)
  have HC := Lib.hid hc
  have HL := Lib.hid hl
  have HBD := Lib.hid hb
  clear h hc hl hb
  have hz1 := zv80
  have hz2 := z80A_size
  have hz3 := z80A_ne
  go_enter Tryd.func69, Tryd.ntmps69
  go_wp2_with fail
  clear hz1 hz2 hz3
  go_loopw [6] (fun i wr => ∃ k : Nat, k ≤ 16 ∧ i = .int .i64 k ∧ Lies (wr) (w.heap.size + 1) 146 (swds b k) ∧ Lies (wr) (w.heap.size) 146 (z80) ∧ Below w.heap.size w wr) (fun i _ => 16 - (intOf i).toNat)
  case atStart => exact ⟨0, by omega, rfl, by rw [← z80_0]; exact z80_new _ (by simp), (z80_new w rfl).alloc _, by (repeat' (first | (with_reducible exact Below.refl _ _) | (with_reducible assumption) | (with_reducible refine below_drewN ?_ _) | (with_reducible refine below_new ?_ _) | (with_reducible refine Below.alloc ?_ ?_ _) | (with_reducible refine Below.drew ?_) | (with_reducible refine Below.setCell ?_ ?_ _) | (with_reducible apply below_at; (case k => (with_reducible assumption)); (case hB => omega)) | (with_reducible apply below_on; (with_reducible assumption)) | (go_size; done) | (with_reducible apply size_of)))⟩
  case round =>
    obtain ⟨k, hk, rfl, K, R, acc⟩ := hrel
    have HK := Lib.hid K
    have HR := Lib.hid R
    have HACC := Lib.hid acc
    by_cases hlt : k < 16
    · obtain ⟨c0, c1, c2, c3⟩ := four_cells HC.out HL.out hlt
      rw [← acc.cell (p := ⟨B, _, none⟩) hB] at c0 c1 c2 c3
      have d0 := getD_bd HBD.out (4 * k)
      have d1 := getD_bd HBD.out (4 * k + 1)
      have d2 := getD_bd HBD.out (4 * k + 2)
      have d3 := getD_bd HBD.out (4 * k + 3)
      obtain ⟨e0, f0⟩ := d0
      obtain ⟨e1, f1⟩ := d1
      obtain ⟨e2, f2⟩ := d2
      obtain ⟨e3, f3⟩ := d3
      have HW : Hid (w16 b k = ((b.getD (4 * k) 0 * 256 + b.getD (4 * k + 1) 0) * 256 + b.getD (4 * k + 2) 0) * 256 + b.getD (4 * k + 3) 0) := Lib.hid rfl
      have q1 := K.free k
      obtain ⟨old, q0⟩ : ∃ old, wr.cell? ⟨w.heap.size + 1, k, none⟩ = some old := ⟨_, (K.cell k).trans (List.getElem?_eq_getElem (by rw [swds_len b (by omega)]; omega))⟩
      have zk := K.lt
      have HLT := Lib.hid hlt
      have k1 : (k : Int) < 16 := by omega
      clear acc K R hk hlt
      generalize b.getD (4 * k) 0 = y0 at *
      generalize b.getD (4 * k + 1) 0 = y1 at *
      generalize b.getD (4 * k + 2) 0 = y2 at *
      generalize b.getD (4 * k + 3) 0 = y3 at *
      have m0 : IntKind.i64.wrap (4 * (k : Int)) = 4 * (k : Int) := IntWalk.i64_in _ (by omega)
      have m1 : IntKind.i64.wrap (4 * (k : Int) + 1) = 4 * (k : Int) + 1 := IntWalk.i64_in _ (by omega)
      have m2 : IntKind.i64.wrap (4 * (k : Int) + 2) = 4 * (k : Int) + 2 := IntWalk.i64_in _ (by omega)
      have m3 : IntKind.i64.wrap (4 * (k : Int) + 3) = 4 * (k : Int) + 3 := IntWalk.i64_in _ (by omega)
      have n0 : (4 * (k : Int)).toNat = 4 * k := by omega
      have n1 : (4 * (k : Int) + 1).toNat = 4 * k + 1 := by omega
      have n2 : (4 * (k : Int) + 2).toNat = 4 * k + 2 := by omega
      have n3 : (4 * (k : Int) + 3).toNat = 4 * k + 3 := by omega
      have o0 : 0 ≤ 4 * (k : Int) := by omega
      have o1 : 0 ≤ 4 * (k : Int) + 1 := by omega
      have o2 : 0 ≤ 4 * (k : Int) + 2 := by omega
      have o3 : 0 ≤ 4 * (k : Int) + 3 := by omega
      have p0 : 4 * (k : Int) < 64 := by omega
      have p1 : 4 * (k : Int) + 1 < 64 := by omega
      have p2 : 4 * (k : Int) + 2 < 64 := by omega
      have p3 : 4 * (k : Int) + 3 < 64 := by omega
      have r0 : IntKind.u32.wrap y0 = y0 := by rw [IntKind.wrap_u32]; omega
      have r1 : IntKind.u32.wrap y1 = y1 := by rw [IntKind.wrap_u32]; omega
      have r2 : IntKind.u32.wrap y2 = y2 := by rw [IntKind.wrap_u32]; omega
      have r3 : IntKind.u32.wrap y3 = y3 := by rw [IntKind.wrap_u32]; omega
      have s0 : IntKind.u32.wrap (y0 * 16777216) = y0 * 16777216 := by rw [IntKind.wrap_u32]; omega
      have s1 : IntKind.u32.wrap (y1 * 65536) = y1 * 65536 := by rw [IntKind.wrap_u32]; omega
      have s2 : IntKind.u32.wrap (y2 * 256) = y2 * 256 := by rw [IntKind.wrap_u32]; omega
      have t0 : 0 ≤ (k : Int) := by omega
      have t1 : (k : Int) < 80 := by omega
      go_wp2_with fail
      go_still_tail 35, (by kernel_rfl)
      go_wp2
      refine ⟨⟨k + 1, by have := HLT.out; omega, by go_num, ?_, ?_, ?_⟩, ?_⟩
      · refine Lies.drew ?_
        rw [or4 ⟨e0, f0⟩ ⟨e1, f1⟩ ⟨e2, f2⟩ ⟨e3, f3⟩]
        have := HK.out.set k (.int .u32 (((y0 * 256 + y1) * 256 + y2) * 256 + y3))
        rwa [swds_set b (by have := HLT.out; omega) _ (by rw [sch_at b k 80 (by have := HLT.out; omega), if_pos HLT.out, HW.out])] at this
      · exact (HR.out.other (by simp) _).drew
      · have := HACC.out; (repeat' (first | (with_reducible exact Below.refl _ _) | (with_reducible assumption) | (with_reducible refine below_drewN ?_ _) | (with_reducible refine below_new ?_ _) | (with_reducible refine Below.alloc ?_ ?_ _) | (with_reducible refine Below.drew ?_) | (with_reducible refine Below.setCell ?_ ?_ _) | (with_reducible apply below_at; (case k => (with_reducible assumption)); (case hB => omega)) | (with_reducible apply below_on; (with_reducible assumption)) | (go_size; done) | (with_reducible apply size_of)))
      · simp [intOf]; have := HLT.out; omega
    · have e16 : k = 16 := by omega
      have HE := Lib.hid e16
      have k16 : ¬ (k : Int) < 16 := by omega
      clear K R acc hk hlt e16
      go_wp2_with fail
      go_loopw [5] (fun i wr => ∃ k : Nat, 16 ≤ k ∧ k ≤ 80 ∧ i = .int .i64 k ∧ Lies (wr) (w.heap.size + 1) 146 (swds b k) ∧ Lies (wr) (w.heap.size) 146 (z80) ∧ Below w.heap.size w wr) (fun i _ => 80 - (intOf i).toNat)
      case atStart => exact ⟨16, by omega, by omega, rfl, by rw [← HE.out]; exact HK.out, HR.out, HACC.out⟩
      case round =>
        clear HK HR HACC HE
        obtain ⟨k, hk1, hk, rfl, K, R, acc⟩ := hrel
        have HK := Lib.hid K
        have HR := Lib.hid R
        have HACC := Lib.hid acc
        by_cases hlt : k < 80
        · have c3 := (K.cell (k - 3)).trans (swds_at b (show k - 3 < k by omega) (by omega))
          have c8 := (K.cell (k - 8)).trans (swds_at b (show k - 8 < k by omega) (by omega))
          have c14 := (K.cell (k - 14)).trans (swds_at b (show k - 14 < k by omega) (by omega))
          have c16 := (K.cell (k - 16)).trans (swds_at b (show k - 16 < k by omega) (by omega))
          have HX : Hid ((sch b 80).getD k 0 = rot (bits .xor .u32 (bits .xor .u32 (bits .xor .u32 ((sch b 80).getD (k - 3) 0) ((sch b 80).getD (k - 8) 0)) ((sch b 80).getD (k - 14) 0)) ((sch b 80).getD (k - 16) 0)) 1) := Lib.hid (by rw [sch_at b k 80 hlt, if_neg (by omega), ← nxt_any b k 80 (by omega) hk1]; rfl)
          have q1 := K.free k
          obtain ⟨old, q0⟩ : ∃ old, wr.cell? ⟨w.heap.size + 1, k, none⟩ = some old := ⟨_, (K.cell k).trans (List.getElem?_eq_getElem (by rw [swds_len b (by omega)]; omega))⟩
          have zk := K.lt
          have HLT : Hid (16 ≤ k ∧ k < 80) := Lib.hid ⟨hk1, hlt⟩
          have n3 : ((k : Int) - 3).toNat = k - 3 := by omega
          have n8 : ((k : Int) - 8).toNat = k - 8 := by omega
          have n14 : ((k : Int) - 14).toNat = k - 14 := by omega
          have n16 : ((k : Int) - 16).toNat = k - 16 := by omega
          have m3 : IntKind.i64.wrap ((k : Int) - 3) = (k : Int) - 3 := IntWalk.i64_in _ (by omega)
          have m8 : IntKind.i64.wrap ((k : Int) - 8) = (k : Int) - 8 := IntWalk.i64_in _ (by omega)
          have m14 : IntKind.i64.wrap ((k : Int) - 14) = (k : Int) - 14 := IntWalk.i64_in _ (by omega)
          have m16 : IntKind.i64.wrap ((k : Int) - 16) = (k : Int) - 16 := IntWalk.i64_in _ (by omega)
          have o3 : 3 ≤ (k : Int) := by omega
          have o8 : 8 ≤ (k : Int) := by omega
          have o14 : 14 ≤ (k : Int) := by omega
          have o16 : 16 ≤ (k : Int) := by omega
          have o3' : 0 ≤ (k : Int) - 3 := by omega
          have o8' : 0 ≤ (k : Int) - 8 := by omega
          have o14' : 0 ≤ (k : Int) - 14 := by omega
          have o16' : 0 ≤ (k : Int) - 16 := by omega
          have p3 : (k : Int) - 3 < 80 := by omega
          have p8 : (k : Int) - 8 < 80 := by omega
          have p14 : (k : Int) - 14 < 80 := by omega
          have p16 : (k : Int) - 16 < 80 := by omega
          have t0 : 0 ≤ (k : Int) := by omega
          have t1 : (k : Int) < 80 := by omega
          clear acc K R hk hk1 hlt
          generalize (sch b 80).getD (k - 3) 0 = y0 at *
          generalize (sch b 80).getD (k - 8) 0 = y1 at *
          generalize (sch b 80).getD (k - 14) 0 = y2 at *
          generalize (sch b 80).getD (k - 16) 0 = y3 at *
          go_wp2_with fail
          refine region_still_tail 22 (by kernel_rfl) (by kernel_rfl) ?_; simp only [List.take_succ_cons, List.take_zero, List.drop_succ_cons, List.drop_zero]
          repeat still_step
          still_call (turned (rotate _ 1 _ (.inl rfl) (bits_bd _ _ _).1 (bits_bd _ _ _).2))
          repeat still_step
          refine wpStill_nil ?_
          go_wp2
          refine ⟨⟨k + 1, by have := HLT.out; omega, by have := HLT.out; omega, by go_num, ?_, ?_, ?_⟩, ?_⟩
          · refine Lies.drew ?_
            have := HK.out.set k (.int .u32 (rot (bits .xor .u32 (bits .xor .u32 (bits .xor .u32 y0 y1) y2) y3) 1))
            rwa [swds_set b (HLT.out.2) _ HX.out.symm] at this
          · exact (HR.out.other (by simp) _).drew
          · have := HACC.out; (repeat' (first | (with_reducible exact Below.refl _ _) | (with_reducible assumption) | (with_reducible refine below_drewN ?_ _) | (with_reducible refine below_new ?_ _) | (with_reducible refine Below.alloc ?_ ?_ _) | (with_reducible refine Below.drew ?_) | (with_reducible refine Below.setCell ?_ ?_ _) | (with_reducible apply below_at; (case k => (with_reducible assumption)); (case hB => omega)) | (with_reducible apply below_on; (with_reducible assumption)) | (go_size; done) | (with_reducible apply size_of)))
          · simp [intOf]; have := HLT.out; omega
        · have e80 : k = 80 := by omega
          have k80 : ¬ (k : Int) < 80 := by omega
          have HK' := Lib.hid (sarr_lies HK.out e80)
          have HP1 := Lib.hid (sch_one b)
          clear K R acc hk hk1 hlt HK e80
          go_upto_region 11 with fail
          go_step
          refine wpList_load_row (P := Tryd.prog) rfl 146 (.tmp 3) rfl (w.heap.size + 1) rfl 146 (sarr b) (0, 0) _ HK'.out Tryd.underlying146 rfl (info80 b) ?_
          refine wpList_store_arr (P := Tryd.prog) rfl 146 (.tmp 2) (.tmp 71) rfl w.heap.size rfl (sarr b) rfl 146 _ HR.out (z80_size b) HP1.out (info80 b) ?_
          intro w9 hR9 hb9 hz9
          go_wp2_with fail
          refine bodyPost_ret (results_cell_row (P := Tryd.prog) Tryd.results69 _ _ _ _ _ _ _ rfl hR9 Tryd.underlying146 rfl (info80 b)) rfl ⟨rfl, ?_⟩
          exact HACC.out.trans hb9
end Go.Proofs.YtiihafhnaiicoaaDoor.shW

namespace Go.Proofs.YtiihafhnaiicoaaDoor.shW
set_option maxRecDepth 100000
open Go.RowKit Go.Proofs.YtiihafhnaiicoaaDoor.base Go.Proofs.YtiihafhnaiicoaaDoor.shP
set_option linter.unusedVariables false
set_option linter.unusedSimpArgs false
def l5 (v : W5) : List Int := [v.a, v.b, v.c, v.d, v.e]
def c5 (v : W5) : List Value := (l5 v).map (Value.int .u32)
def a5 (v : W5) : Value := .agg (c5 v).toArray
theorem l5_at (v : W5) : (c5 v).length = 5 := rfl
/-- The words of h, the first j of them with those of v added. -/
def mixL (h v : W5) (j : Nat) : List Int := List.zipWith add32 ((l5 h).take j) ((l5 v).take j) ++ (l5 h).drop j
theorem mixL_0 (h v : W5) : mixL h v 0 = l5 h := rfl
theorem mixL_5 (h v : W5) : mixL h v 5 = l5 (addW h v) := rfl
theorem mixL_len (h v : W5) : ∀ j, j ≤ 5 → (mixL h v j).length = 5 := by
  intro j hj
  rcases (show j = 0 ∨ j = 1 ∨ j = 2 ∨ j = 3 ∨ j = 4 ∨ j = 5 by omega) with rfl | rfl | rfl | rfl | rfl | rfl <;> rfl
theorem mixL_at (h v : W5) (j : Nat) (hj : j < 5) : (mixL h v j)[j]? = some ((l5 h).getD j 0) := by
  rcases (show j = 0 ∨ j = 1 ∨ j = 2 ∨ j = 3 ∨ j = 4 by omega) with rfl | rfl | rfl | rfl | rfl <;> rfl
theorem mixL_set (h v : W5) (j : Nat) (hj : j < 5) : (mixL h v j).set j (add32 ((l5 h).getD j 0) ((l5 v).getD j 0)) = mixL h v (j + 1) := by
  rcases (show j = 0 ∨ j = 1 ∨ j = 2 ∨ j = 3 ∨ j = 4 by omega) with rfl | rfl | rfl | rfl | rfl <;> rfl
theorem l5_get (v : W5) (j : Nat) (hj : j < 5) : (l5 v)[j]? = some ((l5 v).getD j 0) := by
  rcases (show j = 0 ∨ j = 1 ∨ j = 2 ∨ j = 3 ∨ j = 4 by omega) with rfl | rfl | rfl | rfl | rfl <;> rfl
theorem five {w : World} {g : Nat} {v : W5} (h : Lies (w) (g) 98 (c5 (v))) : w.cell? ⟨g, 0, none⟩ = some (.int .u32 v.a) ∧ w.cell? ⟨g, 1, none⟩ = some (.int .u32 v.b) ∧ w.cell? ⟨g, 2, none⟩ = some (.int .u32 v.c) ∧ w.cell? ⟨g, 3, none⟩ = some (.int .u32 v.d) ∧ w.cell? ⟨g, 4, none⟩ = some (.int .u32 v.e) :=
  ⟨h.cell 0, h.cell 1, h.cell 2, h.cell 3, h.cell 4⟩
theorem free5 {w : World} {g : Nat} {t : TypeId} {l : List Value} (h : Lies w g t l) : w.frozen? ⟨g, 0, none⟩ = false ∧ w.frozen? ⟨g, 1, none⟩ = false ∧ w.frozen? ⟨g, 2, none⟩ = false ∧ w.frozen? ⟨g, 3, none⟩ = false ∧ w.frozen? ⟨g, 4, none⟩ = false :=
  ⟨h.free 0, h.free 1, h.free 2, h.free 3, h.free 4⟩
theorem info5 (v : W5) : (Tryd.prog.info? 98).map (·.size) = some (c5 v).toArray.size := by rw [show (c5 v).toArray.size = 5 from rfl]; kernel_rfl
theorem one5 (v : W5) : ∀ u ∈ (c5 v).toArray.toList, u.oneCell' = true := by
  intro u hu
  simp only [c5, List.mem_map] at hu
  obtain ⟨i, _, rfl⟩ := hu
  rfl
theorem sarr_cell {w : World} {g : Nat} {t : TypeId} {b : List Int} (h : w.heap[g]? = some (.cells (sarr b) t (0, 0))) {k : Nat} (hk : k < 80) : w.cell? ⟨g, k, none⟩ = some (.int .u32 ((sch b 80).getD k 0)) := by
  unfold sarr at h
  have e : Lies w g t ((sch b 80).map (Value.int .u32)) := h
  rw [e.cell, List.getElem?_map, List.getD_eq_getElem?_getD, List.getElem?_eq_getElem (by rw [sch_len]; exact hk)]
  rfl
theorem getD_bdU {l : List Int} (h : ∀ z ∈ l, 0 ≤ z ∧ z ≤ 4294967295) (i : Nat) : 0 ≤ l.getD i 0 ∧ l.getD i 0 ≤ 4294967295 := by
  rw [List.getD_eq_getElem?_getD]
  rcases Nat.lt_or_ge i l.length with hi | hi
  · rw [List.getElem?_eq_getElem hi]; exact h _ (List.getElem_mem hi)
  · rw [List.getElem?_eq_none hi]; simp
theorem rnd_form (x : Int) (t : Nat) (a b c d e : Int) : rnd x t ⟨a, b, c, d, e⟩ = ⟨(rot a 5 + fR t b c d + e + kR t + x) % 4294967296, a, rot b 30, c, d⟩ := by
  unfold rnd add32
  simp only [W5.mk.injEq, and_true]
  omega
theorem far_cells {w : World} {g g' : Nat} {n : Nat} {t : TypeId} {cs : Array Value} {a b c d e : Value} (h : Lies w g t cs.toList) (hne : g' ≠ g) : ((((((w.drewN n).setCell ⟨g', 0, none⟩ a).setCell ⟨g', 1, none⟩ b).setCell ⟨g', 2, none⟩ c).setCell ⟨g', 3, none⟩ d).setCell ⟨g', 4, none⟩ e).heap[g]? = some (.cells cs t (0, 0)) := by
  have := (((((h.drewN n).other (p := ⟨g', 0, none⟩) hne a).other (p := ⟨g', 1, none⟩) hne b).other (p := ⟨g', 2, none⟩) hne c).other (p := ⟨g', 3, none⟩) hne d).other (p := ⟨g', 4, none⟩) hne e
  unfold Lies at this
  rw [Array.toArray_toList] at this
  exact this
theorem lies_set5 {w : World} {g : Nat} {v : W5} (h : Lies (w) (g) 98 (c5 (v))) (u : W5) : Lies (((((w.setCell ⟨g, 0, none⟩ (.int .u32 u.a)).setCell ⟨g, 1, none⟩ (.int .u32 u.b)).setCell ⟨g, 2, none⟩ (.int .u32 u.c)).setCell ⟨g, 3, none⟩ (.int .u32 u.d)).setCell ⟨g, 4, none⟩ (.int .u32 u.e)) (g) 98 (c5 (u)) :=
  ((((h.set 0 (.int .u32 u.a)).set 1 (.int .u32 u.b)).set 2 (.int .u32 u.c)).set 3 (.int .u32 u.d)).set 4 (.int .u32 u.e)
set_option maxRecDepth 100000 in
set_option maxHeartbeats 4000000 in
theorem doBlock (h : W5) (b : List Int) (A : Option Addr) (d : Nat) (w : World) (hA : Has .u8 w A b) (hl : b.length = 64) (hd : 64 ≤ d) (hb : ∀ z ∈ b, 0 ≤ z ∧ z ≤ 255) (hh : In5 h) :
    Calls Tryd.prog 64 #[a5 h, .slice A 64 d] w fun e w' => e = .returned (a5 (dn h b)) ∧ Below w.heap.size w w' := by
  have HA := Lib.hid hA
  have HL := Lib.hid hl
  have HB := Lib.hid hb
  have HH := Lib.hid hh
  clear hA hl hb hh
  unfold a5 c5 l5
  have hz1 := zv80
  have hz4 := z80A_size
  have hz3 := z80A_ne
  go_enter Tryd.func64, Tryd.ntmps64
  go_wp2_with fail
  refine (schedule b A d _ (HA.out.below (by (repeat' (first | (with_reducible exact Below.refl _ _) | (with_reducible assumption) | (with_reducible refine below_drewN ?_ _) | (with_reducible refine below_new ?_ _) | (with_reducible refine Below.alloc ?_ ?_ _) | (with_reducible refine Below.drew ?_) | (with_reducible refine Below.setCell ?_ ?_ _) | (with_reducible apply below_at; (case k => (with_reducible assumption)); (case hB => omega)) | (with_reducible apply below_on; (with_reducible assumption)) | (go_size; done) | (with_reducible apply size_of)))) (Nat.le_refl _)) HL.out hd HB.out).mono ?_
  rintro e w1 ⟨rfl, hb1⟩
  have HB1 := Lib.hid hb1
  have sz1 := hb1.size
  simp at sz1
  have HS1 : Hid (w.heap.size + 2 ≤ w1.heap.size) := Lib.hid (by omega)
  have HP1 := Lib.hid (sch_one b)
  have HZ1 := Lib.hid (z80_new w1 rfl)
  go_wp2_with (first
    | (show wpList _ _ _ ({ dst := none, op := Op.store 146 _ _, type := _, pos := _, after := _, guard := none } :: _) _ _; go_must (refine wpList_store_arr (P := Tryd.prog) rfl 146 (.tmp 5) (.tmp 13) rfl w1.heap.size ?c4 (sarr b) ?c0 146 _ HZ1.out (z80_size b) HP1.out (info80 b) ?_); (case c4 => rfl); (case c0 => rfl); intro w2 hR2 hb2 hz2; have HR2 := Lib.hid hR2; have HB2 : Hid (Below w1.heap.size w1 w2) := Lib.hid (((Below.refl _ _).alloc (Nat.le_refl _) _).trans hb2); simp at hz2; have HZ2 := Lib.hid hz2; clear hR2 hz2; have k2 : Lies (w2) (w.heap.size) 98 (c5 (h)) := ((((Lies.fresh _ _ (c5 h)).alloc _).past HB1.out).past HB2.out); obtain ⟨p0, p1, p2, p3, p4⟩ := five k2; have HK2 := Lib.hid k2; clear k2))
  clear hz1 hz4 hz3
  go_loopw [15] (fun i wr => ∃ k : Nat, k ≤ 80 ∧ i = .int .i64 k ∧ Lies (wr) (w2.heap.size) 98 (c5 (rnds (sch b 80) k h)) ∧ Lies (wr) (w.heap.size) 98 (c5 (h)) ∧ wr.heap[w1.heap.size]? = some (.cells (sarr b) 146 (0, 0)) ∧ Lies wr (w.heap.size + 1) 98 (c5 ⟨0, 0, 0, 0, 0⟩) ∧ Below w.heap.size w wr) (fun i _ => 80 - (intOf i).toNat)
  case atStart =>
    refine ⟨0, by omega, rfl, Lies.fresh _ _ (c5 h), HK2.out.alloc _, ?_, ?_, by have := HB1.out; have := HB2.out; (repeat' (first | (with_reducible exact Below.refl _ _) | (with_reducible assumption) | (with_reducible refine below_drewN ?_ _) | (with_reducible refine below_new ?_ _) | (with_reducible refine Below.alloc ?_ ?_ _) | (with_reducible refine Below.drew ?_) | (with_reducible refine Below.setCell ?_ ?_ _) | (with_reducible apply below_at; (case k => (with_reducible assumption)); (case hB => omega)) | (with_reducible apply below_on; (with_reducible assumption)) | (go_size; done) | (with_reducible apply size_of)))⟩
    · exact (Below.heap_alloc _ _ _ (lt_of_block HR2.out)).trans HR2.out
    · exact (((Lies.fresh_at (cs := c5 ⟨0, 0, 0, 0, 0⟩) (by simp)).past HB1.out).past HB2.out).alloc _
  case round =>
    clear HR2 HK2 HZ1 p0 p1 p2 p3 p4
    obtain ⟨k, hk, rfl, K, R, X, Z, acc⟩ := hrel
    have HK := Lib.hid K
    have HR := Lib.hid R
    have HX := Lib.hid X
    have HZ := Lib.hid Z
    have HACC := Lib.hid acc
    by_cases hlt : k < 80
    · have hi := rnds_in (W := sch b 80) HH.out k
      have HIN := Lib.hid hi
      obtain ⟨p0, p1, p2, p3, p4⟩ := five K
      obtain ⟨f0, f1, f2, f3, f4⟩ := free5 K
      have q0 := sarr_cell X hlt
      have q1 := getD_bdU (sch_bd HB.out 80) k
      have HRS : Hid (rnds (sch b 80) (k + 1) h = rnd ((sch b 80).getD k 0) k (rnds (sch b 80) k h)) := Lib.hid rfl
      have HLT := Lib.hid hlt
      have zk := K.lt
      have k0 : 0 ≤ (k : Int) := by omega
      have k1 : (k : Int) < 80 := by omega
      clear K R X Z acc hk hlt
      generalize rnds (sch b 80) k h = v at *
      generalize (sch b 80).getD k 0 = x at *
      obtain ⟨va, vb, vc, vd, ve⟩ := v
      obtain ⟨⟨a1, a2⟩, ⟨b1, b2⟩, ⟨c1, c2⟩, ⟨d1, d2⟩, ⟨e1, e2⟩⟩ := hi
      simp only [] at *
      go_wp2_with fail
      refine (mixed k vb vc vd _ HLT.out).mono ?_
      rintro e w3 ⟨rfl, rfl⟩
      generalize hF : fR k vb vc vd = F at *
      generalize hC : kR k = C at *
      have HF := Lib.hid hF
      have HC := Lib.hid hC
      clear hF hC
      go_wp2_with fail
      go_quiet ((go_at_call 71; exact Calls.quiet_of_same (turned (rotate5 va _ a1 a2))))
      go_wp2_with fail
      refine region_still_tail 11 (by kernel_rfl) (by kernel_rfl) ?_; simp only [List.take_succ_cons, List.take_zero, List.drop_succ_cons, List.drop_zero]
      repeat still_step
      still_call (turned (rotate30 vb _ b1 b2))
      repeat still_step
      refine wpStill_nil ?_
      go_wp2_with fail
      refine ⟨⟨k + 1, by have := HLT.out; omega, by go_num, ?_, ?_, ?_, ?_, ?_⟩, ?_⟩
      · rw [HRS.out, rnd_form, HF.out, HC.out]
        exact (((((HK.out.drewN _).set 0 _).set 1 _).set 2 _).set 3 _).set 4 _
      · have := HR.out
        have hne : w2.heap.size ≠ w.heap.size := by have := HS1.out; have := HZ2.out; omega
        exact (((((this.drewN _).other hne _).other hne _).other hne _).other hne _).other hne _
      · have hne : w2.heap.size ≠ w1.heap.size := by have := HZ2.out; omega
        exact far_cells (show Lies wr w1.heap.size 146 (sarr b).toList by show _ = _; rw [Array.toArray_toList]; exact HX.out) hne
      · have hne : w2.heap.size ≠ w.heap.size + 1 := by have := HS1.out; have := HZ2.out; omega
        exact (((((HZ.out.drewN _).other hne _).other hne _).other hne _).other hne _).other hne _
      · have := HACC.out
        have : w.heap.size ≤ w2.heap.size := by have := HS1.out; have := HZ2.out; omega
        (repeat' (first | (with_reducible exact Below.refl _ _) | (with_reducible assumption) | (with_reducible refine below_drewN ?_ _) | (with_reducible refine below_new ?_ _) | (with_reducible refine Below.alloc ?_ ?_ _) | (with_reducible refine Below.drew ?_) | (with_reducible refine Below.setCell ?_ ?_ _) | (with_reducible apply below_at; (case k => (with_reducible assumption)); (case hB => omega)) | (with_reducible apply below_on; (with_reducible assumption)) | (go_size; done) | (with_reducible apply size_of)))
      · simp [intOf]; have := HLT.out; omega
    · have k80 : ¬ (k : Int) < 80 := by omega
      have e80 : k = 80 := by omega
      have HV : Hid (addW h (rnds (sch b 80) k h) = dn h b) := Lib.hid (by rw [e80]; rfl)
      clear K R X Z acc hk hlt HX HP1 e80
      generalize rnds (sch b 80) k h = v at *
      go_wp2_with fail
      go_loopw [55] (fun i wr => ∃ j : Nat, j ≤ 5 ∧ i = .int .i64 j ∧ Lies wr w.heap.size 98 ((mixL h v j).map (Value.int .u32)) ∧ Lies (wr) (w2.heap.size) 98 (c5 (v)) ∧ Lies wr (w.heap.size + 1) 98 (c5 ⟨0, 0, 0, 0, 0⟩) ∧ Below w.heap.size w wr) (fun i _ => 5 - (intOf i).toNat)
      case atStart => exact ⟨0, by omega, rfl, HR.out, HK.out, HZ.out, HACC.out⟩
      case round =>
        clear HK HR HZ HACC
        obtain ⟨j, hj, rfl, R, K, Z, acc⟩ := hrel
        have HK := Lib.hid K
        have HR := Lib.hid R
        have HZ := Lib.hid Z
        have HACC := Lib.hid acc
        by_cases hlt : j < 5
        · have p0 : wr.cell? ⟨w.heap.size, j, none⟩ = some (.int .u32 ((l5 h).getD j 0)) := by rw [R.cell, List.getElem?_map, mixL_at h v j hlt]; rfl
          have p1 : wr.cell? ⟨w2.heap.size, j, none⟩ = some (.int .u32 ((l5 v).getD j 0)) := by rw [K.cell, c5, List.getElem?_map, l5_get v j hlt]; rfl
          have p2 := R.free j
          have zk := R.lt
          have zl := K.lt
          have HST : Hid ((mixL h v j).set j (((l5 h).getD j 0 + (l5 v).getD j 0) % 4294967296) = mixL h v (j + 1)) := Lib.hid (mixL_set h v j hlt)
          have HLT := Lib.hid hlt
          have j0 : 0 ≤ (j : Int) := by omega
          have j1 : (j : Int) < 5 := by omega
          clear K R Z acc hj hlt
          generalize (l5 h).getD j 0 = y at *
          generalize (l5 v).getD j 0 = z at *
          go_wp2_with fail
          refine region_still_tail 8 (by kernel_rfl) (by kernel_rfl) ?_; simp only [List.take_succ_cons, List.take_zero, List.drop_succ_cons, List.drop_zero]
          repeat still_step
          refine wpStill_nil ?_
          go_wp2_with fail
          refine ⟨⟨j + 1, by have := HLT.out; omega, by go_num, ?_, ?_, ?_, ?_⟩, ?_⟩
          · rw [← HST.out]
            have := HR.out.set j (.int .u32 ((y + z) % 4294967296))
            rw [← List.map_set] at this
            exact this.drew
          · have hne : w.heap.size ≠ w2.heap.size := by have := HS1.out; have := HZ2.out; omega
            exact (HK.out.other hne _).drew
          · exact (HZ.out.other (by show w.heap.size ≠ w.heap.size + 1; omega) _).drew
          · have := HACC.out; (repeat' (first | (with_reducible exact Below.refl _ _) | (with_reducible assumption) | (with_reducible refine below_drewN ?_ _) | (with_reducible refine below_new ?_ _) | (with_reducible refine Below.alloc ?_ ?_ _) | (with_reducible refine Below.drew ?_) | (with_reducible refine Below.setCell ?_ ?_ _) | (with_reducible apply below_at; (case k => (with_reducible assumption)); (case hB => omega)) | (with_reducible apply below_on; (with_reducible assumption)) | (go_size; done) | (with_reducible apply size_of)))
          · simp [intOf]; have := HLT.out; omega
        · have j5 : ¬ (j : Int) < 5 := by omega
          have e5 : j = 5 := by omega
          have R5 : Lies (wr) (w.heap.size) 98 (c5 (addW h v)) := by
            have := HR.out
            rw [e5, mixL_5] at this
            exact this
          rw [HV.out] at R5
          clear K R Z acc hj hlt HK HR e5
          obtain ⟨p0, p1, p2, p3, p4⟩ := five R5
          obtain ⟨f0, f1, f2, f3, f4⟩ := free5 HZ.out
          obtain ⟨z0, z1, z2, z3, z4⟩ := five (v := ⟨0, 0, 0, 0, 0⟩) HZ.out
          have zk := R5.lt
          have zz := HZ.out.lt
          generalize hu : dn h b = u at *
          have HU := Lib.hid hu
          clear hu
          have HR5 := Lib.hid R5
          clear R5
          go_wp2_with fail
          obtain ⟨t0, t1, t2, t3, t4⟩ := five (lies_set5 HZ.out u)
          clear p0 p1 p2 p3 p4 z0 z1 z2 z3 z4 f0 f1 f2 f3 f4
          refine bodyPost_ret (by simp [results, Tryd.results64, go_sem, t0, t1, t2, t3, t4]; try rfl) rfl ?_
          exact ⟨by rw [HU.out], by have := HACC.out; (repeat' (first | (with_reducible exact Below.refl _ _) | (with_reducible assumption) | (with_reducible refine below_drewN ?_ _) | (with_reducible refine below_new ?_ _) | (with_reducible refine Below.alloc ?_ ?_ _) | (with_reducible refine Below.drew ?_) | (with_reducible refine Below.setCell ?_ ?_ _) | (with_reducible apply below_at; (case k => (with_reducible assumption)); (case hB => omega)) | (with_reducible apply below_on; (with_reducible assumption)) | (go_size; done) | (with_reducible apply size_of)))⟩
end Go.Proofs.YtiihafhnaiicoaaDoor.shW

namespace Go.Proofs.YtiihafhnaiicoaaDoor.shW
set_option maxRecDepth 100000
open Go.RowKit Go.Proofs.YtiihafhnaiicoaaDoor.base Go.Proofs.YtiihafhnaiicoaaDoor.shP
set_option linter.unusedVariables false
set_option linter.unusedSimpArgs false
theorem dn_in (h : W5) (b : List Int) : In5 (dn h b) := addW_in _ _
theorem blks_in {l : List Int} {h : W5} (hh : In5 h) : ∀ k, In5 (blks l k h)
  | 0 => hh
  | k + 1 => dn_in _ _
theorem bd_cut {b : List Int} (hb : ∀ z ∈ b, 0 ≤ z ∧ z ≤ 255) (i n : Nat) : ∀ z ∈ (b.drop i).take n, 0 ≤ z ∧ z ≤ 255 := fun z h => hb z (List.mem_of_mem_drop (List.mem_of_mem_take h))
theorem doBlock' (h : W5) (b : List Int) (A : Option Addr) (d : Nat) (w : World) (hA : Has .u8 w A b) (hl : b.length = 64) (hd : 64 ≤ d) (hb : ∀ z ∈ b, 0 ≤ z ∧ z ≤ 255) (hh : In5 h) :
    Calls Tryd.prog 64 #[.agg #[.int .u32 h.a, .int .u32 h.b, .int .u32 h.c, .int .u32 h.d, .int .u32 h.e], .slice A 64 d] w fun e w' => e = .returned (.agg #[.int .u32 (dn h b).a, .int .u32 (dn h b).b, .int .u32 (dn h b).c, .int .u32 (dn h b).d, .int .u32 (dn h b).e]) ∧ Below w.heap.size w w' := doBlock h b A d w hA hl hd hb hh
set_option maxRecDepth 100000 in
set_option maxHeartbeats 4000000 in
theorem doBlocks (h : W5) (b : List Int) (A : Option Addr) (m d : Nat) (w : World) (hA : Has .u8 w A b) (hl : b.length = 64 * m) (hd : 64 * m ≤ d) (hm : 64 * m ≤ 1000000) (hb : ∀ z ∈ b, 0 ≤ z ∧ z ≤ 255) (hh : In5 h) :
    Calls Tryd.prog 53 #[a5 h, .slice A (64 * m) d] w fun e w' => e = .returned (a5 (blks b m h)) ∧ Below w.heap.size w w' := by
  have HA := Lib.hid hA
  have HL := Lib.hid hl
  have HB := Lib.hid hb
  have HH := Lib.hid hh
  clear hA hl hb hh
  simp only [a5, c5, l5, List.map_cons, List.map_nil]
  obtain ⟨n, hn⟩ : ∃ n, 64 * m = n := ⟨_, rfl⟩
  rw [hn] at hd hm ⊢
  have HN := Lib.hid hn
  clear hn
  have n1 : (n : Int) ≤ 1000000 := by omega
  go_enter Tryd.func53, Tryd.ntmps53
  go_wp2_with fail
  go_loopw [5] (fun i wr => ∃ t j : Nat, i = .int .i64 (t : Int) ∧ 64 * j = t ∧ j ≤ m ∧ Lies (wr) (w.heap.size) 98 (c5 (blks b j h)) ∧ Lies wr (w.heap.size + 1) 98 (c5 ⟨0, 0, 0, 0, 0⟩) ∧ Below w.heap.size w wr) (fun i _ => n - (intOf i).toNat)
  case atStart => exact ⟨0, 0, rfl, rfl, by omega, (Lies.fresh _ _ (c5 h)).alloc _, Lies.fresh_at (cs := c5 ⟨0, 0, 0, 0, 0⟩) (by simp), by (repeat' (first | (with_reducible exact Below.refl _ _) | (with_reducible assumption) | (with_reducible refine below_drewN ?_ _) | (with_reducible refine below_new ?_ _) | (with_reducible refine Below.alloc ?_ ?_ _) | (with_reducible refine Below.drew ?_) | (with_reducible refine Below.setCell ?_ ?_ _) | (with_reducible apply below_at; (case k => (with_reducible assumption)); (case hB => omega)) | (with_reducible apply below_on; (with_reducible assumption)) | (go_size; done) | (with_reducible apply size_of)))⟩
  case round =>
    obtain ⟨t, j, rfl, ht, hj, K, Z, acc⟩ := hrel
    have HK := Lib.hid K
    have HZ := Lib.hid Z
    have HACC := Lib.hid acc
    have HT := Lib.hid ht
    obtain ⟨p0, p1, p2, p3, p4⟩ := five K
    by_cases hlt : j < m
    · have t1 : (t : Int) < n := by have := HN.out; omega
      have t2 : (t : Int) + 64 ≤ n := by have := HN.out; omega
      have t3 : (t : Int) + 64 ≤ d := by have := HN.out; omega
      have t4 : (n : Int) ≤ d := by omega
      obtain ⟨B, off, rfl, hB, -⟩ := has_some HA.out (by rw [HL.out, HN.out]; omega)
      have HLT := Lib.hid hlt
      have HS : Hid (blks b (j + 1) h = dn (blks b j h) ((b.drop t).take 64)) := Lib.hid (by rw [← ht]; rfl)
      have HI := Lib.hid (blks_in (l := b) HH.out j)
      have HLN : Hid (((b.drop t).take 64).length = 64) := Lib.hid (by rw [List.length_take, List.length_drop, HL.out, HN.out]; omega)
      have HD : Hid (64 ≤ d - t) := Lib.hid (by omega)
      have zk := K.lt
      have s1 : IntKind.i64.wrap ((t : Int) + 64) = (t : Int) + 64 := IntWalk.i64_in _ (by omega)
      have s2 : ((t : Int) + 64).toNat = t + 64 := by omega
      have s3 : 0 ≤ (t : Int) + 64 := by omega
      have s4 : ¬ d = t := by omega
      have s5 : t + 64 - t = 64 := by omega
      have s6 : t ≤ t + 64 := by omega
      clear K Z acc hj hlt ht
      generalize blks b j h = v at *
      go_wp2_with fail
      go_region_law (first | (go_simp; go_at_call 64; refine (doBlock' v ((b.drop t).take 64) _ _ _ (((HA.out.below (by have := HACC.out; (repeat' (first | (with_reducible exact Below.refl _ _) | (with_reducible assumption) | (with_reducible refine below_drewN ?_ _) | (with_reducible refine below_new ?_ _) | (with_reducible refine Below.alloc ?_ ?_ _) | (with_reducible refine Below.drew ?_) | (with_reducible refine Below.setCell ?_ ?_ _) | (with_reducible apply below_at; (case k => (with_reducible assumption)); (case hB => omega)) | (with_reducible apply below_on; (with_reducible assumption)) | (go_size; done) | (with_reducible apply size_of)))) (Nat.le_refl _)).dropAt t).front 64) HLN.out HD.out (bd_cut HB.out _ _) HI.out).mono ?_; rintro e w3 ⟨rfl, hb3⟩; have k3 : Lies (w3) (w.heap.size) 98 (c5 (v)) := (HK.out.drew).past hb3; obtain ⟨x0, x1, x2, x3, x4⟩ := five k3; obtain ⟨f0, f1, f2, f3, f4⟩ := free5 k3; have lt3 := k3.lt; have HK3 := Lib.hid k3; have HB3 := Lib.hid hb3; clear k3 hb3))
      all_goals
        go_wp2_with fail
        refine ⟨⟨t + 64, j + 1, by go_num, by have := HT.out; omega, by have := HLT.out; omega, ?_, ?_, ?_⟩, ?_⟩
        · rw [HS.out]; exact lies_set5 HK3.out _
        · have hne : w.heap.size ≠ w.heap.size + 1 := by omega
          exact ((((((HZ.out.drew).past HB3.out).other hne _).other hne _).other hne _).other hne _).other hne _
        · have := HACC.out; have := HB3.out; (repeat' (first | (with_reducible exact Below.refl _ _) | (with_reducible assumption) | (with_reducible refine below_drewN ?_ _) | (with_reducible refine below_new ?_ _) | (with_reducible refine Below.alloc ?_ ?_ _) | (with_reducible refine Below.drew ?_) | (with_reducible refine Below.setCell ?_ ?_ _) | (with_reducible apply below_at; (case k => (with_reducible assumption)); (case hB => omega)) | (with_reducible apply below_on; (with_reducible assumption)) | (go_size; done) | (with_reducible apply size_of)))
        · simp [intOf]; omega
    · have e : j = m := by omega
      have tn : ¬ (t : Int) < n := by have := HN.out; omega
      have HM := Lib.hid e
      clear K Z acc hj hlt ht e
      obtain ⟨f0, f1, f2, f3, f4⟩ := free5 HZ.out
      obtain ⟨z0, z1, z2, z3, z4⟩ := five (v := ⟨0, 0, 0, 0, 0⟩) HZ.out
      have zk := HK.out.lt
      have zz := HZ.out.lt
      generalize hu : blks b j h = u at *
      have HU := Lib.hid hu
      clear hu
      go_wp2_with fail
      obtain ⟨t0, t1, t2, t3, t4⟩ := five (lies_set5 HZ.out u)
      clear p0 p1 p2 p3 p4 z0 z1 z2 z3 z4 f0 f1 f2 f3 f4
      refine bodyPost_ret (by simp [results, Tryd.results53, go_sem, t0, t1, t2, t3, t4]; try rfl) rfl ?_
      exact ⟨by rw [← HM.out, HU.out], by have := HACC.out; (repeat' (first | (with_reducible exact Below.refl _ _) | (with_reducible assumption) | (with_reducible refine below_drewN ?_ _) | (with_reducible refine below_new ?_ _) | (with_reducible refine Below.alloc ?_ ?_ _) | (with_reducible refine Below.drew ?_) | (with_reducible refine Below.setCell ?_ ?_ _) | (with_reducible apply below_at; (case k => (with_reducible assumption)); (case hB => omega)) | (with_reducible apply below_on; (with_reducible assumption)) | (go_size; done) | (with_reducible apply size_of)))⟩
end Go.Proofs.YtiihafhnaiicoaaDoor.shW

namespace Go.Proofs.YtiihafhnaiicoaaDoor.shW
set_option maxRecDepth 100000
open Go.RowKit Go.Proofs.YtiihafhnaiicoaaDoor.base Go.Proofs.YtiihafhnaiicoaaDoor.shP
set_option linter.unusedVariables false
set_option linter.unusedSimpArgs false
set_option maxRecDepth 100000 in
set_option maxHeartbeats 4000000 in
theorem padding (n : Nat) (w : World) (hn : n ≤ 20000) :
    Calls Tryd.prog 54 #[.int .i64 (n : Int)] w fun e w' => ∃ A c, e = .returned (.slice A (zerosN n + 9) c) ∧ OwnI w' w.heap.size 5 .u8 (.slice A (zerosN n + 9) c) (padL n) ∧ Below w.heap.size w w' := by
  have n1 : (n : Int) ≤ 20000 := by omega
  obtain ⟨z, hz⟩ : ∃ z, zerosN n = z := ⟨_, rfl⟩
  obtain ⟨m, hm⟩ : ∃ m, z + 9 = m := ⟨_, rfl⟩
  have z64 := zerosN_lt n
  have e1 : (119 - (n : Int) % 64) % 64 = (z : Int) := by unfold zerosN at hz; omega
  have e2 : 1 + (z : Int) = ((z + 1 : Nat) : Int) := by omega
  have e3 : ((z + 1 : Nat) : Int) + 8 = (m : Int) := by omega
  have m1 : (m : Int) ≤ 73 := by omega
  have m2 : 9 ≤ (m : Int) := by omega
  have z1 : (z : Int) ≤ 63 := by omega
  rw [hz, hm]
  have HZ := Lib.hid hz
  have HM := Lib.hid hm
  clear hz hm z64 hn
  have E9 : Hid (1 + (z : Int) + 8 = (m : Int)) := Lib.hid (by omega)
  clear e2 e3
  go_enter Tryd.func54, Tryd.ntmps54
  have HMM : Hid (m ≤ 73) := Lib.hid (by omega)
  go_wp2_with (first | (at_make; go_loud (refine make8 rfl _ _ rfl .i64 .i64 m (congrArg (Value.int IntKind.i64) E9.out) (congrArg (Value.int IntKind.i64) E9.out) (by have := HMM.out; omega) w.heap.size (Nat.le_refl _) ?_; intro wm own hbm; have hc0 := own.cell 0 (by rw [List.length_replicate]; omega); have hf0 := own.frozen 0; have lt0 := own.base_le.2; have e0 : (List.replicate m (0 : Int)).getD 0 0 = 0 := (by cases m <;> rfl); rw [e0] at hc0; have HO := Lib.hid own; have HB := Lib.hid hbm; clear own hbm e0)))
  clear hc0 hf0 lt0
  go_loopw [16] (fun i wr => ∃ k : Nat, k ≤ 8 ∧ i = .int .i64 (k : Int) ∧ OwnI wr w.heap.size 5 .u8 (.slice (some ⟨w.heap.size, 0, none⟩) m m) (pK n k) ∧ Below w.heap.size w wr) (fun i _ => 8 - (intOf i).toNat)
  case atStart =>
    refine ⟨0, by omega, rfl, ?_, by have := HB.out; (repeat' (first | (with_reducible exact Below.refl _ _) | (with_reducible assumption) | (with_reducible refine below_drewN ?_ _) | (with_reducible refine below_new ?_ _) | (with_reducible refine Below.alloc ?_ ?_ _) | (with_reducible refine Below.drew ?_) | (with_reducible refine Below.setCell ?_ ?_ _) | (with_reducible apply below_at; (case k => (with_reducible assumption)); (case hB => omega)) | (with_reducible apply below_on; (with_reducible assumption)) | (go_size; done) | (with_reducible apply size_of)))⟩
    rw [pK_0, HZ.out, HM.out]
    exact HO.out.store 0 128
  case round =>
    clear HO HB
    obtain ⟨k, hk, rfl, own, acc⟩ := hrel
    have HO := Lib.hid own
    have HACC := Lib.hid acc
    by_cases hlt : k < 8
    · obtain ⟨j, hj⟩ : ∃ j, z + 8 - k = j := ⟨_, rfl⟩
      have j1 : (m : Int) - 1 - (k : Int) = (j : Int) := by have := HM.out; omega
      have j2 : (j : Int) < m := by have := HM.out; omega
      have HJ : Hid (j = zerosN n + 8 - k) := Lib.hid (by rw [HZ.out]; omega)
      obtain ⟨old, hc0⟩ : ∃ old, wr.cell? ⟨w.heap.size, j, none⟩ = some old := ⟨_, own.cell j (by rw [pK_len, HZ.out, HM.out]; omega)⟩
      have hf0 := own.frozen j
      have lt0 := own.base_le.2
      have k0 : 0 ≤ (k : Int) := by omega
      have k1 : (k : Int) < 8 := by omega
      have s1 : 8 * (n : Int) ≤ 160000 := by omega
      have s2 : 0 ≤ 8 * (n : Int) := by omega
      have HLT := Lib.hid hlt
      clear own acc hk hlt hj
      go_wp2_with fail
      refine ⟨⟨k + 1, by have := HLT.out; omega, by go_num, ?_, by have := HACC.out; (repeat' (first | (with_reducible exact Below.refl _ _) | (with_reducible assumption) | (with_reducible refine below_drewN ?_ _) | (with_reducible refine below_new ?_ _) | (with_reducible refine Below.alloc ?_ ?_ _) | (with_reducible refine Below.drew ?_) | (with_reducible refine Below.setCell ?_ ?_ _) | (with_reducible apply below_at; (case k => (with_reducible assumption)); (case hB => omega)) | (with_reducible apply below_on; (with_reducible assumption)) | (go_size; done) | (with_reducible apply size_of)))⟩, by simp [intOf]; have := HLT.out; omega⟩
      have := HO.out.store j (8 * (n : Int) / 2 ^ (8 * k) % 256)
      rwa [pK_set n k HLT.out _ rfl j HJ.out] at this
    · have k8 : ¬ (k : Int) < 8 := by omega
      have e8 : k = 8 := by omega
      have HO' : Hid (OwnI wr w.heap.size 5 .u8 (.slice (some ⟨w.heap.size, 0, none⟩) m m) (padL n)) := Lib.hid (by rw [← pK_8, ← e8]; exact HO.out)
      clear own hk hlt e8
      go_wp2_with fail
      go_ret
      exact ⟨_, _, rfl, HO'.out, HACC.out⟩
/-- The reference's padding. -/
def qK (n k : Nat) : List Int := (padL n).take k
theorem padL_at (n k : Nat) : (padL n).getD k 0 = if k = 0 then 128 else if k < zerosN n + 1 then 0 else if k < zerosN n + 9 then (8 * (n : Int)) / 2 ^ (8 * (zerosN n + 8 - k)) % 256 else 0 := by
  rw [padL, List.getD_eq_getElem?_getD]
  rcases k with _ | k
  · rfl
  · rw [List.getElem?_cons_succ, if_neg (by omega)]
    by_cases c : k + 1 < zerosN n + 1
    · rw [if_pos c, List.getElem?_append_left (by simp; omega), List.getElem?_replicate, if_pos (by omega)]; rfl
    · rw [if_neg c, List.getElem?_append_right (by simp; omega), List.length_replicate]
      by_cases c2 : k + 1 < zerosN n + 9
      · rw [if_pos c2, len8, List.getElem?_map, List.getElem?_range (by omega)]
        show 8 * (n : Int) / 2 ^ (8 * (7 - (k - zerosN n))) % 256 = _
        rw [show 7 - (k - zerosN n) = zerosN n + 8 - (k + 1) by omega]
      · rw [if_neg c2, len8, List.getElem?_map, List.getElem?_eq_none (by simp; omega)]; rfl
theorem qK_snoc (n k : Nat) (h : k < zerosN n + 9) : qK n (k + 1) = qK n k ++ [(padL n).getD k 0] := take_snoc 0 _ k (by rw [padL_len]; exact h)
end Go.Proofs.YtiihafhnaiicoaaDoor.shW

namespace Go.Proofs.YtiihafhnaiicoaaDoor.shW
set_option maxRecDepth 100000
open Go.RowKit Go.Proofs.YtiihafhnaiicoaaDoor.base Go.Proofs.YtiihafhnaiicoaaDoor.shP
set_option linter.unusedVariables false
set_option linter.unusedSimpArgs false
theorem own_al {w : World} {B : Nat} {e : TypeId} {k : IntKind} {v : Value} {zs : List Int} (h : OwnI w B e k v zs) (o : Obj) : OwnI (w.alloc o) B e k v zs := h.below ((Below.refl _ _).alloc (Nat.le_refl _) _) (Nat.le_refl _)
theorem qK_len (n k : Nat) (h : k ≤ zerosN n + 9) : (qK n k).length = k := by simp [qK, padL_len]; omega
theorem qK_1 (n : Nat) : qK n 1 = [128] := by simp [qK, padL]
theorem qK_all (n k : Nat) (h : k = zerosN n + 9) : qK n k = padL n := by rw [qK, List.take_of_length_le]; rw [padL_len]; omega
set_option maxRecDepth 100000 in
set_option maxHeartbeats 4000000 in
theorem rPadding (n : Nat) (w : World) (hn : n ≤ 100000) :
    Calls Tryd.prog 45 #[.int .i64 (n : Int)] w fun e w' => ∃ A c, e = .returned (.slice A (zerosN n + 9) c) ∧ OwnI w' w.heap.size 5 .u8 (.slice A (zerosN n + 9) c) (padL n) ∧ Below w.heap.size w w' := by
  have n1 : (n : Int) ≤ 100000 := by omega
  obtain ⟨z, hz⟩ : ∃ z, zerosN n = z := ⟨_, rfl⟩
  have z64 := zerosN_lt n
  have z1 : (z : Int) ≤ 63 := by omega
  have HE : Hid ((119 - n % 64) % 64 = z) := Lib.hid (by rw [← hz]; rfl)
  have HZ := Lib.hid hz
  rw [hz]
  clear hz z64 hn
  go_enter Tryd.func45, Tryd.ntmps45
  go_wp2_with fail
  go_loopw [3] (fun v wr => ∃ (k : Nat) (A : Option Addr) (c : Nat), 1 ≤ k ∧ k ≤ z + 1 ∧ v = .slice A k c ∧ OwnI wr w.heap.size 5 .u8 (.slice A k c) (qK n k) ∧ Below w.heap.size w wr) (fun v _ => match v with | .slice _ k _ => z + 1 - k | _ => 0)
  case atStart =>
    refine ⟨1, _, _, by omega, by omega, rfl, ?_, by (repeat' (first | (with_reducible exact Below.refl _ _) | (with_reducible assumption) | (with_reducible refine below_drewN ?_ _) | (with_reducible refine below_new ?_ _) | (with_reducible refine Below.alloc ?_ ?_ _) | (with_reducible refine Below.drew ?_) | (with_reducible refine Below.setCell ?_ ?_ _) | (with_reducible apply below_at; (case k => (with_reducible assumption)); (case hB => omega)) | (with_reducible apply below_on; (with_reducible assumption)) | (go_size; done) | (with_reducible apply size_of)))⟩
    rw [qK_1]
    exact OwnI.lit w 5 .u8 [128] w.heap.size (Nat.le_refl _) (by simp [maxLen])
  case round =>
    obtain ⟨k, A, c, hk1, hk, rfl, own, acc⟩ := hrel
    have HO := Lib.hid own
    have HACC := Lib.hid acc
    have k1 : (k : Int) ≤ 64 := by omega
    by_cases hlt : k < z + 1
    · have t1 : ¬ ((n : Int) + (k : Int) + 8) % 64 = 0 := by have := HE.out; omega
      have HLT : Hid (1 ≤ k ∧ k < z + 1) := Lib.hid ⟨hk1, hlt⟩
      have HQ : Hid (qK n (k + 1) = qK n k ++ [0]) := Lib.hid (by rw [qK_snoc n k (by rw [HZ.out]; omega), padL_at, if_neg (by omega), if_pos (by rw [HZ.out]; omega)])
      have HQL : Hid ((qK n k).length = k) := Lib.hid (qK_len n k (by rw [HZ.out]; omega))
      clear own acc hk hk1 hlt
      go_wp2_with (at_builtin; go_loud (refine app8 rfl _ _ rfl w.heap.size _ (qK n k) rfl (own_al HO.out _) (some ⟨wr.heap.size, 0, none⟩) 1 1 [0] rfl rfl (has_lit (zs := [0]) rfl (by simp [maxLen])) (k + 1) (by rw [HQL.out]) (by omega) (by have := HACC.out.size; simp; omega) ?_; intro A2 c2 w2 own2 gr2 bel2; have HO2 := Lib.hid own2; have HB2 := Lib.hid bel2; clear own2 gr2 bel2))
      refine ⟨⟨k + 1, A2, c2, by omega, by have := HLT.out; omega, rfl, by rw [HQ.out]; exact HO2.out, ?_⟩, by have := HLT.out; show z + 1 - (k + 1) < z + 1 - k; omega⟩
      have := HACC.out
      have := HB2.out
      (repeat' (first | (with_reducible exact Below.refl _ _) | (with_reducible assumption) | (with_reducible refine below_drewN ?_ _) | (with_reducible refine below_new ?_ _) | (with_reducible refine Below.alloc ?_ ?_ _) | (with_reducible refine Below.drew ?_) | (with_reducible refine Below.setCell ?_ ?_ _) | (with_reducible apply below_at; (case k => (with_reducible assumption)); (case hB => omega)) | (with_reducible apply below_on; (with_reducible assumption)) | (go_size; done) | (with_reducible apply size_of)))
    · have t1 : ((n : Int) + (k : Int) + 8) % 64 = 0 := by have := HE.out; omega
      have HK := Lib.hid (show k = z + 1 by omega)
      clear own acc hk hk1 hlt
      go_wp2_with fail
      go_loopw [3, 4] (fun v i wr => ∃ (q j : Nat) (A : Option Addr) (c : Nat), j ≤ 8 ∧ q = z + 9 - j ∧ i = .int .i64 ((j : Int) - 1) ∧ v = .slice A q c ∧ OwnI wr w.heap.size 5 .u8 (.slice A q c) (qK n q) ∧ Below w.heap.size w wr) (fun _ i _ => (intOf i + 1).toNat)
      case atStart => exact ⟨k, 8, A, c, by omega, by have := HK.out; omega, rfl, rfl, HO.out, HACC.out⟩
      case round =>
        clear HO HACC t1 k1 HK
        obtain ⟨q, j, A2, c2, hj, hq, rfl, rfl, own, acc⟩ := hrel
        have HO := Lib.hid own
        have HACC := Lib.hid acc
        have q1 : (q : Int) ≤ 72 := by omega
        rcases j with _ | j
        · have HQ := Lib.hid (show q = z + 9 by omega)
          clear own acc hj hq
          go_wp2_with fail
          go_ret
          exact ⟨A2, c2, by rw [← HQ.out]; rfl, by rw [← qK_all n q (by rw [HZ.out, HQ.out]), ← HQ.out]; exact HO.out, HACC.out⟩
        · have e1 : ((j + 1 : Nat) : Int) - 1 = (j : Int) := by omega
          rw [e1]
          have HQ : Hid (qK n (q + 1) = qK n q ++ [8 * (n : Int) / 2 ^ (8 * j) % 256]) := Lib.hid (by
            rw [qK_snoc n q (by rw [HZ.out]; omega), padL_at, if_neg (by omega), if_neg (by rw [HZ.out]; omega), if_pos (by rw [HZ.out]; omega), show zerosN n + 8 - q = j by rw [HZ.out]; omega])
          have HQL : Hid ((qK n q).length = q) := Lib.hid (qK_len n q (by rw [HZ.out]; omega))
          have HJ : Hid (j + 1 ≤ 8 ∧ q = z + 9 - (j + 1)) := Lib.hid ⟨hj, hq⟩
          have j8 : (j : Int) < 8 := by omega
          have j0 : 0 ≤ (j : Int) := by omega
          have s1 : 8 * (n : Int) ≤ 800000 := by omega
          have s2 : 0 ≤ 8 * (n : Int) := by omega
          clear own acc hj hq e1
          go_wp2_with (at_builtin; go_loud (refine app8 rfl _ _ rfl w.heap.size _ (qK n q) rfl (own_al HO.out _) (some ⟨wr.heap.size, 0, none⟩) 1 1 [8 * (n : Int) / 2 ^ (8 * j) % 256] rfl rfl (has_lit (zs := [_]) rfl (by simp [maxLen])) (q + 1) (by rw [HQL.out]) (by omega) (by have := HACC.out.size; simp; omega) ?_; intro A3 c3 w2 own2 gr2 bel2; have HO2 := Lib.hid own2; have HB2 := Lib.hid bel2; clear own2 gr2 bel2))
          refine ⟨⟨q + 1, j, A3, c3, by have := HJ.out; omega, by have := HJ.out; omega, rfl, rfl, by rw [HQ.out]; exact HO2.out, ?_⟩, by simp [intOf]; try omega⟩
          have := HACC.out
          have := HB2.out
          (repeat' (first | (with_reducible exact Below.refl _ _) | (with_reducible assumption) | (with_reducible refine below_drewN ?_ _) | (with_reducible refine below_new ?_ _) | (with_reducible refine Below.alloc ?_ ?_ _) | (with_reducible refine Below.drew ?_) | (with_reducible refine Below.setCell ?_ ?_ _) | (with_reducible apply below_at; (case k => (with_reducible assumption)); (case hB => omega)) | (with_reducible apply below_on; (with_reducible assumption)) | (go_size; done) | (with_reducible apply size_of)))
end Go.Proofs.YtiihafhnaiicoaaDoor.shW

namespace Go.Proofs.YtiihafhnaiicoaaDoor.shW
set_option maxRecDepth 100000
open Go.RowKit Go.Proofs.YtiihafhnaiicoaaDoor.base Go.Proofs.YtiihafhnaiicoaaDoor.shP
set_option linter.unusedVariables false
set_option linter.unusedSimpArgs false
def wl (h : W5) : List Int := wbytes h
theorem wbytes_len (h : W5) : (wbytes h).length = 20 := rfl
theorem wbytes_at (h : W5) (i : Nat) (hi : i < 20) : (wbytes h).getD i 0 = (l5 h).getD (i / 4) 0 / 2 ^ (24 - 8 * (i % 4)) % 256 := by
  rcases (show i = 0 ∨ i = 1 ∨ i = 2 ∨ i = 3 ∨ i = 4 ∨ i = 5 ∨ i = 6 ∨ i = 7 ∨ i = 8 ∨ i = 9 ∨ i = 10 ∨ i = 11 ∨ i = 12 ∨ i = 13 ∨ i = 14 ∨ i = 15 ∨ i = 16 ∨ i = 17 ∨ i = 18 ∨ i = 19 by omega) with rfl | rfl | rfl | rfl | rfl | rfl | rfl | rfl | rfl | rfl | rfl | rfl | rfl | rfl | rfl | rfl | rfl | rfl | rfl | rfl <;> (first | rfl | simp [wbytes, l5])
/-- The digest's cells, the first k told. -/
def bc (h : W5) (k : Nat) : List Value := fill (.int .u8 0) ((wbytes h).map (Value.int .u8)) k
theorem bc_len (h : W5) {k : Nat} (hk : k ≤ 20) : (bc h k).length = 20 := by rw [bc, fill_len (by simp [wbytes_len]; omega)]; simp [wbytes_len]
theorem bc_set (h : W5) {k : Nat} (hk : k < 20) (x : Int) (hx : x = (wbytes h).getD k 0) : (bc h k).set k (.int .u8 x) = bc h (k + 1) := by
  have e := fill_set (z := Value.int .u8 0) (l := (wbytes h).map (Value.int .u8)) (k := k) (by simp [wbytes_len]; omega) (.int .u8 0)
  have e2 : ((wbytes h).map (Value.int .u8)).getD k (.int .u8 0) = .int .u8 x := by
    have h2 : k < (wbytes h).length := by rw [wbytes_len]; omega
    rw [hx, List.getD_eq_getElem?_getD, List.getElem?_map, List.getD_eq_getElem?_getD, List.getElem?_eq_getElem h2]; rfl
  rw [e2] at e
  exact e
/-- A digest as an array. -/
def darr (l : List Int) : Array Value := (l.map (Value.int .u8)).toArray
def z20 : List Value := List.replicate 20 (.int .u8 0)
theorem bc_0 (h : W5) : bc h 0 = z20 := by rw [bc, fill_zero]; rfl
theorem bc_20 (h : W5) (k : Nat) (hk : k = 20) : (bc h k).toArray = darr (wbytes h) := by subst hk; rw [bc, fill_all (by simp [wbytes_len])]; rfl
theorem dsize (h : W5) : (darr (wbytes h)).size = 20 := rfl
theorem done1 (h : W5) : ∀ v ∈ (darr (wbytes h)).toList, v.oneCell' = true := by
  intro v hv
  simp only [darr, List.mem_map] at hv
  obtain ⟨i, _, rfl⟩ := hv
  rfl
theorem info20 (h : W5) : (Tryd.prog.info? 52).map (·.size) = some (darr (wbytes h)).size := by rw [dsize]; kernel_rfl
set_option maxRecDepth 100000 in
set_option maxHeartbeats 4000000 in
theorem wordBytes (h : W5) (w : World) (hh : In5 h) : Calls Tryd.prog 55 #[a5 h] w fun e w' => e = .returned (.agg (darr (wbytes h))) ∧ Below w.heap.size w w' := by
  have hl : ∀ i, i < 5 → 0 ≤ (l5 h).getD i 0 ∧ (l5 h).getD i 0 ≤ 4294967295 := by
    intro i hi
    obtain ⟨h1, h2, h3, h4, h5⟩ := hh
    rcases (show i = 0 ∨ i = 1 ∨ i = 2 ∨ i = 3 ∨ i = 4 by omega) with rfl | rfl | rfl | rfl | rfl <;> assumption
  have HLB := Lib.hid hl
  have HH := Lib.hid hh
  clear hl hh
  simp only [a5, c5, l5, List.map_cons, List.map_nil]
  go_enter Tryd.func55, Tryd.ntmps55
  go_wp2_with fail
  go_loopw [5] (fun i wr => ∃ k : Nat, k ≤ 20 ∧ i = .int .i64 k ∧ Lies (wr) (w.heap.size) 98 (c5 (h)) ∧ Lies wr (w.heap.size + 1) 52 z20 ∧ Lies wr (w.heap.size + 1 + 1) 52 (bc h k) ∧ Below w.heap.size w wr) (fun i _ => 20 - (intOf i).toNat)
  case atStart =>
    refine ⟨0, by omega, rfl, ((Lies.fresh _ _ (c5 h)).alloc _).alloc _, ?_, ?_, by (repeat' (first | (with_reducible exact Below.refl _ _) | (with_reducible assumption) | (with_reducible refine below_drewN ?_ _) | (with_reducible refine below_new ?_ _) | (with_reducible refine Below.alloc ?_ ?_ _) | (with_reducible refine Below.drew ?_) | (with_reducible refine Below.setCell ?_ ?_ _) | (with_reducible apply below_at; (case k => (with_reducible assumption)); (case hB => omega)) | (with_reducible apply below_on; (with_reducible assumption)) | (go_size; done) | (with_reducible apply size_of)))⟩
    · exact (Lies.fresh_at (cs := z20) (by simp)).alloc _
    · rw [bc_0]; exact Lies.fresh_at (cs := z20) (by simp)
  case round =>
    obtain ⟨k, hk, rfl, R, Z, D, acc⟩ := hrel
    have HR := Lib.hid R
    have HZ := Lib.hid Z
    have HD := Lib.hid D
    have HACC := Lib.hid acc
    by_cases hlt : k < 20
    · have p0 : wr.cell? ⟨w.heap.size, k / 4, none⟩ = some (.int .u32 ((l5 h).getD (k / 4) 0)) := by rw [R.cell, c5, List.getElem?_map, l5_get h (k / 4) (by omega)]; rfl
      obtain ⟨x1, x2⟩ := HLB.out (k / 4) (by omega)
      have p2 := D.free k
      obtain ⟨old, q0⟩ : ∃ old, wr.cell? ⟨w.heap.size + 1 + 1, k, none⟩ = some old := ⟨_, (D.cell k).trans (List.getElem?_eq_getElem (by rw [bc_len h (by omega)]; omega))⟩
      have zk := D.lt
      have HX := Lib.hid (wbytes_at h k hlt)
      have HLT := Lib.hid hlt
      have k0 : 0 ≤ (k : Int) := by omega
      have k1 : (k : Int) < 20 := by omega
      have n1 : (k : Int) / 4 < 5 := by omega
      have n0 : 0 ≤ (k : Int) / 4 := by omega
      have n2 : ((k : Int) / 4).toNat = k / 4 := by omega
      have m1 : (24 - 8 * ((k : Int) % 4)).toNat = 24 - 8 * (k % 4) := by omega
      have m2 : 0 ≤ 24 - 8 * ((k : Int) % 4) := by omega
      have m3 : 24 - 8 * ((k : Int) % 4) ≤ 24 := by omega
      clear R Z D acc hk hlt
      generalize (l5 h).getD (k / 4) 0 = x at *
      go_wp2_with fail
      refine ⟨⟨k + 1, by have := HLT.out; omega, by go_num, HR.out.other (by show w.heap.size + 1 + 1 ≠ w.heap.size; omega) _, HZ.out.other (by show w.heap.size + 1 + 1 ≠ w.heap.size + 1; omega) _, ?_, by have := HACC.out; (repeat' (first | (with_reducible exact Below.refl _ _) | (with_reducible assumption) | (with_reducible refine below_drewN ?_ _) | (with_reducible refine below_new ?_ _) | (with_reducible refine Below.alloc ?_ ?_ _) | (with_reducible refine Below.drew ?_) | (with_reducible refine Below.setCell ?_ ?_ _) | (with_reducible apply below_at; (case k => (with_reducible assumption)); (case hB => omega)) | (with_reducible apply below_on; (with_reducible assumption)) | (go_size; done) | (with_reducible apply size_of)))⟩, by simp [intOf]; have := HLT.out; omega⟩
      have := HD.out.set k (.int .u8 (x / 2 ^ (24 - 8 * (k % 4)) % 256))
      rwa [bc_set h HLT.out _ HX.out.symm] at this
    · have k20 : ¬ (k : Int) < 20 := by omega
      have HD' : Hid (wr.heap[w.heap.size + 1 + 1]? = some (.cells (darr (wbytes h)) 52 (0, 0))) := Lib.hid (by rw [← bc_20 h k (by omega)]; exact HD.out)
      have HP := Lib.hid (done1 h)
      clear R Z D acc hk hlt HD
      go_upto_region 7 with fail
      go_step
      refine wpList_load_row (P := Tryd.prog) rfl 52 (.tmp 3) rfl (w.heap.size + 1 + 1) rfl 52 (darr (wbytes h)) (0, 0) _ HD'.out Tryd.underlying52 rfl (info20 h) ?_
      refine wpList_store_arr (P := Tryd.prog) rfl 52 (.tmp 2) (.tmp 21) rfl (w.heap.size + 1) rfl (darr (wbytes h)) rfl 52 _ HZ.out rfl HP.out (info20 h) ?_
      intro w9 hR9 hb9 hz9
      go_wp2_with fail
      refine bodyPost_ret (results_cell_row (P := Tryd.prog) Tryd.results55 _ _ _ _ _ _ _ rfl hR9 Tryd.underlying52 rfl (info20 h)) rfl ⟨rfl, ?_⟩
      exact HACC.out.trans (hb9.mono (by omega))
end Go.Proofs.YtiihafhnaiicoaaDoor.shW

namespace Go.Proofs.YtiihafhnaiicoaaDoor.shW
set_option maxRecDepth 100000
open Go.RowKit Go.Proofs.YtiihafhnaiicoaaDoor.base Go.Proofs.YtiihafhnaiicoaaDoor.shP
set_option linter.unusedVariables false
set_option linter.unusedSimpArgs false
def rows5 : List Int := [1732584193, 4023233417, 2562383102, 271733878, 3285377520]
/-- The variable's cells hold the first words. -/
def Tab (w : World) : Prop := 1 < w.heap.size ∧ ∀ i, i < 5 → w.cell? ⟨1, i, none⟩ = some (.int .u32 (rows5.getD i 0))
theorem Tab.below {w w' : World} {B : Nat} (h : Tab w) (hb : Below B w w') (hB : w.heap.size ≤ B) : Tab w' :=
  ⟨Nat.lt_of_lt_of_le h.1 hb.size, fun i hi => by rw [hb.cell (p := ⟨1, i, none⟩) (Nat.lt_of_lt_of_le h.1 hB)]; exact h.2 i hi⟩
theorem first_in : In5 first := by unfold In5 first; simp
/-- make([]byte, 0, n). -/
theorem make8_room {w : World} {ops : Array Oper} {rest : List Oper} {o : Oper} {a : Act} {Q : Exit → Act → World → Prop} (hg : o.guard = none) (l c : Operand) (hop : o.op = Op.makeSlice 35 l c)
    (kl kc : IntKind) (n : Nat) (hl : a.eval l = .int kl 0) (hc : a.eval c = .int kc (n : Int)) (hn : n ≤ 140737488355328) (base : Nat) (hbase : base ≤ w.heap.size)
    (h : ∀ w', OwnI w' base 5 .u8 (.slice (some ⟨w.heap.size, 0, none⟩) 0 n) [] → Below w.heap.size w w' → wpList Tryd.prog ops Q rest (a.put o.dst (.slice (some ⟨w.heap.size, 0, none⟩) 0 n)) w') : wpList Tryd.prog ops Q (o :: rest) a w := by
  obtain ⟨i, hi, hz, h1, h2⟩ := info8
  refine wpList_make_own w hg l c _ hop base 5 i (.int .u8 0) 1 Tryd.underlying35 hi hz h1 kl kc (n : Int) n hl hc rfl (by rw [h2]; omega) (by simp only [maxLen]; omega) hbase fun w' hown hgr => h w' hown ?_
  exact (Below.refl _ _).grown hgr (Nat.le_refl _) (by simp)
theorem doBlocks' (h : W5) (b : List Int) (A : Option Addr) (m n d : Nat) (w : World) (hn : 64 * m = n) (hA : Has .u8 w A b) (hl : b.length = n) (hd : n ≤ d) (hm : n ≤ 1000000) (hb : ∀ z ∈ b, 0 ≤ z ∧ z ≤ 255) (hh : In5 h) :
    Calls Tryd.prog 53 #[.agg #[.int .u32 h.a, .int .u32 h.b, .int .u32 h.c, .int .u32 h.d, .int .u32 h.e], .slice A n d] w fun e w' => e = .returned (.agg #[.int .u32 (blks b m h).a, .int .u32 (blks b m h).b, .int .u32 (blks b m h).c, .int .u32 (blks b m h).d, .int .u32 (blks b m h).e]) ∧ Below w.heap.size w w' := by
  subst hn
  exact doBlocks h b A m d w hA hl hd hm hb hh
theorem doBlocksF (b : List Int) (A : Option Addr) (m n d : Nat) (w : World) (hn : 64 * m = n) (hA : Has .u8 w A b) (hl : b.length = n) (hd : n ≤ d) (hm : n ≤ 1000000) (hb : ∀ z ∈ b, 0 ≤ z ∧ z ≤ 255) :
    Calls Tryd.prog 53 #[.agg #[.int .u32 1732584193, .int .u32 4023233417, .int .u32 2562383102, .int .u32 271733878, .int .u32 3285377520], .slice A n d] w fun e w' => e = .returned (.agg #[.int .u32 (blks b m first).a, .int .u32 (blks b m first).b, .int .u32 (blks b m first).c, .int .u32 (blks b m first).d, .int .u32 (blks b m first).e]) ∧ Below w.heap.size w w' := doBlocks' first b A m n d w hn hA hl hd hm hb first_in
theorem bd_take {b : List Int} (hb : ∀ z ∈ b, 0 ≤ z ∧ z ≤ 255) (n : Nat) : ∀ z ∈ b.take n, 0 ≤ z ∧ z ≤ 255 := fun z h => hb z (List.mem_of_mem_take h)
theorem z20_new (w : World) {g : Nat} (hg : w.heap.size = g) : Lies (w.alloc (.cells #[.int .u8 0, .int .u8 0, .int .u8 0, .int .u8 0, .int .u8 0, .int .u8 0, .int .u8 0, .int .u8 0, .int .u8 0, .int .u8 0, .int .u8 0, .int .u8 0, .int .u8 0, .int .u8 0, .int .u8 0, .int .u8 0, .int .u8 0, .int .u8 0, .int .u8 0, .int .u8 0] 52)) g 52 z20 := Lies.fresh_at (cs := z20) hg
theorem wordBytes' (h : W5) (w : World) (hh : In5 h) : Calls Tryd.prog 55 #[.agg #[.int .u32 h.a, .int .u32 h.b, .int .u32 h.c, .int .u32 h.d, .int .u32 h.e]] w fun e w' => e = .returned (.agg (darr (wbytes h))) ∧ Below w.heap.size w w' := wordBytes h w hh
set_option maxRecDepth 100000 in
set_option maxHeartbeats 4000000 in
theorem digest_any (b : List Int) (A : Option Addr) (n d : Nat) (w : World) (hT : Tab w) (hA : Has .u8 w A b) (hl : b.length = n) (hd : n ≤ d) (hn : n ≤ 20000) (hb : ∀ z ∈ b, 0 ≤ z ∧ z ≤ 255) :
    Calls Tryd.prog 42 #[.slice A n d] w fun e w' => e = .returned (.agg (darr (digest b))) ∧ Below w.heap.size w w' := by
  have n1 : (n : Int) ≤ 20000 := by omega
  have HTB := Lib.hid hT
  have HA := Lib.hid hA
  have HL := Lib.hid hl
  have HB := Lib.hid hb
  have HD := Lib.hid hd
  obtain ⟨m, hm⟩ : ∃ m, 64 * m = n - n % 64 := ⟨n / 64, by omega⟩
  obtain ⟨q, hq⟩ : ∃ q, 64 * m = q := ⟨_, rfl⟩
  have HQ := Lib.hid hq
  have HM : Hid (q = n - n % 64) := Lib.hid (by omega)
  have q1 : (n : Int) - (n : Int) % 64 = (q : Int) := by omega
  have q2 : (q : Int) ≤ n := by omega
  have q3 : (n : Int) ≤ d := by omega
  have q4 : (q : Int) ≤ d := by omega
  have q5 : 0 ≤ (q : Int) := by omega
  clear hT hA hl hb hm hq hd hn
  go_enter Tryd.func42, Tryd.ntmps42
  go_upto_region 2 with fail
  have HZ0 := Lib.hid (z20_new w rfl)
  generalize hw0 : w.alloc (.cells #[.int .u8 0, .int .u8 0, .int .u8 0, .int .u8 0, .int .u8 0, .int .u8 0, .int .u8 0, .int .u8 0, .int .u8 0, .int .u8 0, .int .u8 0, .int .u8 0, .int .u8 0, .int .u8 0, .int .u8 0, .int .u8 0, .int .u8 0, .int .u8 0, .int .u8 0, .int .u8 0] 52) = w0 at *
  have HB0 : Hid (Below w.heap.size w w0) := Lib.hid (by rw [← hw0]; exact (Below.refl _ _).alloc (Nat.le_refl _) _)
  have hT0 : Tab w0 := HTB.out.below HB0.out (Nat.le_refl _)
  have g0 := hT0.2 0 (by omega)
  have g1 := hT0.2 1 (by omega)
  have g2 := hT0.2 2 (by omega)
  have g3 := hT0.2 3 (by omega)
  have g4 := hT0.2 4 (by omega)
  simp only [rows5, List.getD_cons_zero, List.getD_cons_succ] at g0 g1 g2 g3 g4
  have gl := hT0.1
  have hs0 : w0.heap.size = w.heap.size + 1 := by rw [← hw0]; simp
  have HS0 := Lib.hid hs0
  clear hw0 hT0 hs0
  go_cut [4] (fun s wx => ∃ g : Nat, s = .pointer (some ⟨g, 0, none⟩) ∧ Lies (wx) (g) 98 (c5 (blks (b.take q) m first)) ∧ Lies wx w.heap.size 52 z20 ∧ Below w.heap.size w wx)
  case first =>
    go_region_law (first | (go_simp; go_at_call 53; refine (doBlocksF (b.take q) A m q d _ HQ.out ((HA.out.below (by have := HB0.out; (repeat' (first | (with_reducible exact Below.refl _ _) | (with_reducible assumption) | (with_reducible refine below_drewN ?_ _) | (with_reducible refine below_new ?_ _) | (with_reducible refine Below.alloc ?_ ?_ _) | (with_reducible refine Below.drew ?_) | (with_reducible refine Below.setCell ?_ ?_ _) | (with_reducible apply below_at; (case k => (with_reducible assumption)); (case hB => omega)) | (with_reducible apply below_on; (with_reducible assumption)) | (go_size; done) | (with_reducible apply size_of)))) (Nat.le_refl _)).front q) (by rw [List.length_take, HL.out]; omega) (by omega) (by omega) (bd_take HB.out q)).mono ?_; rintro e w1 ⟨rfl, hb1⟩; first | (refine lay (P := Lies w1 w0.heap.size 98 [.int .u32 0, .int .u32 0, .int .u32 0, .int .u32 0, .int .u32 0]) ?_ ?_; (focus ((repeat' (first | (with_reducible assumption) | (with_reducible exact Lies.fresh _ _ _) | (with_reducible apply Lies.fresh_at; (first | (with_reducible rfl) | (simp; done))) | (with_reducible refine Lies.drew ?_) | (with_reducible refine Lies.drewN ?_ _) | (with_reducible refine Lies.alloc ?_ _) | (with_reducible apply Lies.past; case hb => (with_reducible assumption)) | (with_reducible apply Lies.keeps; (case k => (with_reducible assumption)); (case ht => decide)) | (with_reducible apply Lies.store3) | (with_reducible apply Lies.other; case hp => (first | omega | (simp; done) | (simp; omega))))); done)); intro L9; obtain ⟨b0, b1, b2, b3, b4⟩ := five (v := ⟨0, 0, 0, 0, 0⟩) L9; obtain ⟨f0, f1, f2, f3, f4⟩ := free5 L9; have lb := L9.lt; have HL9 := Lib.hid L9; clear L9) | skip))
    all_goals
      clear g0 g1 g2 g3 g4 gl
      go_wp2_with fail
      go_meet
    · exact ⟨w1.heap.size, rfl, Lies.fresh _ _ (c5 _), by have := HZ0.out; (repeat' (first | (with_reducible assumption) | (with_reducible exact Lies.fresh _ _ _) | (with_reducible apply Lies.fresh_at; (first | (with_reducible rfl) | (simp; done))) | (with_reducible refine Lies.drew ?_) | (with_reducible refine Lies.drewN ?_ _) | (with_reducible refine Lies.alloc ?_ _) | (with_reducible apply Lies.past; case hb => (with_reducible assumption)) | (with_reducible apply Lies.keeps; (case k => (with_reducible assumption)); (case ht => decide)) | (with_reducible apply Lies.store3) | (with_reducible apply Lies.other; case hp => (first | omega | (simp; done) | (simp; omega))))), by have := HB0.out; (repeat' (first | (with_reducible exact Below.refl _ _) | (with_reducible assumption) | (with_reducible refine below_drewN ?_ _) | (with_reducible refine below_new ?_ _) | (with_reducible refine Below.alloc ?_ ?_ _) | (with_reducible refine Below.drew ?_) | (with_reducible refine Below.setCell ?_ ?_ _) | (with_reducible apply below_at; (case k => (with_reducible assumption)); (case hB => omega)) | (with_reducible apply below_on; (with_reducible assumption)) | (go_size; done) | (with_reducible apply size_of)))⟩
    all_goals
      have hs0 := HS0.out
      exact ⟨w0.heap.size, rfl, lies_set5 (v := ⟨0, 0, 0, 0, 0⟩) HL9.out _, by have := HZ0.out; (repeat' (first | (with_reducible assumption) | (with_reducible exact Lies.fresh _ _ _) | (with_reducible apply Lies.fresh_at; (first | (with_reducible rfl) | (simp; done))) | (with_reducible refine Lies.drew ?_) | (with_reducible refine Lies.drewN ?_ _) | (with_reducible refine Lies.alloc ?_ _) | (with_reducible apply Lies.past; case hb => (with_reducible assumption)) | (with_reducible apply Lies.keeps; (case k => (with_reducible assumption)); (case ht => decide)) | (with_reducible apply Lies.store3) | (with_reducible apply Lies.other; case hp => (first | omega | (simp; done) | (simp; omega))))), by have := HB0.out; have hle : w.heap.size ≤ w0.heap.size := (by omega); (repeat' (first | (with_reducible exact Below.refl _ _) | (with_reducible assumption) | (with_reducible refine below_drewN ?_ _) | (with_reducible refine below_new ?_ _) | (with_reducible refine Below.alloc ?_ ?_ _) | (with_reducible refine Below.drew ?_) | (with_reducible refine Below.setCell ?_ ?_ _) | (with_reducible apply below_at; (case k => (with_reducible assumption)); (case hB => omega)) | (with_reducible apply below_on; (with_reducible assumption)) | (go_size; done) | (with_reducible apply size_of)))⟩
  case rest =>
    obtain ⟨g, rfl, K, Z, acc⟩ := hcut
    rename World => w2
    have HK := Lib.hid K
    have HZ := Lib.hid Z
    have HACC := Lib.hid acc
    have HI := Lib.hid (blks_in (l := b.take q) first_in m)
    obtain ⟨k, hk, hk2⟩ := rest_64 n
    have HKK := Lib.hid hk
    have HK2 := Lib.hid hk2
    obtain ⟨r, hr⟩ : ∃ r, n - q = r := ⟨_, rfl⟩
    have HR : Hid (r = n % 64) := Lib.hid (by have := HM.out; omega)
    have r63 : (r : Int) ≤ 63 := by have := HR.out; omega
    have HRL : Hid ((b.drop q).length = r) := Lib.hid (by rw [List.length_drop, HL.out]; omega)
    have HDQ : Hid (n ≤ d ∧ q ≤ n) := Lib.hid (by omega)
    obtain ⟨D, hD⟩ : ∃ D : Option Addr, (if d = q then A else A.map (·.add q)) = D := ⟨_, rfl⟩
    have HBP : Hid (∀ z ∈ b.drop q ++ padL n, 0 ≤ z ∧ z ≤ 255) := Lib.hid (fun z hz => by
      rcases List.mem_append.1 hz with h | h
      · exact HB.out z (List.mem_of_mem_drop h)
      · exact padL_bd n z h)
    have HHD : Hid (Has .u8 w D (b.drop q)) := Lib.hid (by rw [← hD]; exact HA.out.cut (by rw [HL.out]; omega) (by rw [HL.out]; omega))
    clear K Z acc hk hk2 g0 g1 g2 g3 g4 gl HB0 HZ0 HS0
    generalize hv : blks (b.take q) m first = v at *
    have HV := Lib.hid hv
    clear hv
    go_wp2_with (first | (at_make; go_loud (refine make8_room rfl _ _ rfl .i64 .i64 128 rfl rfl (by omega) w2.heap.size (Nat.le_refl _) ?_; intro w3 own3 hb3; have HO3 := Lib.hid own3; have HB3 := Lib.hid hb3; clear own3 hb3)) | (at_builtin; refine app8 rfl (.tmp 18) (.tmp 21) rfl w2.heap.size _ [] rfl HO3.out D r (d - q) (b.drop q) rfl HRL.out (HHD.out.below (by have := HACC.out; have := HB3.out; (repeat' (first | (with_reducible exact Below.refl _ _) | (with_reducible assumption) | (with_reducible refine below_drewN ?_ _) | (with_reducible refine below_new ?_ _) | (with_reducible refine Below.alloc ?_ ?_ _) | (with_reducible refine Below.drew ?_) | (with_reducible refine Below.setCell ?_ ?_ _) | (with_reducible apply below_at; (case k => (with_reducible assumption)); (case hB => omega)) | (with_reducible apply below_on; (with_reducible assumption)) | (go_size; done) | (with_reducible apply size_of)))) (Nat.le_refl _)) r (by simp) (by omega) HB3.out.size ?_; intro A4 c4 w4 own4 gr4 bel4; rw [List.nil_append] at own4; have HO4 := Lib.hid own4; have HB4 := Lib.hid bel4; clear own4 gr4 bel4))
    clear hD
    refine (padding n _ (by omega)).mono ?_
    rintro e w5 ⟨A5, c5', rfl, own5, bel5⟩
    have HO5 := Lib.hid own5
    have HB5 := Lib.hid bel5
    have HO4 := Lib.hid (HO4.out.below bel5 (Nat.le_refl _))
    clear own5 bel5
    rename_i KX hKX
    refine hKX _ _ ?_
    go_wp2_with (at_builtin; go_loud (refine app8 rfl (.tmp 23) (.tmp 26) rfl w2.heap.size _ (b.drop q) rfl HO4.out A5 (zerosN n + 9) c5' (padL n) rfl (padL_len n) HO5.out.has (64 * k) (by rw [HRL.out, HR.out]; exact HKK.out) (by have := HKK.out; have := zerosN_lt n; have := HR.out; omega) (by have := HB3.out.size; have := HB4.out.size; have := HB5.out.size; omega) ?_; intro A6 c6 w6 own6 gr6 bel6; have HO6 := Lib.hid own6; have HB6 := Lib.hid bel6; clear own6 gr6 bel6; have HK6 := Lib.hid ((((HK.out.past HB3.out).below HB4.out (Nat.lt_of_lt_of_le HK.out.lt (Nat.le_refl _))).past HB5.out).below HB6.out HK.out.lt); have HZ6 := Lib.hid ((((HZ.out.past HB3.out).below HB4.out HZ.out.lt).past HB5.out).below HB6.out HZ.out.lt); have HACC6 := Lib.hid (show Below w.heap.size w w6 by have h0 := HACC.out; have h3 := HB3.out; have h4 := HB4.out; have h5 := HB5.out; have h6 := HB6.out; have hle := h0.size; (repeat' (first | (with_reducible exact Below.refl _ _) | (with_reducible assumption) | (with_reducible refine below_drewN ?_ _) | (with_reducible refine below_new ?_ _) | (with_reducible refine Below.alloc ?_ ?_ _) | (with_reducible refine Below.drew ?_) | (with_reducible refine Below.setCell ?_ ?_ _) | (with_reducible apply below_at; (case k => (with_reducible assumption)); (case hB => omega)) | (with_reducible apply below_on; (with_reducible assumption)) | (go_size; done) | (with_reducible apply size_of)))); obtain ⟨p0, p1, p2, p3, p4⟩ := five HK6.out; have lt6 := HK6.out.lt))

    refine (doBlocks' v (b.drop q ++ padL n) A6 k (64 * k) c6 _ rfl HO6.out.has (by rw [List.length_append, HRL.out, padL_len, HR.out]; exact HKK.out) (by have := HO6.out.val; obtain ⟨_, _, e, _, hle⟩ := this; injection e with e1 e2 e3; omega) (by have := HK2.out; omega) (HBP.out) HI.out).mono ?_
    rintro e w7 ⟨rfl, hb7⟩
    have HI7 := Lib.hid (blks_in (l := b.drop q ++ padL n) HI.out k)
    generalize hv7 : blks (b.drop q ++ padL n) k v = v7 at *
    have HV7 := Lib.hid hv7
    have HB7 := Lib.hid hb7
    clear hv7 hb7
    go_wp2_with fail
    refine (wordBytes' v7 _ HI7.out).mono ?_
    rintro e w8 ⟨rfl, hb8⟩
    have HB8 := Lib.hid hb8
    have HZ8 := Lib.hid ((HZ6.out.past HB7.out).past hb8)
    have HP := Lib.hid (done1 v7)
    clear hb8
    go_wp2_with (show wpList _ _ _ ({ dst := none, op := Op.store 52 _ _, type := _, pos := _, after := _, guard := none } :: _) _ _; go_must (refine wpList_store_arr (P := Tryd.prog) rfl 52 (.tmp 2) (.tmp 31) rfl w.heap.size ?c4 (darr (wbytes v7)) ?c0 52 _ HZ8.out rfl HP.out (info20 v7) ?_); (case c4 => rfl); (case c0 => rfl); intro w9 hR9 hb9 hz9)
    refine bodyPost_ret (results_cell_row (P := Tryd.prog) Tryd.results42 _ _ _ _ _ _ _ rfl hR9 Tryd.underlying52 rfl (info20 v7)) rfl ⟨?_, ?_⟩
    · have hdc := digest_cut b m (by rw [HL.out]; have := HQ.out; have := HM.out; omega)
      rw [HL.out, HQ.out, HV.out, padL_len, show (n % 64 + (zerosN n + 9)) / 64 = k by have := HKK.out; omega, HV7.out] at hdc
      rw [hdc]
    · have h6 := HACC6.out
      have h7 := HB7.out
      have h8 := HB8.out
      exact ((h6.trans (h7.mono h6.size)).trans (h8.mono (Nat.le_trans h6.size h7.size))).trans hb9
end Go.Proofs.YtiihafhnaiicoaaDoor.shW

namespace Go.Proofs.YtiihafhnaiicoaaDoor.shW
set_option maxRecDepth 100000
open Go.RowKit Go.Proofs.YtiihafhnaiicoaaDoor.base Go.Proofs.YtiihafhnaiicoaaDoor.shP
set_option linter.unusedVariables false
set_option linter.unusedSimpArgs false
theorem results_cell_tmp {P : Program} {fn : Func} {p t : Tmp} {ty : TypeId} (h : fn.results = #[.cell p ty, .tmp t]) (tmps : Array Value) (w : World) (g : Nat) (T : TypeId) (cs : Array Value) (fr : Nat × Nat) (d : TypeDesc)
    (hp : tmps.getD p undef = .pointer (some ⟨g, 0, none⟩)) (hg : w.heap[g]? = some (.cells cs T fr))
    (hu : P.underlying ty = some d) (hd : (match d with | .struct _ | .array _ _ => true | _ => false) = true) (hi : (P.info? ty).map (·.size) = some cs.size) :
    (results fn tmps).run P w = .ok (.tuple #[.agg cs, tmps.getD t undef]) w := by
  have hp' : tmps[p]?.getD undef = .pointer (some ⟨g, 0, none⟩) := by simpa using hp
  simp [results, h, hp', asAddr, run_loadVar_row w g T ty cs fr d hg hu hd hi]
def zd : List Int := List.replicate 20 0
def sumE (b : List Int) : Int := if b.length ≤ 20000 then 0 else 4
def sumV (b : List Int) : List Int := if b.length ≤ 20000 then digest b else zd
theorem z20_arr : z20.toArray = darr zd := rfl
theorem info20z : (Tryd.prog.info? 52).map (·.size) = some (darr zd).size := by kernel_rfl
theorem zd_one : ∀ u ∈ (darr zd).toList, u.oneCell' = true := by
  intro u hu
  simp only [darr, List.mem_map] at hu
  obtain ⟨i, _, rfl⟩ := hu
  rfl
theorem dg_form (b : List Int) : ∃ v : W5, digest b = wbytes v := ⟨_, rfl⟩
set_option maxRecDepth 100000 in
set_option maxHeartbeats 4000000 in
theorem Sum_any (b : List Int) (A : Option Addr) (n d : Nat) (w : World) (hT : Tab w) (hA : Has .u8 w A b) (hl : b.length = n) (hd : n ≤ d) (hm : n ≤ 9223372036854775807) (hb : ∀ z ∈ b, 0 ≤ z ∧ z ≤ 255) :
    Calls Tryd.prog 30 #[.slice A n d] w fun e w' => e = .returned (.tuple #[.agg (darr (sumV b)), .int .i64 (sumE b)]) ∧ Below w.heap.size w w' := by
  have n9 : (n : Int) ≤ 9223372036854775807 := by omega
  have HTB := Lib.hid hT
  have HA := Lib.hid hA
  have HL := Lib.hid hl
  have HB := Lib.hid hb
  have HD := Lib.hid hd
  have HZ0 := Lib.hid (z20_new w rfl)
  by_cases h : (n : Int) ≤ 20000
  · have HV : Hid (sumE b = 0 ∧ sumV b = digest b) := Lib.hid ⟨by rw [sumE, if_pos (by omega)], by rw [sumV, if_pos (by omega)]⟩
    have HN : Hid (n ≤ 20000) := Lib.hid (by omega)
    obtain ⟨v, hv⟩ := dg_form b
    have HVV := Lib.hid hv
    have HP := Lib.hid (done1 v)
    clear hT hA hl hb hd hm hv
    go_enter Tryd.func30, Tryd.ntmps30
    go_wp2_with fail
    refine (digest_any b A n d _ (HTB.out.below ((Below.refl _ _).alloc (Nat.le_refl _) _) (Nat.le_refl _)) (HA.out.below ((Below.refl _ _).alloc (Nat.le_refl _) _) (Nat.le_refl _)) HL.out HD.out HN.out HB.out).mono ?_
    rintro e w1 ⟨rfl, hb1⟩
    rw [HVV.out]
    have HZ1 := Lib.hid (HZ0.out.past hb1)
    have HB1 : Hid (Below w.heap.size w w1) := Lib.hid (by (repeat' (first | (with_reducible exact Below.refl _ _) | (with_reducible assumption) | (with_reducible refine below_drewN ?_ _) | (with_reducible refine below_new ?_ _) | (with_reducible refine Below.alloc ?_ ?_ _) | (with_reducible refine Below.drew ?_) | (with_reducible refine Below.setCell ?_ ?_ _) | (with_reducible apply below_at; (case k => (with_reducible assumption)); (case hB => omega)) | (with_reducible apply below_on; (with_reducible assumption)) | (go_size; done) | (with_reducible apply size_of))))
    clear hb1
    go_wp2_with (show wpList _ _ _ ({ dst := none, op := Op.store 52 _ _, type := _, pos := _, after := _, guard := none } :: _) _ _; go_must (refine wpList_store_arr (P := Tryd.prog) rfl 52 (.tmp 2) (.tmp 9) rfl w.heap.size ?c4 (darr (wbytes v)) ?c0 52 _ HZ1.out rfl HP.out (info20 v) ?_); (case c4 => rfl); (case c0 => rfl); intro w9 hR9 hb9 hz9)
    refine bodyPost_ret (results_cell_tmp (P := Tryd.prog) Tryd.results30 _ _ _ _ _ _ _ rfl hR9 Tryd.underlying52 rfl (info20 v)) rfl ⟨?_, ?_⟩
    · rw [HV.out.1, HV.out.2, HVV.out]; rfl
    · have := HB1.out; exact this.trans hb9
  · have HV : Hid (sumE b = 4 ∧ sumV b = zd) := Lib.hid ⟨by rw [sumE, if_neg (by omega)], by rw [sumV, if_neg (by omega)]⟩
    clear hT hA hl hb hd hm
    go_enter Tryd.func30, Tryd.ntmps30
    have HP := Lib.hid zd_one
    go_wp2_with (show wpList _ _ _ ({ dst := none, op := Op.store 52 _ _, type := _, pos := _, after := _, guard := none } :: _) _ _; go_must (refine wpList_store_arr (P := Tryd.prog) rfl 52 (.tmp 2) (.tmp 7) rfl w.heap.size ?c4 (darr zd) ?c0 52 _ HZ0.out rfl HP.out info20z ?_); (case c4 => rfl); (case c0 => rfl); intro w9 hR9 hb9 hz9)
    refine bodyPost_ret (results_cell_tmp (P := Tryd.prog) Tryd.results30 _ _ _ _ _ _ _ rfl hR9 Tryd.underlying52 rfl info20z) rfl ⟨?_, ?_⟩
    · rw [HV.out.1, HV.out.2]; rfl
    · exact Below.trans (by (repeat' (first | (with_reducible exact Below.refl _ _) | (with_reducible assumption) | (with_reducible refine below_drewN ?_ _) | (with_reducible refine below_new ?_ _) | (with_reducible refine Below.alloc ?_ ?_ _) | (with_reducible refine Below.drew ?_) | (with_reducible refine Below.setCell ?_ ?_ _) | (with_reducible apply below_at; (case k => (with_reducible assumption)); (case hB => omega)) | (with_reducible apply below_on; (with_reducible assumption)) | (go_size; done) | (with_reducible apply size_of)))) hb9
end Go.Proofs.YtiihafhnaiicoaaDoor.shW

namespace Go.Proofs.YtiihafhnaiicoaaDoor.shW
set_option maxRecDepth 100000
open Go.RowKit Go.Proofs.YtiihafhnaiicoaaDoor.base Go.Proofs.YtiihafhnaiicoaaDoor.shP
set_option linter.unusedVariables false
set_option linter.unusedSimpArgs false
theorem own_alU {w : World} {B : Nat} {e : TypeId} {k : IntKind} {v : Value} {zs : List Int} (h : OwnI w B e k v zs) (o : Obj) : OwnI (w.alloc o) B e k v zs := h.below ((Below.refl _ _).alloc (Nat.le_refl _) _) (Nat.le_refl _)
theorem own_drU {w : World} {B : Nat} {e : TypeId} {k : IntKind} {v : Value} {zs : List Int} (h : OwnI w B e k v zs) : OwnI w.drew B e k v zs := h
theorem own_drNU {w : World} {B : Nat} {e : TypeId} {k : IntKind} {v : Value} {zs : List Int} (h : OwnI w B e k v zs) (n : Nat) : OwnI (w.drewN n) B e k v zs := h
def cellOr (w : World) (g i : Nat) : Value := (w.cell? ⟨g, i, none⟩).getD undef
theorem cellOr_of {w : World} {g i : Nat} {v : Value} (h : w.cell? ⟨g, i, none⟩ = some v) : w.cell? ⟨g, i, none⟩ = some (cellOr w g i) := by unfold cellOr; rw [h]; rfl
theorem cellOr_val {w : World} {g i : Nat} {v : Value} (h : w.cell? ⟨g, i, none⟩ = some v) : cellOr w g i = v := by unfold cellOr; rw [h]; rfl
theorem cellOr_drew (w : World) (g i : Nat) : cellOr w.drew g i = cellOr w g i := rfl
theorem cellOr_drewN (w : World) (n g i : Nat) : cellOr (w.drewN n) g i = cellOr w g i := rfl
theorem or_val {w : World} {g : Nat} {v : W5} (h : Lies (w) (g) 98 (c5 (v))) : cellOr w g 0 = .int .u32 v.a ∧ cellOr w g 1 = .int .u32 v.b ∧ cellOr w g 2 = .int .u32 v.c ∧ cellOr w g 3 = .int .u32 v.d ∧ cellOr w g 4 = .int .u32 v.e := by
  obtain ⟨h0, h1, h2, h3, h4⟩ := five h
  exact ⟨cellOr_val h0, cellOr_val h1, cellOr_val h2, cellOr_val h3, cellOr_val h4⟩
theorem five_or {w : World} {g : Nat} {t : TypeId} {a b c d e : Value} (h : Lies w g t [a, b, c, d, e]) : (w.cell? ⟨g, 0, none⟩ = some (cellOr w g 0) ∧ w.cell? ⟨g, 1, none⟩ = some (cellOr w g 1) ∧ w.cell? ⟨g, 2, none⟩ = some (cellOr w g 2) ∧ w.cell? ⟨g, 3, none⟩ = some (cellOr w g 3) ∧ w.cell? ⟨g, 4, none⟩ = some (cellOr w g 4)) ∧ (w.frozen? ⟨g, 0, none⟩ = false ∧ w.frozen? ⟨g, 1, none⟩ = false ∧ w.frozen? ⟨g, 2, none⟩ = false ∧ w.frozen? ⟨g, 3, none⟩ = false ∧ w.frozen? ⟨g, 4, none⟩ = false) :=
  ⟨⟨cellOr_of (h.cell 0), cellOr_of (h.cell 1), cellOr_of (h.cell 2), cellOr_of (h.cell 3), cellOr_of (h.cell 4)⟩, free5 h⟩
attribute [irreducible] cellOr
theorem lies_set5v {w : World} {g : Nat} {t : TypeId} {x0 x1 x2 x3 x4 a b c d e : Value} (h : Lies w g t [x0, x1, x2, x3, x4]) : Lies (((((w.setCell ⟨g, 0, none⟩ a).setCell ⟨g, 1, none⟩ b).setCell ⟨g, 2, none⟩ c).setCell ⟨g, 3, none⟩ d).setCell ⟨g, 4, none⟩ e) g t [a, b, c, d, e] := ((((h.set 0 a).set 1 b).set 2 c).set 3 d).set 4 e
def AtC (w : World) (g t : Nat) (v : Value) : Prop := w.cell? ⟨g, t, none⟩ = some v
theorem AtC.drew {w : World} {g t : Nat} {v : Value} (h : AtC w g t v) : AtC w.drew g t v := h
theorem AtC.drewN {w : World} {g t : Nat} {v : Value} (h : AtC w g t v) (n : Nat) : AtC (w.drewN n) g t v := h
theorem AtC.set {w : World} {g g' t i : Nat} {v x : Value} (h : AtC w g t v) (hne : g' ≠ g) : AtC (w.setCell ⟨g', i, none⟩ x) g t v := by
  unfold AtC
  rw [World.cell?_setCell_far _ _ _ _ hne]
  exact h
theorem L5of {w : World} {g : Nat} {a b c d e : Int} (h : Lies (w) (g) 98 (c5 (⟨a, b, c, d, e⟩))) : Lies w g 98 [.int .u32 a, .int .u32 b, .int .u32 c, .int .u32 d, .int .u32 e] := h
set_option maxRecDepth 100000 in
set_option maxHeartbeats 4000000 in
theorem rDone (h : W5) (b : List Int) (A : Option Addr) (d : Nat) (w : World) (hA : Has .u8 w A b) (hl : b.length = 64) (hd : 64 ≤ d) (hb : ∀ z ∈ b, 0 ≤ z ∧ z ≤ 255) (hh : In5 h) :
    Calls Tryd.prog 47 #[a5 h, .slice A 64 d] w fun e w' => e = .returned (a5 (dn h b)) ∧ Below w.heap.size w w' := by
  obtain ⟨B, off, rfl, hB, hc⟩ := has_some hA (by omega)
  have HC := Lib.hid hc
  have HL := Lib.hid hl
  have HBD := Lib.hid hb
  have HH := Lib.hid hh
  clear hA hl hb hh hc
  simp only [a5, c5, l5, List.map_cons, List.map_nil]
  go_enter Tryd.func47, Tryd.ntmps47
  go_wp2_with fail
  go_loopw [5, 6] (fun v i wr => ∃ (k : Nat) (A : Option Addr) (c : Nat), k ≤ 16 ∧ i = .int .i64 k ∧ v = .slice A k c ∧ OwnI wr (w.heap.size + 2) 97 .u32 (.slice A k c) (sch b k) ∧ Lies (wr) (w.heap.size) 98 (c5 (h)) ∧ Lies (wr) (w.heap.size + 1) 98 (c5 (⟨0, 0, 0, 0, 0⟩)) ∧ Below w.heap.size w wr) (fun _ i _ => 16 - (intOf i).toNat)
  case atStart => exact ⟨0, none, 0, by omega, rfl, rfl, OwnI.nil _ _ _ _, (Lies.fresh _ _ (c5 h)).alloc _, Lies.fresh_at (cs := c5 ⟨0, 0, 0, 0, 0⟩) (by simp), by (repeat' (first | (with_reducible exact Below.refl _ _) | (with_reducible assumption) | (with_reducible refine below_drewN ?_ _) | (with_reducible refine below_new ?_ _) | (with_reducible refine Below.alloc ?_ ?_ _) | (with_reducible refine Below.drew ?_) | (with_reducible refine Below.setCell ?_ ?_ _) | (with_reducible apply below_at; (case k => (with_reducible assumption)); (case hB => omega)) | (with_reducible apply below_on; (with_reducible assumption)) | (go_size; done) | (with_reducible apply size_of)))⟩
  case round =>
    obtain ⟨k, A, c, hk, rfl, rfl, own, R, Z, acc⟩ := hrel
    have HO := Lib.hid own
    have HR := Lib.hid R
    have HZ := Lib.hid Z
    have HACC := Lib.hid acc
    by_cases hlt : k < 16
    · obtain ⟨c0, c1, c2, c3⟩ := four_cells HC.out HL.out hlt
      rw [← acc.cell (p := ⟨B, _, none⟩) hB] at c0 c1 c2 c3
      obtain ⟨e0, f0⟩ := getD_bd HBD.out (4 * k)
      obtain ⟨e1, f1⟩ := getD_bd HBD.out (4 * k + 1)
      obtain ⟨e2, f2⟩ := getD_bd HBD.out (4 * k + 2)
      obtain ⟨e3, f3⟩ := getD_bd HBD.out (4 * k + 3)
      have hcc : ∀ W : World, Below w.heap.size w W → W.cell? ⟨B, off + 4 * k, none⟩ = some (.int .u8 (b.getD (4 * k) 0)) ∧ W.cell? ⟨B, off + (4 * k + 1), none⟩ = some (.int .u8 (b.getD (4 * k + 1) 0)) ∧ W.cell? ⟨B, off + (4 * k + 2), none⟩ = some (.int .u8 (b.getD (4 * k + 2) 0)) ∧ W.cell? ⟨B, off + (4 * k + 3), none⟩ = some (.int .u8 (b.getD (4 * k + 3) 0)) := fun W hW => by
        obtain ⟨c0, c1, c2, c3⟩ := four_cells HC.out HL.out hlt
        exact ⟨(hW.cell (p := ⟨B, _, none⟩) hB).trans c0, (hW.cell (p := ⟨B, _, none⟩) hB).trans c1, (hW.cell (p := ⟨B, _, none⟩) hB).trans c2, (hW.cell (p := ⟨B, _, none⟩) hB).trans c3⟩
      have HW : Hid (sch b (k + 1) = sch b k ++ [((b.getD (4 * k) 0 * 256 + b.getD (4 * k + 1) 0) * 256 + b.getD (4 * k + 2) 0) * 256 + b.getD (4 * k + 3) 0]) := Lib.hid (by rw [sch, if_pos hlt]; rfl)
      have HSL := Lib.hid (sch_len b k)
      have HLT := Lib.hid hlt
      have k1 : (k : Int) < 16 := by omega
      have k0 : 0 ≤ (k : Int) := by omega
      have HSZ : Hid (w.heap.size + 2 ≤ wr.heap.size) := Lib.hid (by have := Z.lt; omega)
      clear own R Z acc hk hlt
      generalize b.getD (4 * k) 0 = y0 at *
      generalize b.getD (4 * k + 1) 0 = y1 at *
      generalize b.getD (4 * k + 2) 0 = y2 at *
      generalize b.getD (4 * k + 3) 0 = y3 at *
      have HCC := Lib.hid hcc
      clear hcc
      have m0 : IntKind.i64.wrap (4 * (k : Int)) = 4 * (k : Int) := IntWalk.i64_in _ (by omega)
      have m1 : IntKind.i64.wrap (4 * (k : Int) + 1) = 4 * (k : Int) + 1 := IntWalk.i64_in _ (by omega)
      have m2 : IntKind.i64.wrap (4 * (k : Int) + 2) = 4 * (k : Int) + 2 := IntWalk.i64_in _ (by omega)
      have m3 : IntKind.i64.wrap (4 * (k : Int) + 3) = 4 * (k : Int) + 3 := IntWalk.i64_in _ (by omega)
      have n0 : (4 * (k : Int)).toNat = 4 * k := by omega
      have n1 : (4 * (k : Int) + 1).toNat = 4 * k + 1 := by omega
      have n2 : (4 * (k : Int) + 2).toNat = 4 * k + 2 := by omega
      have n3 : (4 * (k : Int) + 3).toNat = 4 * k + 3 := by omega
      have o0 : 0 ≤ 4 * (k : Int) := by omega
      have o1 : 0 ≤ 4 * (k : Int) + 1 := by omega
      have o2 : 0 ≤ 4 * (k : Int) + 2 := by omega
      have o3 : 0 ≤ 4 * (k : Int) + 3 := by omega
      have p0 : 4 * (k : Int) < 64 := by omega
      have p1 : 4 * (k : Int) + 1 < 64 := by omega
      have p2 : 4 * (k : Int) + 2 < 64 := by omega
      have p3 : 4 * (k : Int) + 3 < 64 := by omega
      have r0 : IntKind.u32.wrap y0 = y0 := by rw [IntKind.wrap_u32]; omega
      have r1 : IntKind.u32.wrap y1 = y1 := by rw [IntKind.wrap_u32]; omega
      have r2 : IntKind.u32.wrap y2 = y2 := by rw [IntKind.wrap_u32]; omega
      have r3 : IntKind.u32.wrap y3 = y3 := by rw [IntKind.wrap_u32]; omega
      have s0 : IntKind.u32.wrap (y0 * 256) = y0 * 256 := by rw [IntKind.wrap_u32]; omega
      have s1 : IntKind.u32.wrap (y0 * 256 + y1) = y0 * 256 + y1 := by rw [IntKind.wrap_u32]; omega
      have s2 : IntKind.u32.wrap ((y0 * 256 + y1) * 256) = (y0 * 256 + y1) * 256 := by rw [IntKind.wrap_u32]; omega
      have s3 : IntKind.u32.wrap ((y0 * 256 + y1) * 256 + y2) = (y0 * 256 + y1) * 256 + y2 := by rw [IntKind.wrap_u32]; omega
      have s4 : IntKind.u32.wrap (((y0 * 256 + y1) * 256 + y2) * 256) = ((y0 * 256 + y1) * 256 + y2) * 256 := by rw [IntKind.wrap_u32]; omega
      have s5 : IntKind.u32.wrap (((y0 * 256 + y1) * 256 + y2) * 256 + y3) = ((y0 * 256 + y1) * 256 + y2) * 256 + y3 := by rw [IntKind.wrap_u32]; omega
      go_wp2_with fail
      go_region_held3 (fun x' => x'.cell? ⟨B, off + 4 * k, none⟩ = some (.int .u8 y0) ∧ x'.cell? ⟨B, off + (4 * k + 1), none⟩ = some (.int .u8 y1) ∧ x'.cell? ⟨B, off + (4 * k + 2), none⟩ = some (.int .u8 y2) ∧ x'.cell? ⟨B, off + (4 * k + 3), none⟩ = some (.int .u8 y3))
        ((exact HCC.out _ (by have := HACC.out; (repeat' (first | (with_reducible exact Below.refl _ _) | (with_reducible assumption) | (with_reducible refine below_drewN ?_ _) | (with_reducible refine below_new ?_ _) | (with_reducible refine Below.alloc ?_ ?_ _) | (with_reducible refine Below.drew ?_) | (with_reducible refine Below.setCell ?_ ?_ _) | (with_reducible apply below_at; (case k => (with_reducible assumption)); (case hB => omega)) | (with_reducible apply below_on; (with_reducible assumption)) | (go_size; done) | (with_reducible apply size_of))))))
        (first | (refine step_appU (by rfl) _ _ (by rfl) (w.heap.size + 2) _ (sch b k) (by rfl) (by first | exact own_drU (own_alU HO.out _) | exact own_alU (own_drU HO.out) _) _ 1 1 [((y0 * 256 + y1) * 256 + y2) * 256 + y3] (by rfl) (by rfl) (by exact has_lit (zs := [_]) (by first | rfl | simp) (by simp [maxLen])) (k + 1) (by rw [HSL.out]) (by omega) (by have := HSZ.out; simp; omega) ?_; intro A2 c2 w2 own2 gr2 bel2; have HO2 := Lib.hid own2; clear own2 gr2))
      go_wp2_with fail
      refine ⟨⟨k + 1, A2, c2, by have := HLT.out; omega, by go_num, rfl, by rw [HW.out]; exact HO2.out, ?_, ?_, ?_⟩, by simp [intOf]; have := HLT.out; omega⟩
      · exact Lies.below (by first | exact ((HR.out.alloc _).drew) | exact ((HR.out.drew).alloc _)) bel2 (by omega)
      · exact Lies.below (by first | exact ((HZ.out.alloc _).drew) | exact ((HZ.out.drew).alloc _)) bel2 (by omega)
      · have := HACC.out; (repeat' (first | (with_reducible exact Below.refl _ _) | (with_reducible assumption) | (with_reducible refine below_drewN ?_ _) | (with_reducible refine below_new ?_ _) | (with_reducible refine Below.alloc ?_ ?_ _) | (with_reducible refine Below.drew ?_) | (with_reducible refine Below.setCell ?_ ?_ _) | (with_reducible apply below_at; (case k => (with_reducible assumption)); (case hB => omega)) | (with_reducible apply below_on; (with_reducible assumption)) | (go_size; done) | (with_reducible apply size_of)))
    · have HK := Lib.hid (show k = 16 by omega)
      have k16 : ¬ (k : Int) < 16 := by omega
      clear own R Z acc hk hlt
      go_wp2_with fail
      go_loopw [5, 7] (fun v i wr => ∃ (k g c : Nat), 16 ≤ k ∧ k ≤ 80 ∧ i = .int .i64 k ∧ v = .slice (some ⟨g, 0, none⟩) k c ∧ OwnI wr (w.heap.size + 2) 97 .u32 (.slice (some ⟨g, 0, none⟩) k c) (sch b k) ∧ Lies (wr) (w.heap.size) 98 (c5 (h)) ∧ Lies (wr) (w.heap.size + 1) 98 (c5 (⟨0, 0, 0, 0, 0⟩)) ∧ Below w.heap.size w wr) (fun _ i _ => 80 - (intOf i).toNat)
      case atStart =>
        obtain ⟨g, hg, -, -, -⟩ := HO.out.form (by intro e; have e2 := congrArg List.length e; rw [sch_len, HK.out] at e2; cases e2)
        refine ⟨16, g, c, by omega, by omega, rfl, by rw [hg, HK.out], ?_, HR.out, HZ.out, HACC.out⟩
        rw [← hg, ← HK.out]; exact HO.out
      case round =>
        clear HO HR HZ HACC k16 HK
        obtain ⟨k, g, c, hk1, hk, rfl, rfl, own, R, Z, acc⟩ := hrel
        have HO := Lib.hid own
        have HR := Lib.hid R
        have HZ := Lib.hid Z
        have HACC := Lib.hid acc
        by_cases hlt : k < 80
        · have hcc : ∀ i, i < k → wr.cell? ⟨g, i, none⟩ = some (.int .u32 ((sch b k).getD i 0)) := fun i hi => own.cell i (by rw [sch_len]; exact hi)
          have c3 := hcc (k - 3) (by omega)
          have c8 := hcc (k - 8) (by omega)
          have c14 := hcc (k - 14) (by omega)
          have c16 := hcc (k - 16) (by omega)
          have HW : Hid (sch b (k + 1) = sch b k ++ [rot (bits .xor .u32 (bits .xor .u32 (bits .xor .u32 ((sch b k).getD (k - 3) 0) ((sch b k).getD (k - 8) 0)) ((sch b k).getD (k - 14) 0)) ((sch b k).getD (k - 16) 0)) 1]) := Lib.hid (by rw [sch, if_neg (by omega)]; rfl)
          have HSL := Lib.hid (sch_len b k)
          have HLT : Hid (16 ≤ k ∧ k < 80) := Lib.hid ⟨hk1, hlt⟩
          have HSZ : Hid (w.heap.size + 2 ≤ wr.heap.size) := Lib.hid (by have := Z.lt; omega)
          have n3 : ((k : Int) - 3).toNat = k - 3 := by omega
          have n8 : ((k : Int) - 8).toNat = k - 8 := by omega
          have n14 : ((k : Int) - 14).toNat = k - 14 := by omega
          have n16 : ((k : Int) - 16).toNat = k - 16 := by omega
          have m3 : IntKind.i64.wrap ((k : Int) - 3) = (k : Int) - 3 := IntWalk.i64_in _ (by omega)
          have m8 : IntKind.i64.wrap ((k : Int) - 8) = (k : Int) - 8 := IntWalk.i64_in _ (by omega)
          have m14 : IntKind.i64.wrap ((k : Int) - 14) = (k : Int) - 14 := IntWalk.i64_in _ (by omega)
          have m16 : IntKind.i64.wrap ((k : Int) - 16) = (k : Int) - 16 := IntWalk.i64_in _ (by omega)
          have o3 : 3 ≤ (k : Int) := by omega
          have o8 : 8 ≤ (k : Int) := by omega
          have o14 : 14 ≤ (k : Int) := by omega
          have o16 : 16 ≤ (k : Int) := by omega
          have o3' : 0 ≤ (k : Int) - 3 := by omega
          have o8' : 0 ≤ (k : Int) - 8 := by omega
          have o14' : 0 ≤ (k : Int) - 14 := by omega
          have o16' : 0 ≤ (k : Int) - 16 := by omega
          have p3 : (k : Int) - 3 < k := by omega
          have p8 : (k : Int) - 8 < k := by omega
          have p14 : (k : Int) - 14 < k := by omega
          have p16 : (k : Int) - 16 < k := by omega
          have t0 : 0 ≤ (k : Int) := by omega
          have t1 : (k : Int) < 80 := by omega
          clear own R Z acc hk hk1 hlt hcc
          generalize (sch b k).getD (k - 3) 0 = y0 at *
          generalize (sch b k).getD (k - 8) 0 = y1 at *
          generalize (sch b k).getD (k - 14) 0 = y2 at *
          generalize (sch b k).getD (k - 16) 0 = y3 at *
          go_wp2_with fail
          (have RD := drawn_roads (S := fun x' => x'.cell? ⟨g, k - 3, none⟩ = some (.int .u32 y0) ∧ x'.cell? ⟨g, k - 8, none⟩ = some (.int .u32 y1) ∧ x'.cell? ⟨g, k - 14, none⟩ = some (.int .u32 y2) ∧ x'.cell? ⟨g, k - 16, none⟩ = some (.int .u32 y3)) (fun _ _ h => h)); refine region_ordT 26 _ Drawn RD ⟨c3, c8, c14, c16⟩ (by kernel_rfl) (by decide) ?_; intro ops Q' hops hPQ hN; (have HNS : Hid (Region.noSelect ops = true ∧ Region.sinkB .any ops 26 = true ∧ Region.chainB .any ops 26 = true ∧ 26 < ops.size) := Lib.hid (by rw [hops]; exact ⟨by kernel_rfl, by kernel_rfl, by kernel_rfl, by decide⟩)); (have hsz : ops.size = 28 := (by rw [hops]; rfl)); have HOP := Lib.hid hops; have HPQ := Lib.hid hPQ; have HN := Lib.hid hN; rw [hsz]; clear hops hsz hPQ hN
          refine ordT_take RD 0 (at_list (by rw [HOP.out]; rfl)) HNS.out HPQ.out (by rw [HOP.out]; kernel_rfl) (by rw [HOP.out]; kernel_rfl) (by rw [HOP.out]; rfl) (fun K hK => ?_); apply Exists.intro; refine ⟨fun W hSW => ?_, hK _ ?_⟩; (focus ((try dsimp only at hSW); go_simp; try with_reducible rfl)); clear hK K; (try simp only [Act.put, List.setIfInBounds_toArray, List.set_cons_zero, List.set_cons_succ])
          refine ordT_take RD 1 (at_list (by rw [HOP.out]; rfl)) HNS.out HPQ.out (by rw [HOP.out]; kernel_rfl) (by rw [HOP.out]; kernel_rfl) (by rw [HOP.out]; rfl) (fun K hK => ?_); apply Exists.intro; refine ⟨fun W hSW => ?_, hK _ ?_⟩; (focus ((try dsimp only at hSW); go_simp; try with_reducible rfl)); clear hK K; (try simp only [Act.put, List.setIfInBounds_toArray, List.set_cons_zero, List.set_cons_succ])
          refine ordT_take RD 2 (at_list (by rw [HOP.out]; rfl)) HNS.out HPQ.out (by rw [HOP.out]; kernel_rfl) (by rw [HOP.out]; kernel_rfl) (by rw [HOP.out]; rfl) (fun K hK => ?_); apply Exists.intro; refine ⟨fun W hSW => ?_, hK _ ?_⟩; (focus ((try dsimp only at hSW); go_simp; try with_reducible rfl)); clear hK K; (try simp only [Act.put, List.setIfInBounds_toArray, List.set_cons_zero, List.set_cons_succ])
          refine ordT_take RD 3 (at_list (by rw [HOP.out]; rfl)) HNS.out HPQ.out (by rw [HOP.out]; kernel_rfl) (by rw [HOP.out]; kernel_rfl) (by rw [HOP.out]; rfl) (fun K hK => ?_); apply Exists.intro; refine ⟨fun W hSW => ?_, hK _ ?_⟩; (focus ((try dsimp only at hSW); go_simp; try with_reducible rfl)); clear hK K; (try simp only [Act.put, List.setIfInBounds_toArray, List.set_cons_zero, List.set_cons_succ])
          refine ordT_take RD 4 (at_list (by rw [HOP.out]; rfl)) HNS.out HPQ.out (by rw [HOP.out]; kernel_rfl) (by rw [HOP.out]; kernel_rfl) (by rw [HOP.out]; rfl) (fun K hK => ?_); apply Exists.intro; refine ⟨fun W hSW => ?_, hK _ ?_⟩; (focus ((try dsimp only at hSW); go_simp; try with_reducible rfl)); clear hK K; (try simp only [Act.put, List.setIfInBounds_toArray, List.set_cons_zero, List.set_cons_succ])
          refine ordT_take RD 5 (at_list (by rw [HOP.out]; rfl)) HNS.out HPQ.out (by rw [HOP.out]; kernel_rfl) (by rw [HOP.out]; kernel_rfl) (by rw [HOP.out]; rfl) (fun K hK => ?_); apply Exists.intro; refine ⟨fun W hSW => ?_, hK _ ?_⟩; (focus ((try dsimp only at hSW); go_simp; try with_reducible rfl)); clear hK K; (try simp only [Act.put, List.setIfInBounds_toArray, List.set_cons_zero, List.set_cons_succ])
          refine ordT_take RD 6 (at_list (by rw [HOP.out]; rfl)) HNS.out HPQ.out (by rw [HOP.out]; kernel_rfl) (by rw [HOP.out]; kernel_rfl) (by rw [HOP.out]; rfl) (fun K hK => ?_); apply Exists.intro; refine ⟨fun W hSW => ?_, hK _ ?_⟩; (focus ((try dsimp only at hSW); go_simp; try with_reducible rfl)); clear hK K; (try simp only [Act.put, List.setIfInBounds_toArray, List.set_cons_zero, List.set_cons_succ])
          refine ordT_take RD 7 (at_list (by rw [HOP.out]; rfl)) HNS.out HPQ.out (by rw [HOP.out]; kernel_rfl) (by rw [HOP.out]; kernel_rfl) (by rw [HOP.out]; rfl) (fun K hK => ?_); apply Exists.intro; refine ⟨fun W hSW => ?_, hK _ ?_⟩; (focus ((try dsimp only at hSW); go_simp; try with_reducible rfl)); clear hK K; (try simp only [Act.put, List.setIfInBounds_toArray, List.set_cons_zero, List.set_cons_succ])
          refine ordT_take RD 8 (at_list (by rw [HOP.out]; rfl)) HNS.out HPQ.out (by rw [HOP.out]; kernel_rfl) (by rw [HOP.out]; kernel_rfl) (by rw [HOP.out]; rfl) (fun K hK => ?_); apply Exists.intro; refine ⟨fun W hSW => ?_, hK _ ?_⟩; (focus ((try dsimp only at hSW); go_simp; try with_reducible rfl)); clear hK K; (try simp only [Act.put, List.setIfInBounds_toArray, List.set_cons_zero, List.set_cons_succ])
          refine ordT_take RD 9 (at_list (by rw [HOP.out]; rfl)) HNS.out HPQ.out (by rw [HOP.out]; kernel_rfl) (by rw [HOP.out]; kernel_rfl) (by rw [HOP.out]; rfl) (fun K hK => ?_); apply Exists.intro; refine ⟨fun W hSW => ?_, hK _ ?_⟩; (focus ((try dsimp only at hSW); go_simp; try with_reducible rfl)); clear hK K; (try simp only [Act.put, List.setIfInBounds_toArray, List.set_cons_zero, List.set_cons_succ])
          refine ordT_take RD 10 (at_list (by rw [HOP.out]; rfl)) HNS.out HPQ.out (by rw [HOP.out]; kernel_rfl) (by rw [HOP.out]; kernel_rfl) (by rw [HOP.out]; rfl) (fun K hK => ?_); apply Exists.intro; refine ⟨fun W hSW => ?_, hK _ ?_⟩; (focus ((try dsimp only at hSW); go_simp; try with_reducible rfl)); clear hK K; (try simp only [Act.put, List.setIfInBounds_toArray, List.set_cons_zero, List.set_cons_succ])
          refine ordT_take RD 11 (at_list (by rw [HOP.out]; rfl)) HNS.out HPQ.out (by rw [HOP.out]; kernel_rfl) (by rw [HOP.out]; kernel_rfl) (by rw [HOP.out]; rfl) (fun K hK => ?_); apply Exists.intro; refine ⟨fun W hSW => ?_, hK _ ?_⟩; (focus ((try dsimp only at hSW); go_simp; try with_reducible rfl)); clear hK K; (try simp only [Act.put, List.setIfInBounds_toArray, List.set_cons_zero, List.set_cons_succ])
          refine ordT_take RD 12 (at_list (by rw [HOP.out]; rfl)) HNS.out HPQ.out (by rw [HOP.out]; kernel_rfl) (by rw [HOP.out]; kernel_rfl) (by rw [HOP.out]; rfl) (fun K hK => ?_); apply Exists.intro; refine ⟨fun W hSW => ?_, hK _ ?_⟩; (focus ((try dsimp only at hSW); go_simp; try with_reducible rfl)); clear hK K; (try simp only [Act.put, List.setIfInBounds_toArray, List.set_cons_zero, List.set_cons_succ])
          refine ordT_take RD 13 (at_list (by rw [HOP.out]; rfl)) HNS.out HPQ.out (by rw [HOP.out]; kernel_rfl) (by rw [HOP.out]; kernel_rfl) (by rw [HOP.out]; rfl) (fun K hK => ?_); apply Exists.intro; refine ⟨fun W hSW => ?_, hK _ ?_⟩; (focus ((try dsimp only at hSW); go_simp; try with_reducible rfl)); clear hK K; (try simp only [Act.put, List.setIfInBounds_toArray, List.set_cons_zero, List.set_cons_succ])
          refine ordT_take RD 14 (at_list (by rw [HOP.out]; rfl)) HNS.out HPQ.out (by rw [HOP.out]; kernel_rfl) (by rw [HOP.out]; kernel_rfl) (by rw [HOP.out]; rfl) (fun K hK => ?_); apply Exists.intro; refine ⟨fun W hSW => ?_, hK _ ?_⟩; (focus ((try dsimp only at hSW); go_simp; try with_reducible rfl)); clear hK K; (try simp only [Act.put, List.setIfInBounds_toArray, List.set_cons_zero, List.set_cons_succ])
          refine ordT_take RD 15 (at_list (by rw [HOP.out]; rfl)) HNS.out HPQ.out (by rw [HOP.out]; kernel_rfl) (by rw [HOP.out]; kernel_rfl) (by rw [HOP.out]; rfl) (fun K hK => ?_); apply Exists.intro; refine ⟨fun W hSW => ?_, hK _ ?_⟩; (focus ((try dsimp only at hSW); go_simp; try with_reducible rfl)); clear hK K; (try simp only [Act.put, List.setIfInBounds_toArray, List.set_cons_zero, List.set_cons_succ])
          refine ordT_take RD 16 (at_list (by rw [HOP.out]; rfl)) HNS.out HPQ.out (by rw [HOP.out]; kernel_rfl) (by rw [HOP.out]; kernel_rfl) (by rw [HOP.out]; rfl) (fun K hK => ?_); apply Exists.intro; refine ⟨fun W hSW => ?_, hK _ ?_⟩; (focus ((try dsimp only at hSW); go_simp; try with_reducible rfl)); clear hK K; (try simp only [Act.put, List.setIfInBounds_toArray, List.set_cons_zero, List.set_cons_succ])
          refine ordT_take RD 17 (at_list (by rw [HOP.out]; rfl)) HNS.out HPQ.out (by rw [HOP.out]; kernel_rfl) (by rw [HOP.out]; kernel_rfl) (by rw [HOP.out]; rfl) (fun K hK => ?_); apply Exists.intro; refine ⟨fun W hSW => ?_, hK _ ?_⟩; (focus ((try dsimp only at hSW); go_simp; try with_reducible rfl)); clear hK K; (try simp only [Act.put, List.setIfInBounds_toArray, List.set_cons_zero, List.set_cons_succ])
          refine ordT_take RD 18 (at_list (by rw [HOP.out]; rfl)) HNS.out HPQ.out (by rw [HOP.out]; kernel_rfl) (by rw [HOP.out]; kernel_rfl) (by rw [HOP.out]; rfl) (fun K hK => ?_); apply Exists.intro; refine ⟨fun W hSW => ?_, hK _ ?_⟩; (focus ((try dsimp only at hSW); go_simp; try with_reducible rfl)); clear hK K; (try simp only [Act.put, List.setIfInBounds_toArray, List.set_cons_zero, List.set_cons_succ])
          refine ordT_take RD 19 (at_list (by rw [HOP.out]; rfl)) HNS.out HPQ.out (by rw [HOP.out]; kernel_rfl) (by rw [HOP.out]; kernel_rfl) (by rw [HOP.out]; rfl) (fun K hK => ?_); apply Exists.intro; refine ⟨fun W hSW => ?_, hK _ ?_⟩; (focus ((try dsimp only at hSW); go_simp; try with_reducible rfl)); clear hK K; (try simp only [Act.put, List.setIfInBounds_toArray, List.set_cons_zero, List.set_cons_succ])
          refine ordT_take RD 20 (at_list (by rw [HOP.out]; rfl)) HNS.out HPQ.out (by rw [HOP.out]; kernel_rfl) (by rw [HOP.out]; kernel_rfl) (by rw [HOP.out]; rfl) (fun K hK => ?_); apply Exists.intro; refine ⟨fun W hSW => ?_, hK _ ?_⟩; (focus ((try dsimp only at hSW); go_simp; try with_reducible rfl)); clear hK K; (try simp only [Act.put, List.setIfInBounds_toArray, List.set_cons_zero, List.set_cons_succ])
          refine ordT_take RD 21 (at_list (by rw [HOP.out]; rfl)) HNS.out HPQ.out (by rw [HOP.out]; kernel_rfl) (by rw [HOP.out]; kernel_rfl) (by rw [HOP.out]; rfl) (fun K hK => ?_); apply Exists.intro; refine ⟨fun W hSW => ?_, hK _ ?_⟩; (focus ((try dsimp only at hSW); go_simp; try with_reducible rfl)); clear hK K; (try simp only [Act.put, List.setIfInBounds_toArray, List.set_cons_zero, List.set_cons_succ])
          refine ordT_take RD 22 (at_list (by rw [HOP.out]; rfl)) HNS.out HPQ.out (by rw [HOP.out]; kernel_rfl) (by rw [HOP.out]; kernel_rfl) (by rw [HOP.out]; rfl) (fun K hK => ?_); apply Exists.intro; refine ⟨fun W hSW => ?_, hK _ ?_⟩; (focus ((try dsimp only at hSW); go_simp; try with_reducible rfl)); clear hK K; (try simp only [Act.put, List.setIfInBounds_toArray, List.set_cons_zero, List.set_cons_succ])
          refine ordT_take RD 23 (at_list (by rw [HOP.out]; rfl)) HNS.out HPQ.out (by rw [HOP.out]; kernel_rfl) (by rw [HOP.out]; kernel_rfl) (by rw [HOP.out]; rfl) (fun K hK => ?_); apply Exists.intro; refine ⟨fun W hSW => ?_, hK _ ?_⟩; (focus ((try dsimp only at hSW); go_simp; try with_reducible rfl)); clear hK K; (try simp only [Act.put, List.setIfInBounds_toArray, List.set_cons_zero, List.set_cons_succ])
          refine ordT_take RD 24 (at_list (by rw [HOP.out]; rfl)) HNS.out HPQ.out (by rw [HOP.out]; kernel_rfl) (by rw [HOP.out]; kernel_rfl) (by rw [HOP.out]; rfl) (fun K hK => ?_); apply Exists.intro; refine ⟨fun W hSW => ?_, hK _ ?_⟩; (focus ((try dsimp only at hSW); go_simp; exact (turn1 _ _ (bits_bd _ _ _).1 (bits_bd _ _ _).2))); clear hK K; (try simp only [Act.put, List.setIfInBounds_toArray, List.set_cons_zero, List.set_cons_succ])
          refine ordT_one RD 25 (by rw [HOP.out]; kernel_rfl) (at_list (by rw [HOP.out]; rfl)) (by rw [HOP.out]; rfl) (fun W1 hWW hSW K hK => ?_); (try dsimp only at hSW)
          obtain ⟨nn, rfl⟩ := hWW
          go_simp
          refine hK _ _ ?sa ?ra
          case sa => (obtain ⟨h1, h2, h3, h4⟩ := hSW; refine ⟨?_, ?_, ?_, ?_⟩ <;> (rw [World.cell?_alloc_some _ _ _ (by simp [*])]; assumption))
          case ra =>
            clear hK K; (try simp only [Act.put, List.setIfInBounds_toArray, List.set_cons_zero, List.set_cons_succ])
            refine ordT_end (by rw [HOP.out]; kernel_rfl) (fun W2 hWW hSW => ?_); rw [HOP.out]; simp only [List.drop_succ_cons, List.drop_zero]; have hN := HN.out; clear HOP HNS HPQ HN RD; (try dsimp only at hSW)
            obtain ⟨nm, rfl⟩ := hWW
            go_wp2_with ((at_builtin; refine appU rfl _ _ rfl (w.heap.size + 2) _ (sch b k) rfl (show OwnI _ _ _ _ _ _ from own_drNU (own_alU (own_drNU HO.out _) _) nm) (some ⟨_, 0, none⟩) 1 1 [rot (bits .xor .u32 (bits .xor .u32 (bits .xor .u32 y0 y1) y2) y3) 1] rfl rfl (show Has _ _ _ _ from has_lit (zs := [_]) (by simp) (by simp [maxLen])) (k + 1) (by rw [HSL.out]) (by have := HLT.out; omega) (by have := HSZ.out; simp; omega) ?_); intro A2 c2 w2 own2 gr2 bel2; have HO2 := Lib.hid own2; clear own2 gr2)
            obtain ⟨g2, e2, -, -, -⟩ := HO2.out.form (by simp)
            subst e2
            refine ⟨⟨k + 1, g2, c2, by have := HLT.out; omega, by have := HLT.out; omega, by go_num, rfl, by rw [HW.out]; exact HO2.out, ?_, ?_, ?_⟩, by simp [intOf]; have := HLT.out; omega⟩
            · exact Lies.below (by have := HR.out; exact ((this.drewN _).alloc _).drewN _) bel2 (by omega)
            · exact Lies.below (by have := HZ.out; exact ((this.drewN _).alloc _).drewN _) bel2 (by omega)
            · have := HACC.out; (repeat' (first | (with_reducible exact Below.refl _ _) | (with_reducible assumption) | (with_reducible refine below_drewN ?_ _) | (with_reducible refine below_new ?_ _) | (with_reducible refine Below.alloc ?_ ?_ _) | (with_reducible refine Below.drew ?_) | (with_reducible refine Below.setCell ?_ ?_ _) | (with_reducible apply below_at; (case k => (with_reducible assumption)); (case hB => omega)) | (with_reducible apply below_on; (with_reducible assumption)) | (go_size; done) | (with_reducible apply size_of)))
        · have k80 : ¬ (k : Int) < 80 := by omega
          have HK := Lib.hid (show k = 80 by omega)
          have HOX : Hid (OwnI wr (w.heap.size + 2) 97 .u32 (.slice (some ⟨g, 0, none⟩) k c) (sch b 80)) := Lib.hid (by rw [← HK.out]; exact own)
          have HSZ : Hid (w.heap.size + 2 ≤ g ∧ g < wr.heap.size) := Lib.hid own.base_le
          obtain ⟨p0, p1, p2, p3, p4⟩ := five R
          have zk := R.lt
          clear own R Z acc hk hk1 hlt HO
          go_wp2_with fail
          generalize hg8 : wr.heap.size = g8 at *
          have HG8 := Lib.hid hg8
          have e80 := HK.out
          subst e80
          rw [show ((80 : Nat) : Int) = 80 from rfl]
          go_loopw [9] (fun i wz => ∃ t : Nat, t ≤ 80 ∧ i = .int .i64 t ∧ Lies (wz) (g8) 98 (c5 (rnds (sch b 80) t h)) ∧ Lies (wz) (w.heap.size) 98 (c5 (h)) ∧ OwnI wz (w.heap.size + 2) 97 .u32 (.slice (some ⟨g, 0, none⟩) 80 c) (sch b 80) ∧ Lies (wz) (w.heap.size + 1) 98 (c5 (⟨0, 0, 0, 0, 0⟩)) ∧ Below w.heap.size w wz) (fun i _ => 80 - (intOf i).toNat)
          case atStart => exact ⟨0, by omega, rfl, Lies.fresh_at (cs := c5 h) HG8.out, HR.out.alloc _, own_alU HOX.out _, HZ.out.alloc _, by have := HACC.out; (repeat' (first | (with_reducible exact Below.refl _ _) | (with_reducible assumption) | (with_reducible refine below_drewN ?_ _) | (with_reducible refine below_new ?_ _) | (with_reducible refine Below.alloc ?_ ?_ _) | (with_reducible refine Below.drew ?_) | (with_reducible refine Below.setCell ?_ ?_ _) | (with_reducible apply below_at; (case k => (with_reducible assumption)); (case hB => omega)) | (with_reducible apply below_on; (with_reducible assumption)) | (go_size; done) | (with_reducible apply size_of)))⟩
          case round =>
            clear HR HZ HACC HOX HK p0 p1 p2 p3 p4 zk
            obtain ⟨t, ht, rfl, K, R, own, Z, acc⟩ := hrel
            have HKK := Lib.hid K
            have HR := Lib.hid R
            have HO := Lib.hid own
            have HZ := Lib.hid Z
            have HACC := Lib.hid acc
            by_cases hlt : t < 80
            · have hi := rnds_in (W := sch b 80) HH.out t
              obtain ⟨p0, p1, p2, p3, p4⟩ := five K
              obtain ⟨f0, f1, f2, f3, f4⟩ := free5 K
              have q0 := own.cell t (by rw [sch_len]; exact hlt)
              have q1 := getD_bdU (sch_bd HBD.out 80) t
              have HRS : Hid (rnds (sch b 80) (t + 1) h = rnd ((sch b 80).getD t 0) t (rnds (sch b 80) t h)) := Lib.hid rfl
              have HLT := Lib.hid hlt
              have zk := K.lt
              have k0 : 0 ≤ (t : Int) := by omega
              have k1 : (t : Int) < 80 := by omega
              clear K R Z own acc ht hlt
              generalize rnds (sch b 80) t h = v at *
              generalize (sch b 80).getD t 0 = x at *
              obtain ⟨va, vb, vc, vd, ve⟩ := v
              obtain ⟨⟨a1, a2⟩, ⟨b1, b2⟩, ⟨c1, c2⟩, ⟨d1, d2⟩, ⟨e1, e2⟩⟩ := hi
              simp only [] at *
              go_wp2_with fail
              refine (part t vb vc vd _ HLT.out).mono ?_
              rintro e w3 ⟨rfl, rfl⟩
              generalize hF : fR t vb vc vd = F at *
              generalize hC : kR t = C at *
              have HF := Lib.hid hF
              have HC := Lib.hid hC
              clear hF hC
              go_wp2_with fail
              have HQ0 : Hid (AtC wr g t (.int .u32 x)) := Lib.hid q0
              have HNE : Hid (g8 ≠ g) := Lib.hid (by have := HSZ.out; omega)
              (have RD := drawn_roads (S := fun x' => (x'.cell? ⟨g8, 0, none⟩ = some (.int .u32 va) ∧ x'.cell? ⟨g8, 1, none⟩ = some (.int .u32 vb) ∧ x'.cell? ⟨g8, 2, none⟩ = some (.int .u32 vc) ∧ x'.cell? ⟨g8, 3, none⟩ = some (.int .u32 vd) ∧ x'.cell? ⟨g8, 4, none⟩ = some (.int .u32 ve)) ∧ x'.cell? ⟨g, t, none⟩ = some (.int .u32 x)) (fun _ _ h => h)); refine region_ordT 25 _ Drawn RD ⟨⟨p0, p1, p2, p3, p4⟩, q0⟩ (by kernel_rfl) (by decide) ?_; intro ops Q' hops hPQ hN; (have HNS : Hid (Region.noSelect ops = true ∧ Region.sinkB .any ops 25 = true ∧ Region.chainB .any ops 25 = true ∧ 25 < ops.size) := Lib.hid (by rw [hops]; exact ⟨by kernel_rfl, by kernel_rfl, by kernel_rfl, by decide⟩)); (have hsz : ops.size = 26 := (by rw [hops]; rfl)); have HOP := Lib.hid hops; have HPQ := Lib.hid hPQ; have HN := Lib.hid hN; rw [hsz]; clear hops hsz hPQ hN
              refine ordT_take RD 0 (at_list (by rw [HOP.out]; rfl)) HNS.out HPQ.out (by rw [HOP.out]; kernel_rfl) (by rw [HOP.out]; kernel_rfl) (by rw [HOP.out]; rfl) (fun K hK => ?_); apply Exists.intro; refine ⟨fun W hSW => ?_, hK _ ?_⟩; (focus ((try dsimp only at hSW); go_simp; try with_reducible rfl)); clear hK K; (try simp only [Act.put, List.setIfInBounds_toArray, List.set_cons_zero, List.set_cons_succ])
              refine ordT_take RD 1 (at_list (by rw [HOP.out]; rfl)) HNS.out HPQ.out (by rw [HOP.out]; kernel_rfl) (by rw [HOP.out]; kernel_rfl) (by rw [HOP.out]; rfl) (fun K hK => ?_); apply Exists.intro; refine ⟨fun W hSW => ?_, hK _ ?_⟩; (focus ((try dsimp only at hSW); go_simp; try with_reducible rfl)); clear hK K; (try simp only [Act.put, List.setIfInBounds_toArray, List.set_cons_zero, List.set_cons_succ])
              refine ordT_take RD 2 (at_list (by rw [HOP.out]; rfl)) HNS.out HPQ.out (by rw [HOP.out]; kernel_rfl) (by rw [HOP.out]; kernel_rfl) (by rw [HOP.out]; rfl) (fun K hK => ?_); apply Exists.intro; refine ⟨fun W hSW => ?_, hK _ ?_⟩; (focus ((try dsimp only at hSW); go_simp; exact (turn5 va _ a1 a2))); clear hK K; (try simp only [Act.put, List.setIfInBounds_toArray, List.set_cons_zero, List.set_cons_succ])
              refine ordT_take RD 3 (at_list (by rw [HOP.out]; rfl)) HNS.out HPQ.out (by rw [HOP.out]; kernel_rfl) (by rw [HOP.out]; kernel_rfl) (by rw [HOP.out]; rfl) (fun K hK => ?_); apply Exists.intro; refine ⟨fun W hSW => ?_, hK _ ?_⟩; (focus ((try dsimp only at hSW); go_simp; try with_reducible rfl)); clear hK K; (try simp only [Act.put, List.setIfInBounds_toArray, List.set_cons_zero, List.set_cons_succ])
              refine ordT_take RD 4 (at_list (by rw [HOP.out]; rfl)) HNS.out HPQ.out (by rw [HOP.out]; kernel_rfl) (by rw [HOP.out]; kernel_rfl) (by rw [HOP.out]; rfl) (fun K hK => ?_); apply Exists.intro; refine ⟨fun W hSW => ?_, hK _ ?_⟩; (focus ((try dsimp only at hSW); go_simp; try with_reducible rfl)); clear hK K; (try simp only [Act.put, List.setIfInBounds_toArray, List.set_cons_zero, List.set_cons_succ])
              refine ordT_take RD 5 (at_list (by rw [HOP.out]; rfl)) HNS.out HPQ.out (by rw [HOP.out]; kernel_rfl) (by rw [HOP.out]; kernel_rfl) (by rw [HOP.out]; rfl) (fun K hK => ?_); apply Exists.intro; refine ⟨fun W hSW => ?_, hK _ ?_⟩; (focus ((try dsimp only at hSW); go_simp; try with_reducible rfl)); clear hK K; (try simp only [Act.put, List.setIfInBounds_toArray, List.set_cons_zero, List.set_cons_succ])
              refine ordT_take RD 6 (at_list (by rw [HOP.out]; rfl)) HNS.out HPQ.out (by rw [HOP.out]; kernel_rfl) (by rw [HOP.out]; kernel_rfl) (by rw [HOP.out]; rfl) (fun K hK => ?_); apply Exists.intro; refine ⟨fun W hSW => ?_, hK _ ?_⟩; (focus ((try dsimp only at hSW); go_simp; try with_reducible rfl)); clear hK K; (try simp only [Act.put, List.setIfInBounds_toArray, List.set_cons_zero, List.set_cons_succ])
              refine ordT_take RD 7 (at_list (by rw [HOP.out]; rfl)) HNS.out HPQ.out (by rw [HOP.out]; kernel_rfl) (by rw [HOP.out]; kernel_rfl) (by rw [HOP.out]; rfl) (fun K hK => ?_); apply Exists.intro; refine ⟨fun W hSW => ?_, hK _ ?_⟩; (focus ((try dsimp only at hSW); go_simp; try with_reducible rfl)); clear hK K; (try simp only [Act.put, List.setIfInBounds_toArray, List.set_cons_zero, List.set_cons_succ])
              refine ordT_take RD 8 (at_list (by rw [HOP.out]; rfl)) HNS.out HPQ.out (by rw [HOP.out]; kernel_rfl) (by rw [HOP.out]; kernel_rfl) (by rw [HOP.out]; rfl) (fun K hK => ?_); apply Exists.intro; refine ⟨fun W hSW => ?_, hK _ ?_⟩; (focus ((try dsimp only at hSW); go_simp; try with_reducible rfl)); clear hK K; (try simp only [Act.put, List.setIfInBounds_toArray, List.set_cons_zero, List.set_cons_succ])
              refine ordT_take RD 9 (at_list (by rw [HOP.out]; rfl)) HNS.out HPQ.out (by rw [HOP.out]; kernel_rfl) (by rw [HOP.out]; kernel_rfl) (by rw [HOP.out]; rfl) (fun K hK => ?_); apply Exists.intro; refine ⟨fun W hSW => ?_, hK _ ?_⟩; (focus ((try dsimp only at hSW); go_simp; try with_reducible rfl)); clear hK K; (try simp only [Act.put, List.setIfInBounds_toArray, List.set_cons_zero, List.set_cons_succ])
              refine ordT_take RD 10 (at_list (by rw [HOP.out]; rfl)) HNS.out HPQ.out (by rw [HOP.out]; kernel_rfl) (by rw [HOP.out]; kernel_rfl) (by rw [HOP.out]; rfl) (fun K hK => ?_); apply Exists.intro; refine ⟨fun W hSW => ?_, hK _ ?_⟩; (focus ((try dsimp only at hSW); go_simp; try with_reducible rfl)); clear hK K; (try simp only [Act.put, List.setIfInBounds_toArray, List.set_cons_zero, List.set_cons_succ])
              refine ordT_take RD 11 (at_list (by rw [HOP.out]; rfl)) HNS.out HPQ.out (by rw [HOP.out]; kernel_rfl) (by rw [HOP.out]; kernel_rfl) (by rw [HOP.out]; rfl) (fun K hK => ?_); apply Exists.intro; refine ⟨fun W hSW => ?_, hK _ ?_⟩; (focus ((try dsimp only at hSW); go_simp; try with_reducible rfl)); clear hK K; (try simp only [Act.put, List.setIfInBounds_toArray, List.set_cons_zero, List.set_cons_succ])
              refine ordT_take RD 12 (at_list (by rw [HOP.out]; rfl)) HNS.out HPQ.out (by rw [HOP.out]; kernel_rfl) (by rw [HOP.out]; kernel_rfl) (by rw [HOP.out]; rfl) (fun K hK => ?_); apply Exists.intro; refine ⟨fun W hSW => ?_, hK _ ?_⟩; (focus ((try dsimp only at hSW); go_simp; try with_reducible rfl)); clear hK K; (try simp only [Act.put, List.setIfInBounds_toArray, List.set_cons_zero, List.set_cons_succ])
              refine ordT_take RD 13 (at_list (by rw [HOP.out]; rfl)) HNS.out HPQ.out (by rw [HOP.out]; kernel_rfl) (by rw [HOP.out]; kernel_rfl) (by rw [HOP.out]; rfl) (fun K hK => ?_); apply Exists.intro; refine ⟨fun W hSW => ?_, hK _ ?_⟩; (focus ((try dsimp only at hSW); go_simp; try with_reducible rfl)); clear hK K; (try simp only [Act.put, List.setIfInBounds_toArray, List.set_cons_zero, List.set_cons_succ])
              refine ordT_take RD 14 (at_list (by rw [HOP.out]; rfl)) HNS.out HPQ.out (by rw [HOP.out]; kernel_rfl) (by rw [HOP.out]; kernel_rfl) (by rw [HOP.out]; rfl) (fun K hK => ?_); apply Exists.intro; refine ⟨fun W hSW => ?_, hK _ ?_⟩; (focus ((try dsimp only at hSW); go_simp; try with_reducible rfl)); clear hK K; (try simp only [Act.put, List.setIfInBounds_toArray, List.set_cons_zero, List.set_cons_succ])
              refine ordT_take RD 15 (at_list (by rw [HOP.out]; rfl)) HNS.out HPQ.out (by rw [HOP.out]; kernel_rfl) (by rw [HOP.out]; kernel_rfl) (by rw [HOP.out]; rfl) (fun K hK => ?_); apply Exists.intro; refine ⟨fun W hSW => ?_, hK _ ?_⟩; (focus ((try dsimp only at hSW); go_simp; try with_reducible rfl)); clear hK K; (try simp only [Act.put, List.setIfInBounds_toArray, List.set_cons_zero, List.set_cons_succ])
              refine ordT_take RD 16 (at_list (by rw [HOP.out]; rfl)) HNS.out HPQ.out (by rw [HOP.out]; kernel_rfl) (by rw [HOP.out]; kernel_rfl) (by rw [HOP.out]; rfl) (fun K hK => ?_); apply Exists.intro; refine ⟨fun W hSW => ?_, hK _ ?_⟩; (focus ((try dsimp only at hSW); go_simp; try with_reducible rfl)); clear hK K; (try simp only [Act.put, List.setIfInBounds_toArray, List.set_cons_zero, List.set_cons_succ])
              refine ordT_take RD 17 (at_list (by rw [HOP.out]; rfl)) HNS.out HPQ.out (by rw [HOP.out]; kernel_rfl) (by rw [HOP.out]; kernel_rfl) (by rw [HOP.out]; rfl) (fun K hK => ?_); apply Exists.intro; refine ⟨fun W hSW => ?_, hK _ ?_⟩; (focus ((try dsimp only at hSW); go_simp; try with_reducible rfl)); clear hK K; (try simp only [Act.put, List.setIfInBounds_toArray, List.set_cons_zero, List.set_cons_succ])
              refine ordT_take RD 18 (at_list (by rw [HOP.out]; rfl)) HNS.out HPQ.out (by rw [HOP.out]; kernel_rfl) (by rw [HOP.out]; kernel_rfl) (by rw [HOP.out]; rfl) (fun K hK => ?_); apply Exists.intro; refine ⟨fun W hSW => ?_, hK _ ?_⟩; (focus ((try dsimp only at hSW); go_simp; try with_reducible rfl)); clear hK K; (try simp only [Act.put, List.setIfInBounds_toArray, List.set_cons_zero, List.set_cons_succ])
              refine ordT_take RD 19 (at_list (by rw [HOP.out]; rfl)) HNS.out HPQ.out (by rw [HOP.out]; kernel_rfl) (by rw [HOP.out]; kernel_rfl) (by rw [HOP.out]; rfl) (fun K hK => ?_); apply Exists.intro; refine ⟨fun W hSW => ?_, hK _ ?_⟩; (focus ((try dsimp only at hSW); go_simp; exact (turn30 vb _ b1 b2))); clear hK K; (try simp only [Act.put, List.setIfInBounds_toArray, List.set_cons_zero, List.set_cons_succ])
              refine ordT_take RD 20 (at_list (by rw [HOP.out]; rfl)) HNS.out HPQ.out (by rw [HOP.out]; kernel_rfl) (by rw [HOP.out]; kernel_rfl) (by rw [HOP.out]; rfl) (fun K hK => ?_); apply Exists.intro; refine ⟨fun W hSW => ?_, hK _ ?_⟩; (focus ((try dsimp only at hSW); go_simp; try with_reducible rfl)); clear hK K; (try simp only [Act.put, List.setIfInBounds_toArray, List.set_cons_zero, List.set_cons_succ])
              refine ordT_take RD 21 (at_list (by rw [HOP.out]; rfl)) HNS.out HPQ.out (by rw [HOP.out]; kernel_rfl) (by rw [HOP.out]; kernel_rfl) (by rw [HOP.out]; rfl) (fun K hK => ?_); apply Exists.intro; refine ⟨fun W hSW => ?_, hK _ ?_⟩; (focus ((try dsimp only at hSW); go_simp; try with_reducible rfl)); clear hK K; (try simp only [Act.put, List.setIfInBounds_toArray, List.set_cons_zero, List.set_cons_succ])
              refine ordT_take RD 22 (at_list (by rw [HOP.out]; rfl)) HNS.out HPQ.out (by rw [HOP.out]; kernel_rfl) (by rw [HOP.out]; kernel_rfl) (by rw [HOP.out]; rfl) (fun K hK => ?_); apply Exists.intro; refine ⟨fun W hSW => ?_, hK _ ?_⟩; (focus ((try dsimp only at hSW); go_simp; try with_reducible rfl)); clear hK K; (try simp only [Act.put, List.setIfInBounds_toArray, List.set_cons_zero, List.set_cons_succ])
              refine ordT_take RD 23 (at_list (by rw [HOP.out]; rfl)) HNS.out HPQ.out (by rw [HOP.out]; kernel_rfl) (by rw [HOP.out]; kernel_rfl) (by rw [HOP.out]; rfl) (fun K hK => ?_); apply Exists.intro; refine ⟨fun W hSW => ?_, hK _ ?_⟩; (focus ((try dsimp only at hSW); go_simp; try with_reducible rfl)); clear hK K; (try simp only [Act.put, List.setIfInBounds_toArray, List.set_cons_zero, List.set_cons_succ])
              refine ordT_take RD 24 (at_list (by rw [HOP.out]; rfl)) HNS.out HPQ.out (by rw [HOP.out]; kernel_rfl) (by rw [HOP.out]; kernel_rfl) (by rw [HOP.out]; rfl) (fun K hK => ?_); apply Exists.intro; refine ⟨fun W hSW => ?_, hK _ ?_⟩; (focus ((try dsimp only at hSW); go_simp; try with_reducible rfl)); clear hK K; (try simp only [Act.put, List.setIfInBounds_toArray, List.set_cons_zero, List.set_cons_succ])
              refine ordT_end (by rw [HOP.out]; kernel_rfl) (fun W2 hWW hSW => ?_); rw [HOP.out]; simp only [List.drop_succ_cons, List.drop_zero]; have hN := HN.out; clear HOP HNS HPQ HN RD; (try dsimp only at hSW)
              obtain ⟨nm, rfl⟩ := hWW
              go_wp2_with fail
              go_roundw
              case rel =>
                refine ⟨t + 1, by have := HLT.out; omega, by go_num, ?_, ?_, ?_, ?_, ?_⟩
                · rw [HRS.out, rnd_form, HF.out, HC.out]
                  exact (((((HKK.out.drewN _).set 0 _).set 1 _).set 2 _).set 3 _).set 4 _
                · have hne : g8 ≠ w.heap.size := by have := HSZ.out; omega
                  exact (((((HR.out.drewN _).other hne _).other hne _).other hne _).other hne _).other hne _
                · have hne : (Value.slice (some ⟨g, 0, none⟩) 80 c).ownBlock ≠ some g8 := by have := HSZ.out; simp [Value.ownBlock]; omega
                  exact own_set (own_set (own_set (own_set (own_set (own_drNU HO.out _) hne _) hne _) hne _) hne _) hne _
                · have hne : g8 ≠ w.heap.size + 1 := by have := HSZ.out; omega
                  exact (((((HZ.out.drewN _).other hne _).other hne _).other hne _).other hne _).other hne _
                · have := HACC.out
                  have : w.heap.size ≤ g8 := by have := HSZ.out; omega
                  (repeat' (first | (with_reducible exact Below.refl _ _) | (with_reducible assumption) | (with_reducible refine below_drewN ?_ _) | (with_reducible refine below_new ?_ _) | (with_reducible refine Below.alloc ?_ ?_ _) | (with_reducible refine Below.drew ?_) | (with_reducible refine Below.setCell ?_ ?_ _) | (with_reducible apply below_at; (case k => (with_reducible assumption)); (case hB => omega)) | (with_reducible apply below_on; (with_reducible assumption)) | (go_size; done) | (with_reducible apply size_of)))
              case measure => simp [intOf]; have := HLT.out; omega
            · have k80 : ¬ (t : Int) < 80 := by omega
              have e80 : t = 80 := by omega
              have HV : Hid (addW h (rnds (sch b 80) t h) = dn h b) := Lib.hid (by rw [e80]; rfl)
              clear K R own Z acc ht hlt HO e80
              generalize rnds (sch b 80) t h = v at *
              go_wp2_with fail
              go_loopw [12] (fun i wr => ∃ j : Nat, j ≤ 5 ∧ i = .int .i64 j ∧ Lies wr w.heap.size 98 ((mixL h v j).map (Value.int .u32)) ∧ Lies (wr) (g8) 98 (c5 (v)) ∧ Lies wr (w.heap.size + 1) 98 (c5 ⟨0, 0, 0, 0, 0⟩) ∧ Below w.heap.size w wr) (fun i _ => 5 - (intOf i).toNat)
              case atStart => exact ⟨0, by omega, rfl, HR.out, HKK.out, HZ.out, HACC.out⟩
              case round =>
                clear HKK HR HZ HACC
                obtain ⟨j, hj, rfl, R, K, Z, acc⟩ := hrel
                have HK := Lib.hid K
                have HR := Lib.hid R
                have HZ := Lib.hid Z
                have HACC := Lib.hid acc
                by_cases hlt : j < 5
                · have p0 : wr.cell? ⟨w.heap.size, j, none⟩ = some (.int .u32 ((l5 h).getD j 0)) := by rw [R.cell, List.getElem?_map, mixL_at h v j hlt]; rfl
                  have p1 : wr.cell? ⟨g8, j, none⟩ = some (.int .u32 ((l5 v).getD j 0)) := by rw [K.cell, c5, List.getElem?_map, l5_get v j hlt]; rfl
                  have p2 := R.free j
                  have zk := R.lt
                  have zl := K.lt
                  have HST : Hid ((mixL h v j).set j (((l5 h).getD j 0 + (l5 v).getD j 0) % 4294967296) = mixL h v (j + 1)) := Lib.hid (mixL_set h v j hlt)
                  have HLT := Lib.hid hlt
                  have j0 : 0 ≤ (j : Int) := by omega
                  have j1 : (j : Int) < 5 := by omega
                  clear K R Z acc hj hlt
                  generalize (l5 h).getD j 0 = y at *
                  generalize (l5 v).getD j 0 = z at *
                  go_wp2_with fail
                  refine region_still_tail 8 (by kernel_rfl) (by kernel_rfl) ?_; simp only [List.take_succ_cons, List.take_zero, List.drop_succ_cons, List.drop_zero]
                  repeat still_step
                  refine wpStill_nil ?_
                  go_wp2_with fail
                  refine ⟨⟨j + 1, by have := HLT.out; omega, by go_num, ?_, ?_, ?_, ?_⟩, ?_⟩
                  · rw [← HST.out]
                    have := HR.out.set j (.int .u32 ((y + z) % 4294967296))
                    rw [← List.map_set] at this
                    exact this.drew
                  · have hne : w.heap.size ≠ g8 := by have := HSZ.out; omega
                    exact (HK.out.other hne _).drew
                  · exact (HZ.out.other (by show w.heap.size ≠ w.heap.size + 1; omega) _).drew
                  · have := HACC.out; (repeat' (first | (with_reducible exact Below.refl _ _) | (with_reducible assumption) | (with_reducible refine below_drewN ?_ _) | (with_reducible refine below_new ?_ _) | (with_reducible refine Below.alloc ?_ ?_ _) | (with_reducible refine Below.drew ?_) | (with_reducible refine Below.setCell ?_ ?_ _) | (with_reducible apply below_at; (case k => (with_reducible assumption)); (case hB => omega)) | (with_reducible apply below_on; (with_reducible assumption)) | (go_size; done) | (with_reducible apply size_of)))
                  · simp [intOf]; have := HLT.out; omega
                · have j5 : ¬ (j : Int) < 5 := by omega
                  have e5 : j = 5 := by omega
                  have R5 : Lies (wr) (w.heap.size) 98 (c5 (addW h v)) := by
                    have := HR.out
                    rw [e5, mixL_5] at this
                    exact this
                  rw [HV.out] at R5
                  clear K R Z acc hj hlt HK HR e5
                  obtain ⟨p0, p1, p2, p3, p4⟩ := five R5
                  obtain ⟨f0, f1, f2, f3, f4⟩ := free5 HZ.out
                  obtain ⟨z0, z1, z2, z3, z4⟩ := five (v := ⟨0, 0, 0, 0, 0⟩) HZ.out
                  have zk := R5.lt
                  have zz := HZ.out.lt
                  generalize hu : dn h b = u at *
                  have HU := Lib.hid hu
                  clear hu
                  have HR5 := Lib.hid R5
                  clear R5
                  go_wp2_with fail
                  obtain ⟨t0, t1, t2, t3, t4⟩ := five (lies_set5 HZ.out u)
                  clear p0 p1 p2 p3 p4 z0 z1 z2 z3 z4 f0 f1 f2 f3 f4
                  refine bodyPost_ret (by simp [results, Tryd.results47, go_sem, t0, t1, t2, t3, t4]; try rfl) rfl ?_
                  exact ⟨by rw [HU.out], by have := HACC.out; (repeat' (first | (with_reducible exact Below.refl _ _) | (with_reducible assumption) | (with_reducible refine below_drewN ?_ _) | (with_reducible refine below_new ?_ _) | (with_reducible refine Below.alloc ?_ ?_ _) | (with_reducible refine Below.drew ?_) | (with_reducible refine Below.setCell ?_ ?_ _) | (with_reducible apply below_at; (case k => (with_reducible assumption)); (case hB => omega)) | (with_reducible apply below_on; (with_reducible assumption)) | (go_size; done) | (with_reducible apply size_of)))⟩
end Go.Proofs.YtiihafhnaiicoaaDoor.shW

namespace Go.Proofs.YtiihafhnaiicoaaDoor.shW
set_option maxRecDepth 100000
open Go.RowKit Go.Proofs.YtiihafhnaiicoaaDoor.base Go.Proofs.YtiihafhnaiicoaaDoor.shP
set_option linter.unusedVariables false
set_option linter.unusedSimpArgs false
def padE (n : Int) : Int := if 0 ≤ n ∧ n ≤ 20000 then 0 else 2
def padV (n : Int) : List Int := if 0 ≤ n ∧ n ≤ 20000 then padL n.toNat else []
def blkE (b : List Int) : Int := if b.length = 64 then 0 else 2
def blkV (h : W5) (b : List Int) : W5 := if b.length = 64 then dn h b else ⟨0, 0, 0, 0, 0⟩
end Go.Proofs.YtiihafhnaiicoaaDoor.shW

namespace Go.Proofs.YtiihafhnaiicoaaDoor.shW
set_option maxRecDepth 100000
open Go.RowKit Go.Proofs.YtiihafhnaiicoaaDoor.base Go.Proofs.YtiihafhnaiicoaaDoor.shP
set_option linter.unusedVariables false
set_option linter.unusedSimpArgs false
theorem rdone {h u : W5} {b : List Int} {A : Option Addr} {d : Nat} {w : World} (hu : dn h b = u) (hA : Has .u8 w A b) (hl : b.length = 64) (hd : 64 ≤ d) (hb : ∀ z ∈ b, 0 ≤ z ∧ z ≤ 255) (hh : In5 h) :
    Calls Tryd.prog 47 #[.agg #[.int .u32 h.a, .int .u32 h.b, .int .u32 h.c, .int .u32 h.d, .int .u32 h.e], .slice A 64 d] w fun e w' => e = .returned (.agg #[.int .u32 u.a, .int .u32 u.b, .int .u32 u.c, .int .u32 u.d, .int .u32 u.e]) ∧ Grows w w' := by
  subst hu
  exact rDone h b A d w hA hl hd hb hh
theorem rpad_bd (n : Nat) : ∀ z ∈ padL n, 0 ≤ z ∧ z ≤ 255 := by
  intro z hz
  simp only [padL, len8, List.mem_cons, List.mem_append, List.mem_replicate, List.mem_map] at hz
  rcases hz with rfl | ⟨_, rfl⟩ | ⟨i, _, rfl⟩
  · decide
  · decide
  · omega
theorem ownz_s5 {w : World} {B g : Nat} {v : Value} {zs : List Int} {t : TypeId} {cs : List Value} (h : OwnZ w B v zs) (K : Lies w g t cs) (ht : t ≠ 5) (a b c d e : Value) : OwnZ (((((w.setCell ⟨g, 0, none⟩ a).setCell ⟨g, 1, none⟩ b).setCell ⟨g, 2, none⟩ c).setCell ⟨g, 3, none⟩ d).setCell ⟨g, 4, none⟩ e) B v zs :=
  ((((h.other K ht 0 a).other (K.set 0 a) ht 1 b).other ((K.set 0 a).set 1 b) ht 2 c).other (((K.set 0 a).set 1 b).set 2 c) ht 3 d).other ((((K.set 0 a).set 1 b).set 2 c).set 3 d) ht 4 e
theorem rFirst (w : World) : Calls Tryd.prog 46 #[] w fun e w' => e = .returned (.agg #[.int .u32 first.a, .int .u32 first.b, .int .u32 first.c, .int .u32 first.d, .int .u32 first.e]) ∧ Below w.heap.size w w' := by
  go_enter Tryd.func46, Tryd.ntmps46
  go_wp2_with fail
  first
    | (go_ret; exact ⟨rfl, by (repeat' (first | (with_reducible exact Below.refl _ _) | (with_reducible assumption) | (with_reducible refine below_drewN ?_ _) | (with_reducible refine below_new ?_ _) | (with_reducible refine Below.alloc ?_ ?_ _) | (with_reducible refine Below.drew ?_) | (with_reducible refine Below.setCell ?_ ?_ _) | (with_reducible apply below_at; (case k => (with_reducible assumption)); (case hB => omega)) | (with_reducible apply below_on; (with_reducible assumption)) | (go_size; done) | (with_reducible apply size_of)))⟩)
    | (refine bodyPost_ret (by simp [results, Tryd.results46, go_sem, first]; try rfl) rfl ?_; exact ⟨rfl, by (repeat' (first | (with_reducible exact Below.refl _ _) | (with_reducible assumption) | (with_reducible refine below_drewN ?_ _) | (with_reducible refine below_new ?_ _) | (with_reducible refine Below.alloc ?_ ?_ _) | (with_reducible refine Below.drew ?_) | (with_reducible refine Below.setCell ?_ ?_ _) | (with_reducible apply below_at; (case k => (with_reducible assumption)); (case hB => omega)) | (with_reducible apply below_on; (with_reducible assumption)) | (go_size; done) | (with_reducible apply size_of)))⟩)
theorem rFirst' {f : W5} (hf : first = f) (w : World) : Calls Tryd.prog 46 #[] w fun e w' => e = .returned (.agg #[.int .u32 f.a, .int .u32 f.b, .int .u32 f.c, .int .u32 f.d, .int .u32 f.e]) ∧ Below w.heap.size w w' := hf ▸ rFirst w
theorem far5 {w : World} {g g' : Nat} {t : TypeId} {cs : List Value} (h : Lies w g t cs) (hne : g' ≠ g) (a b c d e : Value) : Lies (((((w.setCell ⟨g', 0, none⟩ a).setCell ⟨g', 1, none⟩ b).setCell ⟨g', 2, none⟩ c).setCell ⟨g', 3, none⟩ d).setCell ⟨g', 4, none⟩ e) g t cs :=
  ((((h.other (p := ⟨g', 0, none⟩) hne a).other (p := ⟨g', 1, none⟩) hne b).other (p := ⟨g', 2, none⟩) hne c).other (p := ⟨g', 3, none⟩) hne d).other (p := ⟨g', 4, none⟩) hne e
set_option maxRecDepth 100000 in
set_option maxHeartbeats 1500000 in
theorem rOf (b : List Int) (A : Option Addr) (n d : Nat) (w : World) (hA : Has .u8 w A b) (hl : b.length = n) (hn : n ≤ 100000) (hb : ∀ z ∈ b, 0 ≤ z ∧ z ≤ 255) :
    Calls Tryd.prog 38 #[.slice A n d] w fun e w' => e = .returned (.agg (darr (digest b))) ∧ Below w.heap.size w w' := by
  have hfi : In5 first := by unfold In5 first; decide
  obtain ⟨f, hf⟩ : ∃ f, first = f := ⟨_, rfl⟩
  have HDG : Hid (digest b = wbytes (blks (b ++ padL b.length) ((b.length + (padL b.length).length) / 64) f)) := Lib.hid (by rw [← hf]; rfl)
  rw [hf] at hfi
  have HFI := Lib.hid hfi
  have HF := Lib.hid hf
  clear hfi hf
  have HA := Lib.hid hA
  have HL := Lib.hid hl
  have HB := Lib.hid hb
  have HN := Lib.hid hn
  obtain ⟨m, hm⟩ : ∃ m, zerosN n + 9 = m := ⟨_, rfl⟩
  have HM : Hid ((padL n).length = m ∧ 9 ≤ m ∧ m ≤ 72) := Lib.hid (by rw [padL_len]; have := zerosN_lt n; omega)
  obtain ⟨q, hq⟩ : ∃ q, n + m = q := ⟨_, rfl⟩
  have HQ := Lib.hid hq
  have HQ64 : Hid (q % 64 = 0) := Lib.hid (by have := pad_64 n; rw [HM.out.1] at this; omega)
  have n9 : (n : Int) ≤ 100000 := by omega
  have q9' : (q : Int) ≤ 100072 := by have := HM.out; omega
  obtain ⟨v, hv⟩ : ∃ v, blks (b ++ padL b.length) ((b.length + (padL b.length).length) / 64) f = v := ⟨_, rfl⟩
  have HV := Lib.hid hv
  have HDV : Hid (digest b = wbytes v) := Lib.hid (by rw [HDG.out, hv])
  have HZM := Lib.hid hm
  clear hA hl hb hn hv hm hq
  go_enter Tryd.func38, Tryd.ntmps38
  go_wp2_with (first | (at_builtin; refine app8z rfl (.tmp 8) (.tmp 9) rfl (w.heap.size + 1) _ [] rfl (.inr ⟨rfl, _, rfl⟩) A n d b rfl HL.out (HA.out.below (by (repeat' (first | (with_reducible exact Below.refl _ _) | (with_reducible assumption) | (with_reducible refine below_drewN ?_ _) | (with_reducible refine below_new ?_ _) | (with_reducible refine Below.alloc ?_ ?_ _) | (with_reducible refine Below.drew ?_) | (with_reducible refine Below.setCell ?_ ?_ _) | (with_reducible apply below_at; (case k => (with_reducible assumption)); (case hB => omega)) | (with_reducible apply below_on; (with_reducible assumption)) | (go_size; done) | (with_reducible apply size_of)))) (Nat.le_refl _)) n (by simp) (by have := HN.out; omega) (by simp) ?_; intro A3 c3 w3 ho3 hk3 hb3; rw [List.nil_append] at ho3; have HO3 := Lib.hid ho3; have HB3 : Hid (Below (w.heap.size + 1) (w.alloc (.cells z20.toArray 52)) w3) := Lib.hid (Below.trans ((Below.refl _ _).alloc (by simp) _) hb3); clear ho3 hk3 hb3))
  refine (rPadding n _ HN.out).mono ?_
  rintro e w4 ⟨A1, c1, rfl, ho1, hb1⟩
  rw [HZM.out] at ho1
  rw [HZM.out]
  have HO1 := Lib.hid ho1
  have HB1 := Lib.hid hb1
  have HO3' := Lib.hid (HO3.out.past hb1)
  have HZ4 : Hid (Lies w4 w.heap.size 52 z20 ∧ Below w.heap.size w w4) := Lib.hid ⟨((Lies.fresh_at (cs := z20) rfl).below HB3.out (by omega)).past hb1, ((((Below.refl _ _).alloc (Nat.le_refl _) _).trans (HB3.out.mono (by omega)))).trans (hb1.mono (by have := HB3.out.size; simp at this; omega))⟩
  clear ho1 hb1
  go_wp2_with (first | (at_builtin; refine app8z rfl (.tmp 10) (.tmp 13) rfl (w.heap.size + 1) _ b rfl HO3'.out A1 m c1 (padL n) rfl HM.out.1 HO1.out.has q (by rw [HL.out]; exact HQ.out) (by have := HM.out; omega) (by have := HB1.out.size; have := HB3.out.size; simp at this; omega) ?_; intro A4 c4 w5 ho4 hk4 hb4; have HO4 := Lib.hid ho4; have HZ5 : Hid (Lies w5 w.heap.size 52 z20 ∧ Below w.heap.size w w5) := Lib.hid ⟨HZ4.out.1.below hb4 (by omega), HZ4.out.2.trans (hb4.mono (by omega))⟩; clear ho4 hk4 hb4))
  refine (rFirst' HF.out _).mono ?_
  rintro e w6 ⟨rfl, hb6⟩
  have HO6 := Lib.hid (HO4.out.past hb6)
  have HZ6 : Hid (Lies w6 w.heap.size 52 z20 ∧ Below w.heap.size w w6) := Lib.hid ⟨HZ5.out.1.past hb6, HZ5.out.2.trans (hb6.mono HZ5.out.2.size)⟩
  clear hb6
  go_wp2_with fail
  go_loopw [5] (fun i wr => ∃ t s : Nat, 64 * t = s ∧ s ≤ q ∧ i = .int .i64 s ∧ Lies (wr) (w6.heap.size) 98 (c5 (blks (b ++ padL n) t f)) ∧ OwnZ wr (w.heap.size + 1) (.slice A4 q c4) (b ++ padL n) ∧ Lies wr w.heap.size 52 z20 ∧ Below w.heap.size w wr) (fun i _ => q - (intOf i).toNat)
  case atStart =>
    exact ⟨0, 0, rfl, Nat.zero_le _, rfl, Lies.fresh_at (cs := c5 f) rfl, HO6.out.alloc _, HZ6.out.1.alloc _, by have := HZ6.out.2; (repeat' (first | (with_reducible exact Below.refl _ _) | (with_reducible assumption) | (with_reducible refine below_drewN ?_ _) | (with_reducible refine below_new ?_ _) | (with_reducible refine Below.alloc ?_ ?_ _) | (with_reducible refine Below.drew ?_) | (with_reducible refine Below.setCell ?_ ?_ _) | (with_reducible apply below_at; (case k => (with_reducible assumption)); (case hB => omega)) | (with_reducible apply below_on; (with_reducible assumption)) | (go_size; done) | (with_reducible apply size_of)))⟩
  case round =>
    obtain ⟨t, s, hs, hq, rfl, K, own, Z, acc⟩ := hrel
    have HK := Lib.hid K
    have HO := Lib.hid own
    have HZ := Lib.hid Z
    have HACC := Lib.hid acc
    have HTS := Lib.hid hs
    have HNE : Hid (w.heap.size < w6.heap.size) := Lib.hid HZ6.out.1.lt
    by_cases hlt : s < q
    · have s1 : (s : Int) + 64 ≤ q := by have := HQ64.out; have := HTS.out; omega
      have s0 : 0 ≤ (s : Int) := by omega
      have r1 : IntKind.i64.wrap ((s : Int) + 64) = (s : Int) + 64 := IntWalk.i64_in _ (by omega)
      have r3 : (s : Int) < q := by omega
      have HLT := Lib.hid hlt
      obtain ⟨A', cc, e4, has4, le4⟩ := own.val
      injection e4 with e41 e42 e43
      subst e41
      subst e43
      have hlen : (b ++ padL n).length = q := by rw [List.length_append, HL.out, HM.out.1]; exact HQ.out
      rw [hlen] at le4
      obtain ⟨ga, oa, rfl, hga, hgc⟩ := has_some has4 (by rw [hlen]; omega)
      have HCH : Hid (Has .u8 wr (some ⟨ga, oa + s, none⟩) (((b ++ padL n).drop s).take 64) ∧ (((b ++ padL n).drop s).take 64).length = 64 ∧ ∀ z ∈ ((b ++ padL n).drop s).take 64, 0 ≤ z ∧ z ≤ 255) := Lib.hid ⟨(has4.dropAt s).front 64, by rw [List.length_take, List.length_drop, hlen]; omega, bd_cut (fun z hz => (List.mem_append.1 hz).elim (HB.out z) (rpad_bd n z)) s 64⟩
      obtain ⟨u, hu⟩ : ∃ u, blks (b ++ padL n) (t + 1) f = u := ⟨_, rfl⟩
      have HU : Hid (dn (blks (b ++ padL n) t f) (((b ++ padL n).drop s).take 64) = u) := Lib.hid (by rw [← hu, blks, HTS.out])
      have HU2 := Lib.hid hu
      have HIN : Hid (In5 (blks (b ++ padL n) t f)) := Lib.hid (blks_in HFI.out t)
      have q5 : (q : Int) ≤ c4 := by omega
      have q6 : ¬ c4 = s := by omega
      have q7 : s + 64 - s = 64 := by omega
      have q8 : ((s : Int) + 64).toNat = s + 64 := by omega
      have q9 : ((s : Int)).toNat = s := by omega
      have q10 : (s : Int) + 64 ≤ c4 := by omega
      have q12 : 0 ≤ (s : Int) + 64 := by omega
      have HQ11 : Hid (64 ≤ c4 - s) := Lib.hid (by omega)
      have HKL := Lib.hid K.lt
      obtain ⟨p0, p1, p2, p3, p4⟩ := five K
      have HPP := Lib.hid (And.intro p0 (And.intro p1 (And.intro p2 (And.intro p3 p4))))
      clear K own Z acc hs hq hlt hu hlen le4 e42 has4 hga hgc p0 p1 p2 p3 p4
      generalize blks (b ++ padL n) t f = v' at *
      generalize ((b ++ padL n).drop s).take 64 = ch at *
      go_wp2_with fail
      (have RD := grows_roads (S := fun x' => Below wr.heap.size wr x') (fun a b h1 h2 => h2.trans (h1.mono h2.size))); refine region_ordT 7 _ Grows RD (Below.drew (Below.refl _ _)) (by kernel_rfl) (by decide) ?_; intro ops Q' hops hPQ hN; (have HNS : Hid (Region.noSelect ops = true ∧ Region.sinkB .any ops 7 = true ∧ Region.chainB .any ops 7 = true ∧ 7 < ops.size) := Lib.hid (by rw [hops]; exact ⟨by kernel_rfl, by kernel_rfl, by kernel_rfl, by decide⟩)); (have hsz : ops.size = 8 := (by rw [hops]; rfl)); have HOP := Lib.hid hops; have HPQ := Lib.hid hPQ; have HN := Lib.hid hN; rw [hsz]; clear hops hsz hPQ hN
      refine ordT_take RD 0 (at_list (by rw [HOP.out]; rfl)) HNS.out HPQ.out (by rw [HOP.out]; kernel_rfl) (by rw [HOP.out]; kernel_rfl) (by rw [HOP.out]; rfl) (fun K hK => ?_); apply Exists.intro; refine ⟨fun W hSW => ?_, hK _ ?_⟩; (focus ((try dsimp only at hSW); (obtain ⟨p0, p1, p2, p3, p4⟩ := HPP.out; rw [← hSW.cell (p := ⟨w6.heap.size, _, none⟩) HKL.out] at p0 p1 p2 p3 p4); go_simp; try with_reducible rfl)); clear hK K; (try simp only [Act.put, List.setIfInBounds_toArray, List.set_cons_zero, List.set_cons_succ])
      refine ordT_take RD 1 (at_list (by rw [HOP.out]; rfl)) HNS.out HPQ.out (by rw [HOP.out]; kernel_rfl) (by rw [HOP.out]; kernel_rfl) (by rw [HOP.out]; rfl) (fun K hK => ?_); apply Exists.intro; refine ⟨fun W hSW => ?_, hK _ ?_⟩; (focus ((try dsimp only at hSW); go_simp; try with_reducible rfl)); clear hK K; (try simp only [Act.put, List.setIfInBounds_toArray, List.set_cons_zero, List.set_cons_succ])
      refine ordT_take RD 2 (at_list (by rw [HOP.out]; rfl)) HNS.out HPQ.out (by rw [HOP.out]; kernel_rfl) (by rw [HOP.out]; kernel_rfl) (by rw [HOP.out]; rfl) (fun K hK => ?_); apply Exists.intro; refine ⟨fun W hSW => ?_, hK _ ?_⟩; (focus ((try dsimp only at hSW); go_simp; try with_reducible rfl)); clear hK K; (try simp only [Act.put, List.setIfInBounds_toArray, List.set_cons_zero, List.set_cons_succ])
      refine ordT_take RD 3 (at_list (by rw [HOP.out]; rfl)) HNS.out HPQ.out (by rw [HOP.out]; kernel_rfl) (by rw [HOP.out]; kernel_rfl) (by rw [HOP.out]; rfl) (fun K hK => ?_); apply Exists.intro; refine ⟨fun W hSW => ?_, hK _ ?_⟩; (focus ((try dsimp only at hSW); go_simp; try with_reducible rfl)); clear hK K; (try simp only [Act.put, List.setIfInBounds_toArray, List.set_cons_zero, List.set_cons_succ])
      refine ordT_take RD 4 (at_list (by rw [HOP.out]; rfl)) HNS.out HPQ.out (by rw [HOP.out]; kernel_rfl) (by rw [HOP.out]; kernel_rfl) (by rw [HOP.out]; rfl) (fun K hK => ?_); apply Exists.intro; refine ⟨fun W hSW => ?_, hK _ ?_⟩; (focus ((try dsimp only at hSW); go_simp; try with_reducible rfl)); clear hK K; (try simp only [Act.put, List.setIfInBounds_toArray, List.set_cons_zero, List.set_cons_succ])
      refine ordT_take RD 5 (at_list (by rw [HOP.out]; rfl)) HNS.out HPQ.out (by rw [HOP.out]; kernel_rfl) (by rw [HOP.out]; kernel_rfl) (by rw [HOP.out]; rfl) (fun K hK => ?_); apply Exists.intro; refine ⟨fun W hSW => ?_, hK _ ?_⟩; (focus ((try dsimp only at hSW); go_simp; try with_reducible rfl)); clear hK K; (try simp only [Act.put, List.setIfInBounds_toArray, List.set_cons_zero, List.set_cons_succ])
      refine ordT_take RD 6 (at_list (by rw [HOP.out]; rfl)) HNS.out HPQ.out (by rw [HOP.out]; kernel_rfl) (by rw [HOP.out]; kernel_rfl) (by rw [HOP.out]; rfl) (fun K hK => ?_); apply Exists.intro; refine ⟨fun W hSW => ?_, hK _ ?_⟩; (focus ((try dsimp only at hSW); go_simp; exact (rdone HU.out (HCH.out.1.below hSW (Nat.le_refl _)) HCH.out.2.1 HQ11.out HCH.out.2.2 HIN.out))); clear hK K; (try simp only [Act.put, List.setIfInBounds_toArray, List.set_cons_zero, List.set_cons_succ])
      refine ordT_end (by rw [HOP.out]; kernel_rfl) (fun W3 hWW hSW => ?_); rw [HOP.out]; simp only [List.drop_succ_cons, List.drop_zero]; have hN := HN.out; clear HOP HNS HPQ HN RD; (try dsimp only at hSW)
      have HK3 := Lib.hid (HK.out.past hSW)
      have HO3 := Lib.hid (HO.out.past hSW)
      have HZ3 := Lib.hid (HZ.out.past hSW)
      have HA3 : Hid (Below w.heap.size w W3) := Lib.hid (HACC.out.trans (hSW.mono HACC.out.size))
      obtain ⟨f0, f1, f2, f3, f4⟩ := free5 HK3.out
      obtain ⟨z0, z1, z2, z3, z4⟩ := five HK3.out
      have zl := HK3.out.lt
      clear hSW hWW
      go_wp2_with fail
      refine ⟨⟨t + 1, s + 64, by have := HTS.out; omega, by have := HQ64.out; have := HTS.out; omega, by go_num, ?_, ownz_s5 HO3.out HK3.out (by decide) _ _ _ _ _, ?_, ?_⟩, by simp [intOf]; have := HLT.out; omega⟩
      · rw [HU2.out]; exact lies_set5 HK3.out u
      · exact far5 HZ3.out (by have := HNE.out; omega) _ _ _ _ _
      · have := HA3.out; have : w.heap.size ≤ w6.heap.size := HZ6.out.2.size; (repeat' (first | (with_reducible exact Below.refl _ _) | (with_reducible assumption) | (with_reducible refine below_drewN ?_ _) | (with_reducible refine below_new ?_ _) | (with_reducible refine Below.alloc ?_ ?_ _) | (with_reducible refine Below.drew ?_) | (with_reducible refine Below.setCell ?_ ?_ _) | (with_reducible apply below_at; (case k => (with_reducible assumption)); (case hB => omega)) | (with_reducible apply below_on; (with_reducible assumption)) | (go_size; done) | (with_reducible apply size_of)))
    · have s1 : (q : Int) ≤ s := by omega
      have HV9 : Hid (blks (b ++ padL n) t f = v) := Lib.hid (by
        rw [← HV.out, HL.out, HM.out.1]
        congr 1
        have := HQ.out; have := HTS.out; omega)
      have HK' : Hid (Lies (wr) (w6.heap.size) 98 (c5 (v))) := Lib.hid (by rw [← HV9.out]; exact K)
      have HIN : Hid (In5 v) := Lib.hid (by rw [← HV9.out]; exact blks_in HFI.out t)
      clear K own Z acc hs hq hlt HK HO
      go_wp2_with fail
      have HBX0 : Hid (w6.heap.size < wr.heap.size ∧ w.heap.size < wr.heap.size ∧ Below w.heap.size w wr) := Lib.hid ⟨HK'.out.lt, HZ.out.lt, HACC.out⟩
      generalize hg9 : wr.heap.size = g9 at *
      have HG9 := Lib.hid hg9
      have HBX : Hid (w6.heap.size < g9 ∧ w.heap.size < g9) := Lib.hid ⟨HBX0.out.1, HBX0.out.2.1⟩
      clear hg9
      go_loopw [7] (fun i wz => ∃ k : Nat, k ≤ 20 ∧ i = .int .i64 k ∧ Lies (wz) (w6.heap.size) 98 (c5 (v)) ∧ Lies wz w.heap.size 52 z20 ∧ Lies wz g9 52 (bc v k) ∧ Below w.heap.size w wz) (fun i _ => 20 - (intOf i).toNat)
      case atStart =>
        refine ⟨0, by omega, rfl, HK'.out.alloc _, HZ.out.alloc _, ?_, by have := HACC.out; (repeat' (first | (with_reducible exact Below.refl _ _) | (with_reducible assumption) | (with_reducible refine below_drewN ?_ _) | (with_reducible refine below_new ?_ _) | (with_reducible refine Below.alloc ?_ ?_ _) | (with_reducible refine Below.drew ?_) | (with_reducible refine Below.setCell ?_ ?_ _) | (with_reducible apply below_at; (case k => (with_reducible assumption)); (case hB => omega)) | (with_reducible apply below_on; (with_reducible assumption)) | (go_size; done) | (with_reducible apply size_of)))⟩
        rw [bc_0]; exact Lies.fresh_at (cs := z20) HG9.out
      case round =>
        clear HK' HZ HACC
        obtain ⟨k, hk, rfl, R, Z, D, acc⟩ := hrel
        have HR := Lib.hid R
        have HZ := Lib.hid Z
        have HD := Lib.hid D
        have HACC := Lib.hid acc
        by_cases hlt : k < 20
        · have p0 := R.cell (k / 4)
          rw [c5, List.getElem?_map, l5_get v (k / 4) (by omega)] at p0
          simp only [Option.map_some] at p0
          have hx : 0 ≤ (l5 v).getD (k / 4) 0 ∧ (l5 v).getD (k / 4) 0 ≤ 4294967295 := by
            obtain ⟨h1, h2, h3, h4, h5⟩ := HIN.out
            rcases (show k / 4 = 0 ∨ k / 4 = 1 ∨ k / 4 = 2 ∨ k / 4 = 3 ∨ k / 4 = 4 by omega) with e | e | e | e | e <;> rw [e] <;> assumption
          obtain ⟨x1, x2⟩ := hx
          have p2 := D.free k
          obtain ⟨old, q0⟩ : ∃ old, _ = some old := ⟨_, (D.cell k).trans (List.getElem?_eq_getElem (by rw [bc_len v (by omega)]; omega))⟩
          have zk := D.lt
          have HX := Lib.hid (wbytes_at v k hlt)
          have HLT := Lib.hid hlt
          have k0 : 0 ≤ (k : Int) := by omega
          have k1 : (k : Int) < 20 := by omega
          have n1 : (k : Int) / 4 < 5 := by omega
          have n0 : 0 ≤ (k : Int) / 4 := by omega
          have n2 : ((k : Int) / 4).toNat = k / 4 := by omega
          have m1 : (24 - 8 * ((k : Int) % 4)).toNat = 24 - 8 * (k % 4) := by omega
          have m2 : 0 ≤ 24 - 8 * ((k : Int) % 4) := by omega
          have m3 : 24 - 8 * ((k : Int) % 4) ≤ 24 := by omega
          clear R Z D acc hk hlt
          generalize (l5 v).getD (k / 4) 0 = x at *
          go_wp2_with fail
          refine ⟨⟨k + 1, by have := HLT.out; omega, by go_num, HR.out.other (by have := HBX.out; show g9 ≠ w6.heap.size; omega) _, HZ.out.other (by have := HBX.out; show g9 ≠ w.heap.size; omega) _, ?_, by have := HACC.out; have : w.heap.size ≤ g9 := (by have := HBX.out; omega); (repeat' (first | (with_reducible exact Below.refl _ _) | (with_reducible assumption) | (with_reducible refine below_drewN ?_ _) | (with_reducible refine below_new ?_ _) | (with_reducible refine Below.alloc ?_ ?_ _) | (with_reducible refine Below.drew ?_) | (with_reducible refine Below.setCell ?_ ?_ _) | (with_reducible apply below_at; (case k => (with_reducible assumption)); (case hB => omega)) | (with_reducible apply below_on; (with_reducible assumption)) | (go_size; done) | (with_reducible apply size_of)))⟩, by simp [intOf]; have := HLT.out; omega⟩
          have := HD.out.set k (.int .u8 (x / 2 ^ (24 - 8 * (k % 4)) % 256))
          rwa [bc_set v HLT.out _ HX.out.symm] at this
        · have k20 : ¬ (k : Int) < 20 := by omega
          have HD' : Hid (wr.heap[g9]? = some (.cells (darr (wbytes v)) 52 (0, 0))) := Lib.hid (by have := HD.out; unfold Lies at this; rw [bc_20 v k (by omega)] at this; exact this)
          have HP := Lib.hid (done1 v)
          clear R Z D acc hk hlt HD
          go_upto_region 12 with fail
          go_step
          refine wpList_load_row (P := Tryd.prog) rfl 52 (.tmp 6) rfl g9 rfl 52 (darr (wbytes v)) (0, 0) _ HD'.out Tryd.underlying52 rfl (info20 v) ?_
          refine wpList_store_arr (P := Tryd.prog) rfl 52 (.tmp 2) (.tmp 45) rfl w.heap.size rfl (darr (wbytes v)) rfl 52 _ HZ.out rfl HP.out (info20 v) ?_
          intro w9 hR9 hb9 hz9
          go_wp2_with fail
          refine bodyPost_ret (results_cell_row (P := Tryd.prog) Tryd.results38 _ _ _ _ _ _ _ rfl hR9 Tryd.underlying52 rfl (info20 v)) rfl ⟨by rw [HDV.out], ?_⟩
          exact HACC.out.trans hb9
end Go.Proofs.YtiihafhnaiicoaaDoor.shW
