/- Words: turned, mixed; by walks. -/
import Derived.Test.YtphakelncjogpaaDoorShPlain
import Derived.Test.YtphakelncjogpaaDoorBits
import Derived.Test.YtphakelncjogpaaDoorMem8
import Derived.Test.YtphakelncjogpaaDoorReg
import Derived.Test.YtphakelncjogpaaDoorBlock
import Derived.Test.YtphakelncjogpaaDoorStep
import Derived.Test.YtphakelncjogpaaDoorOwnZ
import Derived.Test.YtphakelncjogpaaDoorArr
import Derived.Lib.Hide
import Derived.BigQuiet
import Derived.BigRegion
import Derived.StillTailTactics
import Derived.Deep.RegionHeld3
import Derived.Deep.RegionLaw
import Derived.Deep.DeepCutAuto
import Derived.WalkMore
namespace Go.Proofs.YtphakelncjogpaaDoor.shW
set_option maxRecDepth 100000
open Go.RowKit Go.Proofs.YtphakelncjogpaaDoor.base Go.Proofs.YtphakelncjogpaaDoor.shP
set_option linter.unusedVariables false
set_option linter.unusedSimpArgs false

theorem ror (a b c d : Int) (h : a = c) (h' : b = d) : bits .or .u32 a b = bits .or .u32 c d := by rw [h, h']
def kk (k : Nat) : Prop := k = 1 ∨ k = 5 ∨ k = 30
set_option maxHeartbeats 400000 in
theorem rotate (x : Int) (k : Nat) (w : World) (hk : kk k) (h1 : 0 ≤ x) (h2 : x ≤ 4294967295) : Calls Tryd.prog 71 #[.int .u32 x, .int .i64 k] w fun e w' => e = .returned (.int .u32 (rot x k)) ∧ w = w' := by
  rcases hk with rfl | rfl | rfl
  · have b5 : bits .and .u64 1 31 = 1 := by decide
    go_enter Tryd.func71, Tryd.ntmps71
    go_wp2
    go_ret
    exact ⟨rfl, rfl⟩
  · have b5 : bits .and .u64 5 31 = 5 := by decide
    go_enter Tryd.func71, Tryd.ntmps71
    go_wp2
    go_ret
    exact ⟨rfl, rfl⟩
  · have b5 : bits .and .u64 30 31 = 30 := by decide
    go_enter Tryd.func71, Tryd.ntmps71
    go_wp2
    go_ret
    exact ⟨rfl, rfl⟩
theorem rotate1 (x : Int) (w : World) (h1 : 0 ≤ x) (h2 : x ≤ 4294967295) : Calls Tryd.prog 71 #[.int .u32 x, .int .i64 1] w fun e w' => e = .returned (.int .u32 (rot x 1)) ∧ w = w' := rotate x 1 w (.inl rfl) h1 h2
theorem rotate5 (x : Int) (w : World) (h1 : 0 ≤ x) (h2 : x ≤ 4294967295) : Calls Tryd.prog 71 #[.int .u32 x, .int .i64 5] w fun e w' => e = .returned (.int .u32 (rot x 5)) ∧ w = w' := rotate x 5 w (.inr (.inl rfl)) h1 h2
theorem rotate30 (x : Int) (w : World) (h1 : 0 ≤ x) (h2 : x ≤ 4294967295) : Calls Tryd.prog 71 #[.int .u32 x, .int .i64 30] w fun e w' => e = .returned (.int .u32 (rot x 30)) ∧ w = w' := rotate x 30 w (.inr (.inr rfl)) h1 h2
set_option maxHeartbeats 400000 in
theorem turn (x : Int) (k : Nat) (w : World) (hk : kk k) (h1 : 0 ≤ x) (h2 : x ≤ 4294967295) : Calls Tryd.prog 56 #[.int .u32 x, .int .i64 k] w fun e w' => e = .returned (.int .u32 (rot x k)) ∧ ∃ n, w' = w.drewN n := by
  rcases hk with rfl | rfl | rfl
  all_goals
    go_enter Tryd.func56, Tryd.ntmps56
    go_wp2
    go_quiet (fail)
    go_wp2
    go_ret
    exact ⟨rfl, _, rfl⟩
theorem turn1 (x : Int) (w : World) (h1 : 0 ≤ x) (h2 : x ≤ 4294967295) : Calls Tryd.prog 56 #[.int .u32 x, .int .i64 1] w fun e w' => e = .returned (.int .u32 (rot x 1)) ∧ ∃ n, w' = w.drewN n := turn x 1 w (.inl rfl) h1 h2
theorem turn5 (x : Int) (w : World) (h1 : 0 ≤ x) (h2 : x ≤ 4294967295) : Calls Tryd.prog 56 #[.int .u32 x, .int .i64 5] w fun e w' => e = .returned (.int .u32 (rot x 5)) ∧ ∃ n, w' = w.drewN n := turn x 5 w (.inr (.inl rfl)) h1 h2
theorem turn30 (x : Int) (w : World) (h1 : 0 ≤ x) (h2 : x ≤ 4294967295) : Calls Tryd.prog 56 #[.int .u32 x, .int .i64 30] w fun e w' => e = .returned (.int .u32 (rot x 30)) ∧ ∃ n, w' = w.drewN n := turn x 30 w (.inr (.inr rfl)) h1 h2
set_option maxHeartbeats 1000000 in
theorem mixed (t : Nat) (b c d : Int) (w : World) (ht : t < 80) : Calls Tryd.prog 70 #[.int .i64 t, .int .u32 b, .int .u32 c, .int .u32 d] w fun e w' => e = .returned (.tuple #[.int .u32 (fR t b c d), .int .u32 (kR t)]) ∧ w = w' := by
  have hs : IntKind.u32.signed = false := rfl
  have hmx : IntKind.u32.max = 4294967295 := rfl
  by_cases h1 : (t : Int) < 20
  · have HF : Hid (fR t b c d = bits .or .u32 (bits .and .u32 b c) (bits .and .u32 (bits .xor .u32 4294967295 b) d) ∧ kR t = 1518500249) := Lib.hid ⟨by rw [fR, if_pos (by omega)], by rw [kR, if_pos (by omega)]⟩
    clear ht
    go_enter Tryd.func70, Tryd.ntmps70
    go_wp2
    go_ret2
    exact ⟨ret2 HF.out.1.symm HF.out.2.symm, rfl⟩
  · by_cases h2 : (t : Int) < 40
    · have HF : Hid (fR t b c d = bits .xor .u32 (bits .xor .u32 b c) d ∧ kR t = 1859775393) := Lib.hid ⟨by rw [fR, if_neg (by omega), if_pos (by omega)], by rw [kR, if_neg (by omega), if_pos (by omega)]⟩
      clear ht
      go_enter Tryd.func70, Tryd.ntmps70
      go_wp2
      go_ret2
      exact ⟨ret2 HF.out.1.symm HF.out.2.symm, rfl⟩
    · by_cases h3 : (t : Int) < 60
      · have HF : Hid (fR t b c d = bits .or .u32 (bits .or .u32 (bits .and .u32 b c) (bits .and .u32 b d)) (bits .and .u32 c d) ∧ kR t = 2400959708) := Lib.hid ⟨by rw [fR, if_neg (by omega), if_neg (by omega), if_pos (by omega)], by rw [kR, if_neg (by omega), if_neg (by omega), if_pos (by omega)]⟩
        clear ht
        go_enter Tryd.func70, Tryd.ntmps70
        go_wp2
        go_ret2
        exact ⟨ret2 HF.out.1.symm HF.out.2.symm, rfl⟩
      · have HF : Hid (fR t b c d = bits .xor .u32 (bits .xor .u32 b c) d ∧ kR t = 3395469782) := Lib.hid ⟨by rw [fR, if_neg (by omega), if_neg (by omega), if_neg (by omega)], by rw [kR, if_neg (by omega), if_neg (by omega), if_neg (by omega)]⟩
        clear ht
        go_enter Tryd.func70, Tryd.ntmps70
        go_wp2
        go_ret2
        exact ⟨ret2 HF.out.1.symm HF.out.2.symm, rfl⟩
set_option maxHeartbeats 1000000 in
theorem part (t : Nat) (b c d : Int) (w : World) (ht : t < 80) : Calls Tryd.prog 57 #[.int .i64 t, .int .u32 b, .int .u32 c, .int .u32 d] w fun e w' => e = .returned (.tuple #[.int .u32 (fR t b c d), .int .u32 (kR t)]) ∧ w = w' := by
  have hs : IntKind.u32.signed = false := rfl
  have hmx : IntKind.u32.max = 4294967295 := rfl
  by_cases h1 : (t : Int) < 20
  · have HF : Hid (fR t b c d = bits .or .u32 (bits .and .u32 b c) (bits .and .u32 (bits .xor .u32 4294967295 b) d) ∧ kR t = 1518500249) := Lib.hid ⟨by rw [fR, if_pos (by omega)], by rw [kR, if_pos (by omega)]⟩
    clear ht
    go_enter Tryd.func57, Tryd.ntmps57
    go_wp2
    go_ret2
    exact ⟨ret2 HF.out.1.symm HF.out.2.symm, rfl⟩
  · by_cases h2 : (t : Int) < 40
    · have HF : Hid (fR t b c d = bits .xor .u32 (bits .xor .u32 b c) d ∧ kR t = 1859775393) := Lib.hid ⟨by rw [fR, if_neg (by omega), if_pos (by omega)], by rw [kR, if_neg (by omega), if_pos (by omega)]⟩
      clear ht
      go_enter Tryd.func57, Tryd.ntmps57
      go_wp2
      go_ret2
      exact ⟨ret2 HF.out.1.symm HF.out.2.symm, rfl⟩
    · by_cases h3 : (t : Int) < 60
      · have HF : Hid (fR t b c d = bits .or .u32 (bits .or .u32 (bits .and .u32 b c) (bits .and .u32 b d)) (bits .and .u32 c d) ∧ kR t = 2400959708) := Lib.hid ⟨by rw [fR, if_neg (by omega), if_neg (by omega), if_pos (by omega)], by rw [kR, if_neg (by omega), if_neg (by omega), if_pos (by omega)]⟩
        clear ht
        go_enter Tryd.func57, Tryd.ntmps57
        go_wp2
        go_ret2
        exact ⟨ret2 HF.out.1.symm HF.out.2.symm, rfl⟩
      · have HF : Hid (fR t b c d = bits .xor .u32 (bits .xor .u32 b c) d ∧ kR t = 3395469782) := Lib.hid ⟨by rw [fR, if_neg (by omega), if_neg (by omega), if_neg (by omega)], by rw [kR, if_neg (by omega), if_neg (by omega), if_neg (by omega)]⟩
        clear ht
        go_enter Tryd.func57, Tryd.ntmps57
        go_wp2
        go_ret2
        exact ⟨ret2 HF.out.1.symm HF.out.2.symm, rfl⟩
theorem bits_bd (o : BinOp) (a b : Int) : 0 ≤ bits o .u32 a b ∧ bits o .u32 a b ≤ 4294967295 := by
  unfold bits
  split <;> (rw [IntKind.wrap_u32]; omega)
theorem rot_bd (x : Int) (k : Nat) : 0 ≤ rot x k ∧ rot x k ≤ 4294967295 := bits_bd _ _ _
theorem fR_bd (t : Nat) (b c d : Int) : 0 ≤ fR t b c d ∧ fR t b c d ≤ 4294967295 := by
  unfold fR
  split
  · exact bits_bd _ _ _
  · split
    · exact bits_bd _ _ _
    · split
      · exact bits_bd _ _ _
      · exact bits_bd _ _ _
theorem kR_bd (t : Nat) : 0 ≤ kR t ∧ kR t ≤ 4294967295 := by unfold kR; split <;> (try split) <;> (try split) <;> omega
def In5 (v : W5) : Prop := (0 ≤ v.a ∧ v.a ≤ 4294967295) ∧ (0 ≤ v.b ∧ v.b ≤ 4294967295) ∧ (0 ≤ v.c ∧ v.c ≤ 4294967295) ∧ (0 ≤ v.d ∧ v.d ≤ 4294967295) ∧ (0 ≤ v.e ∧ v.e ≤ 4294967295)
theorem add_bd (x y : Int) : 0 ≤ add32 x y ∧ add32 x y ≤ 4294967295 := by unfold add32; omega
theorem rnd_in {x : Int} {t : Nat} {v : W5} (h : In5 v) : In5 (rnd x t v) := ⟨add_bd _ _, h.1, rot_bd _ _, h.2.2.1, h.2.2.2.1⟩
theorem rnds_in {W : List Int} {v : W5} (h : In5 v) : ∀ k, In5 (rnds W k v)
  | 0 => h
  | k + 1 => rnd_in (rnds_in h k)
theorem addW_in (h v : W5) : In5 (addW h v) := ⟨add_bd _ _, add_bd _ _, add_bd _ _, add_bd _ _, add_bd _ _⟩
theorem sch_len (b : List Int) : ∀ t, (sch b t).length = t
  | 0 => rfl
  | t + 1 => by simp [sch, sch_len b t]
theorem sch_bd {b : List Int} (hb : ∀ z ∈ b, 0 ≤ z ∧ z ≤ 255) : ∀ t, ∀ z ∈ sch b t, 0 ≤ z ∧ z ≤ 4294967295
  | 0, z, h => by simp [sch] at h
  | t + 1, z, h => by
    simp only [sch, List.mem_append, List.mem_singleton] at h
    rcases h with h | h
    · exact sch_bd hb t z h
    · subst h
      split
      · have g : ∀ i, 0 ≤ b.getD i 0 ∧ b.getD i 0 ≤ 255 := fun i => by
          rw [List.getD_eq_getElem?_getD]
          rcases Nat.lt_or_ge i b.length with hi | hi
          · rw [List.getElem?_eq_getElem hi]; exact hb _ (List.getElem_mem hi)
          · rw [List.getElem?_eq_none hi]; simp
        unfold w16
        have := g (4 * t); have := g (4 * t + 1); have := g (4 * t + 2); have := g (4 * t + 3)
        omega
      · exact rot_bd _ _
end Go.Proofs.YtphakelncjogpaaDoor.shW
