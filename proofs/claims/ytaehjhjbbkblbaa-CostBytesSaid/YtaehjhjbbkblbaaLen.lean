/- How many bits a number of at most 33 bits has: math/bits.Len64, by walks of the library's own text. -/
import Derived.Test.YtaehjhjbbkblbaaBase
import Derived.WalkKit
import Derived.Lib.Hide
import Derived.Lib.BitFns
namespace Go.Proofs.Ytaehjhjbbkblbaa.base
open Go.RowKit

theorem len8_size : Lib.len8tab.size = 256 := by kernel_rfl
theorem len8_at (y : Int) (h : y.toNat < Lib.len8tab.size) (h0 : 0 ≤ y) : ((Lib.len8tab[y.toNat]'h).toNat : Int) = Lib.bitLen y.toNat := by
  have hs := len8_size
  rw [← Lib.len8_of y h0 (by omega)]
  unfold Lib.len8; rw [getElem?_pos Lib.len8tab y.toNat h]; rfl
theorem bitLen_8 (y : Int) (h0 : 0 ≤ y) (h1 : y < 256) : Lib.bitLen y.toNat ≤ 8 := Lib.bitLen_le _ 8 (by omega) (by omega)
set_option maxHeartbeats 1000000 in
set_option maxRecDepth 1000000 in
theorem len64_0 (x : Int) (w : World) (h0 : 0 ≤ x) (h1 : x < 256) : Calls Try.prog 55 #[.int .u64 x] w fun e w' => e = .returned (.int .i64 (Lib.bitLen x.toNat)) ∧ w = w' := by
  go_enter Try.func55, Try.ntmps55
  go_wp2
  all_goals first
    | (go_ret; refine ⟨ret1 ?_, rfl⟩; rw [len8_at x _ h0]; have := bitLen_8 x h0 h1; unfold wrap64; omega)
    | (exfalso; have hs := len8_size; omega)
set_option maxHeartbeats 1000000 in
set_option maxRecDepth 1000000 in
theorem len64_1 (x : Int) (w : World) (h0 : 256 ≤ x) (h1 : x < 65536) : Calls Try.prog 55 #[.int .u64 x] w fun e w' => e = .returned (.int .i64 (Lib.bitLen x.toNat)) ∧ w = w' := by
  go_enter Try.func55, Try.ntmps55
  go_wp2
  all_goals first
    | (go_ret; refine ⟨ret1 ?_, rfl⟩; rw [len8_at (x / 256) _ (by omega)]; have := bitLen_8 (x / 256) (by omega) (by omega); have s := Lib.bitLen_shift8 x.toNat (by omega) (by omega); rw [show x.toNat / 256 = (x / 256).toNat by omega] at s; unfold wrap64; omega)
    | (exfalso; have hs := len8_size; omega)
set_option maxHeartbeats 1000000 in
set_option maxRecDepth 1000000 in
theorem len64_2 (x : Int) (w : World) (h0 : 65536 ≤ x) (h1 : x < 16777216) : Calls Try.prog 55 #[.int .u64 x] w fun e w' => e = .returned (.int .i64 (Lib.bitLen x.toNat)) ∧ w = w' := by
  have g : ¬ 256 ≤ x / 65536 := by omega
  go_enter Try.func55, Try.ntmps55
  go_wp2
  all_goals first
    | (go_ret; refine ⟨ret1 ?_, rfl⟩; rw [len8_at (x / 65536) _ (by omega)]; have := bitLen_8 (x / 65536) (by omega) (by omega); have s := Lib.bitLen_shift16 x.toNat (by omega) (by omega); rw [show x.toNat / 65536 = (x / 65536).toNat by omega] at s; unfold wrap64; omega)
    | (exfalso; have hs := len8_size; omega)
set_option maxHeartbeats 1000000 in
set_option maxRecDepth 1000000 in
theorem len64_3 (x : Int) (w : World) (h0 : 16777216 ≤ x) (h1 : x < 4294967296) : Calls Try.prog 55 #[.int .u64 x] w fun e w' => e = .returned (.int .i64 (Lib.bitLen x.toNat)) ∧ w = w' := by
  have g : 256 ≤ x / 65536 := by omega
  go_enter Try.func55, Try.ntmps55
  go_wp2
  all_goals first
    | (go_ret; refine ⟨ret1 ?_, rfl⟩; rw [len8_at (x / 65536 / 256) _ (by omega)]; have := bitLen_8 (x / 65536 / 256) (by omega) (by omega); have s := Lib.bitLen_shift24 x.toNat (by omega) (by omega); rw [show x.toNat / 16777216 = (x / 65536 / 256).toNat by omega] at s; unfold wrap64; omega)
    | (exfalso; have hs := len8_size; omega)
set_option maxHeartbeats 1000000 in
set_option maxRecDepth 1000000 in
theorem len64_4 (w : World) : Calls Try.prog 55 #[.int .u64 4294967296] w fun e w' => e = .returned (.int .i64 33) ∧ w = w' := by
  go_enter Try.func55, Try.ntmps55
  go_wp2
  all_goals first
    | (go_ret; exact ⟨ret1 (by kernel_rfl), rfl⟩)
    | (exfalso; have hs := len8_size; omega)
theorem len64_any (x : Int) (w : World) (h0 : 0 ≤ x) (h1 : x ≤ 4294967296) : Calls Try.prog 55 #[.int .u64 x] w fun e w' => e = .returned (.int .i64 (Lib.bitLen x.toNat)) ∧ w = w' := by
  by_cases a : x < 256
  · exact len64_0 x w h0 a
  · by_cases b : x < 65536
    · exact len64_1 x w (by omega) b
    · by_cases c : x < 16777216
      · exact len64_2 x w (by omega) c
      · by_cases d : x < 4294967296
        · exact len64_3 x w (by omega) d
        · obtain rfl : x = 4294967296 := by omega
          exact len64_4 w
end Go.Proofs.Ytaehjhjbbkblbaa.base
