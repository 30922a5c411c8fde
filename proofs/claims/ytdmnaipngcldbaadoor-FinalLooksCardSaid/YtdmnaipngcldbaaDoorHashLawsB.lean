/- Statements of layer 6 (hashes) about strings of bytes, by walks. -/
import Derived.Test.YtdmnaipngcldbaaDoorHashLaws
import Derived.Test.YtdmnaipngcldbaaDoorMem8
namespace Go.Proofs.YtdmnaipngcldbaaDoor.hashL
set_option maxRecDepth 100000
open Go.RowKit Go.Proofs.YtdmnaipngcldbaaDoor.base Go.Proofs.YtdmnaipngcldbaaDoor.hashP Go.Proofs.YtdmnaipngcldbaaDoor.hashW
set_option linter.unusedVariables false

set_option maxHeartbeats 1000000 in
theorem rhash_some (k : Int) (b off cap : Nat) (zs : List Int) (w : World) (k1 : 0 ≤ k) (k2 : k < 8) (hz : ∀ z ∈ zs, 0 ≤ z ∧ z ≤ 255)
    (hb : b < w.heap.size) (hc : ∀ i, i < zs.length → w.cell? ⟨b, off + i, none⟩ = some (.int .u8 (zs.getD i 0))) (hl : zs.length ≤ 9223372036854775807) :
    Calls Tryd.prog 31 #[.int .i64 k, .slice (some ⟨b, off, none⟩) zs.length cap] w fun e w' => e = .returned (.int .u32 (hSteps (kStart k) zs)) ∧ w = w' := by
  have HC := Lib.hid hc
  clear hc
  have HZ := Lib.hid hz
  clear hz
  have sb := kStart_bd k
  have s1 := sb.1
  have s2 := sb.2
  clear sb
  go_enter Tryd.func31, Tryd.ntmps31
  go_wp2_with (first | (go_at_call 44; refine (rbegin_any _ _ k1 k2).mono ?_; rintro e w' ⟨rfl, rfl⟩))
  go_loop [5, 6] (fun h i => ∃ j : Nat, j ≤ zs.length ∧ i = .int .i64 j ∧ h = .int .u32 (hSteps (kStart k) (zs.take j))) (fun _ i => zs.length - (intOf i).toNat)
  case atStart => exact ⟨0, Nat.zero_le _, rfl, by simp [hSteps]⟩
  case round =>
    obtain ⟨j, hj, rfl, rfl⟩ := hrel
    by_cases hlt : j < zs.length
    · have hcell := HC.out j hlt
      have hbd := HZ.out (zs.getD j 0) (by rw [List.getD_eq_getElem?_getD, List.getElem?_eq_getElem hlt]; simp)
      have hsb := hSteps_bd (zs.take j) s1 s2 (fun z hz => HZ.out z (List.mem_of_mem_take hz))
      generalize hv : zs.getD j 0 = v at *
      generalize hs : hSteps (kStart k) (zs.take j) = g at *
      have v1 := hbd.1
      have v2 := hbd.2
      have g1 := hsb.1
      have g2 := hsb.2
      have HV := Lib.hid hv
      have HS := Lib.hid hs
      clear hbd hsb hv hs
      go_wp2_with (first | (go_at_call 45; refine (rstep_any _ _ _ g1 g2 v1 v2).mono ?_; rintro e w' ⟨rfl, rfl⟩))
      go_round
      case rel => exact ⟨j + 1, by omega, by go_num, by rw [take_snoc 0 zs j hlt, hSteps_snoc, HV.out, HS.out]⟩
      case measure => simp [intOf]; omega
    · have : zs.take j = zs := List.take_of_length_le (by omega)
      have HT := Lib.hid this
      clear this
      go_wp2
      go_ret
      exact ⟨ret1 (by rw [HT.out]), rfl⟩

set_option maxHeartbeats 1000000 in
theorem rhash_nil (k : Int) (A : Option Addr) (cap : Nat) (w : World) (k1 : 0 ≤ k) (k2 : k < 8) :
    Calls Tryd.prog 31 #[.int .i64 k, .slice A 0 cap] w fun e w' => e = .returned (.int .u32 (kStart k)) ∧ w = w' := by
  go_enter Tryd.func31, Tryd.ntmps31
  go_wp2_with (first | (go_at_call 44; refine (rbegin_any _ _ k1 k2).mono ?_; rintro e w' ⟨rfl, rfl⟩))
  go_loop [5, 6] (fun h i => i = .int .i64 0 ∧ h = .int .u32 (kStart k)) (fun _ i => 0)
  case atStart => exact ⟨rfl, rfl⟩
  case round =>
    obtain ⟨rfl, rfl⟩ := hrel
    go_wp2
    go_ret
    exact ⟨rfl, rfl⟩

theorem rhash_any (k : Int) (A : Option Addr) (len cap : Nat) (zs : List Int) (w : World) (k1 : 0 ≤ k) (k2 : k < 8) (hz : ∀ z ∈ zs, 0 ≤ z ∧ z ≤ 255)
    (hc : Has .u8 w A zs) (hlen : zs.length = len) (hl : len ≤ 9223372036854775807) :
    Calls Tryd.prog 31 #[.int .i64 k, .slice A len cap] w fun e w' => e = .returned (.int .u32 (hSteps (kStart k) zs)) ∧ w = w' := by
  subst hlen
  rcases hc with rfl | ⟨b, off, rfl, hb, hc⟩
  · exact rhash_nil k A cap w k1 k2
  · exact rhash_some k b off cap zs w k1 k2 hz hb hc hl

theorem wf8 {zs : List Int} (h : ∀ n ∈ zs, (Lit.int .u8 n).wf = true) : ∀ z ∈ zs, 0 ≤ z ∧ z ≤ 255 := fun z hz => bounds_u8 (h z hz)

end Go.Proofs.YtdmnaipngcldbaaDoor.hashL
