/- Runs, by walks. -/
import Derived.Test.YtipbafcjmeibpaaCntW3
import Derived.Test.YtipbafcjmeibpaaCntW4
import Derived.Test.YtipbafcjmeibpaaBlock
import Derived.Deep.LoopGhost
namespace Go.Proofs.Ytipbafcjmeibpaa.cntW
open Go.RowKit Go.Proofs.Ytipbafcjmeibpaa.base Go.Proofs.Ytipbafcjmeibpaa.cntP
set_option linter.unusedVariables false
set_option linter.unusedSimpArgs false
set_option maxHeartbeats 400000 in
theorem bits_any (a : Option Addr) (len cap : Nat) (zs : List Int) (w : World) (hz : ∀ z ∈ zs, 0 ≤ z ∧ z ≤ 255) (hc : Has .u8 w a zs) (hlen : zs.length = len) (hl : len ≤ 9223372036854775807) :
    Calls Try.prog 24 #[.slice a len cap] w fun e w' => e = .returned (.bool (bitsB zs)) ∧ w = w' := by
  subst hlen
  have HZ := Lib.hid hz
  clear hz
  rcases hc with rfl | ⟨b, off, rfl, hb, hc⟩
  · go_enter Try.func24, Try.ntmps24
    go_wp2_with fail
    go_loop [3] (fun i => i = .int .i64 0) (fun i => 0)
    case atStart => rfl
    case round =>
      subst hrel
      go_wp2
      go_ret
      exact ⟨rfl, rfl⟩
  · have HC := Lib.hid hc
    clear hc
    go_enter Try.func24, Try.ntmps24
    go_wp2_with fail
    go_loop [3] (fun i => ∃ k : Nat, k ≤ zs.length ∧ i = .int .i64 k ∧ bitsB (zs.take k) = true) (fun i => zs.length - (intOf i).toNat)
    case atStart => exact ⟨0, Nat.zero_le _, rfl, rfl⟩
    case round =>
      obtain ⟨k, hk, rfl, hall⟩ := hrel
      have HA := Lib.hid hall
      clear hall
      by_cases hlt : k < zs.length
      · have hcell := HC.out k hlt
        have hsn := bitsB_snoc (zs.take k) (zs.getD k 0)
        rw [← take_snoc 0 zs k hlt, HA.out, Bool.true_and] at hsn
        have HS := Lib.hid hsn
        clear hsn
        have hmem : zs.getD k 0 ∈ zs := by rw [List.getD_eq_getElem?_getD, List.getElem?_eq_getElem hlt]; simp
        have HM := Lib.hid hmem
        clear hmem
        generalize hv : zs.getD k 0 = v at *
        have HV := Lib.hid hv
        clear hv
        by_cases h1 : v ≤ 1
        · go_wp2
          go_round
          case rel => exact ⟨k + 1, by omega, by go_num, by rw [HS.out]; simpa using h1⟩
          case measure => simp [intOf]; omega
        · have hbad : bitsB zs = false := by
            cases h : bitsB zs with
            | false => rfl
            | true => exact absurd ((bitsB_iff zs).1 h v HM.out) h1
          have HB := Lib.hid hbad
          clear hbad
          go_wp2
          go_ret
          exact ⟨retb HB.out.symm, rfl⟩
      · have : zs.take k = zs := List.take_of_length_le (by omega)
        have HT := Lib.hid this
        clear this
        go_wp2
        go_ret
        exact ⟨retb (by rw [← HT.out, HA.out]), rfl⟩
theorem run_in {c0 : Cnt} {zs : List Int} (h : ok c0 = true) (hz : ∀ z ∈ zs, 0 ≤ z ∧ z ≤ 255) (hb : bitsB zs = true) (k : Nat) : ok (run c0 (zs.take k)) = true :=
  run_ok _ h (fun z hm => by
    have a1 := hz z (List.mem_of_mem_take hm)
    have a2 := (bitsB_iff zs).1 hb z (List.mem_of_mem_take hm)
    omega)
theorem bit_in {zs : List Int} (hz : ∀ z ∈ zs, 0 ≤ z ∧ z ≤ 255) (hb : bitsB zs = true) {k : Nat} (hk : k < zs.length) : (0 ≤ zs.getD k 0 ∧ zs.getD k 0 ≤ 1) ∧ (zs.getD k 0 = 0 ∨ zs.getD k 0 = 1) := by
  have hmem : zs.getD k 0 ∈ zs := by rw [List.getD_eq_getElem?_getD, List.getElem?_eq_getElem hk]; simp
  have a1 := hz _ hmem
  have a2 := (bitsB_iff zs).1 hb _ hmem
  omega
theorem run_next (c0 : Cnt) {zs : List Int} {k : Nat} (hk : k < zs.length) : run c0 (zs.take (k + 1)) = nx (run c0 (zs.take k)) (zs.getD k 0) := by
  rw [take_snoc 0 zs k hk]; exact run_snoc _ _ _
theorem bits_nil (A : Option Addr) (cap : Nat) (w : World) : Calls Try.prog 24 #[.slice A 0 cap] w fun e w' => e = .returned (.bool true) ∧ w = w' :=
  bits_any A 0 cap [] w (fun _ h => by cases h) (.inl rfl) rfl (by omega)
end Go.Proofs.Ytipbafcjmeibpaa.cntW
