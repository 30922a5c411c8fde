/- One byte put into a ring that is being made, by a walk: the closure of Put. -/
import Derived.Test.YtpggdijhfdddpaaDoorRgL1
namespace Go.Proofs.YtpggdijhfdddpaaDoor.rgW
open Go.RowKit Go.Proofs.YtpggdijhfdddpaaDoor.base Go.Proofs.YtpggdijhfdddpaaDoor.rgP
set_option linter.unusedVariables false
set_option linter.unusedSimpArgs false

theorem four_cells {w : World} {G g j : Nat} {a0 a1 a2 v : Value} {t : TypeId} (h : Lies w G t [a0, a1, a2]) (hc : w.cell? ⟨g, j, none⟩ = some v) (hf : w.frozen? ⟨g, j, none⟩ = false) : w.cell? ⟨G, 1, none⟩ = some a1 ∧ w.cell? ⟨G, 2, none⟩ = some a2 ∧ w.cell? ⟨g, j, none⟩ = some (cellOr w g j) ∧ w.frozen? ⟨g, j, none⟩ = false := ⟨h.three.2.1, h.three.2.2.1, cellOr_of hc, hf⟩
set_option maxHeartbeats 4000000 in
theorem put_one (l x : Int) (bs : List Int) (B G g n c t : Nat) (w : World) (K : Lies w G 24 [.int .i64 l, .slice (some ⟨g, 0, none⟩) n c, .int .i64 (t : Int)]) (O : OwnI w B 5 .u8 (.slice (some ⟨g, 0, none⟩) n c) bs) (hB : B ≤ G) (hn : bs.length = n) (n0 : 0 < n) (n1 : n ≤ 8192) (t1 : t < 1073741824) (hne : g ≠ G) :
    Calls Tryd.prog 47 #[.int .u8 x, .pointer (some ⟨G, 0, none⟩)] w fun e w' => e = .returned (.tuple #[]) ∧ ∃ d, w' = ((w.setCell ⟨g, t % n, none⟩ (.int .u8 x)).setCell ⟨G, 2, none⟩ (.int .i64 ((t : Int) + 1))).drewN d := by
  obtain ⟨j, hj⟩ : ∃ j, t % n = j := ⟨_, rfl⟩
  have hjn : j < n := by rw [← hj]; exact Nat.mod_lt _ n0
  have htm : Int.tmod (t : Int) (n : Int) = (j : Int) := by rw [← hj]; exact (Int.ofNat_tmod t n).symm
  have hcj := O.cell j (by rw [hn]; exact hjn)
  have hfj := O.frozen j
  have HX5 := Lib.hid (And.intro hcj hfj)
  have HK3 := Lib.hid K
  have HO3 := Lib.hid O
  rw [hj]
  have n2 : (n : Int) ≤ 8192 := by omega
  have n3 : ¬ ((n : Int) = 0) := by omega
  have n4 : ((n : Int) == 0) = false := by simpa using n3
  have j1 : (j : Int) < n := by omega
  have n5 : ¬ n = 0 := by omega
  have n6 : (n == 0) = false := by simpa using n5
  have j2 : 0 ≤ (j : Int) := by omega
  have t0 : 0 ≤ (t : Int) := by omega
  have t2 : (t : Int) ≤ 1073741823 := by omega
  have hw : IntKind.i64.wrap (Int.tmod (t : Int) (n : Int)) = (j : Int) := by rw [htm, IntKind.wrap_i64]; omega
  have HNE := Lib.hid hne
  have HJL : Hid (j < (bs.set j x).length) := Lib.hid (by rw [List.length_set, hn]; exact hjn)
  generalize bs.getD j 0 = y at *
  clear K O hcj hfj hn hjn hj n0 n1 t1 hne hB
  go_enter Tryd.func47, Tryd.ntmps47
  go_wp2_with fail
  go_region_held3 (fun x' => x'.cell? ⟨G, 1, none⟩ = some (.slice (some ⟨g, 0, none⟩) n c) ∧ x'.cell? ⟨G, 2, none⟩ = some (.int .i64 (t : Int)) ∧ x'.cell? ⟨g, j, none⟩ = some (cellOr x' g j) ∧ x'.frozen? ⟨g, j, none⟩ = false) (first | exact four_cells HK3.out.drew HX5.out.1 HX5.out.2 | exact four_cells (HK3.out.drew.other HNE.out _) ((HO3.out.store j x).cell j HJL.out) ((HO3.out.store j x).frozen j)) (fail)
  all_goals
    have K5 := HK3.out.drew.other (p := ⟨g, j, none⟩) HNE.out (.int .u8 x)
    have HK5 := Lib.hid (HK3.out.other (p := ⟨g, j, none⟩) HNE.out (.int .u8 x))
    obtain ⟨s0, s1, s2, v0, v1, v2⟩ := K5.three
    obtain ⟨s3, s4, s5, v3, v4, v5⟩ := HK5.out.three
    have v6 := HK3.out.free 2
    have v7 := HK3.out.drew.free 2
    clear K5
    go_wp2_with fail
    go_end0
    exact ⟨rfl, _, rfl⟩
end Go.Proofs.YtpggdijhfdddpaaDoor.rgW
