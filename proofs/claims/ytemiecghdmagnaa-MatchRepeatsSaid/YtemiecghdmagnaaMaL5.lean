/- MatchRepeats, by a walk. -/
import Derived.Test.YtemiecghdmagnaaMaWF
import Derived.Test.YtemiecghdmagnaaMaW10
namespace Go.Proofs.Ytemiecghdmagnaa.maW
set_option maxRecDepth 100000
open Go.RowKit Go.Proofs.Ytemiecghdmagnaa.base Go.Proofs.Ytemiecghdmagnaa.rgP Go.Proofs.Ytemiecghdmagnaa.fdP Go.Proofs.Ytemiecghdmagnaa.maP Go.Proofs.Ytemiecghdmagnaa.rgW Go.Proofs.Ytemiecghdmagnaa.rgL Go.Proofs.Ytemiecghdmagnaa.hashP Go.Proofs.Ytemiecghdmagnaa.hashW Go.Proofs.Ytemiecghdmagnaa.cxP Go.Proofs.Ytemiecghdmagnaa.fdW
set_option linter.unusedVariables false
set_option linter.unusedSimpArgs false
theorem cyc_snoc (b : List Int) (k : Nat) : cyc b (k + 1) = cyc b k ++ [b.getD (k % b.length) 0] := by simp [cyc, List.range_succ]
theorem cyc_bd {b : List Int} (h : ∀ z ∈ b, 0 ≤ z ∧ z ≤ 255) (M : Nat) : ∀ z ∈ cyc b M, 0 ≤ z ∧ z ≤ 255 := by
  intro z hz
  simp only [cyc, List.mem_map] at hz
  obtain ⟨i, _, rfl⟩ := hz
  exact gd_bd h _
/-- No two of the first ones are the same. -/
def dist (b : List Int) (i : Nat) : Prop := ∀ x y, x < i → y < x → b.getD y 0 ≠ b.getD x 0
def distK (b : List Int) (i k : Nat) : Prop := ∀ y, y < k → b.getD y 0 ≠ b.getD i 0
theorem dist_all {b : List Int} (h : dist b b.length) : distinctL b := by
  intro x y hx hy e
  rcases Nat.lt_trichotomy x y with h1 | h1 | h1
  · exact absurd e (h y x hy h1)
  · exact h1
  · exact absurd e.symm (h x y hx h1)
theorem dist_next {b : List Int} {i : Nat} (h : dist b i) (hk : distK b i i) : dist b (i + 1) := by
  intro x y hx hy
  rcases Nat.lt_or_ge x i with h1 | h1
  · exact h x y h1 hy
  · have : x = i := by omega
    subst this
    exact hk y hy
theorem distK_next {b : List Int} {i k : Nat} (h : distK b i k) (hk : b.getD k 0 ≠ b.getD i 0) : distK b i (k + 1) := by
  intro y hy
  rcases Nat.lt_or_ge y k with h1 | h1
  · exact h y h1
  · have : y = k := by omega
    subst this
    exact hk
set_option maxHeartbeats 3000000 in
theorem repeats_law (D : Option Addr) (n c : Nat) (z : List Int) (more : Int) (w : World) (hrow : IsRow .u8 w D n c z) (l1 : -9223372036854775808 ≤ more) (l2 : more ≤ 9223372036854775807) :
    Calls Try.prog 7 #[.slice D n c, .int .i64 more] w fun e w' => e = .returned (.bool true) ∧ Below w.heap.size w w' := by
  obtain ⟨hD, hbn, hmx, hbb'⟩ := has_of_row hrow
  have hcp := row_caps hrow
  generalize z.take n = b at *
  have hbb : ∀ z ∈ b, 0 ≤ z ∧ z ≤ 255 := fun z h => bounds_u8 (hbb' z h)
  have bn9 : (n : Int) ≤ 9223372036854775807 := by unfold maxLen at hcp; omega
  clear hbb' hrow hmx hcp
  by_cases a1 : (n : Int) < 4
  · (clear hD hbn hbb; go_enter Try.func7, Try.ntmps7; go_wp2_with (go_at_call 26; refine (alive _).mono ?_; rintro e wz ⟨rfl, hbz⟩); go_ret; exact ⟨rfl, by (repeat' (first | (with_reducible exact Below.refl _ _) | (with_reducible assumption) | (with_reducible refine below_drewN ?_ _) | (with_reducible refine below_new ?_ _) | (with_reducible refine Below.alloc ?_ ?_ _) | (with_reducible refine Below.drew ?_) | (with_reducible refine Below.setCell ?_ ?_ _) | (with_reducible apply below_at; (case k => (with_reducible assumption)); (case hB => omega)) | (with_reducible apply below_on; (with_reducible assumption)) | (go_size; done) | (with_reducible apply size_of)))⟩)
  by_cases a2 : (20 : Int) < n
  · (clear hD hbn hbb; go_enter Try.func7, Try.ntmps7; go_wp2_with (go_at_call 26; refine (alive _).mono ?_; rintro e wz ⟨rfl, hbz⟩); go_ret; exact ⟨rfl, by (repeat' (first | (with_reducible exact Below.refl _ _) | (with_reducible assumption) | (with_reducible refine below_drewN ?_ _) | (with_reducible refine below_new ?_ _) | (with_reducible refine Below.alloc ?_ ?_ _) | (with_reducible refine Below.drew ?_) | (with_reducible refine Below.setCell ?_ ?_ _) | (with_reducible apply below_at; (case k => (with_reducible assumption)); (case hB => omega)) | (with_reducible apply below_on; (with_reducible assumption)) | (go_size; done) | (with_reducible apply size_of)))⟩)
  by_cases a3 : more < 0
  · (clear hD hbn hbb; go_enter Try.func7, Try.ntmps7; go_wp2_with (go_at_call 26; refine (alive _).mono ?_; rintro e wz ⟨rfl, hbz⟩); go_ret; exact ⟨rfl, by (repeat' (first | (with_reducible exact Below.refl _ _) | (with_reducible assumption) | (with_reducible refine below_drewN ?_ _) | (with_reducible refine below_new ?_ _) | (with_reducible refine Below.alloc ?_ ?_ _) | (with_reducible refine Below.drew ?_) | (with_reducible refine Below.setCell ?_ ?_ _) | (with_reducible apply below_at; (case k => (with_reducible assumption)); (case hB => omega)) | (with_reducible apply below_on; (with_reducible assumption)) | (go_size; done) | (with_reducible apply size_of)))⟩)
  by_cases a4 : 20 < more
  · (clear hD hbn hbb; go_enter Try.func7, Try.ntmps7; go_wp2_with (go_at_call 26; refine (alive _).mono ?_; rintro e wz ⟨rfl, hbz⟩); go_ret; exact ⟨rfl, by (repeat' (first | (with_reducible exact Below.refl _ _) | (with_reducible assumption) | (with_reducible refine below_drewN ?_ _) | (with_reducible refine below_new ?_ _) | (with_reducible refine Below.alloc ?_ ?_ _) | (with_reducible refine Below.drew ?_) | (with_reducible refine Below.setCell ?_ ?_ _) | (with_reducible apply below_at; (case k => (with_reducible assumption)); (case hB => omega)) | (with_reducible apply below_on; (with_reducible assumption)) | (go_size; done) | (with_reducible apply size_of)))⟩)
  have HD := Lib.hid hD
  have HBN := Lib.hid hbn
  have HN : Hid (4 ≤ n ∧ n ≤ 20) := Lib.hid (by omega)
  have HBB := Lib.hid hbb
  obtain ⟨B, off, rfl, hB, hc⟩ := has_some hD (by omega)
  have HC : Hid (∀ W : World, Below w.heap.size w W → ∀ j, j < n → W.cell? ⟨B, off + j, none⟩ = some (.int .u8 (b.getD j 0))) := Lib.hid (fun W hW j hj => (hW.cell (p := ⟨B, _, none⟩) hB).trans (hc j (by omega)))
  have HBD := Lib.hid (fun k => gd_bd hbb k)
  obtain ⟨mo, rfl⟩ : ∃ mo : Nat, more = mo := ⟨more.toNat, by omega⟩
  have HMO : Hid (mo ≤ 20) := Lib.hid (by omega)
  clear hD hbn hbb hc
  go_enter Try.func7, Try.ntmps7
  go_wp2_with fail
  refine (alive _).mono ?_
  rintro e w1 ⟨rfl, hb1⟩
  have HW1 := Lib.hid hb1
  clear hb1
  go_wp2_with fail
  refine (lone_any b _ n c _ (HD.out.below HW1.out (Nat.le_refl _)) HBN.out HN.out.1 HN.out.2 HBB.out).mono ?_
  rintro e w2 ⟨⟨v, rfl, hv⟩, hb2⟩
  have HV := Lib.hid hv
  have HW2 : Hid (Below w.heap.size w w2) := Lib.hid (by have := HW1.out; (repeat' (first | (with_reducible exact Below.refl _ _) | (with_reducible assumption) | (with_reducible refine below_drewN ?_ _) | (with_reducible refine below_new ?_ _) | (with_reducible refine Below.alloc ?_ ?_ _) | (with_reducible refine Below.drew ?_) | (with_reducible refine Below.setCell ?_ ?_ _) | (with_reducible apply below_at; (case k => (with_reducible assumption)); (case hB => omega)) | (with_reducible apply below_on; (with_reducible assumption)) | (go_size; done) | (with_reducible apply size_of))))
  clear hb2 hv HW1
  cases v
  · go_wp2_with fail
    go_ret
    exact ⟨rfl, HW2.out⟩
  go_wp2_with fail
  go_loopw [7] (fun iv wr => ∃ i : Nat, i ≤ n ∧ iv = .int .i64 i ∧ dist b i ∧ Below w.heap.size w wr) (fun iv _ => n - (intOf iv).toNat)
  case atStart => exact ⟨0, by omega, rfl, fun x y hx => absurd hx (by omega), HW2.out⟩
  case round =>
    obtain ⟨i, hi, rfl, hdi, acc⟩ := hrel
    have HA := Lib.hid acc
    have HDI := Lib.hid hdi
    by_cases hlt : i < n
    · have HLT := Lib.hid hlt
      have i1 : (i : Int) < n := by omega
      have i0 : 0 ≤ (i : Int) := by omega
      clear acc hdi hi hlt
      go_wp2_with fail
      go_loopw [8] (fun kv wr => ∃ k : Nat, k ≤ i ∧ kv = .int .i64 k ∧ distK b i k ∧ Below w.heap.size w wr) (fun kv _ => i - (intOf kv).toNat)
      case atStart => exact ⟨0, by omega, rfl, fun y hy => absurd hy (by omega), HA.out⟩
      case round =>
        obtain ⟨k, hk, rfl, hdk, acc⟩ := hrel
        have HA := Lib.hid acc
        have HDK := Lib.hid hdk
        by_cases hki : k < i
        · have HKI := Lib.hid hki
          have k1 : (k : Int) < i := by omega
          have k0 : 0 ≤ (k : Int) := by omega
          have k2 : (k : Int) < n := by omega
          have z1 := HC.out _ acc i HLT.out
          have z2 := HC.out _ acc k (by have := HLT.out; omega)
          clear acc hk hki
          by_cases he : b.getD k 0 = b.getD i 0
          · generalize b.getD k 0 = p at *
            generalize b.getD i 0 = q at *
            subst he
            go_wp2_with (go_quiet (fail))
            refine bodyPost_ret (by simp [results, Try.results7, go_sem, ]; try rfl) rfl ?_
            exact ⟨rfl, by have := HA.out; (repeat' (first | (with_reducible exact Below.refl _ _) | (with_reducible assumption) | (with_reducible refine below_drewN ?_ _) | (with_reducible refine below_new ?_ _) | (with_reducible refine Below.alloc ?_ ?_ _) | (with_reducible refine Below.drew ?_) | (with_reducible refine Below.setCell ?_ ?_ _) | (with_reducible apply below_at; (case k => (with_reducible assumption)); (case hB => omega)) | (with_reducible apply below_on; (with_reducible assumption)) | (go_size; done) | (with_reducible apply size_of)))⟩
          · have HNE := Lib.hid (distK_next hdk he)
            clear hdk
            generalize b.getD k 0 = p at *
            generalize b.getD i 0 = q at *
            go_wp2_with (go_quiet (fail))
            exact ⟨⟨k + 1, by have := HKI.out; omega, by go_num, HNE.out, by have := HA.out; (repeat' (first | (with_reducible exact Below.refl _ _) | (with_reducible assumption) | (with_reducible refine below_drewN ?_ _) | (with_reducible refine below_new ?_ _) | (with_reducible refine Below.alloc ?_ ?_ _) | (with_reducible refine Below.drew ?_) | (with_reducible refine Below.setCell ?_ ?_ _) | (with_reducible apply below_at; (case k => (with_reducible assumption)); (case hB => omega)) | (with_reducible apply below_on; (with_reducible assumption)) | (go_size; done) | (with_reducible apply size_of)))⟩, by simp [intOf]; have := HKI.out; omega⟩
        · obtain rfl : k = i := by omega
          have k1 : ¬ (k : Int) < k := by omega
          clear acc hdk hk hki
          go_wp2_with fail
          exact ⟨⟨k + 1, by have := HLT.out; omega, by go_num, dist_next HDI.out HDK.out, HA.out⟩, by simp [intOf]; have := HLT.out; omega⟩
    · have hin : i = n := by omega
      have HDN := Lib.hid (dist_all (show dist b b.length by rw [HBN.out, ← hin]; exact hdi))
      have i1 : ¬ (i : Int) < n := by omega
      clear acc hdi hi hlt hin HDI
      go_wp2_with fail
      have n0 : ¬ (n : Int) = 0 := by have := HN.out; omega
      have nz : ¬ n = 0 := by omega
      have M1 : IntKind.i64.wrap (2 * (n : Int)) = 2 * (n : Int) := IntWalk.i64_in _ (by omega)
      have M2 : IntKind.i64.wrap (2 * (n : Int) + mo) = 2 * (n : Int) + mo := IntWalk.i64_in _ (by omega)
      generalize wr = wo at *
      go_loopw [9, 10] (fun v iv wr => ∃ (k : Nat) (A : Option Addr) (d : Nat), k ≤ 2 * n + mo ∧ iv = .int .i64 k ∧ v = .slice A k d ∧ OwnI wr wo.heap.size 5 .u8 (.slice A k d) (cyc b k) ∧ Below wo.heap.size wo wr) (fun _ iv _ => 2 * n + mo - (intOf iv).toNat)
      case atStart => exact ⟨0, none, 0, by omega, rfl, rfl, OwnI.nil _ _ _ _, Below.refl _ _⟩
      case round =>
        obtain ⟨k, A, d, hk, rfl, rfl, own, acc⟩ := hrel
        have HO := Lib.hid own
        have HACC := Lib.hid acc
        by_cases hlt : k < 2 * n + mo
        · have HLT := Lib.hid hlt
          have k1 : (k : Int) < 2 * (n : Int) + mo := by omega
          have k0 : 0 ≤ (k : Int) := by omega
          have HJ : Hid (k % n < n) := Lib.hid (Nat.mod_lt _ (by omega))
          have t1 : Int.tmod (k : Int) n = (k % n : Nat) := rfl
          have z1 := HC.out _ (HA.out.trans (acc.mono HA.out.size)) (k % n) HJ.out
          have HSN : Hid (cyc b (k + 1) = cyc b k ++ [b.getD (k % n) 0]) := Lib.hid (by rw [cyc_snoc, HBN.out])
          have j1 : ((k % n : Nat) : Int) < n := by have := HJ.out; omega
          have HY := Lib.hid (HBD.out (k % n))
          generalize k % n = j at *
          have j0 : 0 ≤ (j : Int) := by omega
          generalize b.getD j 0 = y at *
          clear own acc hk hlt
          go_wp2_with ((at_builtin; refine app8 rfl _ _ rfl (wo.heap.size) _ (cyc b k) rfl (show OwnI _ _ _ _ _ _ from own_alW HO.out _) (some ⟨_, 0, none⟩) 1 1 [y] rfl rfl (show Has _ _ _ _ from has_lit (zs := [_]) (by simp) (by simp [maxLen])) (k + 1) (by rw [cyc_len]) (by have := HLT.out; have := HN.out; have := HMO.out; omega) (by have := HACC.out.size; simp; omega) ?_); intro A2 c2 w2 own2 gr2 bel2; have HO2 := Lib.hid own2; clear own2 gr2)
          refine ⟨⟨k + 1, A2, c2, by have := HLT.out; omega, by go_num, rfl, by rw [HSN.out]; exact HO2.out, ?_⟩, by simp [intOf]; have := HLT.out; omega⟩
          have := HACC.out
          (repeat' (first | (with_reducible exact Below.refl _ _) | (with_reducible assumption) | (with_reducible refine below_drewN ?_ _) | (with_reducible refine below_new ?_ _) | (with_reducible refine Below.alloc ?_ ?_ _) | (with_reducible refine Below.drew ?_) | (with_reducible refine Below.setCell ?_ ?_ _) | (with_reducible apply below_at; (case k => (with_reducible assumption)); (case hB => omega)) | (with_reducible apply below_on; (with_reducible assumption)) | (go_size; done) | (with_reducible apply size_of)))
        · have hkm : k = 2 * n + mo := by omega
          have k1 : ¬ (k : Int) < 2 * (n : Int) + mo := by omega
          have HCO : Hid (OwnI wr wo.heap.size 5 .u8 (.slice A k d) (cyc b k) ∧ k = 2 * n + mo) := Lib.hid ⟨own, hkm⟩
          have HW3 : Hid (Below w.heap.size w wr) := Lib.hid (HA.out.trans (acc.mono HA.out.size))
          clear own acc hk hlt hkm HO HACC
          go_wp2_with fail
          refine (came_ok 1 A k d (cyc b k) _ (by decide) HCO.out.1.has (cyc_len b k) (by have := HCO.out.2; have := HN.out; have := HMO.out; omega) (cyc_bd HBB.out k)).mono ?_
          rintro e w4 ⟨A1, n1, c1, B1, q1, d1, rfl, i1', -, -, -, hb1⟩
          have HR : Hid (exE (came3 1 (cyc b k)).m (came3 1 (cyc b k)).r = 0 ∧ exB (came3 1 (cyc b k)).m (came3 1 (cyc b k)).r = true ∧ exV (came3 1 (cyc b k)).m (came3 1 (cyc b k)).r = b.getD (mo % n) 0 ∧ 4 ≤ (came3 1 (cyc b k)).m.k) := Lib.hid (by
            obtain ⟨i, g1, g2, g3⟩ := HV.out (by trivial)
            have h := repeats_end (b := b) (by rw [HBN.out]; exact HN.out.1) (by rw [HBN.out]; exact HN.out.2) mo HMO.out HDN.out i g1 (by rw [HBN.out]; exact g2) g3
            rw [HBN.out, ← HCO.out.2] at h
            exact h)
          have HI := Lib.hid i1'
          have HW4 : Hid (Below w.heap.size w w4) := Lib.hid (HW3.out.trans (hb1.mono HW3.out.size))
          clear i1' hb1 HW3
          generalize came3 1 (cyc b k) = s at *
          go_wp2_with fail
          refine (Expect_any s.m s.r A1 n1 c1 _ (HI.out.below (by (repeat' (first | (with_reducible exact Below.refl _ _) | (with_reducible assumption) | (with_reducible refine below_drewN ?_ _) | (with_reducible refine below_new ?_ _) | (with_reducible refine Below.alloc ?_ ?_ _) | (with_reducible refine Below.drew ?_) | (with_reducible refine Below.setCell ?_ ?_ _) | (with_reducible apply below_at; (case k => (with_reducible assumption)); (case hB => omega)) | (with_reducible apply below_on; (with_reducible assumption)) | (go_size; done) | (with_reducible apply size_of)))))).mono ?_
          rintro e w5 ⟨rfl, hb5⟩
          rw [HR.out.1, HR.out.2.1, HR.out.2.2.1]
          have HLM : Hid (Lies (w5) (w4.heap.size) 23 [.int .i64 (s.m).a, .int .i64 (s.m).k]) := Lib.hid ((((Lies.fresh _ _ _).alloc _).alloc _).past hb5)
          have HW5 : Hid (Below w.heap.size w w5) := Lib.hid (by have := HW4.out; (repeat' (first | (with_reducible exact Below.refl _ _) | (with_reducible assumption) | (with_reducible refine below_drewN ?_ _) | (with_reducible refine below_new ?_ _) | (with_reducible refine Below.alloc ?_ ?_ _) | (with_reducible refine Below.drew ?_) | (with_reducible refine Below.setCell ?_ ?_ _) | (with_reducible apply below_at; (case k => (with_reducible assumption)); (case hB => omega)) | (with_reducible apply below_on; (with_reducible assumption)) | (go_size; done) | (with_reducible apply size_of))))
          have hk4 := HR.out.2.2.2
          have HJ : Hid (mo % n < n) := Lib.hid (Nat.mod_lt _ (by omega))
          have t1 : Int.tmod (mo : Int) n = (mo % n : Nat) := rfl
          have z1 := HC.out _ HW5.out (mo % n) HJ.out
          have j1 : ((mo % n : Nat) : Int) < n := by have := HJ.out; omega
          clear hb5 HW4 HR HI
          generalize mo % n = j at *
          have j0 : 0 ≤ (j : Int) := by omega
          generalize b.getD j 0 = y at *
          generalize w4.heap.size = g4 at *
          obtain ⟨y0, y1, -, -⟩ := HLM.out.two
          go_wp2_with fail
          refine bodyPost_ret (by simp [results, Try.results7, go_sem, ]; try rfl) rfl ?_
          exact ⟨rfl, HW5.out⟩
end Go.Proofs.Ytemiecghdmagnaa.maW
