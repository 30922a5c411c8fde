/- Mixing, by walks. -/
import Derived.Test.YtjikddndlnimoaaDoorMxW2
import Derived.Test.YtjikddndlnimoaaDoorFixW
import Derived.Test.YtjikddndlnimoaaDoorSqW2
namespace Go.Proofs.YtjikddndlnimoaaDoor.mxP
set_option maxRecDepth 100000
open Go.Proofs.YtjikddndlnimoaaDoor.base Go.Proofs.YtjikddndlnimoaaDoor.rfP Go.Proofs.YtjikddndlnimoaaDoor.sqP Go.Proofs.YtjikddndlnimoaaDoor.fixP
/-- The sum of the first products. -/
def sumK (ws ins : List Int) (k : Nat) : Int := ((prods ws ins).take k).sum
theorem sumK_0 (ws ins : List Int) : sumK ws ins 0 = 0 := rfl
theorem sumK_8 {ws ins : List Int} (h : ws.length = 8) (h' : ins.length = 8) : sumK ws ins 8 = (prods ws ins).sum := by
  unfold sumK
  rw [List.take_of_length_le (by rw [prods_length (by omega)]; omega)]
theorem sumK_succ {ws ins : List Int} (h : ws.length = 8) (h' : ins.length = 8) (k : Nat) (hk : k < 8) : sumK ws ins (k + 1) = sumK ws ins k + ws.getD k 0 * ins.getD k 0 := by
  unfold sumK
  rw [take_snoc 0 _ k (by rw [prods_length (by omega)]; omega), List.sum_append, prods_getD (by omega) k (by omega)]
  simp
theorem mul_in {x y : Int} (h1 : -2147483648 ≤ x) (h2 : x ≤ 2147483647) (h3 : -2047 ≤ y) (h4 : y ≤ 2047) : -4398046511104 ≤ x * y ∧ x * y ≤ 4398046511104 := by
  have f : ∀ a b : Int, 0 ≤ a → a ≤ 2147483648 → 0 ≤ b → b ≤ 2047 → 0 ≤ a * b ∧ a * b ≤ 4398046511104 := by
    intro a b a1 a2 b1 b2
    have := Int.mul_le_mul a2 b2 b1 (by omega)
    exact ⟨Int.mul_nonneg a1 b1, by omega⟩
  by_cases cx : 0 ≤ x <;> by_cases cy : 0 ≤ y
  · have := f x y cx (by omega) cy (by omega); omega
  · have := f x (-y) cx (by omega) (by omega) (by omega); rw [Int.mul_neg] at this; omega
  · have := f (-x) y (by omega) (by omega) cy (by omega); rw [Int.neg_mul] at this; omega
  · have := f (-x) (-y) (by omega) (by omega) (by omega) (by omega); rw [Int.neg_mul_neg] at this; omega
theorem sumK_bd {ws ins : List Int} (h : ws.length = 8) (hw : ∀ z ∈ ws, -2147483648 ≤ z ∧ z ≤ 2147483647) (hi : inB ins = true) : ∀ k : Nat, k ≤ 8 → -4398046511104 * (k : Int) ≤ sumK ws ins k ∧ sumK ws ins k ≤ 4398046511104 * (k : Int)
  | 0, _ => by rw [sumK_0]; simp
  | k + 1, hk => by
    have a := sumK_bd h hw hi k (by omega)
    rw [sumK_succ h ((inB_iff _).1 hi).1 k (by omega)]
    have b : -2147483648 ≤ ws.getD k 0 ∧ ws.getD k 0 ≤ 2147483647 := by
      rw [List.getD_eq_getElem?_getD, List.getElem?_eq_getElem (by omega)]
      exact hw _ (List.getElem_mem _)
    have c := inB_at hi k (by omega)
    have d := mul_in b.1 b.2 c.1 c.2
    omega
theorem sat_is (n : Int) : max (-2147483648) (min 2147483647 n) = sat n := by unfold sat; split <;> (try split) <;> omega
/-- Rounded down, out of a division that rounds towards nothing. -/
theorem floor_is (s : Int) : (if Int.tmod s 65536 < 0 then Int.tdiv s 65536 - 1 else Int.tdiv s 65536) = s / 65536 := by
  have h := Int.tdiv_eq_ediv (a := s) (b := 65536)
  have hs : Int.sign 65536 = 1 := rfl
  rw [hs] at h
  have hm := Int.mul_tdiv_add_tmod s 65536
  split <;> (split at h <;> omega)
end Go.Proofs.YtjikddndlnimoaaDoor.mxP
namespace Go.Proofs.YtjikddndlnimoaaDoor.mxW
set_option maxRecDepth 100000
open Go.RowKit Go.Proofs.YtjikddndlnimoaaDoor.base Go.Proofs.YtjikddndlnimoaaDoor.rfP Go.Proofs.YtjikddndlnimoaaDoor.mxP Go.Proofs.YtjikddndlnimoaaDoor.sqP Go.Proofs.YtjikddndlnimoaaDoor.sqW Go.Proofs.YtjikddndlnimoaaDoor.fixP Go.Proofs.YtjikddndlnimoaaDoor.fixW
set_option linter.unusedVariables false
set_option linter.unusedSimpArgs false
set_option maxHeartbeats 800000 in
theorem Mixed_any (A B : Option Addr) (c d : Nat) (ws ins : List Int) (w : World) (hA : Has .i32 w A ws) (hw : ws.length = 8) (bw : ∀ z ∈ ws, -2147483648 ≤ z ∧ z ≤ 2147483647) (hB : Has .i32 w B ins) (hi : inB ins = true) :
    Calls Tryd.prog 30 #[.slice A 8 c, .slice B 8 d] w fun e w' => e = .returned (.tuple #[.int .i32 (mixD ws ins), .int .i32 (sq (mixD ws ins))]) ∧ Below w.heap.size w w' := by
  have hil := ((inB_iff _).1 hi).1
  obtain ⟨b1, o1, rfl, hb1, hc1⟩ := has_some hA (by omega)
  obtain ⟨b2, o2, rfl, hb2, hc2⟩ := has_some hB (by omega)
  have HC1 : Hid (∀ wr k, Below w.heap.size w wr → k < 8 → wr.cell? ⟨b1, o1 + k, none⟩ = some (.int .i32 (ws.getD k 0))) := Lib.hid (fun wr k hx hk => ((bcell hx).1 b1 _ hb1).trans (hc1 k (by omega)))
  have HC2 : Hid (∀ wr k, Below w.heap.size w wr → k < 8 → wr.cell? ⟨b2, o2 + k, none⟩ = some (.int .i32 (ins.getD k 0))) := Lib.hid (fun wr k hx hk => ((bcell hx).1 b2 _ hb2).trans (hc2 k (by omega)))
  have HSB := Lib.hid (sumK_bd hw bw hi)
  have HSS := Lib.hid (fun k hk => sumK_succ hw hil k hk)
  have HWB : Hid (∀ k, k < 8 → -2147483648 ≤ ws.getD k 0 ∧ ws.getD k 0 ≤ 2147483647) := Lib.hid (fun k hk => by
    rw [List.getD_eq_getElem?_getD, List.getElem?_eq_getElem (by omega)]
    exact bw _ (List.getElem_mem _))
  have HIB := Lib.hid (fun k hk => inB_at hi k hk)
  have HS8 := Lib.hid (sumK_8 hw hil)
  clear hA hB hw hil bw hi hc1 hc2
  go_enter Tryd.func30, Tryd.ntmps30
  go_wp2_with fail
  go_loopw [6, 7] (fun nv iv wr => ∃ k : Nat, k ≤ 8 ∧ iv = .int .i64 k ∧ nv = .int .i64 (sumK ws ins k) ∧ Below w.heap.size w wr) (fun _ iv _ => 8 - (intOf iv).toNat)
  case atStart => exact ⟨0, by omega, rfl, rfl, Below.refl _ _⟩
  case round =>
    obtain ⟨k, hk, rfl, rfl, hbw⟩ := hrel
    have HBW := Lib.hid hbw
    clear hbw
    by_cases hlt : k < 8
    · have HLT := Lib.hid hlt
      have k1 : (k : Int) < 8 := by omega
      have k0 : 0 ≤ (k : Int) := by omega
      have z1 := HC1.out wr k HBW.out hlt
      have z2 := HC2.out wr k HBW.out hlt
      have hs := HSB.out k hk
      have hs2 := HSB.out (k + 1) (by omega)
      have HSK := Lib.hid (HSS.out k hlt)
      rw [HSS.out k hlt] at hs2
      obtain ⟨wb1, wb2⟩ := HWB.out k hlt
      obtain ⟨ib1, ib2⟩ := HIB.out k hlt
      have hmul := mul_in wb1 wb2 ib1 ib2
      clear hk hlt
      generalize ws.getD k 0 = x at *
      generalize ins.getD k 0 = y at *
      generalize hS : sumK ws ins k = S at *
      have e1 : IntKind.i64.wrap x = x := IntWalk.i64_in _ (by omega)
      have e2 : IntKind.i64.wrap y = y := IntWalk.i64_in _ (by omega)
      generalize hxy : x * y = xy at *
      have e3 : IntKind.i64.wrap xy = xy := IntWalk.i64_in _ (by omega)
      have e4 : IntKind.i64.wrap (S + xy) = S + xy := IntWalk.i64_in _ (by have := HLT.out; omega)
      clear hs hs2 hmul hS
      go_upto_region 5 with fail
      go_wp2_with (go_quiet (fail))
      go_roundw
      case rel => exact ⟨k + 1, by have := HLT.out; omega, by go_num, by rw [HSK.out], below_dN HBW.out _⟩
      case measure => simp [intOf]; have := HLT.out; omega
    · obtain rfl : k = 8 := by omega
      rw [HS8.out]
      generalize hSS : (prods ws ins).sum = S at *
      have hsb := sat_bd S
      have hsi := sat_is S
      obtain ⟨s, hs⟩ : ∃ s, sat S = s := ⟨_, rfl⟩
      have hfl := floor_is s
      obtain ⟨fq, hfq⟩ : ∃ fq, s / 65536 = fq := ⟨_, rfl⟩
      have hcb := clamp_bd fq
      obtain ⟨dd, hdd⟩ : ∃ dd, clampD fq = dd := ⟨_, rfl⟩
      have HMD : Hid (mixD ws ins = dd) := Lib.hid (by unfold mixD dotP; rw [hSS, hs, hfq, hdd])
      have hcl : max (-2047) (min 2047 fq) = dd := hdd
      rw [hs] at hsb hsi
      rw [hfq] at hfl
      rw [hdd] at hcb
      obtain ⟨c0, c1⟩ := hcb
      obtain ⟨s0, s1⟩ := hsb
      have w1 : IntKind.i32.wrap dd = dd := by rw [IntKind.wrap_i32]; omega
      have f0 : -32768 ≤ fq := by omega
      have f1 : fq ≤ 32767 := by omega
      obtain ⟨qt, hqt⟩ : ∃ qt, Int.tdiv s 65536 = qt := ⟨_, rfl⟩
      obtain ⟨rt, hrt⟩ : ∃ rt, Int.tmod s 65536 = rt := ⟨_, rfl⟩
      rw [hqt, hrt] at hfl
      have w3 : -9223372036854775808 ≤ qt ∧ qt ≤ 9223372036854775807 := by rw [← hqt]; have := Int.tdiv_eq_ediv (a := s) (b := 65536); have hs : Int.sign 65536 = 1 := rfl; rw [hs] at this; split at this <;> omega
      have HF := Lib.hid hfl
      have HI := Lib.hid (And.intro hsi hcl)
      have HQ := Lib.hid (And.intro hqt hrt)
      clear hSS hs hfq hdd hk hlt hfl hsi hcl hqt hrt
      obtain ⟨w3a, w3b⟩ := w3
      go_upto_region 6 with fail
      go_cut [6] (fun v wx => v = .int .i64 s ∧ wr = wx)
      case first =>
        have h := HI.out.1
        go_wp2_with fail
        all_goals (go_meet; refine ⟨?_, rfl⟩; congr 1; (try split) <;> omega)
      case rest =>
        obtain ⟨rfl, rfl⟩ := hcut
        go_upto_region 7 with fail
        go_cut [8] (fun v wx => v = .int .i64 qt ∧ wr = wx)
        case first =>
          have h := HQ.out.1
          go_wp2_with fail
          go_meet
          exact ⟨rfl, rfl⟩
        case rest =>
          obtain ⟨rfl, rfl⟩ := hcut
          clear w3a w3b
          go_upto_if 33 with fail
          go_cut [8] (fun v wx => v = .int .i64 fq ∧ wr = wx)
          case first =>
            have h := HF.out
            have h2 := HQ.out.2
            have w3' : -9223372036854775808 ≤ qt - 1 ∧ qt ≤ 9223372036854775807 := by split at h <;> omega
            obtain ⟨w3a, w3b⟩ := w3'
            by_cases hr : rt < 0
            · rw [if_pos hr] at h
              go_wp2_with fail
              go_meet
              exact ⟨by first | rfl | rw [← h], rfl⟩
            · rw [if_neg hr] at h
              go_wp2_with fail
              go_meet
              exact ⟨by first | rfl | rw [h], rfl⟩
          case rest =>
            obtain ⟨rfl, rfl⟩ := hcut
            go_upto_region 10 with fail
            go_cut [8] (fun v wx => v = .int .i64 dd ∧ wr = wx)
            case first =>
              have h := HI.out.2
              go_wp2_with fail
              all_goals (go_meet; refine ⟨?_, rfl⟩; congr 1; (try split) <;> omega)
            case rest =>
              obtain ⟨rfl, rfl⟩ := hcut
              go_wp2_with fail
              with_reducible refine (rsq_any _ wr).mono ?_
              rintro e w2 ⟨rfl, hb2⟩
              have HB2 := Lib.hid (below_bs HBW.out hb2)
              clear hb2
              go_wp2_with fail
              go_ret2
              exact ⟨by rw [HMD.out]; rfl, HB2.out⟩
end Go.Proofs.YtjikddndlnimoaaDoor.mxW
