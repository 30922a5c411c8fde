/- Several texts as one: TrW, TrW2, TrW3, TrW4, TrW5, TrW6, TrW7, TrW8, TrW9, TrWA, TrWB, TrWC, TrWD, TrWE, TrWF, TrWG. -/
import Derived.Test.YtjdgobfjpjnhgaaDoorTrD2
import Derived.Test.YtjdgobfjpjnhgaaDoorTrShelf
import Derived.Test.YtjdgobfjpjnhgaaDoorShWH
import Derived.Lib.BitFns
import Derived.Test.YtjdgobfjpjnhgaaDoorOrd
import Derived.Test.YtjdgobfjpjnhgaaDoorTrPlain3
import Derived.Test.YtjdgobfjpjnhgaaDoorLex
namespace Go.Proofs.YtjdgobfjpjnhgaaDoor.trW
set_option maxRecDepth 100000
open Go.RowKit Go.Proofs.YtjdgobfjpjnhgaaDoor.base Go.Proofs.YtjdgobfjpjnhgaaDoor.shP Go.Proofs.YtjdgobfjpjnhgaaDoor.shW Go.Proofs.YtjdgobfjpjnhgaaDoor.trP
set_option linter.unusedVariables false
set_option linter.unusedSimpArgs false
set_option maxRecDepth 100000
theorem len_log : ∀ x : Fin 600, x.val ≠ 0 → Lib.bitLen x.val = Nat.log2 x.val + 1 := by decide +kernel
theorem len_half {n : Nat} (h : 2 ≤ n) (h2 : n ≤ 600) : 2 ^ (Lib.bitLen (n - 1) - 1) = half n := by
  have := len_log ⟨n - 1, by omega⟩ (by show n - 1 ≠ 0; omega)
  have e : Lib.bitLen (n - 1) = Nat.log2 (n - 1) + 1 := this
  rw [e]; rfl
theorem len_pos {n : Nat} (h : 2 ≤ n) (h2 : n ≤ 600) : 1 ≤ Lib.bitLen (n - 1) ∧ Lib.bitLen (n - 1) ≤ 10 := by
  have := len_log ⟨n - 1, by omega⟩ (by show n - 1 ≠ 0; omega)
  have e : Lib.bitLen (n - 1) = Nat.log2 (n - 1) + 1 := this
  rw [e]
  have h3 : Nat.log2 (n - 1) < 10 := by
    rw [Nat.log2_lt (by omega)]; omega
  omega
set_option maxHeartbeats 800000 in
theorem first_any (n : Nat) (w : World) (h : 2 ≤ n) (h2 : n ≤ 600) :
    Calls Tryd.prog 34 #[.int .i64 (n : Int)] w fun e w' => e = .returned (.int .i64 (half n : Int)) ∧ w' = w := by
  have HL := Lib.hid (len_half h h2)
  obtain ⟨k1, k2⟩ := len_pos h h2
  have n2 : (2 : Int) ≤ n := by omega
  have n6 : (n : Int) ≤ 600 := by omega
  have w1 : IntKind.u64.wrap ((n : Int) - 1) = (n : Int) - 1 := IntWalk.u64_in _ (by omega)
  obtain ⟨k, hk⟩ : ∃ k, Lib.bitLen (n - 1) = k := ⟨_, rfl⟩
  rw [hk] at HL k1 k2
  have HK : Hid (Lib.bitLen ((n : Int) - 1).toNat = k) := Lib.hid (by rw [show ((n : Int) - 1).toNat = n - 1 by omega]; exact hk)
  clear h h2 hk
  go_enter Tryd.func34, Tryd.ntmps34
  go_wp2_with fail
  refine (trS.bits_Len ((n : Int) - 1) w (by omega) (by omega)).mono ?_
  rintro e _ ⟨rfl, rfl⟩
  rw [HK.out]
  go_wp2_with fail
  have hw : wrap64 (2 ^ (k - 1)) = (half n : Int) := by
    rw [← HL.out]
    rcases (show k = 1 ∨ k = 2 ∨ k = 3 ∨ k = 4 ∨ k = 5 ∨ k = 6 ∨ k = 7 ∨ k = 8 ∨ k = 9 ∨ k = 10 by omega) with rfl | rfl | rfl | rfl | rfl | rfl | rfl | rfl | rfl | rfl <;> decide +kernel
  rw [hw]
  go_ret
  exact ⟨rfl, rfl⟩
set_option maxHeartbeats 800000 in
theorem half_any (n : Nat) (w : World) (h : 2 ≤ n) (h2 : n ≤ 1000000) :
    Calls Tryd.prog 25 #[.int .i64 (n : Int)] w fun e w' => e = .returned (.int .i64 (half n : Int)) ∧ w' = w := by
  have n2 : (2 : Int) ≤ n := by omega
  have n6 : (n : Int) ≤ 1000000 := by omega
  have HN := Lib.hid (And.intro h h2)
  clear h h2
  go_enter Tryd.func25, Tryd.ntmps25
  go_wp2_with fail
  go_loopw [3] (fun v wr => ∃ k a : Nat, v = .int .i64 (k : Int) ∧ k = 2 ^ a ∧ k < n ∧ wr = w) (fun v _ => n - (intOf v).toNat)
  case atStart => exact ⟨1, 0, rfl, rfl, by have := HN.out; omega, rfl⟩
  case round =>
    obtain ⟨k, a, rfl, hk, hkn, rfl⟩ := hrel
    have k0 : 1 ≤ k := by rw [hk]; exact Nat.one_le_two_pow
    have HK := Lib.hid hk
    have k1 : (k : Int) < n := by omega
    have k2 : 1 ≤ (k : Int) := by omega
    have w1 : IntKind.i64.wrap (2 * (k : Int)) = 2 * (k : Int) := IntWalk.i64_in _ (by omega)
    have w2 : IntKind.i64.wrap ((k : Int) * 2) = (k : Int) * 2 := IntWalk.i64_in _ (by omega)
    clear hk
    by_cases c : 2 * k < n
    · have HC := Lib.hid c
      have c1 : 2 * (k : Int) < n := by omega
      clear c
      go_wp2_with fail
      refine ⟨⟨2 * k, a + 1, by rw [show (k : Int) * 2 = ((2 * k : Nat) : Int) by omega], by rw [HK.out, Nat.pow_succ]; omega, HC.out, by trivial⟩, by simp [intOf]; omega⟩
    · have HC := Lib.hid c
      have c1 : ¬ 2 * (k : Int) < n := by omega
      clear c
      have HH : Hid (k = half n) := Lib.hid (half_uniq HN.out.1 HK.out (by omega) (by have := HC.out; omega))
      go_wp2_with fail
      go_ret
      exact ⟨by rw [← HH.out]; rfl, rfl⟩
/-! Leaves. -/
theorem bb {a b c : World} (h : Below a.heap.size a b) (k : Below b.heap.size b c) : Below a.heap.size a c := below_on k h
theorem bnew (w : World) (o : Obj) : Below w.heap.size w (w.alloc o) := (Below.refl _ _).alloc (Nat.le_refl _) _
def leafD (b : List Int) : List Int := digest (0 :: b)
def lfB (b : List Int) : Bool := decide (b.length ≤ 10000)
def lfE (b : List Int) : Int := if lfB b then 0 else 4
def lfV (b : List Int) : List Int := if lfB b then leafD b else zd
theorem lf_yes {b : List Int} (h : b.length ≤ 10000) : lfE b = 0 ∧ lfV b = leafD b := by
  have : lfB b = true := by unfold lfB; simpa using h
  exact ⟨by rw [lfE, if_pos this], by rw [lfV, if_pos this]⟩
theorem lf_no {b : List Int} (h : ¬ b.length ≤ 10000) : lfE b = 4 ∧ lfV b = zd := by
  have : ¬ lfB b = true := by unfold lfB; simpa using h
  exact ⟨by rw [lfE, if_neg this], by rw [lfV, if_neg this]⟩
theorem leaf_isD (b : List Int) : IsD (leafD b) := digest_isD _
theorem lfV_isD (b : List Int) : IsD (lfV b) := by unfold lfV; split; exact leaf_isD b; exact zd_isD
def rv (r : R8) : Value := .slice r.A r.n r.c
theorem hasL_lit {w : World} {rs : List R8} {g : Nat} (T : TypeId) (hg : w.heap.size = g) (h : ∀ r ∈ rs, InR w r) : HasL (w.alloc (.cells (rs.map rv).toArray T)) (some ⟨g, 0, none⟩) rs := by
  refine ⟨.inr ⟨g, 0, rfl, by rw [← hg]; simp, fun i hi => ?_⟩, fun r hr => (h r hr).below ((Below.refl _ _).alloc (Nat.le_refl _) _) (Nat.le_refl _)⟩
  have L := Lies.fresh_at (t := T) (cs := rs.map rv) hg
  rw [L.cell, Nat.zero_add, List.getElem?_map, List.getD_eq_getElem?_getD, List.getElem?_eq_getElem hi]
  rfl
theorem one_byte (w : World) {g : Nat} (hg : w.heap.size = g) (x : Int) : Has .u8 (w.alloc (.cells #[.int .u8 x] 5)) (some ⟨g, 0, none⟩) [x] := has_lit (zs := [x]) hg (by simp [maxLen])
set_option maxHeartbeats 1600000 in
theorem Leaf_any (b : List Int) (A : Option Addr) (n d : Nat) (w : World) (hT : Tab w) (hA : Has .u8 w A b) (hl : b.length = n) (hd : n ≤ d) (hm : d ≤ 9223372036854775807) (hb : ∀ z ∈ b, 0 ≤ z ∧ z ≤ 255) :
    Calls Tryd.prog 10 #[.slice A n d] w fun e w' => e = .returned (.tuple #[.agg (darr (lfV b)), .int .i64 (lfE b)]) ∧ Below w.heap.size w w' := by
  have n9 : (n : Int) ≤ 9223372036854775807 := by omega
  have HT := Lib.hid hT
  have HA := Lib.hid hA
  have HL := Lib.hid hl
  have HD := Lib.hid (And.intro hd hm)
  have HB := Lib.hid hb
  have HZ := Lib.hid (z20_at w rfl)
  clear hT hA hl hd hm hb
  by_cases c : n ≤ 10000
  · have HV := Lib.hid (lf_yes (b := b) (by rw [HL.out]; exact c))
    have HC := Lib.hid c
    have c1 : (n : Int) ≤ 10000 := by omega
    clear c
    go_enter Tryd.func10, Tryd.ntmps10
    go_upto_region 1 with fail
    have B0 := Lib.hid (bnew w (.cells #[.int .u8 0, .int .u8 0, .int .u8 0, .int .u8 0, .int .u8 0, .int .u8 0, .int .u8 0, .int .u8 0, .int .u8 0, .int .u8 0, .int .u8 0, .int .u8 0, .int .u8 0, .int .u8 0, .int .u8 0, .int .u8 0, .int .u8 0, .int .u8 0, .int .u8 0, .int .u8 0] 26))
    generalize (w.alloc (.cells #[.int .u8 0, .int .u8 0, .int .u8 0, .int .u8 0, .int .u8 0, .int .u8 0, .int .u8 0, .int .u8 0, .int .u8 0, .int .u8 0, .int .u8 0, .int .u8 0, .int .u8 0, .int .u8 0, .int .u8 0, .int .u8 0, .int .u8 0, .int .u8 0, .int .u8 0, .int .u8 0] 26)) = w0 at *
    go_wp2_with fail
    have G1 := bnew w0 (.cells #[.int .u8 0] 5)
    have G2 := bnew (w0.alloc (.cells #[.int .u8 0] 5)) (.cells #[.slice (some ⟨w0.heap.size, 0, none⟩) 1 1, .slice A n d] 23)
    have HLL := hasL_lit (w := w0.alloc (.cells #[.int .u8 0] 5)) (rs := [⟨some ⟨w0.heap.size, 0, none⟩, 1, 1, [0]⟩, ⟨A, n, d, b⟩]) 23 (g := w0.heap.size + 1) (by simp) (by
        intro q hq
        simp only [List.mem_cons, List.not_mem_nil, or_false] at hq
        rcases hq with rfl | rfl
        · exact ⟨one_byte w0 rfl 0, rfl, Nat.le_refl 1, (by decide : 1 ≤ 9223372036854775807), by intro z hz; simp at hz; subst hz; omega⟩
        · exact ⟨(HA.out.below B0.out (Nat.le_refl _)).below G1 (Nat.le_refl _), HL.out, HD.out.1, HD.out.2, HB.out⟩)
    have HPI : Hid (piE [⟨some ⟨w0.heap.size, 0, none⟩, 1, 1, [0]⟩, ⟨A, n, d, b⟩] = 0 ∧ piV [⟨some ⟨w0.heap.size, 0, none⟩, 1, 1, [0]⟩, ⟨A, n, d, b⟩] = leafD b) := Lib.hid (by
      have e : wholeL [⟨some ⟨w0.heap.size, 0, none⟩, 1, 1, [0]⟩, ⟨A, n, d, b⟩] = 0 :: b := by simp [wholeL]
      have := pi_yes (rs := [⟨some ⟨w0.heap.size, 0, none⟩, 1, 1, [0]⟩, ⟨A, n, d, b⟩]) (by simp) (by rw [e, List.length_cons, HL.out]; have := HC.out; omega)
      rw [e] at this; exact this)
    have G3 := bb (bb B0.out G1) G2
    refine (Pieces_any [⟨some ⟨w0.heap.size, 0, none⟩, 1, 1, [0]⟩, ⟨A, n, d, b⟩] _ 2 2 _ (HT.out.below G3 (Nat.le_refl _)) HLL rfl (by omega)).mono ?_
    rintro e w3 ⟨rfl, b3⟩
    rw [HPI.out.1, HPI.out.2]
    have Z3 := Lib.hid (Lies.past (Lies.past (Lies.past HZ.out G1) G2) b3)
    have B3 := Lib.hid (bb G3 b3)
    clear G1 G2 G3 HLL HPI b3 B0 HZ
    have HLD := Lib.hid (leaf_isD b)
    go_wp2_with (show wpList _ _ _ ({ dst := none, op := Op.store 26 _ _, type := _, pos := _, after := _, guard := _ } :: _) _ _; go_must (refine trW.wp_st (g := w.heap.size) (l := leafD b) (by rfl) _ _ rfl (Z3.out) (zd_isD.len) (HLD.out.len) rfl rfl ?_); intro w9 hR9 hg9 hb9 hz9)
    refine bodyPost_ret (trW.ret_d (by exact Tryd.results10) _ _ _ (HLD.out.len) rfl (hR9)) rfl ?_
    exact ⟨by rw [HV.out.1, HV.out.2]; rfl, B3.out.trans hb9⟩
  · have HV := Lib.hid (lf_no (b := b) (by rw [HL.out]; exact c))
    have c1 : ¬ (n : Int) ≤ 10000 := by omega
    clear c
    go_enter Tryd.func10, Tryd.ntmps10
    go_upto_region 1 with fail
    have B0 := Lib.hid (bnew w (.cells #[.int .u8 0, .int .u8 0, .int .u8 0, .int .u8 0, .int .u8 0, .int .u8 0, .int .u8 0, .int .u8 0, .int .u8 0, .int .u8 0, .int .u8 0, .int .u8 0, .int .u8 0, .int .u8 0, .int .u8 0, .int .u8 0, .int .u8 0, .int .u8 0, .int .u8 0, .int .u8 0] 26))
    generalize (w.alloc (.cells #[.int .u8 0, .int .u8 0, .int .u8 0, .int .u8 0, .int .u8 0, .int .u8 0, .int .u8 0, .int .u8 0, .int .u8 0, .int .u8 0, .int .u8 0, .int .u8 0, .int .u8 0, .int .u8 0, .int .u8 0, .int .u8 0, .int .u8 0, .int .u8 0, .int .u8 0, .int .u8 0] 26)) = w0 at *
    go_wp2_with (show wpList _ _ _ ({ dst := none, op := Op.store 26 _ _, type := _, pos := _, after := _, guard := _ } :: _) _ _; go_must (refine trW.wp_st (g := w.heap.size) (l := zd) (by rfl) _ _ rfl (HZ.out) (zd_isD.len) (zd_isD.len) rfl rfl ?_); intro w9 hR9 hg9 hb9 hz9)
    refine bodyPost_ret (trW.ret_d (by exact Tryd.results10) _ _ _ (zd_isD.len) rfl (hR9)) rfl ?_
    exact ⟨by rw [HV.out.1, HV.out.2]; rfl, B0.out.trans hb9⟩
/-! The reference's leaves. -/
theorem own_one (w : World) {g B : Nat} (hg : w.heap.size = g) (hB : B ≤ g) (x : Int) : OwnZ (w.alloc (.cells #[.int .u8 x] 5)) B (.slice (some ⟨g, 0, none⟩) 1 1) [x] := by
  subst hg
  exact .inl (OwnI.lit w 5 .u8 [x] B hB (by simp [maxLen]))
set_option maxHeartbeats 1600000 in
theorem rleaf_any (b : List Int) (A : Option Addr) (n d : Nat) (w : World) (hA : Has .u8 w A b) (hl : b.length = n) (hn : n ≤ 90000) (hb : ∀ z ∈ b, 0 ≤ z ∧ z ≤ 255) :
    Calls Tryd.prog 28 #[.slice A n d] w fun e w' => e = .returned (.agg (darr (leafD b))) ∧ Below w.heap.size w w' := by
  have n9 : (n : Int) ≤ 90000 := by omega
  have HA := Lib.hid hA
  have HL := Lib.hid hl
  have HB := Lib.hid hb
  have HN := Lib.hid hn
  have HZ := Lib.hid (z20_at w rfl)
  clear hA hl hn hb
  go_enter Tryd.func28, Tryd.ntmps28
  go_upto_region 1 with fail
  have B0 := Lib.hid (bnew w (.cells #[.int .u8 0, .int .u8 0, .int .u8 0, .int .u8 0, .int .u8 0, .int .u8 0, .int .u8 0, .int .u8 0, .int .u8 0, .int .u8 0, .int .u8 0, .int .u8 0, .int .u8 0, .int .u8 0, .int .u8 0, .int .u8 0, .int .u8 0, .int .u8 0, .int .u8 0, .int .u8 0] 26))
  have S0 : Hid ((w.alloc (.cells #[.int .u8 0, .int .u8 0, .int .u8 0, .int .u8 0, .int .u8 0, .int .u8 0, .int .u8 0, .int .u8 0, .int .u8 0, .int .u8 0, .int .u8 0, .int .u8 0, .int .u8 0, .int .u8 0, .int .u8 0, .int .u8 0, .int .u8 0, .int .u8 0, .int .u8 0, .int .u8 0] 26)).heap.size = w.heap.size + 1) := Lib.hid (by simp)
  generalize (w.alloc (.cells #[.int .u8 0, .int .u8 0, .int .u8 0, .int .u8 0, .int .u8 0, .int .u8 0, .int .u8 0, .int .u8 0, .int .u8 0, .int .u8 0, .int .u8 0, .int .u8 0, .int .u8 0, .int .u8 0, .int .u8 0, .int .u8 0, .int .u8 0, .int .u8 0, .int .u8 0, .int .u8 0] 26)) = w0 at *
  go_wp2_with (at_builtin; refine app8z rfl _ _ rfl w0.heap.size _ [0] rfl (own_one w0 rfl (Nat.le_refl _) 0) A n d b rfl HL.out ((HA.out.below B0.out (Nat.le_refl _)).below (bnew _ _) (Nat.le_refl _)) (n + 1) (by simp; omega) (by have := HN.out; omega) (by simp) ?_; intro A3 c3 w3 ho3 hk3 hb3; have HO3 := Lib.hid ho3; have HB3 : Hid (Below w0.heap.size w0 w3) := Lib.hid ((bnew _ _).trans hb3); clear ho3 hk3 hb3)
  refine (rOf (0 :: b) A3 (n + 1) c3 w3 HO3.out.has (by simp [HL.out]) (by have := HN.out; omega) (by intro z hz; rcases List.mem_cons.1 hz with rfl | h; exact ⟨by omega, by omega⟩; exact HB.out z h)).mono ?_
  rintro e w4 ⟨rfl, b4⟩
  have HLD := Lib.hid (leaf_isD b)
  rw [show digest (0 :: b) = leafD b from rfl]
  have Z4 := Lib.hid (Lies.past (Lies.past HZ.out HB3.out) b4)
  have B4 := Lib.hid (bb (bb B0.out HB3.out) b4)
  clear b4 HB3 HZ HO3
  go_wp2_with (show wpList _ _ _ ({ dst := none, op := Op.store 26 _ _, type := _, pos := _, after := _, guard := _ } :: _) _ _; go_must (refine trW.wp_st (g := w.heap.size) (l := leafD b) (by rfl) _ _ rfl (Z4.out) (zd_isD.len) (HLD.out.len) rfl rfl ?_); intro w9 hR9 hg9 hb9 hz9)
  refine bodyPost_ret (trW.ret_1 (by exact Tryd.results28) _ _ _ (HLD.out.len) rfl (hR9)) rfl ?_
  exact ⟨rfl, B4.out.trans hb9⟩
set_option maxHeartbeats 1600000 in
theorem rLeaf_any (b : List Int) (A : Option Addr) (n d : Nat) (w : World) (hA : Has .u8 w A b) (hl : b.length = n) (hm : n ≤ 9223372036854775807) (hb : ∀ z ∈ b, 0 ≤ z ∧ z ≤ 255) :
    Calls Tryd.prog 11 #[.slice A n d] w fun e w' => e = .returned (.tuple #[.agg (darr (lfV b)), .int .i64 (lfE b)]) ∧ Below w.heap.size w w' := by
  have n9 : (n : Int) ≤ 9223372036854775807 := by omega
  have HA := Lib.hid hA
  have HL := Lib.hid hl
  have HB := Lib.hid hb
  have HZ := Lib.hid (z20_at w rfl)
  clear hA hl hm hb
  by_cases c : n ≤ 10000
  · have HV := Lib.hid (lf_yes (b := b) (by rw [HL.out]; exact c))
    have HC := Lib.hid c
    have c1 : (n : Int) ≤ 10000 := by omega
    clear c
    go_enter Tryd.func11, Tryd.ntmps11
    go_upto_region 1 with fail
    have B0 := Lib.hid (bnew w (.cells #[.int .u8 0, .int .u8 0, .int .u8 0, .int .u8 0, .int .u8 0, .int .u8 0, .int .u8 0, .int .u8 0, .int .u8 0, .int .u8 0, .int .u8 0, .int .u8 0, .int .u8 0, .int .u8 0, .int .u8 0, .int .u8 0, .int .u8 0, .int .u8 0, .int .u8 0, .int .u8 0] 26))
    generalize (w.alloc (.cells #[.int .u8 0, .int .u8 0, .int .u8 0, .int .u8 0, .int .u8 0, .int .u8 0, .int .u8 0, .int .u8 0, .int .u8 0, .int .u8 0, .int .u8 0, .int .u8 0, .int .u8 0, .int .u8 0, .int .u8 0, .int .u8 0, .int .u8 0, .int .u8 0, .int .u8 0, .int .u8 0] 26)) = w0 at *
    go_wp2_with fail
    refine (rleaf_any b A n d w0 (HA.out.below B0.out (Nat.le_refl _)) HL.out (by have := HC.out; omega) HB.out).mono ?_
    rintro e w3 ⟨rfl, b3⟩
    have Z3 := Lib.hid (Lies.past HZ.out b3)
    have B3 := Lib.hid (bb B0.out b3)
    have HLD := Lib.hid (leaf_isD b)
    clear b3 B0 HZ
    go_wp2_with (show wpList _ _ _ ({ dst := none, op := Op.store 26 _ _, type := _, pos := _, after := _, guard := _ } :: _) _ _; go_must (refine trW.wp_st (g := w.heap.size) (l := leafD b) (by rfl) _ _ rfl (Z3.out) (zd_isD.len) (HLD.out.len) rfl rfl ?_); intro w9 hR9 hg9 hb9 hz9)
    refine bodyPost_ret (trW.ret_d (by exact Tryd.results11) _ _ _ (HLD.out.len) rfl (hR9)) rfl ?_
    exact ⟨by rw [HV.out.1, HV.out.2]; rfl, B3.out.trans hb9⟩
  · have HV := Lib.hid (lf_no (b := b) (by rw [HL.out]; exact c))
    have c1 : ¬ (n : Int) ≤ 10000 := by omega
    clear c
    go_enter Tryd.func11, Tryd.ntmps11
    go_upto_region 1 with fail
    have B0 := Lib.hid (bnew w (.cells #[.int .u8 0, .int .u8 0, .int .u8 0, .int .u8 0, .int .u8 0, .int .u8 0, .int .u8 0, .int .u8 0, .int .u8 0, .int .u8 0, .int .u8 0, .int .u8 0, .int .u8 0, .int .u8 0, .int .u8 0, .int .u8 0, .int .u8 0, .int .u8 0, .int .u8 0, .int .u8 0] 26))
    generalize (w.alloc (.cells #[.int .u8 0, .int .u8 0, .int .u8 0, .int .u8 0, .int .u8 0, .int .u8 0, .int .u8 0, .int .u8 0, .int .u8 0, .int .u8 0, .int .u8 0, .int .u8 0, .int .u8 0, .int .u8 0, .int .u8 0, .int .u8 0, .int .u8 0, .int .u8 0, .int .u8 0, .int .u8 0] 26)) = w0 at *
    go_wp2_with (show wpList _ _ _ ({ dst := none, op := Op.store 26 _ _, type := _, pos := _, after := _, guard := _ } :: _) _ _; go_must (refine trW.wp_st (g := w.heap.size) (l := zd) (by rfl) _ _ rfl (HZ.out) (zd_isD.len) (zd_isD.len) rfl rfl ?_); intro w9 hR9 hg9 hb9 hz9)
    refine bodyPost_ret (trW.ret_d (by exact Tryd.results11) _ _ _ (zd_isD.len) rfl (hR9)) rfl ?_
    exact ⟨by rw [HV.out.1, HV.out.2]; rfl, B0.out.trans hb9⟩
end Go.Proofs.YtjdgobfjpjnhgaaDoor.trW

namespace Go.Proofs.YtjdgobfjpjnhgaaDoor.trW
set_option maxRecDepth 100000
open Go.RowKit Go.Proofs.YtjdgobfjpjnhgaaDoor.base Go.Proofs.YtjdgobfjpjnhgaaDoor.shP Go.Proofs.YtjdgobfjpjnhgaaDoor.shW Go.Proofs.YtjdgobfjpjnhgaaDoor.trP
set_option linter.unusedVariables false
set_option linter.unusedSimpArgs false
set_option maxRecDepth 100000
def nodeD (a b : List Int) : List Int := digest (1 :: (a ++ b))
theorem node_isD (a b : List Int) : IsD (nodeD a b) := digest_isD _
theorem box_has {w : World} {g : Nat} {d : List Int} (hg : w.heap.size = g) (hd : IsD d) : Has .u8 (w.alloc (.cells (darr d) 26)) (some ⟨g, 0, none⟩) d := has_lit hg (by rw [hd.len]; simp only [maxLen]; omega)
theorem at_box {w : World} {g : Nat} {d : List Int} (hg : w.heap.size = g) : Lies (w.alloc (.cells (darr d) 26)) g 26 (sv d) := Lies.fresh_at (cs := sv d) hg
theorem lies_has {w : World} {g : Nat} {d : List Int} (h : Lies w g 26 (sv d)) : Has .u8 w (some ⟨g, 0, none⟩) d := .inr ⟨g, 0, rfl, h.lt, fun i hi => by
  rw [h.cell, Nat.zero_add, sv, List.getElem?_map, List.getElem?_eq_getElem hi, List.getD_eq_getElem?_getD, List.getElem?_eq_getElem hi]; rfl⟩
set_option maxHeartbeats 1600000 in
theorem node_any (a b : List Int) (w : World) (hT : Tab w) (ha : IsD a) (hb : IsD b) :
    Calls Tryd.prog 39 #[.agg (darr a), .agg (darr b)] w fun e w' => e = .returned (.tuple #[.agg (darr (nodeD a b)), .int .i64 0]) ∧ Below w.heap.size w w' := by
  have HT := Lib.hid hT
  have HA := Lib.hid ha
  have HB := Lib.hid hb
  have G1 := bnew w (.cells (darr a) 26)
  have S1 : (w.alloc (.cells (darr a) 26)).heap.size = w.heap.size + 1 := by simp
  have G2 := bnew (w.alloc (.cells (darr a) 26)) (.cells (darr b) 26)
  have S2 : ((w.alloc (.cells (darr a) 26)).alloc (.cells (darr b) 26)).heap.size = w.heap.size + 2 := by simp
  have G3 := bnew ((w.alloc (.cells (darr a) 26)).alloc (.cells (darr b) 26)) (.cells #[.int .u8 0, .int .u8 0, .int .u8 0, .int .u8 0, .int .u8 0, .int .u8 0, .int .u8 0, .int .u8 0, .int .u8 0, .int .u8 0, .int .u8 0, .int .u8 0, .int .u8 0, .int .u8 0, .int .u8 0, .int .u8 0, .int .u8 0, .int .u8 0, .int .u8 0, .int .u8 0] 26)
  have LA := Lib.hid (((at_box (w := w) (d := a) rfl).past G2).past G3)
  have LB := Lib.hid ((at_box (w := w.alloc (.cells (darr a) 26)) (d := b) S1).past G3)
  have LZ := Lib.hid (z20_at ((w.alloc (.cells (darr a) 26)).alloc (.cells (darr b) 26)) S2)
  have B0 := Lib.hid (bb (bb G1 G2) G3)
  have S0 : Hid ((((w.alloc (.cells (darr a) 26)).alloc (.cells (darr b) 26)).alloc (.cells #[.int .u8 0, .int .u8 0, .int .u8 0, .int .u8 0, .int .u8 0, .int .u8 0, .int .u8 0, .int .u8 0, .int .u8 0, .int .u8 0, .int .u8 0, .int .u8 0, .int .u8 0, .int .u8 0, .int .u8 0, .int .u8 0, .int .u8 0, .int .u8 0, .int .u8 0, .int .u8 0] 26)).heap.size = w.heap.size + 3) := Lib.hid (by simp)
  clear hT ha hb G1 G2 G3 S1 S2
  go_enter Tryd.func39, Tryd.ntmps39
  go_upto_region 1 with fail
  generalize (((w.alloc (.cells (darr a) 26)).alloc (.cells (darr b) 26)).alloc (.cells #[.int .u8 0, .int .u8 0, .int .u8 0, .int .u8 0, .int .u8 0, .int .u8 0, .int .u8 0, .int .u8 0, .int .u8 0, .int .u8 0, .int .u8 0, .int .u8 0, .int .u8 0, .int .u8 0, .int .u8 0, .int .u8 0, .int .u8 0, .int .u8 0, .int .u8 0, .int .u8 0] 26)) = w0 at *
  have HGS : Hid (w.heap.size ≤ w.heap.size + 2) := Lib.hid (by omega)
  have HG1 : Hid (w.heap.size ≤ w.heap.size + 1) := Lib.hid (by omega)
  (have RD := grows_roads (S := fun x' => Below w0.heap.size w0 x') (fun a b h1 h2 => h2.trans (h1.mono h2.size))); refine region_ordT 7 _ Grows RD (Below.drew (Below.refl _ _)) (by kernel_rfl) (by decide) ?_; intro ops Q' hops hPQ hN; (have HNS : Hid (Region.noSelect ops = true ∧ Region.sinkB .any ops 7 = true ∧ Region.chainB .any ops 7 = true ∧ 7 < ops.size) := Lib.hid (by rw [hops]; exact ⟨by kernel_rfl, by kernel_rfl, by kernel_rfl, by decide⟩)); (have hsz : ops.size = 9 := (by rw [hops]; rfl)); have HOP := Lib.hid hops; have HPQ := Lib.hid hPQ; have HN := Lib.hid hN; rw [hsz]; clear hops hsz hPQ hN
  refine ordT_take RD 1 (at_list (by rw [HOP.out]; rfl)) HNS.out HPQ.out (by rw [HOP.out]; kernel_rfl) (by rw [HOP.out]; kernel_rfl) (by rw [HOP.out]; rfl) (fun K hK => ?_); apply Exists.intro; refine ⟨fun W hSW => ?_, hK _ ?_⟩; (focus ((try dsimp only at hSW); go_simp; try with_reducible rfl)); clear hK K; (try simp only [Act.put, List.setIfInBounds_toArray, List.set_cons_zero, List.set_cons_succ])
  refine ordT_take RD 2 (at_list (by rw [HOP.out]; rfl)) HNS.out HPQ.out (by rw [HOP.out]; kernel_rfl) (by rw [HOP.out]; kernel_rfl) (by rw [HOP.out]; rfl) (fun K hK => ?_); apply Exists.intro; refine ⟨fun W hSW => ?_, hK _ ?_⟩; (focus ((try dsimp only at hSW); go_simp; try with_reducible rfl)); clear hK K; (try simp only [Act.put, List.setIfInBounds_toArray, List.set_cons_zero, List.set_cons_succ])
  refine ordT_one RD 0 (by rw [HOP.out]; kernel_rfl) (at_list (by rw [HOP.out]; rfl)) (by rw [HOP.out]; rfl) (fun W1 hWW hSW K hK => ?_); (try dsimp only at hSW)
  have F1 := Lib.hid (one_byte W1 rfl 1)
  have K1 := Lib.hid (And.intro (hSW.alloc hSW.size (.cells #[.int .u8 1] 5)) (show (W1.alloc (.cells #[.int .u8 1] 5)).heap.size = W1.heap.size + 1 by simp))
  go_simp
  refine hK _ _ K1.out.1 ?_
  clear hSW hWW
  clear hK K; (try simp only [Act.put, List.setIfInBounds_toArray, List.set_cons_zero, List.set_cons_succ])
  generalize (W1.alloc (.cells #[.int .u8 1] 5)) = V1 at *
  generalize W1.heap.size = g1 at *
  refine ordT_one RD 3 (by rw [HOP.out]; kernel_rfl) (at_list (by rw [HOP.out]; rfl)) (by rw [HOP.out]; rfl) (fun W2 hWW hSW K hK => ?_); (try dsimp only at hSW)
  have F2 := Lib.hid (And.intro (F1.out.below hWW (Nat.le_refl _)) (And.intro (LA.out.below hSW LA.out.lt) (LB.out.below hSW LB.out.lt)))
  have HLL := Lib.hid (hasL_lit (w := W2) (rs := [⟨some ⟨g1, 0, none⟩, 1, 1, [1]⟩, ⟨some ⟨w.heap.size, 0, none⟩, 20, 20, a⟩, ⟨some ⟨w.heap.size + 1, 0, none⟩, 20, 20, b⟩]) 23 (g := W2.heap.size) rfl (by
    intro q hq
    simp only [List.mem_cons, List.not_mem_nil, or_false] at hq
    rcases hq with rfl | rfl | rfl
    · exact ⟨F2.out.1, rfl, Nat.le_refl 1, (by decide : 1 ≤ 9223372036854775807), by intro z hz; simp at hz; subst hz; omega⟩
    · exact ⟨lies_has F2.out.2.1, HA.out.len, Nat.le_refl 20, (by decide : 20 ≤ 9223372036854775807), HA.out.bd⟩
    · exact ⟨lies_has F2.out.2.2, HB.out.len, Nat.le_refl 20, (by decide : 20 ≤ 9223372036854775807), HB.out.bd⟩))
  have K2 := Lib.hid (hSW.alloc hSW.size (.cells #[.slice (some ⟨g1, 0, none⟩) 1 1, .slice (some ⟨w.heap.size, 0, none⟩) 20 20, .slice (some ⟨w.heap.size + 1, 0, none⟩) 20 20] 23))
  go_simp
  refine hK _ _ K2.out ?_
  clear hSW hWW
  clear hK K; (try simp only [Act.put, List.setIfInBounds_toArray, List.set_cons_zero, List.set_cons_succ])
  generalize hV2 : (W2.alloc (.cells #[.slice (some ⟨g1, 0, none⟩) 1 1, .slice (some ⟨w.heap.size, 0, none⟩) 20 20, .slice (some ⟨w.heap.size + 1, 0, none⟩) 20 20] 23)) = V2 at *
  have HL2 : Hid (HasL V2 (some ⟨W2.heap.size, 0, none⟩) [⟨some ⟨g1, 0, none⟩, 1, 1, [1]⟩, ⟨some ⟨w.heap.size, 0, none⟩, 20, 20, a⟩, ⟨some ⟨w.heap.size + 1, 0, none⟩, 20, 20, b⟩]) := Lib.hid (by rw [← hV2]; exact HLL.out)
  clear hV2 HLL
  generalize W2.heap.size = g2 at *
  refine ordT_one RD 4 (by rw [HOP.out]; kernel_rfl) (at_list (by rw [HOP.out]; rfl)) (by rw [HOP.out]; rfl) (fun W3 hWW hSW K hK => ?_); (try dsimp only at hSW)
  have HPI : Hid (piE [⟨some ⟨g1, 0, none⟩, 1, 1, [1]⟩, ⟨some ⟨w.heap.size, 0, none⟩, 20, 20, a⟩, ⟨some ⟨w.heap.size + 1, 0, none⟩, 20, 20, b⟩] = 0 ∧ piV [⟨some ⟨g1, 0, none⟩, 1, 1, [1]⟩, ⟨some ⟨w.heap.size, 0, none⟩, 20, 20, a⟩, ⟨some ⟨w.heap.size + 1, 0, none⟩, 20, 20, b⟩] = nodeD a b) := Lib.hid (by
    have e : wholeL [⟨some ⟨g1, 0, none⟩, 1, 1, [1]⟩, ⟨some ⟨w.heap.size, 0, none⟩, 20, 20, a⟩, ⟨some ⟨w.heap.size + 1, 0, none⟩, 20, 20, b⟩] = 1 :: (a ++ b) := by simp [wholeL]
    have := pi_yes (rs := [⟨some ⟨g1, 0, none⟩, 1, 1, [1]⟩, ⟨some ⟨w.heap.size, 0, none⟩, 20, 20, a⟩, ⟨some ⟨w.heap.size + 1, 0, none⟩, 20, 20, b⟩]) (by simp) (by rw [e, List.length_cons, List.length_append, HA.out.len, HB.out.len]; omega)
    rw [e] at this; exact this)
  go_simp
  refine (Pieces_any _ (some ⟨g2, 0, none⟩) 3 3 W3 ((HT.out.below B0.out (Nat.le_refl _)).below hSW (Nat.le_refl _)) (HL2.out.below hWW (Nat.le_refl _)) rfl (by omega)).mono ?_
  rintro e w3 ⟨rfl, b3⟩
  rw [HPI.out.1, HPI.out.2]
  refine hK _ _ (bb hSW b3) ?_
  clear hSW hWW b3
  clear hK K; (try simp only [Act.put, List.setIfInBounds_toArray, List.set_cons_zero, List.set_cons_succ])
  refine ordT_take RD 5 (at_list (by rw [HOP.out]; rfl)) HNS.out HPQ.out (by rw [HOP.out]; kernel_rfl) (by rw [HOP.out]; kernel_rfl) (by rw [HOP.out]; rfl) (fun K hK => ?_); apply Exists.intro; refine ⟨fun W hSW => ?_, hK _ ?_⟩; (focus ((try dsimp only at hSW); go_simp; try with_reducible rfl)); clear hK K; (try simp only [Act.put, List.setIfInBounds_toArray, List.set_cons_zero, List.set_cons_succ])
  refine ordT_take RD 6 (at_list (by rw [HOP.out]; rfl)) HNS.out HPQ.out (by rw [HOP.out]; kernel_rfl) (by rw [HOP.out]; kernel_rfl) (by rw [HOP.out]; rfl) (fun K hK => ?_); apply Exists.intro; refine ⟨fun W hSW => ?_, hK _ ?_⟩; (focus ((try dsimp only at hSW); go_simp; try with_reducible rfl)); clear hK K; (try simp only [Act.put, List.setIfInBounds_toArray, List.set_cons_zero, List.set_cons_succ])
  refine ordT_end (by rw [HOP.out]; kernel_rfl) (fun W4 hWW hSW => ?_); rw [HOP.out]; simp only [List.drop_succ_cons, List.drop_zero]; have hN := HN.out; clear HOP HNS HPQ HN RD; (try dsimp only at hSW)
  have Z4 := Lib.hid (LZ.out.below hSW LZ.out.lt)
  have B4 := Lib.hid (bb B0.out hSW)
  have HLD := Lib.hid (node_isD a b)
  go_wp2_with (show wpList _ _ _ ({ dst := none, op := Op.store 26 _ _, type := _, pos := _, after := _, guard := _ } :: _) _ _; go_must (refine trW.wp_st (g := (w.heap.size + 2)) (l := nodeD a b) (by rfl) _ _ rfl (Z4.out) (zd_isD.len) (HLD.out.len) rfl rfl ?_); intro w9 hR9 hg9 hb9 hz9)
  refine bodyPost_ret (trW.ret_d (by exact Tryd.results39) _ _ _ (HLD.out.len) rfl (hR9)) rfl ?_
  exact ⟨rfl, B4.out.trans (hb9.mono HGS.out)⟩
end Go.Proofs.YtjdgobfjpjnhgaaDoor.trW

namespace Go.Proofs.YtjdgobfjpjnhgaaDoor.trW
set_option maxRecDepth 100000
open Go.RowKit Go.Proofs.YtjdgobfjpjnhgaaDoor.base Go.Proofs.YtjdgobfjpjnhgaaDoor.shP Go.Proofs.YtjdgobfjpjnhgaaDoor.shW Go.Proofs.YtjdgobfjpjnhgaaDoor.trP
set_option linter.unusedVariables false
set_option linter.unusedSimpArgs false
set_option maxRecDepth 100000
theorem node_bd {a b : List Int} (ha : IsD a) (hb : IsD b) : ([1] ++ a ++ b).length = 41 ∧ ∀ z ∈ [1] ++ a ++ b, 0 ≤ z ∧ z ≤ 255 := by
  refine ⟨by simp [ha.len, hb.len], fun z hz => ?_⟩
  simp only [List.mem_append, List.mem_cons, List.not_mem_nil, or_false] at hz
  rcases hz with (rfl | h) | h
  · omega
  · exact ha.bd z h
  · exact hb.bd z h
theorem nd_eq (a b : List Int) : digest ([1] ++ a ++ b) = nodeD a b := by simp [nodeD]
theorem sum_ok {b : List Int} (h : b.length ≤ 20000) : sumE b = 0 ∧ sumV b = digest b := ⟨by rw [sumE, if_pos h], by rw [sumV, if_pos h]⟩
set_option maxHeartbeats 1600000 in
theorem rnode_any (a b : List Int) (w : World) (ha : IsD a) (hb : IsD b) :
    Calls Tryd.prog 44 #[.agg (darr a), .agg (darr b)] w fun e w' => e = .returned (.agg (darr (nodeD a b))) ∧ Below w.heap.size w w' := by
  (have HA := Lib.hid ha; have HB := Lib.hid hb; have G1 := bnew w (.cells (darr a) 26); have S1 : (w.alloc (.cells (darr a) 26)).heap.size = w.heap.size + 1 := (by simp); have G2 := bnew (w.alloc (.cells (darr a) 26)) (.cells (darr b) 26); have S2 : ((w.alloc (.cells (darr a) 26)).alloc (.cells (darr b) 26)).heap.size = w.heap.size + 2 := (by simp); have G3 := bnew ((w.alloc (.cells (darr a) 26)).alloc (.cells (darr b) 26)) (.cells #[.int .u8 0, .int .u8 0, .int .u8 0, .int .u8 0, .int .u8 0, .int .u8 0, .int .u8 0, .int .u8 0, .int .u8 0, .int .u8 0, .int .u8 0, .int .u8 0, .int .u8 0, .int .u8 0, .int .u8 0, .int .u8 0, .int .u8 0, .int .u8 0, .int .u8 0, .int .u8 0] 26); have LA := Lib.hid (((at_box (w := w) (d := a) rfl).past G2).past G3); have LB := Lib.hid ((at_box (w := w.alloc (.cells (darr a) 26)) (d := b) S1).past G3); have LZ := Lib.hid (z20_at ((w.alloc (.cells (darr a) 26)).alloc (.cells (darr b) 26)) S2); have B0 := Lib.hid (bb (bb G1 G2) G3); have S0 : Hid ((((w.alloc (.cells (darr a) 26)).alloc (.cells (darr b) 26)).alloc (.cells #[.int .u8 0, .int .u8 0, .int .u8 0, .int .u8 0, .int .u8 0, .int .u8 0, .int .u8 0, .int .u8 0, .int .u8 0, .int .u8 0, .int .u8 0, .int .u8 0, .int .u8 0, .int .u8 0, .int .u8 0, .int .u8 0, .int .u8 0, .int .u8 0, .int .u8 0, .int .u8 0] 26)).heap.size = w.heap.size + 3) := Lib.hid (by simp); have HGS : Hid (w.heap.size ≤ w.heap.size + 2) := Lib.hid (by omega); have HND := Lib.hid (node_bd ha hb); have HLD := Lib.hid (node_isD a b); clear ha hb G1 G2 G3 S1 S2)
  go_enter Tryd.func44, Tryd.ntmps44
  go_upto_region 1 with fail
  generalize (((w.alloc (.cells (darr a) 26)).alloc (.cells (darr b) 26)).alloc (.cells #[.int .u8 0, .int .u8 0, .int .u8 0, .int .u8 0, .int .u8 0, .int .u8 0, .int .u8 0, .int .u8 0, .int .u8 0, .int .u8 0, .int .u8 0, .int .u8 0, .int .u8 0, .int .u8 0, .int .u8 0, .int .u8 0, .int .u8 0, .int .u8 0, .int .u8 0, .int .u8 0] 26)) = w0 at *
  (have RD := drawn_roads (S := fun x' => Below w0.heap.size w0 x') (fun _ n h => below_drewN h n)); refine region_ordT 6 _ Drawn RD (Below.drew (Below.refl _ _)) (by kernel_rfl) (by decide) ?_; intro ops Q' hops hPQ hN; (have HNS : Hid (Region.noSelect ops = true ∧ Region.sinkB .any ops 6 = true ∧ Region.chainB .any ops 6 = true ∧ 6 < ops.size) := Lib.hid (by rw [hops]; exact ⟨by kernel_rfl, by kernel_rfl, by kernel_rfl, by decide⟩)); (have hsz : ops.size = 7 := (by rw [hops]; rfl)); have HOP := Lib.hid hops; have HPQ := Lib.hid hPQ; have HN := Lib.hid hN; rw [hsz]; clear hops hsz hPQ hN
  refine ordT_take RD 1 (at_list (by rw [HOP.out]; rfl)) HNS.out HPQ.out (by rw [HOP.out]; kernel_rfl) (by rw [HOP.out]; kernel_rfl) (by rw [HOP.out]; rfl) (fun K hK => ?_); apply Exists.intro; refine ⟨fun W hSW => ?_, hK _ ?_⟩; (focus ((try dsimp only at hSW); go_simp; try with_reducible rfl)); clear hK K; (try simp only [Act.put, List.setIfInBounds_toArray, List.set_cons_zero, List.set_cons_succ])
  refine ordT_take RD 3 (at_list (by rw [HOP.out]; rfl)) HNS.out HPQ.out (by rw [HOP.out]; kernel_rfl) (by rw [HOP.out]; kernel_rfl) (by rw [HOP.out]; rfl) (fun K hK => ?_); apply Exists.intro; refine ⟨fun W hSW => ?_, hK _ ?_⟩; (focus ((try dsimp only at hSW); go_simp; try with_reducible rfl)); clear hK K; (try simp only [Act.put, List.setIfInBounds_toArray, List.set_cons_zero, List.set_cons_succ])
  refine ordT_one RD 0 (by rw [HOP.out]; kernel_rfl) (at_list (by rw [HOP.out]; rfl)) (by rw [HOP.out]; rfl) (fun W1 hWW hSW K hK => ?_); (try dsimp only at hSW)
  go_simp
  have HS1 := Lib.hid hSW
  refine hK _ _ (HS1.out.alloc HS1.out.size _) ?_
  clear hWW hSW
  clear hK K; (try simp only [Act.put, List.setIfInBounds_toArray, List.set_cons_zero, List.set_cons_succ])
  refine ordT_one RD 2 (by rw [HOP.out]; kernel_rfl) (at_list (by rw [HOP.out]; rfl)) (by rw [HOP.out]; rfl) (fun W2 hWW hSW K hK => ?_); (try dsimp only at hSW)
  have HL1 : Hid (OwnI W2 w0.heap.size 5 .u8 (.slice (some ⟨W1.heap.size, 0, none⟩) 1 1) [1]) := Lib.hid (by
    obtain ⟨nn, rfl⟩ := hWW
    exact OwnI.lit W1 5 .u8 [1] w0.heap.size HS1.out.size (by simp [maxLen]))
  have HS2 := Lib.hid hSW
  clear hWW hSW
  refine wp_app8 rfl _ _ rfl w0.heap.size _ [1] rfl HL1.out (some ⟨w.heap.size, 0, none⟩) 20 20 a rfl HA.out.len (lies_has (LA.out.below HS2.out LA.out.lt)) 21 (by simp) (by omega) HS2.out.size ?_
  intro A4 c4 w4 o4 g4 b4
  have HO4 := Lib.hid o4
  have HS4 := Lib.hid (HS2.out.trans (b4.mono (Nat.le_refl _)))
  refine hK _ _ HS4.out ?_
  clear o4 g4 b4
  clear hK K; (try simp only [Act.put, List.setIfInBounds_toArray, List.set_cons_zero, List.set_cons_succ])
  refine ordT_one RD 4 (by rw [HOP.out]; kernel_rfl) (at_list (by rw [HOP.out]; rfl)) (by rw [HOP.out]; rfl) (fun W3 hWW hSW K hK => ?_); (try dsimp only at hSW)
  have HL3 : Hid (OwnI W3 w0.heap.size 5 .u8 (.slice A4 21 c4) ([1] ++ a)) := Lib.hid (by
    obtain ⟨nn, rfl⟩ := hWW
    exact HO4.out.below (below_drewN (Below.refl _ _) _) (Nat.le_refl _))
  have HS3 := Lib.hid hSW
  clear hWW hSW
  refine wp_app8 rfl _ _ rfl w0.heap.size _ ([1] ++ a) rfl HL3.out (some ⟨w.heap.size + 1, 0, none⟩) 20 20 b rfl HB.out.len (lies_has (LB.out.below HS3.out LB.out.lt)) 41 (by simp [HA.out.len]) (by omega) HS3.out.size ?_
  intro A5 c5 w5 o5 g5 b5
  have HO5 := Lib.hid o5
  have HS5 := Lib.hid (HS3.out.trans (b5.mono (Nat.le_refl _)))
  refine hK _ _ HS5.out ?_
  clear o5 g5 b5
  clear hK K; (try simp only [Act.put, List.setIfInBounds_toArray, List.set_cons_zero, List.set_cons_succ])
  refine ordT_one RD 5 (by rw [HOP.out]; kernel_rfl) (at_list (by rw [HOP.out]; rfl)) (by rw [HOP.out]; rfl) (fun W6 hWW hSW K hK => ?_); (try dsimp only at hSW)
  have HO6 : Hid (OwnI W6 w0.heap.size 5 .u8 (.slice A5 41 c5) ([1] ++ a ++ b)) := Lib.hid (by
    obtain ⟨nn, rfl⟩ := hWW
    exact HO5.out.below (below_drewN (Below.refl _ _) _) (Nat.le_refl _))
  have HS6 := Lib.hid hSW
  clear hWW hSW
  go_simp
  refine (rOf ([1] ++ a ++ b) A5 41 c5 W6 HO6.out.has HND.out.1 (by omega) HND.out.2).mono ?_
  rintro e w7 ⟨rfl, b7⟩
  rw [nd_eq]
  refine hK _ _ (bb HS6.out b7) ?_
  have HS7 := Lib.hid (bb HS6.out b7)
  clear b7
  clear hK K; (try simp only [Act.put, List.setIfInBounds_toArray, List.set_cons_zero, List.set_cons_succ])
  refine ordT_end (by rw [HOP.out]; kernel_rfl) (fun W8 hWW hSW => ?_); rw [HOP.out]; simp only [List.drop_succ_cons, List.drop_zero]; have hN := HN.out; clear HOP HNS HPQ HN RD; (try dsimp only at hSW)
  have Z4 := Lib.hid (LZ.out.below hSW LZ.out.lt)
  have B4 := Lib.hid (bb B0.out hSW)
  go_wp2_with (show wpList _ _ _ ({ dst := none, op := Op.store 26 _ _, type := _, pos := _, after := _, guard := _ } :: _) _ _; go_must (refine trW.wp_st (g := (w.heap.size + 2)) (l := nodeD a b) (by rfl) _ _ rfl (Z4.out) (zd_isD.len) (HLD.out.len) rfl rfl ?_); intro w9 hR9 hg9 hb9 hz9)
  refine bodyPost_ret (trW.ret_1 (by exact Tryd.results44) _ _ _ (HLD.out.len) rfl (hR9)) rfl ?_
  exact ⟨rfl, B4.out.trans (hb9.mono HGS.out)⟩
set_option maxHeartbeats 1600000 in
theorem lnode_any (a b : List Int) (w : World) (hT : Tab w) (ha : IsD a) (hb : IsD b) :
    Calls Tryd.prog 26 #[.agg (darr a), .agg (darr b)] w fun e w' => e = .returned (.tuple #[.agg (darr (nodeD a b)), .int .i64 0]) ∧ Below w.heap.size w w' := by
  have HT := Lib.hid hT
  clear hT
  (have HA := Lib.hid ha; have HB := Lib.hid hb; have G1 := bnew w (.cells (darr a) 26); have S1 : (w.alloc (.cells (darr a) 26)).heap.size = w.heap.size + 1 := (by simp); have G2 := bnew (w.alloc (.cells (darr a) 26)) (.cells (darr b) 26); have S2 : ((w.alloc (.cells (darr a) 26)).alloc (.cells (darr b) 26)).heap.size = w.heap.size + 2 := (by simp); have G3 := bnew ((w.alloc (.cells (darr a) 26)).alloc (.cells (darr b) 26)) (.cells #[.int .u8 0, .int .u8 0, .int .u8 0, .int .u8 0, .int .u8 0, .int .u8 0, .int .u8 0, .int .u8 0, .int .u8 0, .int .u8 0, .int .u8 0, .int .u8 0, .int .u8 0, .int .u8 0, .int .u8 0, .int .u8 0, .int .u8 0, .int .u8 0, .int .u8 0, .int .u8 0] 26); have LA := Lib.hid (((at_box (w := w) (d := a) rfl).past G2).past G3); have LB := Lib.hid ((at_box (w := w.alloc (.cells (darr a) 26)) (d := b) S1).past G3); have LZ := Lib.hid (z20_at ((w.alloc (.cells (darr a) 26)).alloc (.cells (darr b) 26)) S2); have B0 := Lib.hid (bb (bb G1 G2) G3); have S0 : Hid ((((w.alloc (.cells (darr a) 26)).alloc (.cells (darr b) 26)).alloc (.cells #[.int .u8 0, .int .u8 0, .int .u8 0, .int .u8 0, .int .u8 0, .int .u8 0, .int .u8 0, .int .u8 0, .int .u8 0, .int .u8 0, .int .u8 0, .int .u8 0, .int .u8 0, .int .u8 0, .int .u8 0, .int .u8 0, .int .u8 0, .int .u8 0, .int .u8 0, .int .u8 0] 26)).heap.size = w.heap.size + 3) := Lib.hid (by simp); have HGS : Hid (w.heap.size ≤ w.heap.size + 2) := Lib.hid (by omega); have HND := Lib.hid (node_bd ha hb); have HLD := Lib.hid (node_isD a b); clear ha hb G1 G2 G3 S1 S2)
  go_enter Tryd.func26, Tryd.ntmps26
  go_upto_region 1 with fail
  generalize (((w.alloc (.cells (darr a) 26)).alloc (.cells (darr b) 26)).alloc (.cells #[.int .u8 0, .int .u8 0, .int .u8 0, .int .u8 0, .int .u8 0, .int .u8 0, .int .u8 0, .int .u8 0, .int .u8 0, .int .u8 0, .int .u8 0, .int .u8 0, .int .u8 0, .int .u8 0, .int .u8 0, .int .u8 0, .int .u8 0, .int .u8 0, .int .u8 0, .int .u8 0] 26)) = w0 at *
  (have RD := drawn_roads (S := fun x' => Below w0.heap.size w0 x') (fun _ n h => below_drewN h n)); refine region_ordT 8 _ Drawn RD (Below.drew (Below.refl _ _)) (by kernel_rfl) (by decide) ?_; intro ops Q' hops hPQ hN; (have HNS : Hid (Region.noSelect ops = true ∧ Region.sinkB .any ops 8 = true ∧ Region.chainB .any ops 8 = true ∧ 8 < ops.size) := Lib.hid (by rw [hops]; exact ⟨by kernel_rfl, by kernel_rfl, by kernel_rfl, by decide⟩)); (have hsz : ops.size = 10 := (by rw [hops]; rfl)); have HOP := Lib.hid hops; have HPQ := Lib.hid hPQ; have HN := Lib.hid hN; rw [hsz]; clear hops hsz hPQ hN
  refine ordT_take RD 1 (at_list (by rw [HOP.out]; rfl)) HNS.out HPQ.out (by rw [HOP.out]; kernel_rfl) (by rw [HOP.out]; kernel_rfl) (by rw [HOP.out]; rfl) (fun K hK => ?_); apply Exists.intro; refine ⟨fun W hSW => ?_, hK _ ?_⟩; (focus ((try dsimp only at hSW); go_simp; try with_reducible rfl)); clear hK K; (try simp only [Act.put, List.setIfInBounds_toArray, List.set_cons_zero, List.set_cons_succ])
  refine ordT_take RD 3 (at_list (by rw [HOP.out]; rfl)) HNS.out HPQ.out (by rw [HOP.out]; kernel_rfl) (by rw [HOP.out]; kernel_rfl) (by rw [HOP.out]; rfl) (fun K hK => ?_); apply Exists.intro; refine ⟨fun W hSW => ?_, hK _ ?_⟩; (focus ((try dsimp only at hSW); go_simp; try with_reducible rfl)); clear hK K; (try simp only [Act.put, List.setIfInBounds_toArray, List.set_cons_zero, List.set_cons_succ])
  refine ordT_one RD 0 (by rw [HOP.out]; kernel_rfl) (at_list (by rw [HOP.out]; rfl)) (by rw [HOP.out]; rfl) (fun W1 hWW hSW K hK => ?_); (try dsimp only at hSW)
  go_simp
  have HS1 := Lib.hid hSW
  refine hK _ _ (HS1.out.alloc HS1.out.size _) ?_
  clear hWW hSW
  clear hK K; (try simp only [Act.put, List.setIfInBounds_toArray, List.set_cons_zero, List.set_cons_succ])
  refine ordT_one RD 2 (by rw [HOP.out]; kernel_rfl) (at_list (by rw [HOP.out]; rfl)) (by rw [HOP.out]; rfl) (fun W2 hWW hSW K hK => ?_); (try dsimp only at hSW)
  have HL1 : Hid (OwnI W2 w0.heap.size 5 .u8 (.slice (some ⟨W1.heap.size, 0, none⟩) 1 1) [1]) := Lib.hid (by
    obtain ⟨nn, rfl⟩ := hWW
    exact OwnI.lit W1 5 .u8 [1] w0.heap.size HS1.out.size (by simp [maxLen]))
  have HS2 := Lib.hid hSW
  clear hWW hSW
  refine wp_app8 rfl _ _ rfl w0.heap.size _ [1] rfl HL1.out (some ⟨w.heap.size, 0, none⟩) 20 20 a rfl HA.out.len (lies_has (LA.out.below HS2.out LA.out.lt)) 21 (by simp) (by omega) HS2.out.size ?_
  intro A4 c4 w4 o4 g4 b4
  have HO4 := Lib.hid o4
  have HS4 := Lib.hid (HS2.out.trans (b4.mono (Nat.le_refl _)))
  refine hK _ _ HS4.out ?_
  clear o4 g4 b4
  clear hK K; (try simp only [Act.put, List.setIfInBounds_toArray, List.set_cons_zero, List.set_cons_succ])
  refine ordT_one RD 4 (by rw [HOP.out]; kernel_rfl) (at_list (by rw [HOP.out]; rfl)) (by rw [HOP.out]; rfl) (fun W3 hWW hSW K hK => ?_); (try dsimp only at hSW)
  have HL3 : Hid (OwnI W3 w0.heap.size 5 .u8 (.slice A4 21 c4) ([1] ++ a)) := Lib.hid (by
    obtain ⟨nn, rfl⟩ := hWW
    exact HO4.out.below (below_drewN (Below.refl _ _) _) (Nat.le_refl _))
  have HS3 := Lib.hid hSW
  clear hWW hSW
  refine wp_app8 rfl _ _ rfl w0.heap.size _ ([1] ++ a) rfl HL3.out (some ⟨w.heap.size + 1, 0, none⟩) 20 20 b rfl HB.out.len (lies_has (LB.out.below HS3.out LB.out.lt)) 41 (by simp [HA.out.len]) (by omega) HS3.out.size ?_
  intro A5 c5 w5 o5 g5 b5
  have HO5 := Lib.hid o5
  have HS5 := Lib.hid (HS3.out.trans (b5.mono (Nat.le_refl _)))
  refine hK _ _ HS5.out ?_
  clear o5 g5 b5
  clear hK K; (try simp only [Act.put, List.setIfInBounds_toArray, List.set_cons_zero, List.set_cons_succ])
  refine ordT_one RD 5 (by rw [HOP.out]; kernel_rfl) (at_list (by rw [HOP.out]; rfl)) (by rw [HOP.out]; rfl) (fun W6 hWW hSW K hK => ?_); (try dsimp only at hSW)
  have HO6 : Hid (OwnI W6 w0.heap.size 5 .u8 (.slice A5 41 c5) ([1] ++ a ++ b)) := Lib.hid (by
    obtain ⟨nn, rfl⟩ := hWW
    exact HO5.out.below (below_drewN (Below.refl _ _) _) (Nat.le_refl _))
  have HS6 := Lib.hid hSW
  clear hWW hSW
  go_simp
  refine (Sum_any ([1] ++ a ++ b) A5 41 c5 W6 ((HT.out.below B0.out (Nat.le_refl _)).below HS6.out (Nat.le_refl _)) HO6.out.has HND.out.1 (by obtain ⟨_, _, e, _, hle, _⟩ := HO6.out.val; injection e with e1 e2 e3; rw [HND.out.1] at hle; omega) (by omega) HND.out.2).mono ?_
  rintro e w7 ⟨rfl, b7⟩
  rw [(sum_ok (by rw [HND.out.1]; omega)).1, (sum_ok (by rw [HND.out.1]; omega)).2, nd_eq]
  refine hK _ _ (bb HS6.out b7) ?_
  clear b7
  clear hK K; (try simp only [Act.put, List.setIfInBounds_toArray, List.set_cons_zero, List.set_cons_succ])
  refine ordT_take RD 6 (at_list (by rw [HOP.out]; rfl)) HNS.out HPQ.out (by rw [HOP.out]; kernel_rfl) (by rw [HOP.out]; kernel_rfl) (by rw [HOP.out]; rfl) (fun K hK => ?_); apply Exists.intro; refine ⟨fun W hSW => ?_, hK _ ?_⟩; (focus ((try dsimp only at hSW); go_simp; try with_reducible rfl)); clear hK K; (try simp only [Act.put, List.setIfInBounds_toArray, List.set_cons_zero, List.set_cons_succ])
  refine ordT_take RD 7 (at_list (by rw [HOP.out]; rfl)) HNS.out HPQ.out (by rw [HOP.out]; kernel_rfl) (by rw [HOP.out]; kernel_rfl) (by rw [HOP.out]; rfl) (fun K hK => ?_); apply Exists.intro; refine ⟨fun W hSW => ?_, hK _ ?_⟩; (focus ((try dsimp only at hSW); go_simp; try with_reducible rfl)); clear hK K; (try simp only [Act.put, List.setIfInBounds_toArray, List.set_cons_zero, List.set_cons_succ])
  refine ordT_end (by rw [HOP.out]; kernel_rfl) (fun W8 hWW hSW => ?_); rw [HOP.out]; simp only [List.drop_succ_cons, List.drop_zero]; have hN := HN.out; clear HOP HNS HPQ HN RD; (try dsimp only at hSW)
  have Z4 := Lib.hid (LZ.out.below hSW LZ.out.lt)
  have B4 := Lib.hid (bb B0.out hSW)
  go_wp2_with (show wpList _ _ _ ({ dst := none, op := Op.store 26 _ _, type := _, pos := _, after := _, guard := _ } :: _) _ _; go_must (refine trW.wp_st (g := (w.heap.size + 2)) (l := nodeD a b) (by rfl) _ _ rfl (Z4.out) (zd_isD.len) (HLD.out.len) rfl rfl ?_); intro w9 hR9 hg9 hb9 hz9)
  refine bodyPost_ret (trW.ret_d (by exact Tryd.results26) _ _ _ (HLD.out.len) rfl (hR9)) rfl ?_
  exact ⟨rfl, B4.out.trans (hb9.mono HGS.out)⟩
end Go.Proofs.YtjdgobfjpjnhgaaDoor.trW

namespace Go.Proofs.YtjdgobfjpjnhgaaDoor.trW
set_option maxRecDepth 100000
open Go.RowKit Go.Proofs.YtjdgobfjpjnhgaaDoor.base Go.Proofs.YtjdgobfjpjnhgaaDoor.shP Go.Proofs.YtjdgobfjpjnhgaaDoor.shW Go.Proofs.YtjdgobfjpjnhgaaDoor.trP
set_option linter.unusedVariables false
set_option linter.unusedSimpArgs false
set_option maxRecDepth 100000
def rtD (ls : List (List Int)) : List Int := rootT nodeD zd ls
theorem rt_isD : ∀ (n : Nat) (ls : List (List Int)), ls.length = n → AllD ls → IsD (rtD ls) := by
  intro n ls hl h
  unfold rtD
  by_cases h2 : 2 ≤ ls.length
  · rw [rootT_two _ _ h2]; exact node_isD _ _
  · match ls, h2 with
    | [], _ => rw [rootT_nil]; exact zd_isD
    | [a], _ => rw [rootT_one]; exact h a (by simp)
    | a :: b :: r, h2 => simp at h2
theorem rt_zero {ls : List (List Int)} (h : ls.length = 0) : rtD ls = zd := by
  have := List.eq_nil_of_length_eq_zero h
  subst this; exact rootT_nil ..
theorem rt_one {ls : List (List Int)} (h : ls.length = 1) : rtD ls = ls.getD 0 zd := by
  match ls, h with
  | [a], _ => exact rootT_one _ _ _
theorem rt_two {ls : List (List Int)} {k : Nat} (h : 2 ≤ ls.length) (hk : half ls.length = k) : rtD ls = nodeD (rtD (ls.take k)) (rtD (ls.drop k)) := by
  subst hk; exact rootT_two _ _ h
theorem cut_at {w : World} {b off c k : Nat} {ls : List (List Int)} (h : HasD w (some ⟨b, off, none⟩) ls) (hk : k < ls.length) (hc : ls.length ≤ c) : HasD w (some ⟨b, off + k * 20, none⟩) (ls.drop k) := by
  have := h.cut (n := k) (c := c) (by omega) hc
  rw [if_neg (by omega)] at this
  simpa [addr_add] using this
set_option maxHeartbeats 3200000 in
theorem root_any : ∀ (n : Nat) (ls : List (List Int)) (A : Option Addr) (c : Nat) (w : World), HasD w A ls → ls.length = n → n ≤ c → c ≤ 9223372036854775807 → n ≤ 600 → Tab w →
    Calls Tryd.prog 30 #[.slice A n c] w fun e w' => e = .returned (.tuple #[.agg (darr (rtD ls)), .int .i64 0]) ∧ Below w.heap.size w w' := by
  intro n
  induction n using Nat.strongRecOn with
  | _ n ih =>
  intro ls A c w hA hl hc hm hn hT
  have IH := Lib.hid ih
  have HA := Lib.hid hA
  have HL := Lib.hid hl
  have HC := Lib.hid (And.intro hc hm)
  have HT := Lib.hid hT
  have n9 : (n : Int) ≤ 600 := by omega
  have HZ := Lib.hid (z20_at w rfl)
  have HRD := Lib.hid (rt_isD n ls hl hA.d)
  clear ih hA hl hT
  by_cases h0 : n = 0
  · have HV := Lib.hid (rt_zero (ls := ls) (by rw [HL.out]; exact h0))
    have e0 : (n : Int) = 0 := by omega
    clear hc hm hn h0
    go_enter Tryd.func30, Tryd.ntmps30
    go_upto_region 1 with fail
    have B0 := Lib.hid (bnew w (.cells #[.int .u8 0, .int .u8 0, .int .u8 0, .int .u8 0, .int .u8 0, .int .u8 0, .int .u8 0, .int .u8 0, .int .u8 0, .int .u8 0, .int .u8 0, .int .u8 0, .int .u8 0, .int .u8 0, .int .u8 0, .int .u8 0, .int .u8 0, .int .u8 0, .int .u8 0, .int .u8 0] 26))
    generalize (w.alloc (.cells #[.int .u8 0, .int .u8 0, .int .u8 0, .int .u8 0, .int .u8 0, .int .u8 0, .int .u8 0, .int .u8 0, .int .u8 0, .int .u8 0, .int .u8 0, .int .u8 0, .int .u8 0, .int .u8 0, .int .u8 0, .int .u8 0, .int .u8 0, .int .u8 0, .int .u8 0, .int .u8 0] 26)) = w0 at *
    go_wp2_with (show wpList _ _ _ ({ dst := none, op := Op.store 26 _ _, type := _, pos := _, after := _, guard := _ } :: _) _ _; go_must (refine trW.wp_st (g := w.heap.size) (l := zd) (by rfl) _ _ rfl (HZ.out) (zd_isD.len) (zd_isD.len) rfl rfl ?_); intro w9 hR9 hg9 hb9 hz9)
    refine bodyPost_ret (trW.ret_d (by exact Tryd.results30) _ _ _ (zd_isD.len) rfl (hR9)) rfl ?_
    exact ⟨by rw [HV.out]; rfl, B0.out.trans hb9⟩
  · by_cases h1 : n = 1
    · have HV := Lib.hid (rt_one (ls := ls) (by rw [HL.out]; exact h1))
      obtain ⟨b, off, rfl, hb⟩ := HA.out.some (by rw [HL.out]; omega)
      have R0 : Hid (w.rangeAt b off (sv (ls.getD 0 zd))) := Lib.hid (by have := HA.out.rng rfl (i := 0) (by rw [HL.out]; omega); simpa using this)
      have HD := Lib.hid (HA.out.d.getz 0)
      rw [← HV.out] at R0 HD
      subst h1
      clear hc hm hn h0 n9
      go_enter Tryd.func30, Tryd.ntmps30
      go_upto_region 1 with fail
      have B0 := Lib.hid (bnew w (.cells #[.int .u8 0, .int .u8 0, .int .u8 0, .int .u8 0, .int .u8 0, .int .u8 0, .int .u8 0, .int .u8 0, .int .u8 0, .int .u8 0, .int .u8 0, .int .u8 0, .int .u8 0, .int .u8 0, .int .u8 0, .int .u8 0, .int .u8 0, .int .u8 0, .int .u8 0, .int .u8 0] 26))
      have R1 : Hid ((w.alloc (.cells #[.int .u8 0, .int .u8 0, .int .u8 0, .int .u8 0, .int .u8 0, .int .u8 0, .int .u8 0, .int .u8 0, .int .u8 0, .int .u8 0, .int .u8 0, .int .u8 0, .int .u8 0, .int .u8 0, .int .u8 0, .int .u8 0, .int .u8 0, .int .u8 0, .int .u8 0, .int .u8 0] 26)).rangeAt b off (sv (rtD ls))) := Lib.hid (World.rangeAt_alloc R0.out _)
      generalize (w.alloc (.cells #[.int .u8 0, .int .u8 0, .int .u8 0, .int .u8 0, .int .u8 0, .int .u8 0, .int .u8 0, .int .u8 0, .int .u8 0, .int .u8 0, .int .u8 0, .int .u8 0, .int .u8 0, .int .u8 0, .int .u8 0, .int .u8 0, .int .u8 0, .int .u8 0, .int .u8 0, .int .u8 0] 26)) = w0 at *
      go_wp2_with (first | (show wpList _ _ _ ({ dst := _, op := Op.load 26 _, type := _, pos := _, after := _, guard := _ } :: _) _ _; go_must (refine trW.wp_ld (l := rtD ls) (by rfl) _ rfl (R1.out) (HD.out.len) rfl ?_)) | (show wpList _ _ _ ({ dst := none, op := Op.store 26 _ _, type := _, pos := _, after := _, guard := _ } :: _) _ _; go_must (refine trW.wp_st (g := w.heap.size) (l := rtD ls) (by rfl) _ _ rfl (HZ.out) (zd_isD.len) (HD.out.len) rfl rfl ?_); intro w9 hR9 hg9 hb9 hz9))
      refine bodyPost_ret (trW.ret_d (by exact Tryd.results30) _ _ _ (HD.out.len) rfl (hR9)) rfl ?_
      exact ⟨rfl, B0.out.trans hb9⟩
    · have h2 : 2 ≤ n := by omega
      have k1 := half_pos n
      have k2 := half_lt h2
      have F := Lib.hid (fun w => first_any n w h2 hn)
      have HV := Lib.hid (rt_two (ls := ls) (k := half n) (by rw [HL.out]; exact h2) (by rw [HL.out]))
      obtain ⟨b, off, rfl, hb⟩ := HA.out.some (by rw [HL.out]; omega)
      generalize half n = k at *
      have HF := Lib.hid (HA.out.front k)
      have HG := Lib.hid (cut_at HA.out (k := k) (by rw [HL.out]; exact k2) (by rw [HL.out]; exact hc))
      have HLT : Hid ((ls.take k).length = k) := Lib.hid (by rw [List.length_take, HL.out]; omega)
      have HLD : Hid ((ls.drop k).length = n - k) := Lib.hid (by rw [List.length_drop, HL.out])
      have DT := Lib.hid (rt_isD _ _ rfl HF.out.d)
      have DD := Lib.hid (rt_isD _ _ rfl HG.out.d)
      generalize ls.take k = l1 at *
      generalize ls.drop k = l2 at *
      have e0 : ¬ (n : Int) = 0 := by omega
      have e1 : ¬ (n : Int) = 1 := by omega
      have q1 : ¬ c = k := by omega
      have q2 : (k : Int) ≤ n := by omega
      have q3 : (k : Int) ≤ c := by omega
      have q4 : (n : Int) ≤ c := by omega
      have HK := Lib.hid (And.intro k1 (And.intro k2 (And.intro hn hc)))
      clear hc hm hn h0 h1 h2 k1 k2
      go_enter Tryd.func30, Tryd.ntmps30
      go_upto_region 1 with fail
      have B0 := Lib.hid (bnew w (.cells #[.int .u8 0, .int .u8 0, .int .u8 0, .int .u8 0, .int .u8 0, .int .u8 0, .int .u8 0, .int .u8 0, .int .u8 0, .int .u8 0, .int .u8 0, .int .u8 0, .int .u8 0, .int .u8 0, .int .u8 0, .int .u8 0, .int .u8 0, .int .u8 0, .int .u8 0, .int .u8 0] 26))
      generalize (w.alloc (.cells #[.int .u8 0, .int .u8 0, .int .u8 0, .int .u8 0, .int .u8 0, .int .u8 0, .int .u8 0, .int .u8 0, .int .u8 0, .int .u8 0, .int .u8 0, .int .u8 0, .int .u8 0, .int .u8 0, .int .u8 0, .int .u8 0, .int .u8 0, .int .u8 0, .int .u8 0, .int .u8 0] 26)) = w0 at *
      go_wp2_with fail
      refine (F.out _).mono ?_
      rintro e _ ⟨rfl, rfl⟩
      go_wp2_with fail
      refine (IH.out k HK.out.2.1 l1 (some ⟨b, off, none⟩) c _ (HF.out.past B0.out) HLT.out (by have := HK.out; omega) HC.out.2 (by have := HK.out; omega) (HT.out.below B0.out (Nat.le_refl _))).mono ?_
      rintro e w1 ⟨rfl, b1⟩
      have B1 := Lib.hid (bb B0.out b1)
      have Z1 := Lib.hid (HZ.out.past b1)
      clear b1 B0 HZ
      have Y1 := Lib.hid (z20_at w1 rfl)
      have G1 := bnew w1 (.cells #[.int .u8 0, .int .u8 0, .int .u8 0, .int .u8 0, .int .u8 0, .int .u8 0, .int .u8 0, .int .u8 0, .int .u8 0, .int .u8 0, .int .u8 0, .int .u8 0, .int .u8 0, .int .u8 0, .int .u8 0, .int .u8 0, .int .u8 0, .int .u8 0, .int .u8 0, .int .u8 0] 26)
      have Z2 := Lib.hid (Z1.out.past G1)
      have B2 := Lib.hid (bb B1.out G1)
      have LT1 := Lib.hid Z1.out.lt
      have LE1 := Lib.hid B1.out.size
      clear Z1 B1 G1
      go_wp2_with (first | (show wpList _ _ _ ({ dst := none, op := Op.store 26 (.tmp 5) _, type := _, pos := _, after := _, guard := _ } :: _) _ _; go_must (refine trW.wp_st (g := w1.heap.size) (l := rtD l1) (by rfl) _ _ rfl (Y1.out) (zd_isD.len) (DT.out.len) rfl rfl ?_); intro w2 hR2 hg2 hb2 hz2; have R2 := Lib.hid hR2; have Z3 := Lib.hid (Z2.out.far hg2 (show w.heap.size ≠ w1.heap.size by have := LT1.out; omega)); have B3 := Lib.hid (B2.out.trans (hb2.mono LE1.out)); clear hR2 hg2 hb2 hz2 B2 Z2 Y1))
      refine (IH.out (n - k) (by have := HK.out; omega) l2 (some ⟨b, off + k * 20, none⟩) (c - k) _ (HG.out.past B3.out) HLD.out (by have := HK.out; omega) (by have := HC.out; omega) (by have := HK.out; omega) (HT.out.below B3.out (Nat.le_refl _))).mono ?_
      rintro e w3 ⟨rfl, b3⟩
      have B4 := Lib.hid (bb B3.out b3)
      have Z4 := Lib.hid (Z3.out.past b3)
      have R4 := Lib.hid (R2.out.past b3)
      clear b3 B3 Z3 R2
      have Y1 := Lib.hid (z20_at w3 rfl)
      have G1 := bnew w3 (.cells #[.int .u8 0, .int .u8 0, .int .u8 0, .int .u8 0, .int .u8 0, .int .u8 0, .int .u8 0, .int .u8 0, .int .u8 0, .int .u8 0, .int .u8 0, .int .u8 0, .int .u8 0, .int .u8 0, .int .u8 0, .int .u8 0, .int .u8 0, .int .u8 0, .int .u8 0, .int .u8 0] 26)
      have Z5 := Lib.hid (Z4.out.past G1)
      have R5 := Lib.hid (R4.out.past G1)
      have B5 := Lib.hid (bb B4.out G1)
      have LE3 := Lib.hid B4.out.size
      have LR3 := Lib.hid R4.out.lt
      have LT3 := Lib.hid Z4.out.lt
      clear Z4 B4 R4 G1
      go_wp2_with (first | (show wpList _ _ _ ({ dst := none, op := Op.store 26 (.tmp 7) _, type := _, pos := _, after := _, guard := _ } :: _) _ _; go_must (refine trW.wp_st (g := w3.heap.size) (l := rtD l2) (by rfl) _ _ rfl (Y1.out) (zd_isD.len) (DD.out.len) rfl rfl ?_); intro w4 hR2 hg2 hb2 hz2; have S6 := Lib.hid hR2; have Z6 := Lib.hid (Z5.out.far hg2 (show w.heap.size ≠ w3.heap.size by have := LT3.out; omega)); have R6 := Lib.hid (R5.out.far hg2 (show w1.heap.size ≠ w3.heap.size by have := LR3.out; omega)); have B6 := Lib.hid (B5.out.trans (hb2.mono LE3.out)); clear hR2 hg2 hb2 hz2 B5 Z5 R5 Y1) | (show wpList _ _ _ ({ dst := _, op := Op.load 26 (.tmp 5), type := _, pos := _, after := _, guard := _ } :: _) _ _; go_must (refine trW.wp_l0 (l := rtD l1) (by rfl) _ rfl (R6.out) (DT.out.len) rfl ?_)) | (show wpList _ _ _ ({ dst := _, op := Op.load 26 (.tmp 7), type := _, pos := _, after := _, guard := _ } :: _) _ _; go_must (refine trW.wp_l0 (l := rtD l2) (by rfl) _ rfl (S6.out) (DD.out.len) rfl ?_)))
      refine (node_any (rtD l1) (rtD l2) _ (HT.out.below B6.out (Nat.le_refl _)) DT.out DD.out).mono ?_
      rintro e w5 ⟨rfl, b5⟩
      have B7 := Lib.hid (bb B6.out b5)
      have Z7 := Lib.hid (Z6.out.past b5)
      have HND := Lib.hid (node_isD (rtD l1) (rtD l2))
      clear b5 B6 Z6 R6 S6
      go_wp2_with (show wpList _ _ _ ({ dst := none, op := Op.store 26 _ _, type := _, pos := _, after := _, guard := _ } :: _) _ _; go_must (refine trW.wp_st (g := w.heap.size) (l := nodeD (rtD l1) (rtD l2)) (by rfl) _ _ rfl (Z7.out) (zd_isD.len) (HND.out.len) rfl rfl ?_); intro w9 hR9 hg9 hb9 hz9)
      refine bodyPost_ret (trW.ret_d (by exact Tryd.results30) _ _ _ (HND.out.len) rfl (hR9)) rfl ?_
      exact ⟨by rw [HV.out]; rfl, B7.out.trans hb9⟩
end Go.Proofs.YtjdgobfjpjnhgaaDoor.trW

namespace Go.Proofs.YtjdgobfjpjnhgaaDoor.trW
set_option maxRecDepth 100000
open Go.RowKit Go.Proofs.YtjdgobfjpjnhgaaDoor.base Go.Proofs.YtjdgobfjpjnhgaaDoor.shP Go.Proofs.YtjdgobfjpjnhgaaDoor.shW Go.Proofs.YtjdgobfjpjnhgaaDoor.trP
set_option linter.unusedVariables false
set_option linter.unusedSimpArgs false
set_option maxRecDepth 100000
set_option maxHeartbeats 3200000 in
theorem rroot_any : ∀ (n : Nat) (ls : List (List Int)) (A : Option Addr) (c : Nat) (w : World), HasD w A ls → ls.length = n → n ≤ c → c ≤ 9223372036854775807 → n ≤ 600 →
    Calls Tryd.prog 32 #[.slice A n c] w fun e w' => e = .returned (.agg (darr (rtD ls))) ∧ Below w.heap.size w w' := by
  intro n
  induction n using Nat.strongRecOn with
  | _ n ih =>
  intro ls A c w hA hl hc hm hn
  have IH := Lib.hid ih
  have HA := Lib.hid hA
  have HL := Lib.hid hl
  have HC := Lib.hid (And.intro hc hm)
  have n9 : (n : Int) ≤ 600 := by omega
  have HZ := Lib.hid (z20_at w rfl)
  have HRD := Lib.hid (rt_isD n ls hl hA.d)
  clear ih hA hl
  by_cases h0 : n = 0
  · have HV := Lib.hid (rt_zero (ls := ls) (by rw [HL.out]; exact h0))
    have e0 : (n : Int) = 0 := by omega
    clear hc hm hn h0
    go_enter Tryd.func32, Tryd.ntmps32
    go_upto_region 1 with fail
    have B0 := Lib.hid (bnew w (.cells #[.int .u8 0, .int .u8 0, .int .u8 0, .int .u8 0, .int .u8 0, .int .u8 0, .int .u8 0, .int .u8 0, .int .u8 0, .int .u8 0, .int .u8 0, .int .u8 0, .int .u8 0, .int .u8 0, .int .u8 0, .int .u8 0, .int .u8 0, .int .u8 0, .int .u8 0, .int .u8 0] 26))
    generalize (w.alloc (.cells #[.int .u8 0, .int .u8 0, .int .u8 0, .int .u8 0, .int .u8 0, .int .u8 0, .int .u8 0, .int .u8 0, .int .u8 0, .int .u8 0, .int .u8 0, .int .u8 0, .int .u8 0, .int .u8 0, .int .u8 0, .int .u8 0, .int .u8 0, .int .u8 0, .int .u8 0, .int .u8 0] 26)) = w0 at *
    go_wp2_with (show wpList _ _ _ ({ dst := none, op := Op.store 26 _ _, type := _, pos := _, after := _, guard := _ } :: _) _ _; go_must (refine trW.wp_st (g := w.heap.size) (l := zd) (by rfl) _ _ rfl (HZ.out) (zd_isD.len) (zd_isD.len) rfl rfl ?_); intro w9 hR9 hg9 hb9 hz9)
    refine bodyPost_ret (trW.ret_1 (by exact Tryd.results32) _ _ _ (zd_isD.len) rfl (hR9)) rfl ?_
    exact ⟨by rw [HV.out], B0.out.trans hb9⟩
  · by_cases h1 : n = 1
    · have HV := Lib.hid (rt_one (ls := ls) (by rw [HL.out]; exact h1))
      obtain ⟨b, off, rfl, hb⟩ := HA.out.some (by rw [HL.out]; omega)
      have R0 : Hid (w.rangeAt b off (sv (ls.getD 0 zd))) := Lib.hid (by have := HA.out.rng rfl (i := 0) (by rw [HL.out]; omega); simpa using this)
      have HD := Lib.hid (HA.out.d.getz 0)
      rw [← HV.out] at R0 HD
      subst h1
      clear hc hm hn h0 n9
      go_enter Tryd.func32, Tryd.ntmps32
      go_upto_region 1 with fail
      have B0 := Lib.hid (bnew w (.cells #[.int .u8 0, .int .u8 0, .int .u8 0, .int .u8 0, .int .u8 0, .int .u8 0, .int .u8 0, .int .u8 0, .int .u8 0, .int .u8 0, .int .u8 0, .int .u8 0, .int .u8 0, .int .u8 0, .int .u8 0, .int .u8 0, .int .u8 0, .int .u8 0, .int .u8 0, .int .u8 0] 26))
      have R1 : Hid ((w.alloc (.cells #[.int .u8 0, .int .u8 0, .int .u8 0, .int .u8 0, .int .u8 0, .int .u8 0, .int .u8 0, .int .u8 0, .int .u8 0, .int .u8 0, .int .u8 0, .int .u8 0, .int .u8 0, .int .u8 0, .int .u8 0, .int .u8 0, .int .u8 0, .int .u8 0, .int .u8 0, .int .u8 0] 26)).rangeAt b off (sv (rtD ls))) := Lib.hid (World.rangeAt_alloc R0.out _)
      generalize (w.alloc (.cells #[.int .u8 0, .int .u8 0, .int .u8 0, .int .u8 0, .int .u8 0, .int .u8 0, .int .u8 0, .int .u8 0, .int .u8 0, .int .u8 0, .int .u8 0, .int .u8 0, .int .u8 0, .int .u8 0, .int .u8 0, .int .u8 0, .int .u8 0, .int .u8 0, .int .u8 0, .int .u8 0] 26)) = w0 at *
      go_wp2_with (first | (show wpList _ _ _ ({ dst := _, op := Op.load 26 _, type := _, pos := _, after := _, guard := _ } :: _) _ _; go_must (refine trW.wp_ld (l := rtD ls) (by rfl) _ rfl (R1.out) (HD.out.len) rfl ?_)) | (show wpList _ _ _ ({ dst := none, op := Op.store 26 _ _, type := _, pos := _, after := _, guard := _ } :: _) _ _; go_must (refine trW.wp_st (g := w.heap.size) (l := rtD ls) (by rfl) _ _ rfl (HZ.out) (zd_isD.len) (HD.out.len) rfl rfl ?_); intro w9 hR9 hg9 hb9 hz9))
      refine bodyPost_ret (trW.ret_1 (by exact Tryd.results32) _ _ _ (HD.out.len) rfl (hR9)) rfl ?_
      exact ⟨rfl, B0.out.trans hb9⟩
    · have h2 : 2 ≤ n := by omega
      have k1 := half_pos n
      have k2 := half_lt h2
      have F := Lib.hid (fun w => half_any n w h2 (by omega))
      have HV := Lib.hid (rt_two (ls := ls) (k := half n) (by rw [HL.out]; exact h2) (by rw [HL.out]))
      obtain ⟨b, off, rfl, hb⟩ := HA.out.some (by rw [HL.out]; omega)
      generalize half n = k at *
      have HF := Lib.hid (HA.out.front k)
      have HG := Lib.hid (cut_at HA.out (k := k) (by rw [HL.out]; exact k2) (by rw [HL.out]; exact hc))
      have HLT : Hid ((ls.take k).length = k) := Lib.hid (by rw [List.length_take, HL.out]; omega)
      have HLD : Hid ((ls.drop k).length = n - k) := Lib.hid (by rw [List.length_drop, HL.out])
      have DT := Lib.hid (rt_isD _ _ rfl HF.out.d)
      have DD := Lib.hid (rt_isD _ _ rfl HG.out.d)
      generalize ls.take k = l1 at *
      generalize ls.drop k = l2 at *
      have e0 : ¬ (n : Int) = 0 := by omega
      have e1 : ¬ (n : Int) = 1 := by omega
      have q1 : ¬ c = k := by omega
      have q2 : (k : Int) ≤ n := by omega
      have q3 : (k : Int) ≤ c := by omega
      have q4 : (n : Int) ≤ c := by omega
      have HK := Lib.hid (And.intro k1 (And.intro k2 (And.intro hn hc)))
      clear hc hm hn h0 h1 h2 k1 k2
      go_enter Tryd.func32, Tryd.ntmps32
      go_upto_region 1 with fail
      have B0 := Lib.hid (bnew w (.cells #[.int .u8 0, .int .u8 0, .int .u8 0, .int .u8 0, .int .u8 0, .int .u8 0, .int .u8 0, .int .u8 0, .int .u8 0, .int .u8 0, .int .u8 0, .int .u8 0, .int .u8 0, .int .u8 0, .int .u8 0, .int .u8 0, .int .u8 0, .int .u8 0, .int .u8 0, .int .u8 0] 26))
      generalize (w.alloc (.cells #[.int .u8 0, .int .u8 0, .int .u8 0, .int .u8 0, .int .u8 0, .int .u8 0, .int .u8 0, .int .u8 0, .int .u8 0, .int .u8 0, .int .u8 0, .int .u8 0, .int .u8 0, .int .u8 0, .int .u8 0, .int .u8 0, .int .u8 0, .int .u8 0, .int .u8 0, .int .u8 0] 26)) = w0 at *
      go_wp2_with fail
      refine (F.out _).mono ?_
      rintro e _ ⟨rfl, rfl⟩
      go_wp2_with fail
      rename World => w1
      (have RD := grows_roads (S := fun x' => Below w1.heap.size w1 x') (fun a b h1 h2 => h2.trans (h1.mono h2.size))); refine region_ordT 9 _ Grows RD (Below.drew (Below.refl _ _)) (by kernel_rfl) (by decide) ?_; intro ops Q' hops hPQ hN; (have HNS : Hid (Region.noSelect ops = true ∧ Region.sinkB .any ops 9 = true ∧ Region.chainB .any ops 9 = true ∧ 9 < ops.size) := Lib.hid (by rw [hops]; exact ⟨by kernel_rfl, by kernel_rfl, by kernel_rfl, by decide⟩)); (have hsz : ops.size = 10 := (by rw [hops]; rfl)); have HOP := Lib.hid hops; have HPQ := Lib.hid hPQ; have HN := Lib.hid hN; rw [hsz]; clear hops hsz hPQ hN
      refine ordT_take RD 0 (at_list (by rw [HOP.out]; rfl)) HNS.out HPQ.out (by rw [HOP.out]; kernel_rfl) (by rw [HOP.out]; kernel_rfl) (by rw [HOP.out]; rfl) (fun K hK => ?_); apply Exists.intro; refine ⟨fun W hSW => ?_, hK _ ?_⟩; (focus ((try dsimp only at hSW); go_simp; try with_reducible rfl)); clear hK K; (try simp only [Act.put, List.setIfInBounds_toArray, List.set_cons_zero, List.set_cons_succ])
      refine ordT_take RD 1 (at_list (by rw [HOP.out]; rfl)) HNS.out HPQ.out (by rw [HOP.out]; kernel_rfl) (by rw [HOP.out]; kernel_rfl) (by rw [HOP.out]; rfl) (fun K hK => ?_); apply Exists.intro; refine ⟨fun W hSW => ?_, hK _ ?_⟩; (focus ((try dsimp only at hSW); go_simp; try with_reducible rfl)); clear hK K; (try simp only [Act.put, List.setIfInBounds_toArray, List.set_cons_zero, List.set_cons_succ])
      refine ordT_take RD 2 (at_list (by rw [HOP.out]; rfl)) HNS.out HPQ.out (by rw [HOP.out]; kernel_rfl) (by rw [HOP.out]; kernel_rfl) (by rw [HOP.out]; rfl) (fun K hK => ?_); apply Exists.intro; refine ⟨fun W hSW => ?_, hK _ ?_⟩; (focus ((try dsimp only at hSW); go_simp; try with_reducible rfl)); clear hK K; (try simp only [Act.put, List.setIfInBounds_toArray, List.set_cons_zero, List.set_cons_succ])
      refine ordT_take RD 4 (at_list (by rw [HOP.out]; rfl)) HNS.out HPQ.out (by rw [HOP.out]; kernel_rfl) (by rw [HOP.out]; kernel_rfl) (by rw [HOP.out]; rfl) (fun K hK => ?_); apply Exists.intro; refine ⟨fun W hSW => ?_, hK _ ?_⟩; (focus ((try dsimp only at hSW); go_simp; try with_reducible rfl)); clear hK K; (try simp only [Act.put, List.setIfInBounds_toArray, List.set_cons_zero, List.set_cons_succ])
      refine ordT_take RD 5 (at_list (by rw [HOP.out]; rfl)) HNS.out HPQ.out (by rw [HOP.out]; kernel_rfl) (by rw [HOP.out]; kernel_rfl) (by rw [HOP.out]; rfl) (fun K hK => ?_); apply Exists.intro; refine ⟨fun W hSW => ?_, hK _ ?_⟩; (focus ((try dsimp only at hSW); go_simp; try with_reducible rfl)); clear hK K; (try simp only [Act.put, List.setIfInBounds_toArray, List.set_cons_zero, List.set_cons_succ])
      refine ordT_take RD 6 (at_list (by rw [HOP.out]; rfl)) HNS.out HPQ.out (by rw [HOP.out]; kernel_rfl) (by rw [HOP.out]; kernel_rfl) (by rw [HOP.out]; rfl) (fun K hK => ?_); apply Exists.intro; refine ⟨fun W hSW => ?_, hK _ ?_⟩; (focus ((try dsimp only at hSW); go_simp; try with_reducible rfl)); clear hK K; (try simp only [Act.put, List.setIfInBounds_toArray, List.set_cons_zero, List.set_cons_succ])
      refine ordT_one RD 3 (by rw [HOP.out]; kernel_rfl) (at_list (by rw [HOP.out]; rfl)) (by rw [HOP.out]; rfl) (fun W1 hWW hSW K hK => ?_); (try dsimp only at hSW)
      go_simp
      refine (IH.out k HK.out.2.1 l1 (some ⟨b, off, none⟩) c _ ((HF.out.past B0.out).past hSW) HLT.out (by have := HK.out; omega) HC.out.2 (by have := HK.out; omega)).mono ?_
      rintro e w3 ⟨rfl, b3⟩
      refine hK _ _ (bb hSW b3) ?_
      clear hSW hWW b3
      clear hK K; (try simp only [Act.put, List.setIfInBounds_toArray, List.set_cons_zero, List.set_cons_succ])
      refine ordT_one RD 7 (by rw [HOP.out]; kernel_rfl) (at_list (by rw [HOP.out]; rfl)) (by rw [HOP.out]; rfl) (fun W2 hWW hSW K hK => ?_); (try dsimp only at hSW)
      go_simp
      refine (IH.out (n - k) (by have := HK.out; omega) l2 (some ⟨b, off + k * 20, none⟩) (c - k) _ ((HG.out.past B0.out).past hSW) HLD.out (by have := HK.out; omega) (by have := HC.out; omega) (by have := HK.out; omega)).mono ?_
      rintro e w4 ⟨rfl, b4⟩
      refine hK _ _ (bb hSW b4) ?_
      clear hSW hWW b4
      clear hK K; (try simp only [Act.put, List.setIfInBounds_toArray, List.set_cons_zero, List.set_cons_succ])
      refine ordT_one RD 8 (by rw [HOP.out]; kernel_rfl) (at_list (by rw [HOP.out]; rfl)) (by rw [HOP.out]; rfl) (fun W3 hWW hSW K hK => ?_); (try dsimp only at hSW)
      go_simp
      refine (rnode_any (rtD l1) (rtD l2) _ DT.out DD.out).mono ?_
      rintro e w5 ⟨rfl, b5⟩
      refine hK _ _ (bb hSW b5) ?_
      clear hSW hWW b5
      clear hK K; (try simp only [Act.put, List.setIfInBounds_toArray, List.set_cons_zero, List.set_cons_succ])
      refine ordT_end (by rw [HOP.out]; kernel_rfl) (fun W4 hWW hSW => ?_); rw [HOP.out]; simp only [List.drop_succ_cons, List.drop_zero]; have hN := HN.out; clear HOP HNS HPQ HN RD; (try dsimp only at hSW)
      have B7 := Lib.hid (bb B0.out hSW)
      have Z7 := Lib.hid (HZ.out.past hSW)
      have HND := Lib.hid (node_isD (rtD l1) (rtD l2))
      go_wp2_with (show wpList _ _ _ ({ dst := none, op := Op.store 26 _ _, type := _, pos := _, after := _, guard := _ } :: _) _ _; go_must (refine trW.wp_st (g := w.heap.size) (l := nodeD (rtD l1) (rtD l2)) (by rfl) _ _ rfl (Z7.out) (zd_isD.len) (HND.out.len) rfl rfl ?_); intro w9 hR9 hg9 hb9 hz9)
      refine bodyPost_ret (trW.ret_1 (by exact Tryd.results32) _ _ _ (HND.out.len) rfl (hR9)) rfl ?_
      exact ⟨by rw [HV.out], B7.out.trans hb9⟩
end Go.Proofs.YtjdgobfjpjnhgaaDoor.trW

namespace Go.Proofs.YtjdgobfjpjnhgaaDoor.trW
set_option maxRecDepth 100000
open Go.RowKit Go.Proofs.YtjdgobfjpjnhgaaDoor.base Go.Proofs.YtjdgobfjpjnhgaaDoor.shP Go.Proofs.YtjdgobfjpjnhgaaDoor.shW Go.Proofs.YtjdgobfjpjnhgaaDoor.trP
set_option linter.unusedVariables false
set_option linter.unusedSimpArgs false
set_option maxRecDepth 100000
def lvs (rs : List R8) : List (List Int) := rs.map fun r => leafD r.b
theorem lvs_len (rs : List R8) : (lvs rs).length = rs.length := List.length_map ..
theorem lvs_all (rs : List R8) : AllD (lvs rs) := fun d hd => by obtain ⟨r, _, rfl⟩ := List.mem_map.1 hd; exact leaf_isD _
theorem lvs_get (rs : List R8) {k : Nat} (h : k < rs.length) : (lvs rs).getD k zd = leafD (rs.getD k r80).b := by
  rw [List.getD_eq_getElem?_getD, List.getD_eq_getElem?_getD, lvs, List.getElem?_map, List.getElem?_eq_getElem h]; rfl
def chB (rs : List R8) : Bool := decide (rs.length ≤ 600) && rs.all fun r => lfB r.b
def chE (rs : List R8) : Int := if chB rs then 0 else 4
theorem ch_yes {rs : List R8} (h1 : rs.length ≤ 600) (h2 : ∀ k, k < rs.length → (rs.getD k r80).b.length ≤ 10000) : chB rs = true := by
  unfold chB
  rw [Bool.and_eq_true]
  refine ⟨by simpa using h1, List.all_eq_true.2 fun r hr => ?_⟩
  obtain ⟨i, hi, rfl⟩ := List.mem_iff_getElem.1 hr
  have := h2 i hi
  rw [List.getD_eq_getElem?_getD, List.getElem?_eq_getElem hi] at this
  unfold lfB; simpa using this
theorem ch_long {rs : List R8} (h1 : ¬ rs.length ≤ 600) : chB rs = false := by unfold chB; simp; intro h; exact absurd h h1
theorem ch_bad {rs : List R8} {k : Nat} (hk : k < rs.length) (h : ¬ (rs.getD k r80).b.length ≤ 10000) : chB rs = false := by
  rw [← Bool.not_eq_true]
  intro e
  unfold chB at e
  rw [Bool.and_eq_true] at e
  have := List.all_eq_true.1 e.2 (rs.getD k r80) (by rw [List.getD_eq_getElem?_getD, List.getElem?_eq_getElem hk]; exact List.getElem_mem hk)
  unfold lfB at this
  exact h (by simpa using this)
def fil (rs : List R8) (k : Nat) : List (List Int) := fill zd (lvs rs) k
theorem fil_len (rs : List R8) {k : Nat} (h : k ≤ rs.length) : (fil rs k).length = rs.length := by unfold fil; rw [fill_len (by rw [lvs_len]; exact h), lvs_len]
theorem fil_zero (rs : List R8) : fil rs 0 = List.replicate rs.length zd := by unfold fil; rw [fill_zero, lvs_len]
theorem fil_all (rs : List R8) {k : Nat} (h : rs.length ≤ k) : fil rs k = lvs rs := by unfold fil; rw [fill_all (by rw [lvs_len]; exact h)]
theorem fil_set (rs : List R8) {k : Nat} (h : k < rs.length) : (fil rs k).set k (leafD (rs.getD k r80).b) = fil rs (k + 1) := by
  unfold fil; rw [← lvs_get rs h]; exact fill_set (by rw [lvs_len]; exact h) zd
/-- What leavesOf gives. -/
def LV (B : Nat) (rs : List R8) (n : Nat) (e : Ending) (w' : World) : Prop :=
  (chB rs = true ∧ ∃ A c, e = .returned (.tuple #[.slice A n c, .int .i64 0]) ∧ OwnD w' B (.slice A n c) (lvs rs)) ∨ (chB rs = false ∧ e = .returned (.tuple #[.slice none 0 0, .int .i64 4]))
set_option maxHeartbeats 3200000 in
theorem leavesOf_any (rs : List R8) (P : Option Addr) (m d : Nat) (w : World) (hT : Tab w) (hR : RowsB w P m d rs) :
    Calls Tryd.prog 29 #[.slice P m d] w fun e w' => LV w.heap.size rs m e w' ∧ Below w.heap.size w w' := by
  have n9 : (m : Int) ≤ 9223372036854775807 := by have := hR.c1; have := hR.c2; omega
  have HT := Lib.hid hT
  have HR := Lib.hid hR
  have HL := Lib.hid hR.l
  by_cases c : m ≤ 600
  · have mk := mkD m (by omega) w
    have HO := Lib.hid (own_zS w m (by omega) (Nat.le_refl _) rfl)
    have HG := Lib.hid (bnew w (.cells (zSv m) 26))
    have HM := Lib.hid c
    have c1 : (m : Int) ≤ 600 := by omega
    clear hT hR c
    go_enter Tryd.func29, Tryd.ntmps29
    go_wp2_with fail
    generalize (w.alloc (.cells (zSv m) 26)) = w0 at *
    go_loopw [17] (fun iv wr => ∃ k : Nat, k ≤ m ∧ iv = .int .i64 (k : Int) ∧ (∀ j, j < k → (rs.getD j r80).b.length ≤ 10000) ∧ OwnD wr w.heap.size (.slice (some ⟨w.heap.size, 0, none⟩) m m) (fil rs k) ∧ Below w.heap.size w wr) (fun iv _ => m - (intOf iv).toNat)
    case atStart => exact ⟨0, Nat.zero_le _, rfl, by intro j hj; omega, by rw [fil_zero, HL.out]; exact HO.out, HG.out⟩
    case round =>
      clear HO HG mk
      obtain ⟨k, hk, rfl, hs, own, acc⟩ := hrel
      have HS := Lib.hid hs
      have HO := Lib.hid own
      have HACC := Lib.hid acc
      by_cases hlt : k < m
      · obtain ⟨b, off, rfl, hb, hc⟩ := HR.out.h.some (by rw [HL.out]; omega)
        have hcell := hc k (by rw [HL.out]; exact hlt)
        rw [← acc.cell (p := ⟨b, off + k, none⟩) hb] at hcell
        have hin := HR.out.h.get k (by rw [HL.out]; exact hlt)
        have HLT := Lib.hid hlt
        have k1 : (k : Int) < m := by omega
        have k0 : 0 ≤ (k : Int) := by omega
        have HFS := Lib.hid (fil_set rs (k := k) (by rw [HL.out]; exact hlt))
        have HBAD := Lib.hid (fun h => ch_bad (rs := rs) (k := k) (by rw [HL.out]; exact hlt) h)
        generalize hrg : rs.getD k r80 = r at *
        obtain ⟨rA, rn, rc, rb⟩ := r
        have HRG := Lib.hid hrg
        clear hrg
        have HIN := Lib.hid hin
        simp only [] at *
        clear own acc hk hlt hin hc hs
        go_wp2_with fail
        refine (Leaf_any rb rA rn rc wr (HT.out.below HACC.out (Nat.le_refl _)) (HIN.out.h.below HACC.out (Nat.le_refl _)) HIN.out.e HIN.out.c1 HIN.out.c2 HIN.out.b).mono ?_
        rintro e w1 ⟨rfl, b1⟩
        have B1 := Lib.hid (bb HACC.out b1)
        have O1 := Lib.hid (HO.out.past b1)
        clear b1 HO HACC
        have Y1 := Lib.hid (z20_at w1 rfl)
        have HLV := Lib.hid (lfV_isD rb)
        have G1 := bnew w1 (.cells #[.int .u8 0, .int .u8 0, .int .u8 0, .int .u8 0, .int .u8 0, .int .u8 0, .int .u8 0, .int .u8 0, .int .u8 0, .int .u8 0, .int .u8 0, .int .u8 0, .int .u8 0, .int .u8 0, .int .u8 0, .int .u8 0, .int .u8 0, .int .u8 0, .int .u8 0, .int .u8 0] 26)
        have B2 := Lib.hid (bb B1.out G1)
        have O2 := Lib.hid (O1.out.past G1)
        have LE := Lib.hid B1.out.size
        have LG : Hid (w.heap.size < w1.heap.size) := Lib.hid (by obtain ⟨g, e, h1, h2⟩ := O1.out.spot (by have := HLT.out; omega); injection e with e; injection e with e1 e2; omega)
        clear G1 B1 O1
        by_cases cl : rb.length ≤ 10000
        · have HV := Lib.hid (lf_yes cl)
          rw [HV.out.1, HV.out.2]
          rw [HV.out.2] at HLV
          go_wp2_with (first | (show wpList _ _ _ ({ dst := none, op := Op.store 26 (.tmp 7) _, type := _, pos := _, after := _, guard := _ } :: _) _ _; go_must (refine trW.wp_st (g := w1.heap.size) (l := leafD rb) (by rfl) _ _ rfl (Y1.out) (zd_isD.len) (HLV.out.len) rfl rfl ?_); intro w2 hR2 hg2 hb2 hz2; have R2 := Lib.hid hR2; have B3 := Lib.hid (B2.out.trans (hb2.mono LE.out)); have O3 := Lib.hid (O2.out.kept hg2 (fun e => by injection e with e; have e : w.heap.size = w1.heap.size := e; have := LG.out; omega)); clear hR2 hg2 hb2 hz2 B2 O2 Y1) | (show wpList _ _ _ ({ dst := _, op := Op.load 26 (.tmp 7), type := _, pos := _, after := _, guard := _ } :: _) _ _; go_must (refine trW.wp_l0 (l := leafD rb) (by rfl) _ rfl (R2.out) (HLV.out.len) rfl ?_)) | (show wpList _ _ _ ({ dst := none, op := Op.store 26 (.tmp 33) _, type := _, pos := _, after := _, guard := _ } :: _) _ _; go_must (refine trW.wp_sd (d := leafD rb) (i := k) (by rfl) _ _ rfl (O3.out) (HLT.out) (HLV.out) ?hp rfl ?_); (case hp => first | rfl | (simp [addr_add]; done)); intro w4 hO4 hg4 hb4 hz4))
          refine ⟨⟨k + 1, HLT.out, by go_num, fun j hj => ?_, by rw [← HFS.out]; exact hO4, B3.out.trans hb4⟩, by simp [intOf]; have := HLT.out; omega⟩
          rcases Nat.lt_or_ge j k with h | h
          · exact HS.out j h
          · have : j = k := by omega
            subst this; rw [HRG.out]; exact cl
        · have HV := Lib.hid (lf_no cl)
          rw [HV.out.1, HV.out.2]
          rw [HV.out.2] at HLV
          go_wp2_with (first | (show wpList _ _ _ ({ dst := none, op := Op.store 26 (.tmp 7) _, type := _, pos := _, after := _, guard := _ } :: _) _ _; go_must (refine trW.wp_st (g := w1.heap.size) (l := zd) (by rfl) _ _ rfl (Y1.out) (zd_isD.len) (HLV.out.len) rfl rfl ?_); intro w2 hR2 hg2 hb2 hz2; have B3 := Lib.hid (B2.out.trans (hb2.mono LE.out)); clear hR2 hg2 hb2 hz2 B2 O2 Y1))
          go_ret2
          exact ⟨.inr ⟨HBAD.out cl, rfl⟩, B3.out⟩
      · have k1 : ¬ (k : Int) < m := by omega
        have HCH := Lib.hid (ch_yes (rs := rs) (by rw [HL.out]; exact HM.out) (fun j hj => hs j (by rw [HL.out] at hj; omega)))
        have HFA := Lib.hid (fil_all rs (k := k) (by rw [HL.out]; omega))
        clear own acc hk hlt hs
        go_wp2_with fail
        go_ret2
        exact ⟨.inl ⟨HCH.out, _, _, rfl, by rw [← HFA.out]; exact HO.out⟩, HACC.out⟩
  · have HCH := Lib.hid (ch_long (rs := rs) (by rw [HL.out]; exact c))
    have c1 : ¬ (m : Int) ≤ 600 := by omega
    clear hT hR c
    go_enter Tryd.func29, Tryd.ntmps29
    go_wp2_with fail
    go_ret2
    exact ⟨.inr ⟨HCH.out, rfl⟩, Below.refl _ _⟩
end Go.Proofs.YtjdgobfjpjnhgaaDoor.trW

namespace Go.Proofs.YtjdgobfjpjnhgaaDoor.trW
set_option maxRecDepth 100000
open Go.RowKit Go.Proofs.YtjdgobfjpjnhgaaDoor.base Go.Proofs.YtjdgobfjpjnhgaaDoor.shP Go.Proofs.YtjdgobfjpjnhgaaDoor.shW Go.Proofs.YtjdgobfjpjnhgaaDoor.trP
set_option linter.unusedVariables false
set_option linter.unusedSimpArgs false
set_option maxRecDepth 100000
theorem chE_yes {rs : List R8} (h : chB rs = true) : chE rs = 0 := by rw [chE, if_pos h]
theorem chE_no {rs : List R8} (h : chB rs = false) : chE rs = 4 := by rw [chE, if_neg (by rw [h]; decide)]
def rtV (rs : List R8) : List Int := if chB rs then rtD (lvs rs) else zd
theorem rtV_yes {rs : List R8} (h : chB rs = true) : rtV rs = rtD (lvs rs) := by rw [rtV, if_pos h]
theorem rtV_no {rs : List R8} (h : chB rs = false) : rtV rs = zd := by rw [rtV, if_neg (by rw [h]; decide)]
theorem rtV_isD (rs : List R8) : IsD (rtV rs) := by
  unfold rtV; split
  · exact rt_isD _ _ rfl (lvs_all rs)
  · exact zd_isD
theorem ch_le {rs : List R8} (h : chB rs = true) : rs.length ≤ 600 := by unfold chB at h; rw [Bool.and_eq_true] at h; simpa using h.1
theorem ch_each {rs : List R8} (h : chB rs = true) {k : Nat} (hk : k < rs.length) : (rs.getD k r80).b.length ≤ 10000 := by
  unfold chB at h; rw [Bool.and_eq_true] at h
  have := List.all_eq_true.1 h.2 (rs.getD k r80) (by rw [List.getD_eq_getElem?_getD, List.getElem?_eq_getElem hk]; exact List.getElem_mem hk)
  unfold lfB at this; simpa using this
set_option maxHeartbeats 1600000 in
theorem rCheck_any (rs : List R8) (P : Option Addr) (m d : Nat) (w : World) (hR : RowsB w P m d rs) :
    Calls Tryd.prog 31 #[.slice P m d] w fun e w' => e = .returned (.int .i64 (chE rs)) ∧ w' = w := by
  have n9 : (m : Int) ≤ 9223372036854775807 := by have := hR.c1; have := hR.c2; omega
  have HR := Lib.hid hR
  have HL := Lib.hid hR.l
  clear hR
  by_cases c : m ≤ 600
  · have HM := Lib.hid c
    have c1 : (m : Int) ≤ 600 := by omega
    clear c
    go_enter Tryd.func31, Tryd.ntmps31
    go_wp2_with fail
    go_loopw [3] (fun iv wr => ∃ k : Nat, k ≤ m ∧ iv = .int .i64 (k : Int) ∧ (∀ j, j < k → (rs.getD j r80).b.length ≤ 10000) ∧ wr = w) (fun iv _ => m - (intOf iv).toNat)
    case atStart => exact ⟨0, Nat.zero_le _, rfl, by intro j hj; omega, rfl⟩
    case round =>
      obtain ⟨k, hk, rfl, hs, rfl⟩ := hrel
      have HS := Lib.hid hs
      by_cases hlt : k < m
      · obtain ⟨b, off, rfl, hb, hc⟩ := HR.out.h.some (by rw [HL.out]; omega)
        have hcell := hc k (by rw [HL.out]; exact hlt)
        have hin := HR.out.h.get k (by rw [HL.out]; exact hlt)
        have HLT := Lib.hid hlt
        have k1 : (k : Int) < m := by omega
        have k0 : 0 ≤ (k : Int) := by omega
        have HBAD := Lib.hid (fun h => ch_bad (rs := rs) (k := k) (by rw [HL.out]; exact hlt) h)
        generalize hrg : rs.getD k r80 = r at *
        obtain ⟨rA, rn, rc, rb⟩ := r
        have HRG := Lib.hid hrg
        have r9 : (rn : Int) ≤ 9223372036854775807 := by have := hin.c1; have := hin.c2; simp only [] at *; omega
        have HIN := Lib.hid hin
        simp only [] at *
        clear hk hlt hin hc hs hrg
        by_cases cl : rn ≤ 10000
        · have c2 : (rn : Int) ≤ 10000 := by omega
          have HCL := Lib.hid cl
          clear cl
          go_wp2_with fail
          refine ⟨⟨k + 1, HLT.out, by go_num, fun j hj => ?_, by trivial⟩, by simp [intOf]; have := HLT.out; omega⟩
          rcases Nat.lt_or_ge j k with h | h
          · exact HS.out j h
          · have : j = k := by omega
            subst this; rw [HRG.out]; show rb.length ≤ 10000; rw [HIN.out.e]; exact HCL.out
        · have HV := Lib.hid (HBAD.out (by rw [HIN.out.e]; exact cl))
          have c2 : ¬ (rn : Int) ≤ 10000 := by omega
          clear cl
          go_wp2_with fail
          go_ret
          exact ⟨by rw [chE_no HV.out]; rfl, rfl⟩
      · have k1 : ¬ (k : Int) < m := by omega
        have HCH := Lib.hid (ch_yes (rs := rs) (by rw [HL.out]; exact HM.out) (fun j hj => hs j (by rw [HL.out] at hj; omega)))
        clear hk hlt hs
        go_wp2_with fail
        go_ret
        exact ⟨by rw [chE_yes HCH.out]; rfl, rfl⟩
  · have HCH := Lib.hid (ch_long (rs := rs) (by rw [HL.out]; exact c))
    have c1 : ¬ (m : Int) ≤ 600 := by omega
    clear c
    go_enter Tryd.func31, Tryd.ntmps31
    go_wp2_with fail
    go_ret
    exact ⟨by rw [chE_no HCH.out]; rfl, rfl⟩
theorem lvs_snoc (rs : List R8) {k : Nat} (h : k < rs.length) : (lvs rs).take (k + 1) = (lvs rs).take k ++ [leafD (rs.getD k r80).b] := by
  rw [List.take_add_one, List.getElem?_eq_getElem (by rw [lvs_len]; exact h), ← lvs_get rs h, List.getD_eq_getElem?_getD, List.getElem?_eq_getElem (by rw [lvs_len]; exact h)]
  rfl
set_option maxHeartbeats 1600000 in
theorem rdigests_any (rs : List R8) (P : Option Addr) (m d : Nat) (w : World) (hR : RowsB w P m d rs) (hch : chB rs = true) :
    Calls Tryd.prog 33 #[.slice P m d] w fun e w' => ∃ A c, e = .returned (.slice A m c) ∧ OwnD w' w.heap.size (.slice A m c) (lvs rs) ∧ Below w.heap.size w w' := by
  have HR := Lib.hid hR
  have HL := Lib.hid hR.l
  have HCH := Lib.hid hch
  have hm := ch_le hch
  rw [hR.l] at hm
  have HM := Lib.hid hm
  have c1 : (m : Int) ≤ 600 := by omega
  clear hR hm hch
  go_enter Tryd.func33, Tryd.ntmps33
  go_wp2_with fail
  go_loopw [3, 4] (fun sv iv wr => ∃ (k : Nat) (A : Option Addr) (c : Nat), k ≤ m ∧ iv = .int .i64 (k : Int) ∧ sv = .slice A k c ∧ OwnD wr w.heap.size (.slice A k c) ((lvs rs).take k) ∧ Below w.heap.size w wr) (fun _ iv _ => m - (intOf iv).toNat)
  case atStart => exact ⟨0, none, 0, Nat.zero_le _, rfl, rfl, OwnD.nil _ _, Below.refl _ _⟩
  case round =>
    obtain ⟨k, A, c, hk, rfl, rfl, own, acc⟩ := hrel
    have HO := Lib.hid own
    have HACC := Lib.hid acc
    by_cases hlt : k < m
    · obtain ⟨b, off, rfl, hb, hc⟩ := HR.out.h.some (by rw [HL.out]; omega)
      have hcell := hc k (by rw [HL.out]; exact hlt)
      rw [← acc.cell (p := ⟨b, off + k, none⟩) hb] at hcell
      have hin := HR.out.h.get k (by rw [HL.out]; exact hlt)
      have HLT := Lib.hid hlt
      have k1 : (k : Int) < m := by omega
      have k0 : 0 ≤ (k : Int) := by omega
      have HS := Lib.hid (lvs_snoc rs (k := k) (by rw [HL.out]; exact hlt))
      have HTL : Hid (((lvs rs).take k).length = k) := Lib.hid (by rw [List.length_take, lvs_len, HL.out]; omega)
      have HE := Lib.hid (ch_each HCH.out (k := k) (by rw [HL.out]; exact hlt))
      generalize rs.getD k r80 = r at *
      obtain ⟨rA, rn, rc, rb⟩ := r
      have HIN := Lib.hid hin
      simp only [] at *
      clear own acc hk hlt hin hc
      go_wp2_with fail
      refine (rleaf_any rb rA rn rc wr (HIN.out.h.below HACC.out (Nat.le_refl _)) HIN.out.e (by have := HE.out; have := HIN.out.e; simp only [] at *; omega) HIN.out.b).mono ?_
      rintro e w1 ⟨rfl, b1⟩
      have HLV := Lib.hid (leaf_isD rb)
      have G1 := bnew w1 (.cells (darr (leafD rb)) 26)
      have B2 := Lib.hid (bb (bb HACC.out b1) G1)
      have O2 := Lib.hid ((HO.out.past b1).past G1)
      generalize leafD rb = q at *
      have HA2 := Lib.hid (lit_one (w := w1) (g := w1.heap.size) rfl HLV.out)
      clear b1 G1 HO HACC
      go_wp2_with (first | (show wpList _ _ _ ({ dst := _, op := Op.buildSlice 34 1 _, type := _, pos := _, after := _, guard := _ } :: _) _ _; go_must (refine trW.wp_lit1 (q := q) (by rfl) _ rfl (HLV.out.len) rfl ?_)) | (at_builtin; refine appD (by rfl) _ _ rfl w.heap.size _ _ rfl O2.out ⟨w1.heap.size, 0, none⟩ 1 1 [q] rfl rfl HA2.out (by rw [HTL.out]; have := HM.out; have := HLT.out; omega) B2.out.size (by omega) (k + 1) (by rw [HTL.out]) ?_; intro A4 c4 w4 ho4 hg4 hb4))
      exact ⟨⟨k + 1, A4, c4, HLT.out, by go_num, rfl, by rw [HS.out]; exact ho4, B2.out.trans hb4⟩, by simp [intOf]; have := HLT.out; omega⟩
    · have k1 : ¬ (k : Int) < m := by omega
      have hkm : k = m := by omega
      subst hkm
      have HTK : Hid ((lvs rs).take k = lvs rs) := Lib.hid (List.take_of_length_le (by rw [lvs_len, HL.out]; exact Nat.le_refl _))
      clear own acc hk hlt
      go_wp2_with fail
      go_ret
      exact ⟨A, c, rfl, by rw [← HTK.out]; exact HO.out, HACC.out⟩
set_option maxHeartbeats 1600000 in
theorem Root_any (rs : List R8) (P : Option Addr) (m d : Nat) (w : World) (hT : Tab w) (hR : RowsB w P m d rs) :
    Calls Tryd.prog 12 #[.slice P m d] w fun e w' => e = .returned (.tuple #[.agg (darr (rtV rs)), .int .i64 (chE rs)]) ∧ Below w.heap.size w w' := by
  have HT := Lib.hid hT
  have HR := Lib.hid hR
  have HZ := Lib.hid (z20_at w rfl)
  have HL := Lib.hid hR.l
  clear hT hR
  go_enter Tryd.func12, Tryd.ntmps12
  go_upto_region 1 with fail
  have B0 := Lib.hid (bnew w (.cells #[.int .u8 0, .int .u8 0, .int .u8 0, .int .u8 0, .int .u8 0, .int .u8 0, .int .u8 0, .int .u8 0, .int .u8 0, .int .u8 0, .int .u8 0, .int .u8 0, .int .u8 0, .int .u8 0, .int .u8 0, .int .u8 0, .int .u8 0, .int .u8 0, .int .u8 0, .int .u8 0] 26))
  generalize (w.alloc (.cells #[.int .u8 0, .int .u8 0, .int .u8 0, .int .u8 0, .int .u8 0, .int .u8 0, .int .u8 0, .int .u8 0, .int .u8 0, .int .u8 0, .int .u8 0, .int .u8 0, .int .u8 0, .int .u8 0, .int .u8 0, .int .u8 0, .int .u8 0, .int .u8 0, .int .u8 0, .int .u8 0] 26)) = w0 at *
  go_wp2_with fail
  refine (leavesOf_any rs P m d w0 (HT.out.below B0.out (Nat.le_refl _)) (HR.out.below B0.out (Nat.le_refl _))).mono ?_
  rintro e w1 ⟨hv, b1⟩
  have B1 := Lib.hid (bb B0.out b1)
  have Z1 := Lib.hid (HZ.out.past b1)
  clear b1 B0 HZ
  rcases hv with ⟨hch, A, c, rfl, own⟩ | ⟨hch, rfl⟩
  · have HCH := Lib.hid hch
    have HO := Lib.hid own
    have HM := Lib.hid (ch_le hch)
    have HD := Lib.hid (rt_isD _ _ rfl (lvs_all rs))
    clear hch own
    go_wp2_with fail
    refine (root_any m (lvs rs) A c w1 HO.out.has (by rw [lvs_len, HL.out]) HO.out.len.2.1 (by have := HO.out.len.2.2; unfold maxLen at this; omega) (by have := HM.out; rw [HL.out] at this; exact this) (HT.out.below B1.out (Nat.le_refl _))).mono ?_
    rintro e w2 ⟨rfl, b2⟩
    have B2 := Lib.hid (bb B1.out b2)
    have Z2 := Lib.hid (Z1.out.past b2)
    clear b2 B1 Z1 HO
    go_wp2_with (show wpList _ _ _ ({ dst := none, op := Op.store 26 _ _, type := _, pos := _, after := _, guard := _ } :: _) _ _; go_must (refine trW.wp_st (g := w.heap.size) (l := rtD (lvs rs)) (by rfl) _ _ rfl (Z2.out) (zd_isD.len) (HD.out.len) rfl rfl ?_); intro w9 hR9 hg9 hb9 hz9)
    refine bodyPost_ret (trW.ret_d (by exact Tryd.results12) _ _ _ (HD.out.len) rfl (hR9)) rfl ?_
    exact ⟨by rw [rtV_yes HCH.out, chE_yes HCH.out]; rfl, B2.out.trans hb9⟩
  · have HCH := Lib.hid hch
    clear hch
    go_wp2_with (show wpList _ _ _ ({ dst := none, op := Op.store 26 _ _, type := _, pos := _, after := _, guard := _ } :: _) _ _; go_must (refine trW.wp_st (g := w.heap.size) (l := zd) (by rfl) _ _ rfl (Z1.out) (zd_isD.len) (zd_isD.len) rfl rfl ?_); intro w9 hR9 hg9 hb9 hz9)
    refine bodyPost_ret (trW.ret_d (by exact Tryd.results12) _ _ _ (zd_isD.len) rfl (hR9)) rfl ?_
    exact ⟨by rw [rtV_no HCH.out, chE_no HCH.out]; rfl, B1.out.trans hb9⟩
set_option maxHeartbeats 1600000 in
theorem rRoot_any (rs : List R8) (P : Option Addr) (m d : Nat) (w : World) (hR : RowsB w P m d rs) :
    Calls Tryd.prog 13 #[.slice P m d] w fun e w' => e = .returned (.tuple #[.agg (darr (rtV rs)), .int .i64 (chE rs)]) ∧ Below w.heap.size w w' := by
  have HR := Lib.hid hR
  have HZ := Lib.hid (z20_at w rfl)
  have HL := Lib.hid hR.l
  clear hR
  go_enter Tryd.func13, Tryd.ntmps13
  go_upto_region 1 with fail
  have B0 := Lib.hid (bnew w (.cells #[.int .u8 0, .int .u8 0, .int .u8 0, .int .u8 0, .int .u8 0, .int .u8 0, .int .u8 0, .int .u8 0, .int .u8 0, .int .u8 0, .int .u8 0, .int .u8 0, .int .u8 0, .int .u8 0, .int .u8 0, .int .u8 0, .int .u8 0, .int .u8 0, .int .u8 0, .int .u8 0] 26))
  generalize (w.alloc (.cells #[.int .u8 0, .int .u8 0, .int .u8 0, .int .u8 0, .int .u8 0, .int .u8 0, .int .u8 0, .int .u8 0, .int .u8 0, .int .u8 0, .int .u8 0, .int .u8 0, .int .u8 0, .int .u8 0, .int .u8 0, .int .u8 0, .int .u8 0, .int .u8 0, .int .u8 0, .int .u8 0] 26)) = w0 at *
  go_wp2_with fail
  refine (rCheck_any rs P m d w0 (HR.out.below B0.out (Nat.le_refl _))).mono ?_
  rintro e _ ⟨rfl, rfl⟩
  rename World => w1
  rcases Bool.eq_false_or_eq_true (chB rs) with hch | hch
  · rw [chE_yes hch]
    have HCH := Lib.hid hch
    have HM := Lib.hid (ch_le hch)
    have HD := Lib.hid (rt_isD _ _ rfl (lvs_all rs))
    clear hch
    go_wp2_with fail
    refine (rdigests_any rs P m d w1 (HR.out.below B0.out (Nat.le_refl _)) HCH.out).mono ?_
    rintro e w2 ⟨A, c, rfl, own, b2⟩
    have HO := Lib.hid own
    have B2 := Lib.hid (bb B0.out b2)
    have Z2 := Lib.hid (HZ.out.past b2)
    clear b2 own B0 HZ
    go_wp2_with fail
    refine (rroot_any m (lvs rs) A c w2 HO.out.has (by rw [lvs_len, HL.out]) HO.out.len.2.1 (by have := HO.out.len.2.2; unfold maxLen at this; omega) (by have := HM.out; rw [HL.out] at this; exact this)).mono ?_
    rintro e w3 ⟨rfl, b3⟩
    have B3 := Lib.hid (bb B2.out b3)
    have Z3 := Lib.hid (Z2.out.past b3)
    clear b3 B2 Z2 HO
    go_wp2_with (show wpList _ _ _ ({ dst := none, op := Op.store 26 _ _, type := _, pos := _, after := _, guard := _ } :: _) _ _; go_must (refine trW.wp_st (g := w.heap.size) (l := rtD (lvs rs)) (by rfl) _ _ rfl (Z3.out) (zd_isD.len) (HD.out.len) rfl rfl ?_); intro w9 hR9 hg9 hb9 hz9)
    refine bodyPost_ret (trW.ret_d (by exact Tryd.results13) _ _ _ (HD.out.len) rfl (hR9)) rfl ?_
    exact ⟨by rw [rtV_yes HCH.out, chE_yes HCH.out]; rfl, B3.out.trans hb9⟩
  · rw [chE_no hch]
    have HCH := Lib.hid hch
    clear hch
    go_wp2_with (show wpList _ _ _ ({ dst := none, op := Op.store 26 _ _, type := _, pos := _, after := _, guard := _ } :: _) _ _; go_must (refine trW.wp_st (g := w.heap.size) (l := zd) (by rfl) _ _ rfl (HZ.out) (zd_isD.len) (zd_isD.len) rfl rfl ?_); intro w9 hR9 hg9 hb9 hz9)
    refine bodyPost_ret (trW.ret_d (by exact Tryd.results13) _ _ _ (zd_isD.len) rfl (hR9)) rfl ?_
    exact ⟨by rw [rtV_no HCH.out, chE_no HCH.out]; rfl, B0.out.trans hb9⟩
end Go.Proofs.YtjdgobfjpjnhgaaDoor.trW

namespace Go.Proofs.YtjdgobfjpjnhgaaDoor.trW
set_option maxRecDepth 100000
open Go.RowKit Go.Proofs.YtjdgobfjpjnhgaaDoor.base Go.Proofs.YtjdgobfjpjnhgaaDoor.shP Go.Proofs.YtjdgobfjpjnhgaaDoor.shW Go.Proofs.YtjdgobfjpjnhgaaDoor.trP
set_option linter.unusedVariables false
set_option linter.unusedSimpArgs false
set_option maxRecDepth 100000
/-- A row of bools of the call's own. -/
def OwnB (w : World) (B : Nat) (v : Value) (bs : List Bool) : Prop := w.ownsRow B 4 1 v bs.length (bs.map Value.bool)
theorem OwnB.nil (w : World) (B : Nat) : OwnB w B (.slice none 0 0) [] := World.ownsRow_nil w B _ 1
theorem OwnB.below {w w' : World} {B C : Nat} {v : Value} {bs : List Bool} (h : OwnB w B v bs) (hb : Below C w w') (hC : w.heap.size ≤ C) : OwnB w' B v bs := by
  refine ⟨h.1, ?_⟩
  rcases h.2 with h2 | ⟨g, cap, cur, hv, hB, hg, r⟩
  · exact .inl h2
  · exact .inr ⟨g, cap, cur, hv, hB, by rw [hb.block g (Nat.lt_of_lt_of_le (lt_of_block hg) hC)]; exact hg, r⟩
theorem OwnB.past {w w' : World} {B : Nat} {v : Value} {bs : List Bool} (h : OwnB w B v bs) (hb : Below w.heap.size w w') : OwnB w' B v bs := h.below hb (Nat.le_refl _)
theorem OwnB.val {w : World} {B : Nat} {v : Value} {bs : List Bool} (h : OwnB w B v bs) : ∃ A cap, v = .slice A bs.length cap ∧ bs.length ≤ cap ∧ cap ≤ maxLen ∧ (bs ≠ [] → ∃ g, A = some ⟨g, 0, none⟩ ∧ B ≤ g ∧ g < w.heap.size) := by
  obtain ⟨hl, h2⟩ := h
  rcases h2 with ⟨rfl, h0⟩ | ⟨g, cap, cur, rfl, hB, hh, hnc, hcm, hcs, ht⟩
  · have : bs = [] := List.eq_nil_of_length_eq_zero h0
    subst this
    exact ⟨none, 0, rfl, by simp, Nat.zero_le _, by simp⟩
  · exact ⟨_, cap, rfl, hnc, hcm, fun _ => ⟨g, rfl, hB, lt_of_block hh⟩⟩
theorem OwnB.len {w : World} {B n c : Nat} {A : Option Addr} {bs : List Bool} (h : OwnB w B (.slice A n c) bs) : n = bs.length ∧ n ≤ c ∧ c ≤ maxLen := by
  obtain ⟨A', cap', e1, h2, h3, _⟩ := h.val
  injection e1 with e1 e2 e3
  subst e2 e3
  exact ⟨rfl, h2, h3⟩
theorem OwnB.spot {w : World} {B n c : Nat} {A : Option Addr} {bs : List Bool} (h : OwnB w B (.slice A n c) bs) (hp : 0 < n) : ∃ g, A = some ⟨g, 0, none⟩ ∧ B ≤ g ∧ g < w.heap.size := by
  obtain ⟨A', cap', e1, h2, h3, h4⟩ := h.val
  injection e1 with e1 e2 e3
  subst e1 e2 e3
  exact h4 (by intro e; rw [e] at hp; simp at hp)
theorem OwnB.cell {w : World} {B g n c : Nat} {bs : List Bool} (h : OwnB w B (.slice (some ⟨g, 0, none⟩) n c) bs) {i : Nat} (hi : i < n) : w.cell? ⟨g, i, none⟩ = some (.bool (bs.getD i false)) := by
  have hn := h.len.1
  subst hn
  rw [World.ownsRow.cellAt h i (by omega), List.getElem?_map, List.getElem?_eq_getElem hi, gd false bs i hi]; rfl
theorem OwnB.frozen {w : World} {B g n c : Nat} {bs : List Bool} (h : OwnB w B (.slice (some ⟨g, 0, none⟩) n c) bs) (i : Nat) : w.frozen? ⟨g, i, none⟩ = false := by
  have hn := h.len.1
  subst hn
  exact World.ownsRow.frozenAt h i
theorem OwnB.store {w : World} {B g n c : Nat} {bs : List Bool} (h : OwnB w B (.slice (some ⟨g, 0, none⟩) n c) bs) (i : Nat) (x : Bool) : OwnB (w.setCell ⟨g, i, none⟩ (.bool x)) B (.slice (some ⟨g, 0, none⟩) n c) (bs.set i x) := by
  have hn := h.len.1
  subst hn
  have := (World.ownsRow.stored h i (.bool x)).1
  unfold OwnB
  rw [List.length_set, List.map_set]
  exact this
theorem infoB : ∃ i z, Tryd.prog.info? 4 = some i ∧ i.zero = some z ∧ i.size = 1 ∧ i.bytes = 1 ∧ z.cells.size = 1 := by
  obtain ⟨i, h1, h2, h3, h4⟩ := info_parts (P := Tryd.prog) (e := 4) (z := .bool false) (size := 1) (bytes := 1) (by kernel_rfl)
  exact ⟨i, _, h1, h2, h3, h4, rfl⟩
theorem appB1 {w : World} {ops : Array Oper} {rest : List Oper} {o : Oper} {a : Act} {Q : Exit → Act → World → Prop} (hw : Region.wanted o (yielded ops a.tmps) = true) (s x : Operand)
    (ho : o.op = .call { callee := .builtin .append, args := #[s, x], argTypes := #[67, 67] })
    (B : Nat) (v : Value) (bs : List Bool) (hs : a.eval s = v) (hown : OwnB w B v bs) (g c : Nat) (b : Bool) (hx : a.eval x = .slice (some ⟨g, 0, none⟩) 1 c) (hA : w.cell? ⟨g, 0, none⟩ = some (.bool b)) (hl : bs.length + 1 ≤ 1000000) (hB : B ≤ w.heap.size) (tot : Nat) (htot : bs.length + 1 = tot)
    (h : ∀ A' c' w', OwnB w' B (.slice A' tot c') (bs ++ [b]) → Below B w w' → wpList Tryd.prog ops Q rest (a.put o.dst (.slice A' tot c')) w') : wpList Tryd.prog ops Q (o :: rest) a w := by
  subst htot
  refine wpList_step fun K hK => ?_
  rw [if_pos hw]
  obtain ⟨i, z, hi, hz, hsize, hby, hzs⟩ := infoB
  obtain ⟨v', w', hrun, h2, h3, h4, _⟩ := run_append_own_at (P := Tryd.prog) w B 67 o.type 4 i z 1 1 Tryd.underlying67 hi hz hsize hby hzs (by omega) v bs.length (bs.map Value.bool) hown ⟨g, 0, none⟩ 1 c [.bool b] rfl (fun j u hj => by
      rcases j with _ | j
      · simp at hj; subst hj; exact hA
      · simp at hj) (fun u hu => by simp at hu; subst hu; rfl) (by simp only [maxLen]; omega) (by omega) hB
  have ho' : OwnB w' B v' (bs ++ [b]) := by
    unfold OwnB
    rw [List.length_append, List.map_append]; exact h2
  obtain ⟨A', c', e1, _⟩ := ho'.val
  rw [List.length_append] at e1
  subst e1
  unfold Oper.wp execOp
  simp only [ho, resolve, invoke, builtin, Sem.run_bind, Sem.run_pure, Result.andThen_ok, List.map_toArray, List.map_cons, List.map_nil, hs, hx, hrun]
  exact hK _ _ (h A' c' w' ho' ((Below.refl B w).grown h3 hB (fun k e => (World.ownsRow.lt hown k e).1)))
set_option maxHeartbeats 1600000 in
theorem RevB_any (B : Nat) (A : Option Addr) (n c : Nat) (bs : List Bool) (w : World) (ho : OwnB w B (.slice A n c) bs) (hm : n ≤ 1000000) :
    Calls Tryd.prog 46 #[.slice A n c] w fun e w' => e = .returned (.tuple #[]) ∧ OwnB w' B (.slice A n c) bs.reverse ∧ Below B w w' := by
  have hn := ho.len.1
  have HO := Lib.hid ho
  have HN := Lib.hid hn
  have n9 : (n : Int) ≤ 1000000 := by omega
  clear ho hn
  go_enter Tryd.func46, Tryd.ntmps46
  go_wp2_with fail
  go_loopw [2, 3] (fun iv jv wr => ∃ i : Nat, 2 * i ≤ n ∧ iv = .int .i64 (i : Int) ∧ jv = .int .i64 ((n : Int) - 1 - i) ∧ OwnB wr B (.slice A n c) (sw false bs i) ∧ Below B w wr) (fun iv _ _ => n - (intOf iv).toNat)
  case atStart => exact ⟨0, by omega, rfl, by simp, by rw [sw_zero]; exact HO.out, Below.refl _ _⟩
  case round =>
    obtain ⟨i, hi, rfl, rfl, own, acc⟩ := hrel
    have HACC := Lib.hid acc
    by_cases c1 : 2 * i + 1 < n
    · obtain ⟨g, rfl, hg1, hg2⟩ := own.spot (by omega)
      have x1 := own.cell (i := i) (by omega)
      have x2 := own.cell (i := n - 1 - i) (by omega)
      have hs := sw_get false bs i (by rw [← HN.out]; exact c1)
      have HST := Lib.hid (sw_step false bs i (by rw [← HN.out]; exact c1))
      rw [← HN.out] at hs HST
      rw [hs.1] at x1
      rw [hs.2] at x2
      have f1 := own.frozen i
      have f2 := own.frozen (n - 1 - i)
      have HOW := Lib.hid own
      have HG := Lib.hid hg1
      generalize bs.getD i false = p at *
      generalize bs.getD (n - 1 - i) false = q at *
      obtain ⟨j, hj⟩ : ∃ j, n - 1 - i = j := ⟨_, rfl⟩
      have ej : (n : Int) - 1 - i = (j : Int) := by omega
      rw [hj] at x2 f2 HST
      have l1 : (i : Int) < j := by omega
      have l2 : (j : Int) < n := by omega
      have l3 : (i : Int) < n := by omega
      have HJ := Lib.hid (And.intro c1 hj)
      rw [ej]
      clear own acc hi c1 hs hg1 hj ej
      go_upto_region 3 with fail
      go_region_law fail
      all_goals
        go_wp2_with fail
        refine ⟨⟨i + 1, by have := HJ.out; omega, by go_num, by have := HJ.out; congr 1; omega, ?_, ?_⟩, by have := HJ.out; simp [intOf]; omega⟩
        · rw [← HST.out]; exact (HOW.out.store i q).store j p
        · exact (((HACC.out.setCell (p := ⟨g, i, none⟩) HG.out _).setCell (p := ⟨g, j, none⟩) HG.out _)).drew
    · have c2 : ¬ (i : Int) < (n : Int) - 1 - i := by omega
      have HE := Lib.hid (sw_end false bs i (by rw [← HN.out]; omega))
      have HOW := Lib.hid own
      clear own acc hi c1
      go_wp2_with fail
      go_end0
      exact ⟨rfl, by rw [← HE.out]; exact HOW.out, HACC.out⟩
/-! A region by its orders, one by one. -/
theorem region_lex {P : Program} {id : Nat} {ops : Array Oper} {Q : Exit → Act → World → Prop} {a : Act} {w : World} (hm : P.follows .mixedOrders = true)
    (h : ∀ ops' Q', ops' = ops → (∀ c a d v w, Q' (.panic c) (Act.put a d v) w → Q' (.panic c) a w) → (∀ a w, Q .normal a w → Q' .normal a w) → wpAny P .any ops' Q' ops'.size (Array.replicate ops'.size false) a w.drew) : (Code.region id ops true).wp P Q a w :=
  wp_region_noPanic (wp_region_any hm (h ops (NoPanic Q) rfl (fun _ _ _ _ _ h => h) (fun _ _ h => h)))
theorem any_pure {P : Program} {ops : Array Oper} {Q : Exit → Act → World → Prop} {n : Nat} {l : Array Bool} {a : Act} {w : World} (i : Nat) {o : Oper} (v : Value) (ho : ops[i]? = some o) (hs : Region.noSelect ops = true) (hQ : ∀ c a d v w, Q (.panic c) (a.put d v) w → Q (.panic c) a w) (hf : Region.free .any ops l i = true) (hr : (Region.ready .any ops l).contains i = true)
    (hw : Region.wanted o (yielded ops a.tmps) = true) (hv : ∀ W, (execOp a.eval o).run P W = .ok (.value v) W) (h : wpAny P .any ops Q n (l.setIfInBounds i true) (a.put o.dst v) w) : wpAny P .any ops Q (n + 1) l a w :=
  wpAny_take ho hs hf hr (fun c a w hh => hQ c a _ _ w hh) (.inl ⟨hw, hv⟩) h
theorem op_ld {o : Oper} {a : Act} {w : World} {K : Act → World → Prop} {Q : Exit → Act → World → Prop} {g off : Nat} {l : List Int} (x : Operand) (ho : o.op = .load 26 x) (k : w.rangeAt g off (sv l)) (e : l.length = 20)
    (hx : a.eval x = .pointer (some ⟨g, off, none⟩)) (H : K (a.put o.dst (.agg (darr l))) w) : Oper.wp Tryd.prog o a w K Q :=
  wp_load_mid (P := Tryd.prog) 26 x ho g off hx (sv l) _ k Tryd.underlying26 rfl (info20l e) H
set_option maxHeartbeats 3200000 in
theorem RevD_any (B : Nat) (A : Option Addr) (n c : Nat) (ls : List (List Int)) (w : World) (ho : OwnD w B (.slice A n c) ls) (hm : n ≤ 1000000) :
    Calls Tryd.prog 35 #[.slice A n c] w fun e w' => e = .returned (.tuple #[]) ∧ OwnD w' B (.slice A n c) ls.reverse ∧ Below B w w' := by
  have hn := ho.len.1
  have HO := Lib.hid ho
  have HN := Lib.hid hn
  have n9 : (n : Int) ≤ 1000000 := by omega
  clear ho hn
  go_enter Tryd.func35, Tryd.ntmps35
  go_wp2_with fail
  go_loopw [2, 3] (fun iv jv wr => ∃ i : Nat, 2 * i ≤ n ∧ iv = .int .i64 (i : Int) ∧ jv = .int .i64 ((n : Int) - 1 - i) ∧ OwnD wr B (.slice A n c) (sw zd ls i) ∧ Below B w wr) (fun iv _ _ => n - (intOf iv).toNat)
  case atStart => exact ⟨0, by omega, rfl, by simp, by rw [sw_zero]; exact HO.out, Below.refl _ _⟩
  case round =>
    obtain ⟨i, hi, rfl, rfl, own, acc⟩ := hrel
    have HACC := Lib.hid acc
    by_cases c1 : 2 * i + 1 < n
    · obtain ⟨g, rfl, hg1, hg2⟩ := own.spot (by omega)
      have hsl : (sw zd ls i).length = n := by rw [sw_len, HN.out]
      have x1 := own.has.rng rfl (i := i) (by omega)
      have x2 := own.has.rng rfl (i := n - 1 - i) (by omega)
      have hs := sw_get zd ls i (by rw [← HN.out]; exact c1)
      have HST := Lib.hid (sw_step zd ls i (by rw [← HN.out]; exact c1))
      rw [← HN.out] at hs HST
      rw [hs.1] at x1
      rw [hs.2] at x2
      have HP := Lib.hid (HO.out.d.getz i)
      have HQ := Lib.hid (HO.out.d.getz (n - 1 - i))
      have HOW := Lib.hid own
      have HG := Lib.hid hg1
      generalize ls.getD i zd = p at *
      generalize ls.getD (n - 1 - i) zd = q at *
      obtain ⟨j, hj⟩ : ∃ j, n - 1 - i = j := ⟨_, rfl⟩
      have ej : (n : Int) - 1 - i = (j : Int) := by omega
      rw [hj] at x2 HST
      have X := Lib.hid (And.intro x1 x2)
      have l1 : (i : Int) < j := by omega
      have l2 : (j : Int) < n := by omega
      have l3 : (i : Int) < n := by omega
      have l0 : 0 ≤ (i : Int) := by omega
      have l4 : 0 ≤ (j : Int) := by omega
      have HJ := Lib.hid (And.intro c1 hj)
      have HIJ : Hid (i < n ∧ j < n) := Lib.hid (by omega)
      rw [ej]
      clear own acc hi c1 hs hg1 hj ej x1 x2 hsl
      go_upto_region 3 with fail
      refine region_lex (by kernel_rfl) ?_
      intro ops Q' hops hPQ hN
      have HNS : Hid (Region.noSelect ops = true) := Lib.hid (by rw [hops]; kernel_rfl)
      have HOP := Lib.hid hops
      have HPQ := Lib.hid hPQ
      have HN' := Lib.hid hN
      have hsz : ops.size = 16 := by rw [hops]; rfl
      rw [hsz]
      clear hops hPQ hN hsz
      refine any_pure 0 (.slice (some ⟨g, 0, none⟩) n c) (at_list (by rw [HOP.out]; rfl)) HNS.out HPQ.out (by rw [HOP.out]; kernel_rfl) (by rw [HOP.out]; kernel_rfl) (by rw [HOP.out]; rfl) (fun W => by (go_simp; try with_reducible rfl)) ?_; (try simp only [Act.put, List.setIfInBounds_toArray, List.set_cons_zero, List.set_cons_succ])
      refine any_pure 1 (.int .i64 i) (at_list (by rw [HOP.out]; rfl)) HNS.out HPQ.out (by rw [HOP.out]; kernel_rfl) (by rw [HOP.out]; kernel_rfl) (by rw [HOP.out]; rfl) (fun W => by (go_simp; try with_reducible rfl)) ?_; (try simp only [Act.put, List.setIfInBounds_toArray, List.set_cons_zero, List.set_cons_succ])
      refine any_pure 2 (.slice (some ⟨g, 0, none⟩) n c) (at_list (by rw [HOP.out]; rfl)) HNS.out HPQ.out (by rw [HOP.out]; kernel_rfl) (by rw [HOP.out]; kernel_rfl) (by rw [HOP.out]; rfl) (fun W => by (go_simp; try with_reducible rfl)) ?_; (try simp only [Act.put, List.setIfInBounds_toArray, List.set_cons_zero, List.set_cons_succ])
      refine any_pure 3 (.int .i64 j) (at_list (by rw [HOP.out]; rfl)) HNS.out HPQ.out (by rw [HOP.out]; kernel_rfl) (by rw [HOP.out]; kernel_rfl) (by rw [HOP.out]; rfl) (fun W => by (go_simp; try with_reducible rfl)) ?_; (try simp only [Act.put, List.setIfInBounds_toArray, List.set_cons_zero, List.set_cons_succ])
      refine any_pure 4 (.slice (some ⟨g, 0, none⟩) n c) (at_list (by rw [HOP.out]; rfl)) HNS.out HPQ.out (by rw [HOP.out]; kernel_rfl) (by rw [HOP.out]; kernel_rfl) (by rw [HOP.out]; rfl) (fun W => by (go_simp; try with_reducible rfl)) ?_; (try simp only [Act.put, List.setIfInBounds_toArray, List.set_cons_zero, List.set_cons_succ])
      refine any_pure 5 (.int .i64 j) (at_list (by rw [HOP.out]; rfl)) HNS.out HPQ.out (by rw [HOP.out]; kernel_rfl) (by rw [HOP.out]; kernel_rfl) (by rw [HOP.out]; rfl) (fun W => by (go_simp; try with_reducible rfl)) ?_; (try simp only [Act.put, List.setIfInBounds_toArray, List.set_cons_zero, List.set_cons_succ])
      refine any_pure 8 (.slice (some ⟨g, 0, none⟩) n c) (at_list (by rw [HOP.out]; rfl)) HNS.out HPQ.out (by rw [HOP.out]; kernel_rfl) (by rw [HOP.out]; kernel_rfl) (by rw [HOP.out]; rfl) (fun W => by (go_simp; try with_reducible rfl)) ?_; (try simp only [Act.put, List.setIfInBounds_toArray, List.set_cons_zero, List.set_cons_succ])
      refine any_pure 9 (.int .i64 i) (at_list (by rw [HOP.out]; rfl)) HNS.out HPQ.out (by rw [HOP.out]; kernel_rfl) (by rw [HOP.out]; kernel_rfl) (by rw [HOP.out]; rfl) (fun W => by (go_simp; try with_reducible rfl)) ?_; (try simp only [Act.put, List.setIfInBounds_toArray, List.set_cons_zero, List.set_cons_succ])
      refine any_pure 6 (.pointer (some ⟨g, j * 20, none⟩)) (at_list (by rw [HOP.out]; rfl)) HNS.out HPQ.out (by rw [HOP.out]; kernel_rfl) (by rw [HOP.out]; kernel_rfl) (by rw [HOP.out]; rfl) (fun W => by (go_simp; try with_reducible rfl)) ?_; (try simp only [Act.put, List.setIfInBounds_toArray, List.set_cons_zero, List.set_cons_succ])
      refine any_pure 10 (.pointer (some ⟨g, i * 20, none⟩)) (at_list (by rw [HOP.out]; rfl)) HNS.out HPQ.out (by rw [HOP.out]; kernel_rfl) (by rw [HOP.out]; kernel_rfl) (by rw [HOP.out]; rfl) (fun W => by (go_simp; try with_reducible rfl)) ?_; (try simp only [Act.put, List.setIfInBounds_toArray, List.set_cons_zero, List.set_cons_succ])
      have Y1 := Lib.hid (show wr.drew.rangeAt g (0 + i * 20) (sv p) from X.out.1)
      have Y2 := Lib.hid (show wr.drew.rangeAt g (0 + j * 20) (sv q) from X.out.2)
      rw [Nat.zero_add] at Y1 Y2
      apply mid1 (α := Act) (p := fun F => wpList Tryd.prog ops Q' (ops.toList.drop 12) F wr.drew)
      case paths =>
        intro hmain
        refine any_two 7 11 (by rw [HOP.out]; kernel_rfl) (at_list (by rw [HOP.out]; rfl)) (at_list (by rw [HOP.out]; rfl)) (by rw [HOP.out]; rfl) (by rw [HOP.out]; rfl) (fun K hK => op_ld (l := q) _ rfl Y2.out HQ.out.len rfl (hK _ _ ?_)) (fun K hK => op_ld (l := p) _ rfl Y1.out HP.out.len rfl (hK _ _ ?_))
        · clear hK K
          (try simp only [Act.put, List.setIfInBounds_toArray, List.set_cons_zero, List.set_cons_succ])
          (refine any_one 11 (by rw [HOP.out]; kernel_rfl) (at_list (by rw [HOP.out]; rfl)) (by rw [HOP.out]; rfl) (fun K hK => op_ld (l := p) _ rfl (Y1.out) (HP.out.len) rfl (hK _ _ ?_)); (try simp only [Act.put, List.setIfInBounds_toArray, List.set_cons_zero, List.set_cons_succ]))
          refine any_lex_at 4 12 (by rw [HOP.out]; kernel_rfl) (by rw [HOP.out]; rfl) (by rw [HOP.out]; kernel_rfl) (by rw [HOP.out]; kernel_rfl) ?_
          exact hmain
        · clear hK K
          (try simp only [Act.put, List.setIfInBounds_toArray, List.set_cons_zero, List.set_cons_succ])
          (refine any_one 7 (by rw [HOP.out]; kernel_rfl) (at_list (by rw [HOP.out]; rfl)) (by rw [HOP.out]; rfl) (fun K hK => op_ld (l := q) _ rfl (Y2.out) (HQ.out.len) rfl (hK _ _ ?_)); (try simp only [Act.put, List.setIfInBounds_toArray, List.set_cons_zero, List.set_cons_succ]))
          refine any_lex_at 4 12 (by rw [HOP.out]; kernel_rfl) (by rw [HOP.out]; rfl) (by rw [HOP.out]; kernel_rfl) (by rw [HOP.out]; kernel_rfl) ?_
          exact hmain
      rw [HOP.out]
      simp only [List.drop_succ_cons, List.drop_zero]
      have hN := HN'.out
      clear HOP HNS HPQ HN' Y1 Y2 X
      have HD := Lib.hid (show OwnD wr.drew B (.slice (some ⟨g, 0, none⟩) n c) (sw zd ls i) from ⟨HOW.out.o, HOW.out.d⟩)
      have HB := Lib.hid (show Below B w wr.drew from HACC.out.drew)
      go_wp2_with (first | (show wpList _ _ _ ({ dst := none, op := Op.store 26 (.tmp 26) _, type := _, pos := _, after := _, guard := _ } :: _) _ _; go_must (refine trW.wp_sd (d := q) (i := i) (by rfl) _ _ rfl (HD.out) (HIJ.out.1) (HQ.out) ?hp rfl ?_); (case hp => first | rfl | (simp [addr_add]; done)); intro w4 hO4 hg4 hb4 hz4; have O4 := Lib.hid hO4; have B4 := Lib.hid (HB.out.trans (hb4.mono HG.out)); clear hO4 hg4 hb4 hz4) | (show wpList _ _ _ ({ dst := none, op := Op.store 26 (.tmp 27) _, type := _, pos := _, after := _, guard := _ } :: _) _ _; go_must (refine trW.wp_sd (d := p) (i := j) (by rfl) _ _ rfl (O4.out) (HIJ.out.2) (HP.out) ?hp rfl ?_); (case hp => first | rfl | (simp [addr_add]; done)); intro w5 hO5 hg5 hb5 hz5; have O5 := Lib.hid hO5; have B5 := Lib.hid (B4.out.trans (hb5.mono HG.out)); clear hO5 hg5 hb5 hz5))
      refine ⟨⟨i + 1, by have := HJ.out; omega, by go_num, by have := HJ.out; congr 1; omega, by rw [← HST.out]; exact O5.out, B5.out⟩, by have := HJ.out; simp [intOf]; omega⟩
    · have c2 : ¬ (i : Int) < (n : Int) - 1 - i := by omega
      have HE := Lib.hid (sw_end zd ls i (by rw [← HN.out]; omega))
      have HOW := Lib.hid own
      clear own acc hi c1
      go_wp2_with fail
      go_end0
      exact ⟨rfl, by rw [← HE.out]; exact HOW.out, HACC.out⟩
end Go.Proofs.YtjdgobfjpjnhgaaDoor.trW

namespace Go.Proofs.YtjdgobfjpjnhgaaDoor.trW
set_option maxRecDepth 100000
open Go.RowKit Go.Proofs.YtjdgobfjpjnhgaaDoor.base Go.Proofs.YtjdgobfjpjnhgaaDoor.shP Go.Proofs.YtjdgobfjpjnhgaaDoor.shW Go.Proofs.YtjdgobfjpjnhgaaDoor.trP
set_option linter.unusedVariables false
set_option linter.unusedSimpArgs false
set_option maxRecDepth 100000
def okN (n i : Int) : Bool := decide (1 ≤ n) && decide (n ≤ 600) && decide (0 ≤ i) && decide (i < n)
theorem okN_yes {n i : Int} (h1 : 1 ≤ n) (h2 : n ≤ 600) (h3 : 0 ≤ i) (h4 : i < n) : okN n i = true := by simp [okN, h1, h2, h3, h4]
theorem okN_no {n i : Int} (h : ¬ (1 ≤ n ∧ n ≤ 600 ∧ 0 ≤ i ∧ i < n)) : okN n i = false := by
  rw [← Bool.not_eq_true]; intro e
  simp only [okN, Bool.and_eq_true, decide_eq_true_eq] at e
  exact h ⟨e.1.1.1, e.1.1.2, e.1.2, e.2⟩
theorem okN_iff {n i : Int} (h : okN n i = true) : 1 ≤ n ∧ n ≤ 600 ∧ 0 ≤ i ∧ i < n := by
  simp only [okN, Bool.and_eq_true, decide_eq_true_eq] at h
  exact ⟨h.1.1.1, h.1.1.2, h.1.2, h.2⟩
def sdL (n i : Int) : List Bool := if okN n i then sidesT n.toNat i.toNat else []
def sdE (n i : Int) : Int := if okN n i then 0 else 2
theorem sd_yes {n i : Int} (h : okN n i = true) : sdL n i = sidesT n.toNat i.toNat ∧ sdE n i = 0 := ⟨by rw [sdL, if_pos h], by rw [sdE, if_pos h]⟩
theorem sd_no {n i : Int} (h : okN n i = false) : sdL n i = [] ∧ sdE n i = 2 := ⟨by rw [sdL, if_neg (by rw [h]; decide)], by rw [sdE, if_neg (by rw [h]; decide)]⟩
theorem sd_len (n i : Int) : (sdL n i).length ≤ 10 := by
  unfold sdL
  split
  · rename_i h
    have := okN_iff h
    exact sides_le 10 _ _ (by omega)
  · simp
set_option maxHeartbeats 3200000 in
theorem sidesOf_any (n i : Int) (w : World) (hn1 : -9223372036854775808 ≤ n) (hn2 : n ≤ 9223372036854775807) (hi1 : -9223372036854775808 ≤ i) (hi2 : i ≤ 9223372036854775807) :
    Calls Tryd.prog 37 #[.int .i64 n, .int .i64 i] w fun e w' => ∃ A c, e = .returned (.tuple #[.slice A (sdL n i).length c, .int .i64 (sdE n i)]) ∧ OwnB w' w.heap.size (.slice A (sdL n i).length c) (sdL n i) ∧ Below w.heap.size w w' := by
  by_cases c1 : n < 1
  · have HV := Lib.hid (sd_no (okN_no (n := n) (i := i) (by omega)))
    go_enter Tryd.func37, Tryd.ntmps37
    go_wp2_with fail
    go_ret2
    exact ⟨none, 0, by rw [HV.out.1, HV.out.2]; rfl, by rw [HV.out.1]; exact OwnB.nil _ _, Below.refl _ _⟩
  by_cases c2 : 600 < n
  · have HV := Lib.hid (sd_no (okN_no (n := n) (i := i) (by omega)))
    go_enter Tryd.func37, Tryd.ntmps37
    go_wp2_with fail
    go_ret2
    exact ⟨none, 0, by rw [HV.out.1, HV.out.2]; rfl, by rw [HV.out.1]; exact OwnB.nil _ _, Below.refl _ _⟩
  by_cases c3 : i < 0
  · have HV := Lib.hid (sd_no (okN_no (n := n) (i := i) (by omega)))
    go_enter Tryd.func37, Tryd.ntmps37
    go_wp2_with fail
    go_ret2
    exact ⟨none, 0, by rw [HV.out.1, HV.out.2]; rfl, by rw [HV.out.1]; exact OwnB.nil _ _, Below.refl _ _⟩
  by_cases c4 : n ≤ i
  · have HV := Lib.hid (sd_no (okN_no (n := n) (i := i) (by omega)))
    go_enter Tryd.func37, Tryd.ntmps37
    go_wp2_with fail
    go_ret2
    exact ⟨none, 0, by rw [HV.out.1, HV.out.2]; rfl, by rw [HV.out.1]; exact OwnB.nil _ _, Below.refl _ _⟩
  have HV := Lib.hid (sd_yes (okN_yes (n := n) (i := i) (by omega) (by omega) (by omega) (by omega)))
  have HLN := Lib.hid (sd_len n i)
  obtain ⟨N, hN⟩ : ∃ N, n.toNat = N := ⟨_, rfl⟩
  obtain ⟨I, hI⟩ : ∃ I, i.toNat = I := ⟨_, rfl⟩
  have en : n = (N : Int) := by omega
  have ei : i = (I : Int) := by omega
  rw [HV.out.1] at HLN
  rw [hN, hI] at HV HLN
  subst en
  subst ei
  have HB := Lib.hid (show 1 ≤ N ∧ N ≤ 600 ∧ I < N by omega)
  clear hN hI hn1 hn2 hi1 hi2
  go_enter Tryd.func37, Tryd.ntmps37
  go_wp2_with fail
  clear c1 c2 c3 c4
  go_loopw [0, 1, 6] (fun nv iv sv wr => ∃ (m k L : Nat) (A : Option Addr) (c : Nat) (ss : List Bool), nv = .int .i64 (m : Int) ∧ iv = .int .i64 (k : Int) ∧ sv = .slice A L c ∧ 1 ≤ m ∧ m ≤ 600 ∧ k < m ∧ L = ss.length ∧ (sidesT N I).reverse = ss ++ (sidesT m k).reverse ∧ OwnB wr w.heap.size (.slice A L c) ss ∧ Below w.heap.size w wr) (fun nv _ _ _ => (intOf nv).toNat)
  case atStart => exact ⟨N, I, 0, none, 0, [], rfl, rfl, rfl, HB.out.1, HB.out.2.1, HB.out.2.2, rfl, by simp, OwnB.nil _ _, Below.refl _ _⟩
  case round =>
    obtain ⟨m, k, L, A, c, ss, rfl, rfl, rfl, hm1, hm2, hk, hL, hss, own, acc⟩ := hrel
    have HO := Lib.hid own
    have HACC := Lib.hid acc
    have HL := Lib.hid hL
    have HSS := Lib.hid hss
    have HSL : Hid (L ≤ 10) := Lib.hid (by have := congrArg List.length hss; rw [List.length_reverse, List.length_append] at this; have := HLN.out; omega)
    by_cases c1 : 2 ≤ m
    · have k1 := half_pos m
      have k2 := half_lt c1
      have F := Lib.hid (fun w => first_any m w c1 hm2)
      have HR := Lib.hid (sides_rev c1 k)
      have HM := Lib.hid (And.intro c1 (And.intro hm2 hk))
      generalize half m = h at *
      have HH := Lib.hid (And.intro k1 k2)
      have e1 : (1 : Int) < m := by omega
      have e2 : (m : Int) ≤ 600 := by omega
      have e3 : 0 ≤ (k : Int) := by omega
      have e4 : (k : Int) < m := by omega
      have e5 : (h : Int) < m := by omega
      have e6 : 1 ≤ (h : Int) := by omega
      by_cases ck : k < h
      · have d1 : (k : Int) < h := by omega
        rw [if_pos ck] at HR
        have HCK := Lib.hid ck
        clear own acc hL hss hm1 hm2 hk c1 k1 k2 ck
        go_wp2_with fail
        refine (F.out _).mono ?_
        rintro e _ ⟨rfl, rfl⟩
        rename World => wq
        have G1 := Lib.hid (bnew wq (.cells #[.bool false] 4))
        have C1 := Lib.hid (Lies.fresh wq 4 [.bool false])
        go_wp2_with (first | (at_builtin; refine appB1 (by rfl) _ _ rfl w.heap.size _ ss rfl (HO.out.past G1.out) wq.heap.size 1 false rfl (C1.out.cell 0) (by have := HSL.out; have := HL.out; omega) (by have := HACC.out.size; have := G1.out.size; omega) (L + 1) (by rw [HL.out]) ?_; intro A4 c4 w4 ho4 hb4))
        refine ⟨⟨h, k, L + 1, A4, c4, ss ++ [false], rfl, rfl, rfl, HH.out.1, by have := HH.out; have := HM.out; omega, HCK.out, by rw [List.length_append, HL.out]; rfl, by rw [HSS.out, HR.out]; simp, ho4, (bb HACC.out G1.out).trans hb4⟩, by simp [intOf]; have := HH.out; omega⟩
      · have d1 : ¬ (k : Int) < h := by omega
        have d2 : (m : Int) - h = ((m - h : Nat) : Int) := by omega
        have d3 : (k : Int) - h = ((k - h : Nat) : Int) := by omega
        rw [if_neg ck] at HR
        have HCK := Lib.hid ck
        clear own acc hL hss hm1 hm2 hk c1 k1 k2 ck
        go_wp2_with fail
        refine (F.out _).mono ?_
        rintro e _ ⟨rfl, rfl⟩
        rename World => wq
        have G1 := Lib.hid (bnew wq (.cells #[.bool true] 4))
        have C1 := Lib.hid (Lies.fresh wq 4 [.bool true])
        go_wp2_with (first | (at_builtin; refine appB1 (by rfl) _ _ rfl w.heap.size _ ss rfl (HO.out.past G1.out) wq.heap.size 1 true rfl (C1.out.cell 0) (by have := HSL.out; have := HL.out; omega) (by have := HACC.out.size; have := G1.out.size; omega) (L + 1) (by rw [HL.out]) ?_; intro A4 c4 w4 ho4 hb4))
        refine ⟨⟨m - h, k - h, L + 1, A4, c4, ss ++ [true], by first | rw [d2] | rfl, by first | rw [d3] | rfl, rfl, by have := HH.out; omega, by have := HM.out; omega, by have := HM.out; have := HH.out; have := HCK.out; omega, by rw [List.length_append, HL.out]; rfl, by rw [HSS.out, HR.out]; simp, ho4, (bb HACC.out G1.out).trans hb4⟩, by simp [intOf]; have := HH.out; omega⟩
    · have e1 : ¬ (1 : Int) < m := by omega
      have HEND : Hid (ss.reverse = sidesT N I) := Lib.hid (by rw [sides_one c1] at hss; rw [← List.reverse_reverse (sidesT N I), hss]; simp)
      clear own acc hL hss hm1 hm2 hk c1
      go_wp2_with fail
      refine (RevB_any w.heap.size A L c ss wr HO.out (by have := HSL.out; omega)).mono ?_
      rintro e w1 ⟨rfl, o1, b1⟩
      have O1 := Lib.hid o1
      have B1 := Lib.hid (HACC.out.trans b1)
      clear o1 b1
      go_wp2_with fail
      go_ret2
      have hlen : (sidesT N I).length = L := by rw [← HEND.out, List.length_reverse, HL.out]
      refine ⟨A, c, by rw [HV.out.1, HV.out.2, hlen]; rfl, by rw [HV.out.1, hlen, ← HEND.out]; exact O1.out, B1.out⟩
end Go.Proofs.YtjdgobfjpjnhgaaDoor.trW

namespace Go.Proofs.YtjdgobfjpjnhgaaDoor.trW
set_option maxRecDepth 100000
open Go.RowKit Go.Proofs.YtjdgobfjpjnhgaaDoor.base Go.Proofs.YtjdgobfjpjnhgaaDoor.shP Go.Proofs.YtjdgobfjpjnhgaaDoor.shW Go.Proofs.YtjdgobfjpjnhgaaDoor.trP
set_option linter.unusedVariables false
set_option linter.unusedSimpArgs false
set_option maxRecDepth 100000
theorem Steps_any (n i : Int) (w : World) (hn1 : -9223372036854775808 ≤ n) (hn2 : n ≤ 9223372036854775807) (hi1 : -9223372036854775808 ≤ i) (hi2 : i ≤ 9223372036854775807) :
    Calls Tryd.prog 16 #[.int .i64 n, .int .i64 i] w fun e w' => e = .returned (.tuple #[.int .i64 ((sdL n i).length : Int), .int .i64 (sdE n i)]) ∧ Below w.heap.size w w' := by
  go_enter Tryd.func16, Tryd.ntmps16
  go_wp2_with fail
  refine (sidesOf_any n i w hn1 hn2 hi1 hi2).mono ?_
  rintro e w1 ⟨A, c, rfl, o1, b1⟩
  have B1 := Lib.hid b1
  clear o1 b1
  go_wp2_with fail
  go_ret2
  exact ⟨rfl, B1.out⟩
theorem sides_step {n : Nat} (h : 2 ≤ n) (i : Nat) : (sidesT n i).length = 1 + (if i < half n then (sidesT (half n) i).length else (sidesT (n - half n) (i - half n)).length) := by
  conv => lhs; rw [sidesT]
  rw [dif_pos h]
  split <;> simp <;> omega
set_option maxHeartbeats 1600000 in
theorem rsteps_any : ∀ (n i : Nat) (w : World), 1 ≤ n → n ≤ 600 → i < n →
    Calls Tryd.prog 38 #[.int .i64 (n : Int), .int .i64 (i : Int)] w fun e w' => e = .returned (.int .i64 ((sidesT n i).length : Int)) ∧ w' = w := by
  intro n
  induction n using Nat.strongRecOn with
  | _ n ih =>
  intro i w h1 h2 h3
  have IH := Lib.hid ih
  clear ih
  have n9 : (n : Int) ≤ 600 := by omega
  have n1 : 1 ≤ (n : Int) := by omega
  have i0 : 0 ≤ (i : Int) := by omega
  have i1 : (i : Int) < n := by omega
  by_cases c : n = 1
  · subst c
    have HV := Lib.hid (sides_one (n := 1) (by omega) i)
    have e1 : ((1 : Nat) : Int) = 1 := rfl
    clear h1 h2 h3 n9 n1 i1
    go_enter Tryd.func38, Tryd.ntmps38
    go_wp2_with fail
    go_ret
    exact ⟨by rw [HV.out]; rfl, rfl⟩
  · have h2' : 2 ≤ n := by omega
    have k1 := half_pos n
    have k2 := half_lt h2'
    have F := Lib.hid (fun w => half_any n w h2' (by omega))
    have HV := Lib.hid (sides_step h2' i)
    have HL := Lib.hid (sides_le 10 n i (by omega))
    have e1 : ¬ (n : Int) = 1 := by omega
    have HI := Lib.hid (And.intro h2' (And.intro h2 h3))
    rw [HV.out] at HL ⊢
    generalize half n = k at *
    have HK := Lib.hid (And.intro k1 k2)
    have q1 : 1 ≤ (k : Int) := by omega
    have q2 : (k : Int) < n := by omega
    clear h1 h2 h3 c h2' k1 k2
    by_cases ck : i < k
    · have d1 : (i : Int) < k := by omega
      rw [if_pos ck] at HL ⊢
      have HL2 : Hid ((sidesT k i).length ≤ 9) := Lib.hid (by have := HL.out; omega)
      have HCK := Lib.hid ck
      clear ck
      go_enter Tryd.func38, Tryd.ntmps38
      go_wp2_with fail
      refine (F.out _).mono ?_
      rintro e _ ⟨rfl, rfl⟩
      go_wp2_with fail
      refine (IH.out k HK.out.2 i _ HK.out.1 (by have := HI.out; have := HK.out; omega) HCK.out).mono ?_
      rintro e _ ⟨rfl, rfl⟩
      obtain ⟨L, hL⟩ : ∃ L, (sidesT k i).length = L := ⟨_, rfl⟩
      rw [hL] at HL2 ⊢
      have HE := Lib.hid hL
      clear hL
      have w1 : IntKind.i64.wrap (1 + (L : Int)) = 1 + (L : Int) := IntWalk.i64_in _ (by have := HL2.out; omega)
      go_wp2_with fail
      go_ret
      exact ⟨by rw [HE.out, Int.natCast_add]; rfl, rfl⟩
    · have d1 : ¬ (i : Int) < k := by omega
      rw [if_neg ck] at HL ⊢
      have HL2 : Hid ((sidesT (n - k) (i - k)).length ≤ 9) := Lib.hid (by have := HL.out; omega)
      have HCK := Lib.hid ck
      have w2 : IntKind.i64.wrap ((n : Int) - k) = ((n - k : Nat) : Int) := by rw [IntWalk.i64_in _ (by omega)]; have := HK.out; omega
      have w3 : IntKind.i64.wrap ((i : Int) - k) = ((i - k : Nat) : Int) := by rw [IntWalk.i64_in _ (by omega)]; omega
      have u2 : (n : Int) - k = ((n - k : Nat) : Int) := by have := HK.out; omega
      have u3 : (i : Int) - k = ((i - k : Nat) : Int) := by omega
      have hR := Lib.hid (IH.out (n - k) (by have := HK.out; omega) (i - k) w (by have := HK.out; omega) (by have := HI.out; omega) (by have := HI.out; have := HK.out; omega))
      clear ck
      go_enter Tryd.func38, Tryd.ntmps38
      go_wp2_with fail
      refine (F.out _).mono ?_
      rintro e _ ⟨rfl, rfl⟩
      go_wp2_with fail
      first | rw [u2, u3] | skip
      refine hR.out.mono ?_
      rintro e _ ⟨rfl, rfl⟩
      obtain ⟨L, hL⟩ : ∃ L, (sidesT (n - k) (i - k)).length = L := ⟨_, rfl⟩
      rw [hL] at HL2 ⊢
      have HE := Lib.hid hL
      clear hL
      have w1 : IntKind.i64.wrap (1 + (L : Int)) = 1 + (L : Int) := IntWalk.i64_in _ (by have := HL2.out; omega)
      go_wp2_with fail
      go_ret
      exact ⟨by rw [HE.out, Int.natCast_add]; rfl, rfl⟩
set_option maxHeartbeats 1600000 in
theorem rSteps_any (n i : Int) (w : World) (hn1 : -9223372036854775808 ≤ n) (hn2 : n ≤ 9223372036854775807) (hi1 : -9223372036854775808 ≤ i) (hi2 : i ≤ 9223372036854775807) :
    Calls Tryd.prog 17 #[.int .i64 n, .int .i64 i] w fun e w' => e = .returned (.tuple #[.int .i64 ((sdL n i).length : Int), .int .i64 (sdE n i)]) ∧ w' = w := by
  by_cases c1 : n < 1
  · have HV := Lib.hid (sd_no (okN_no (n := n) (i := i) (by omega)))
    go_enter Tryd.func17, Tryd.ntmps17
    go_wp2_with fail
    go_ret2
    exact ⟨by rw [HV.out.1, HV.out.2]; rfl, rfl⟩
  by_cases c2 : 600 < n
  · have HV := Lib.hid (sd_no (okN_no (n := n) (i := i) (by omega)))
    go_enter Tryd.func17, Tryd.ntmps17
    go_wp2_with fail
    go_ret2
    exact ⟨by rw [HV.out.1, HV.out.2]; rfl, rfl⟩
  by_cases c3 : i < 0
  · have HV := Lib.hid (sd_no (okN_no (n := n) (i := i) (by omega)))
    go_enter Tryd.func17, Tryd.ntmps17
    go_wp2_with fail
    go_ret2
    exact ⟨by rw [HV.out.1, HV.out.2]; rfl, rfl⟩
  by_cases c4 : n ≤ i
  · have HV := Lib.hid (sd_no (okN_no (n := n) (i := i) (by omega)))
    go_enter Tryd.func17, Tryd.ntmps17
    go_wp2_with fail
    go_ret2
    exact ⟨by rw [HV.out.1, HV.out.2]; rfl, rfl⟩
  have HV := Lib.hid (sd_yes (okN_yes (n := n) (i := i) (by omega) (by omega) (by omega) (by omega)))
  obtain ⟨N, hN⟩ : ∃ N, n.toNat = N := ⟨_, rfl⟩
  obtain ⟨I, hI⟩ : ∃ I, i.toNat = I := ⟨_, rfl⟩
  have en : n = (N : Int) := by omega
  have ei : i = (I : Int) := by omega
  rw [hN, hI] at HV
  subst en
  subst ei
  have HB := Lib.hid (show 1 ≤ N ∧ N ≤ 600 ∧ I < N by omega)
  clear hN hI hn1 hn2 hi1 hi2
  go_enter Tryd.func17, Tryd.ntmps17
  go_wp2_with fail
  refine (rsteps_any N I w HB.out.1 HB.out.2.1 HB.out.2.2).mono ?_
  rintro e _ ⟨rfl, rfl⟩
  go_wp2_with fail
  go_ret2
  exact ⟨by rw [HV.out.1, HV.out.2]; rfl, rfl⟩
/-! Lists of digests compared. -/
theorem sameL_step {a b : List (List Int)} {k : Nat} (ha : k < a.length) (hb : k < b.length) (h : a.take k = b.take k) (e : a.getD k zd = b.getD k zd) : a.take (k + 1) = b.take (k + 1) := by
  rw [List.take_add_one, List.take_add_one, h, List.getElem?_eq_getElem ha, List.getElem?_eq_getElem hb]
  rw [List.getD_eq_getElem?_getD, List.getD_eq_getElem?_getD, List.getElem?_eq_getElem ha, List.getElem?_eq_getElem hb] at e
  simp only [Option.getD_some] at e
  rw [e]
set_option maxHeartbeats 3200000 in
theorem SameSums_any (a b : List (List Int)) (A B : Option Addr) (n m c d : Nat) (w : World) (ha : HasD w A a) (hb : HasD w B b) (la : a.length = n) (lb : b.length = m) (hn : n ≤ 9223372036854775807) (hm : m ≤ 9223372036854775807) :
    Calls Tryd.prog 18 #[.slice A n c, .slice B m d] w fun e w' => e = .returned (.bool (decide (a = b))) ∧ Below w.heap.size w w' := by
  have HA := Lib.hid ha
  have HB := Lib.hid hb
  have LA := Lib.hid la
  have LB := Lib.hid lb
  have n9 : (n : Int) ≤ 9223372036854775807 := by omega
  have m9 : (m : Int) ≤ 9223372036854775807 := by omega
  clear ha hb la lb hn hm
  by_cases c1 : n = m
  · subst c1
    go_enter Tryd.func18, Tryd.ntmps18
    go_wp2_with fail
    go_loopw [5] (fun iv wr => ∃ k : Nat, k ≤ n ∧ iv = .int .i64 (k : Int) ∧ a.take k = b.take k ∧ Below w.heap.size w wr) (fun iv _ => n - (intOf iv).toNat)
    case atStart => exact ⟨0, Nat.zero_le _, rfl, rfl, Below.refl _ _⟩
    case round =>
      obtain ⟨k, hk, rfl, hs, hw⟩ := hrel
      have HS := Lib.hid hs
      have HW := Lib.hid hw
      by_cases hlt : k < n
      · obtain ⟨b1, o1, rfl, hb1⟩ := HA.out.some (by rw [LA.out]; omega)
        obtain ⟨b2, o2, rfl, hb2⟩ := HB.out.some (by rw [LB.out]; omega)
        have X1 := Lib.hid (fun x' (h : Below w.heap.size w x') => (HA.out.past h).rng rfl (i := k) (by rw [LA.out]; exact hlt))
        have X2 := Lib.hid (fun x' (h : Below w.heap.size w x') => (HB.out.past h).rng rfl (i := k) (by rw [LB.out]; exact hlt))
        have HST := Lib.hid (sameL_step (a := a) (b := b) (k := k) (by rw [LA.out]; exact hlt) (by rw [LB.out]; exact hlt) hs)
        have HNE : Hid (a.getD k zd ≠ b.getD k zd → a ≠ b) := Lib.hid (fun h e => h (by rw [e]))
        have P := Lib.hid (HA.out.d.getz k)
        have Q := Lib.hid (HB.out.d.getz k)
        generalize a.getD k zd = x at *
        generalize b.getD k zd = y at *
        have HLT := Lib.hid hlt
        have k1 : (k : Int) < n := by omega
        have k0 : 0 ≤ (k : Int) := by omega
        clear hk hlt hs hb1 hb2 hw
        go_upto_region 6 with fail
        (have RD := drawn_roads (S := fun x' => Below w.heap.size w x') (fun _ n h => below_drewN h n)); refine region_ord _ Drawn RD HW.out.drew (by kernel_rfl) ?_; intro ops Q' hops hPQ hN; (have HNS : Hid (Region.noSelect ops = true) := Lib.hid (by rw [hops]; kernel_rfl)); (have hsz : ops.size = 9 := (by rw [hops]; rfl)); have HOP := Lib.hid hops; have HPQ := Lib.hid hPQ; have HN := Lib.hid hN; rw [hsz]; clear hops hsz hPQ hN
        refine ord_take RD 0 (at_list (by rw [HOP.out]; rfl)) HNS.out HPQ.out (by rw [HOP.out]; kernel_rfl) (by rw [HOP.out]; kernel_rfl) (by rw [HOP.out]; rfl) (fun K hK => ?_); apply Exists.intro; refine ⟨fun W hSW => ?_, hK _ ?_⟩; (focus ((try dsimp only at hSW); go_simp; try with_reducible rfl)); clear hK K; (try simp only [Act.put, List.setIfInBounds_toArray, List.set_cons_zero, List.set_cons_succ])
        refine ord_take RD 1 (at_list (by rw [HOP.out]; rfl)) HNS.out HPQ.out (by rw [HOP.out]; kernel_rfl) (by rw [HOP.out]; kernel_rfl) (by rw [HOP.out]; rfl) (fun K hK => ?_); apply Exists.intro; refine ⟨fun W hSW => ?_, hK _ ?_⟩; (focus ((try dsimp only at hSW); go_simp; try with_reducible rfl)); clear hK K; (try simp only [Act.put, List.setIfInBounds_toArray, List.set_cons_zero, List.set_cons_succ])
        refine ord_take RD 2 (at_list (by rw [HOP.out]; rfl)) HNS.out HPQ.out (by rw [HOP.out]; kernel_rfl) (by rw [HOP.out]; kernel_rfl) (by rw [HOP.out]; rfl) (fun K hK => ?_); apply Exists.intro; refine ⟨fun W hSW => ?_, hK _ ?_⟩; (focus ((try dsimp only at hSW); go_simp; try with_reducible rfl)); clear hK K; (try simp only [Act.put, List.setIfInBounds_toArray, List.set_cons_zero, List.set_cons_succ])
        refine ord_take RD 3 (at_list (by rw [HOP.out]; rfl)) HNS.out HPQ.out (by rw [HOP.out]; kernel_rfl) (by rw [HOP.out]; kernel_rfl) (by rw [HOP.out]; rfl) (fun K hK => ?_); apply Exists.intro; refine ⟨fun W hSW => ?_, hK _ ?_⟩; (focus ((try dsimp only at hSW); exact trW.quiet_ld (l := x) _ rfl (X1.out _ hSW) (P.out.len) rfl)); clear hK K; (try simp only [Act.put, List.setIfInBounds_toArray, List.set_cons_zero, List.set_cons_succ])
        refine ord_take RD 4 (at_list (by rw [HOP.out]; rfl)) HNS.out HPQ.out (by rw [HOP.out]; kernel_rfl) (by rw [HOP.out]; kernel_rfl) (by rw [HOP.out]; rfl) (fun K hK => ?_); apply Exists.intro; refine ⟨fun W hSW => ?_, hK _ ?_⟩; (focus ((try dsimp only at hSW); go_simp; try with_reducible rfl)); clear hK K; (try simp only [Act.put, List.setIfInBounds_toArray, List.set_cons_zero, List.set_cons_succ])
        refine ord_take RD 5 (at_list (by rw [HOP.out]; rfl)) HNS.out HPQ.out (by rw [HOP.out]; kernel_rfl) (by rw [HOP.out]; kernel_rfl) (by rw [HOP.out]; rfl) (fun K hK => ?_); apply Exists.intro; refine ⟨fun W hSW => ?_, hK _ ?_⟩; (focus ((try dsimp only at hSW); go_simp; try with_reducible rfl)); clear hK K; (try simp only [Act.put, List.setIfInBounds_toArray, List.set_cons_zero, List.set_cons_succ])
        refine ord_take RD 6 (at_list (by rw [HOP.out]; rfl)) HNS.out HPQ.out (by rw [HOP.out]; kernel_rfl) (by rw [HOP.out]; kernel_rfl) (by rw [HOP.out]; rfl) (fun K hK => ?_); apply Exists.intro; refine ⟨fun W hSW => ?_, hK _ ?_⟩; (focus ((try dsimp only at hSW); go_simp; try with_reducible rfl)); clear hK K; (try simp only [Act.put, List.setIfInBounds_toArray, List.set_cons_zero, List.set_cons_succ])
        refine ord_take RD 7 (at_list (by rw [HOP.out]; rfl)) HNS.out HPQ.out (by rw [HOP.out]; kernel_rfl) (by rw [HOP.out]; kernel_rfl) (by rw [HOP.out]; rfl) (fun K hK => ?_); apply Exists.intro; refine ⟨fun W hSW => ?_, hK _ ?_⟩; (focus ((try dsimp only at hSW); exact trW.quiet_ld (l := y) _ rfl (X2.out _ hSW) (Q.out.len) rfl)); clear hK K; (try simp only [Act.put, List.setIfInBounds_toArray, List.set_cons_zero, List.set_cons_succ])
        refine ord_take RD 8 (at_list (by rw [HOP.out]; rfl)) HNS.out HPQ.out (by rw [HOP.out]; kernel_rfl) (by rw [HOP.out]; kernel_rfl) (by rw [HOP.out]; rfl) (fun K hK => ?_); apply Exists.intro; refine ⟨fun W hSW => ?_, hK _ ?_⟩; (focus ((try dsimp only at hSW); exact trW.quiet_neq (l := x) (m := y) _ _ _ rfl P.out Q.out rfl rfl)); clear hK K; (try simp only [Act.put, List.setIfInBounds_toArray, List.set_cons_zero, List.set_cons_succ])
        refine ord_done (by rw [HOP.out]; kernel_rfl) (fun W1 hWW hSW => HN.out _ _ ?_); clear HOP HNS HPQ HN RD; (try dsimp only at hSW)
        have HSW := Lib.hid hSW
        clear hWW hSW
        by_cases ce : x = y
        · rw [show (!decide (x = y)) = false by simp [ce]]
          have HE := Lib.hid (HST.out ce)
          clear ce
          go_wp2_with fail
          refine ⟨⟨k + 1, HLT.out, by go_num, HE.out, HSW.out⟩, by simp [intOf]; have := HLT.out; omega⟩
        · rw [show (!decide (x = y)) = true by simp [ce]]
          have HE := Lib.hid (HNE.out ce)
          clear ce
          go_wp2_with fail
          go_ret
          exact ⟨by rw [decide_eq_false HE.out]; rfl, HSW.out⟩
      · have k1 : ¬ (k : Int) < n := by omega
        have HE : Hid (a = b) := Lib.hid (by
          rw [← List.take_of_length_le (l := a) (i := k) (by rw [LA.out]; omega), ← List.take_of_length_le (l := b) (i := k) (by rw [LB.out]; omega)]; exact hs)
        clear hk hlt hs hw
        go_wp2_with fail
        go_ret
        exact ⟨by rw [decide_eq_true HE.out]; rfl, HW.out⟩
  · have HE : Hid (a ≠ b) := Lib.hid (fun e => c1 (by rw [← LA.out, ← LB.out, e]))
    have c2 : ¬ (n : Int) = m := by omega
    clear c1
    go_enter Tryd.func18, Tryd.ntmps18
    go_wp2_with fail
    go_ret
    exact ⟨by rw [decide_eq_false HE.out]; rfl, Below.refl _ _⟩
end Go.Proofs.YtjdgobfjpjnhgaaDoor.trW

namespace Go.Proofs.YtjdgobfjpjnhgaaDoor.trW
set_option maxRecDepth 100000
open Go.RowKit Go.Proofs.YtjdgobfjpjnhgaaDoor.base Go.Proofs.YtjdgobfjpjnhgaaDoor.shP Go.Proofs.YtjdgobfjpjnhgaaDoor.shW Go.Proofs.YtjdgobfjpjnhgaaDoor.trP
set_option linter.unusedVariables false
set_option linter.unusedSimpArgs false
set_option maxRecDepth 100000
def GT (rs : List R8) (m : Nat) (e : Ending) : Prop := ∃ b : Bool, e = .returned (.bool b) ∧ (b = false → (m ≤ 20 ∨ 600 < m) ∧ m ≤ 650 ∧ ∀ k, k < m → k ≤ 600 → (rs.getD k r80).n ≤ 600)
set_option maxHeartbeats 2000000 in
theorem Great_any (P : Option Addr) (m d : Nat) (rs : List R8) (w : World) (hr : RowsB w P m d rs) :
    Calls Tryd.prog 9 #[.slice P m d] w fun e w' => GT rs m e ∧ w' = w := by
  have HR := Lib.hid hr
  have m1 : (m : Int) ≤ 9223372036854775807 := by have := hr.c1; have := hr.c2; omega
  have HL := Lib.hid hr.l
  clear hr
  go_enter Tryd.func9, Tryd.ntmps9
  go_wp2_with fail
  go_loopw [3, 4] (fun a i wr => ∃ q s : Nat, q ≤ m ∧ q ≤ 601 ∧ i = .int .i64 (q : Int) ∧ a = .int .i64 (s : Int) ∧ s ≤ 1000 * q ∧ (∀ k, k < q → (rs.getD k r80).n ≤ s ∨ 1000 ≤ s) ∧ wr = w) (fun a i _ => m - (intOf i).toNat)
  case atStart => exact ⟨0, 0, Nat.zero_le _, by omega, rfl, rfl, by omega, by intro k hk; omega, rfl⟩
  case round =>
    obtain ⟨q, s, hq, hq2, rfl, rfl, hs, hk, rfl⟩ := hrel
    have s1 : (s : Int) ≤ 601000 := by omega
    have s0 : 0 ≤ (s : Int) := by omega
    have HS := Lib.hid (And.intro hs hq2)
    have HK := Lib.hid hk
    by_cases hlt : q < m
    · have q1 : (q : Int) < m := by omega
      have q0 : 0 ≤ (q : Int) := by omega
      have HQ := Lib.hid hlt
      by_cases hq3 : q ≤ 600
      · have q3 : (q : Int) ≤ 600 := by omega
        have HQ3 := Lib.hid hq3
        obtain ⟨b, off, rfl, hb, hc⟩ := HR.out.h.some (by rw [HL.out]; omega)
        have c1 := hc q (by rw [HL.out]; exact hlt)
        have hin := HR.out.h.get q (by rw [HL.out]; exact hlt)
        have r9 : ((rs.getD q r80).n : Int) ≤ 9223372036854775807 := by have := hin.c1; have := hin.c2; omega
        have HRN : ∀ k, k < q + 1 → k < q ∨ k = q := fun k h => by omega
        have HRQ := Lib.hid (rfl : (rs.getD q r80).n = (rs.getD q r80).n)
        generalize hrg : rs.getD q r80 = r at *
        obtain ⟨rA, rn, rc, rb⟩ := r
        have HRG := Lib.hid hrg
        clear hrg HRQ hin
        simp only [] at *
        by_cases hn : rn ≤ 1000
        · have n1 : (rn : Int) ≤ 1000 := by omega
          have HN := Lib.hid hn
          have HRN' := Lib.hid HRN
          clear hlt hq hc hn hs hq2 hq3 hk HRN
          go_wp2_with fail
          go_roundw
          case rel =>
            refine ⟨q + 1, s + rn, HQ.out, by have := HQ3.out; omega, by go_num, by go_num, by have := HN.out; have := HS.out; omega, fun k hk => ?_, by trivial⟩
            rcases HRN'.out k hk with h | rfl
            · rcases HK.out k h with h1 | h1
              · left; omega
              · right; omega
            · left; rw [HRG.out]; simp
          case measure => simp [intOf]; have := HQ.out; omega
        · have n1 : ¬ (rn : Int) ≤ 1000 := by omega
          have HRN' := Lib.hid HRN
          clear hlt hq hc hn hs hq2 hq3 hk HRN
          go_wp2_with fail
          go_roundw
          case rel => exact ⟨q + 1, s + 1000, HQ.out, by have := HQ3.out; omega, by go_num, by go_num, by have := HS.out; omega, fun k hk => .inr (by omega), by trivial⟩
          case measure => simp [intOf]; have := HQ.out; omega
      · have q3 : ¬ (q : Int) ≤ 600 := by omega
        have HQ4 := Lib.hid hq3
        clear hlt hq hq3 hs hq2 hk
        go_wp2_with fail
        all_goals
          go_ret
          refine ⟨⟨_, rfl, fun h => ?_⟩, rfl⟩
          have h5 := HQ.out
          have h6 := HQ4.out
          have h7 := HK.out
          first | (simp at h; done) | ((try simp at h); exfalso; omega) | ((try simp at h); refine ⟨by omega, by omega, fun k h1 h2 => ?_⟩; rcases h7 k (by omega) with h8 | h8 <;> omega)
    · obtain rfl : q = m := by omega
      have q1 : ¬ (q : Int) < q := by omega
      clear hlt hq hs hq2 hk
      go_wp2_with fail
      all_goals
        go_ret
        refine ⟨⟨_, rfl, fun h => ?_⟩, rfl⟩
        have h7 := HK.out
        first | (simp at h; done) | ((try simp at h); exfalso; omega) | ((try simp at h); refine ⟨by omega, by omega, fun k h1 h2 => ?_⟩; rcases h7 k (by omega) with h8 | h8 <;> omega)
def goD (d : List Int) (ss : List Bool) (l : List (List Int)) : List Int := upT nodeD d ss l
theorem goD_isD {d : List Int} (hd : IsD d) (ss : List Bool) (l : List (List Int)) : IsD (goD d ss l) := by
  unfold goD upT
  generalize ss.zip l = z
  suffices h : ∀ d, IsD d → IsD (z.foldl (fun s p => if p.1 then nodeD p.2 s else nodeD s p.2) d) from h d hd
  induction z with
  | nil => intro d h; exact h
  | cons x r ih => intro d h; exact ih _ (by dsimp only; split; exact node_isD _ _; exact node_isD _ _)
theorem goD_step (d : List Int) (ss : List Bool) (b : Bool) (l : List (List Int)) {m : Nat} (hs : ss.length = m) (hl : l.length = m + 1) : goD d (ss ++ [b]) l = if b then nodeD (l.getD m zd) (goD d ss (l.take m)) else nodeD (goD d ss (l.take m)) (l.getD m zd) := by
  have e : l = l.take m ++ [l.getD m zd] := by
    conv => lhs; rw [← List.take_append_drop m l]
    rw [List.drop_eq_getElem_cons (by omega), List.drop_eq_nil_of_le (by omega), List.getD_eq_getElem?_getD, List.getElem?_eq_getElem (by omega)]; rfl
  unfold goD
  conv => lhs; rw [e]
  exact upT_snoc nodeD d ss (l.take m) b _ (by rw [hs, List.length_take]; omega)
theorem sides_two {n : Nat} (h : 2 ≤ n) (i : Nat) : sidesT n i = if i < half n then sidesT (half n) i ++ [false] else sidesT (n - half n) (i - half n) ++ [true] := by
  conv => lhs; rw [sidesT]
  rw [dif_pos h]
set_option maxHeartbeats 6400000 in
theorem rup_any : ∀ (n i : Nat) (d : List Int) (ls : List (List Int)) (A : Option Addr) (L c : Nat) (w : World), 1 ≤ n → n ≤ 600 → i < n → IsD d → HasD w A ls → ls.length = L → (sidesT n i).length = L → L ≤ c → c ≤ 9223372036854775807 →
    Calls Tryd.prog 40 #[.int .i64 (n : Int), .int .i64 (i : Int), .agg (darr d), .slice A L c] w fun e w' => e = .returned (.agg (darr (goD d (sidesT n i) ls))) ∧ Below w.heap.size w w' := by
  intro n
  induction n using Nat.strongRecOn with
  | _ n ih =>
  intro i d ls A L c w h1 h2 h3 hd hA hl hs hc hm
  have IH := Lib.hid ih
  clear ih
  have HD := Lib.hid hd
  have HA := Lib.hid hA
  have HL := Lib.hid hl
  have HC := Lib.hid (And.intro hc hm)
  have n9 : (n : Int) ≤ 600 := by omega
  have n1 : 1 ≤ (n : Int) := by omega
  have i0 : 0 ≤ (i : Int) := by omega
  have i1 : (i : Int) < n := by omega
  have G1 := bnew w (.cells (darr d) 26)
  have S1 : (w.alloc (.cells (darr d) 26)).heap.size = w.heap.size + 1 := by simp
  have G2 := bnew (w.alloc (.cells (darr d) 26)) (.cells #[.int .u8 0, .int .u8 0, .int .u8 0, .int .u8 0, .int .u8 0, .int .u8 0, .int .u8 0, .int .u8 0, .int .u8 0, .int .u8 0, .int .u8 0, .int .u8 0, .int .u8 0, .int .u8 0, .int .u8 0, .int .u8 0, .int .u8 0, .int .u8 0, .int .u8 0, .int .u8 0] 26)
  have LB := Lib.hid ((at_box (w := w) (d := d) rfl).past G2)
  have LZ := Lib.hid (z20_at (w.alloc (.cells (darr d) 26)) S1)
  have B0 := Lib.hid (bb G1 G2)
  have S0 : Hid (((w.alloc (.cells (darr d) 26)).alloc (.cells #[.int .u8 0, .int .u8 0, .int .u8 0, .int .u8 0, .int .u8 0, .int .u8 0, .int .u8 0, .int .u8 0, .int .u8 0, .int .u8 0, .int .u8 0, .int .u8 0, .int .u8 0, .int .u8 0, .int .u8 0, .int .u8 0, .int .u8 0, .int .u8 0, .int .u8 0, .int .u8 0] 26)).heap.size = w.heap.size + 2) := Lib.hid (by simp)
  clear hd hA hl hc hm G1 G2 S1
  by_cases cc : n = 1
  · subst cc
    have HV := Lib.hid (sides_one (n := 1) (by omega) i)
    have e1 : ((1 : Nat) : Int) = 1 := rfl
    clear h1 h2 h3 n9 n1 i1 hs
    go_enter Tryd.func40, Tryd.ntmps40
    go_upto_region 1 with fail
    generalize ((w.alloc (.cells (darr d) 26)).alloc (.cells #[.int .u8 0, .int .u8 0, .int .u8 0, .int .u8 0, .int .u8 0, .int .u8 0, .int .u8 0, .int .u8 0, .int .u8 0, .int .u8 0, .int .u8 0, .int .u8 0, .int .u8 0, .int .u8 0, .int .u8 0, .int .u8 0, .int .u8 0, .int .u8 0, .int .u8 0, .int .u8 0] 26)) = w0 at *
    go_wp2_with (first | (show wpList _ _ _ ({ dst := _, op := Op.load 26 (.tmp 6), type := _, pos := _, after := _, guard := _ } :: _) _ _; go_must (refine trW.wp_l0 (l := d) (by rfl) _ rfl (LB.out) (HD.out.len) rfl ?_)) | (show wpList _ _ _ ({ dst := none, op := Op.store 26 _ _, type := _, pos := _, after := _, guard := _ } :: _) _ _; go_must (refine trW.wp_st (g := (w.heap.size + 1)) (l := d) (by rfl) _ _ rfl (LZ.out) (zd_isD.len) (HD.out.len) rfl rfl ?_); intro w9 hR9 hg9 hb9 hz9))
    refine bodyPost_ret (trW.ret_1 (by exact Tryd.results40) _ _ _ (HD.out.len) rfl (hR9)) rfl ?_
    exact ⟨by rw [HV.out]; rfl, B0.out.trans (hb9.mono (by omega))⟩
  · have h2' : 2 ≤ n := by omega
    have k1 := half_pos n
    have k2 := half_lt h2'
    have F := Lib.hid (fun w => half_any n w h2' (by omega))
    have HV := Lib.hid (sides_two h2' i)
    have e1 : ¬ (n : Int) = 1 := by omega
    have HI := Lib.hid (And.intro h2' (And.intro h2 h3))
    have HSL := Lib.hid hs
    rw [HV.out] at HSL
    obtain ⟨m, hm⟩ : ∃ m, L = m + 1 := ⟨L - 1, by rw [hs.symm.trans (congrArg List.length HV.out)]; split <;> simp⟩
    have HM := Lib.hid hm
    have HX := Lib.hid (goD_step d (m := m) (l := ls) (hl := by rw [HL.out]; exact hm))
    have l1 : (L : Int) - 1 = (m : Int) := by omega
    have l2 : 0 ≤ (m : Int) := by omega
    have l3 : (m : Int) < L := by omega
    have l4 : (L : Int) ≤ c := by have := HC.out; omega
    have l5 : (c : Int) ≤ 9223372036854775807 := by have := HC.out; omega
    have l6 : (m : Int) ≤ c := by have := HC.out; omega
    have l7 : IntKind.i64.wrap (m : Int) = (m : Int) := IntWalk.i64_in _ (by omega)
    have l8 : (m : Int).toNat = m := rfl
    obtain ⟨b, off, rfl, hb⟩ := HA.out.some (by rw [HL.out]; omega)
    have R0 := Lib.hid (HA.out.rng rfl (i := m) (by rw [HL.out]; omega))
    have HP := Lib.hid (HA.out.d.getz m)
    have HF := Lib.hid (HA.out.front m)
    have HFL : Hid ((ls.take m).length = m) := Lib.hid (by rw [List.length_take, HL.out]; omega)
    generalize ls.getD m zd = x at *
    generalize ls.take m = l' at *
    rw [HV.out]
    generalize half n = k at *
    have HK := Lib.hid (And.intro k1 k2)
    have q1 : 1 ≤ (k : Int) := by omega
    have q2 : (k : Int) < n := by omega
    clear h1 h2 h3 cc h2' k1 k2 hs hm hb
    go_enter Tryd.func40, Tryd.ntmps40
    go_upto_region 1 with fail
    have R1 : Hid (((w.alloc (.cells (darr d) 26)).alloc (.cells #[.int .u8 0, .int .u8 0, .int .u8 0, .int .u8 0, .int .u8 0, .int .u8 0, .int .u8 0, .int .u8 0, .int .u8 0, .int .u8 0, .int .u8 0, .int .u8 0, .int .u8 0, .int .u8 0, .int .u8 0, .int .u8 0, .int .u8 0, .int .u8 0, .int .u8 0, .int .u8 0] 26)).rangeAt b (off + m * 20) (sv x)) := Lib.hid (World.rangeAt_alloc (World.rangeAt_alloc R0.out _) _)
    generalize ((w.alloc (.cells (darr d) 26)).alloc (.cells #[.int .u8 0, .int .u8 0, .int .u8 0, .int .u8 0, .int .u8 0, .int .u8 0, .int .u8 0, .int .u8 0, .int .u8 0, .int .u8 0, .int .u8 0, .int .u8 0, .int .u8 0, .int .u8 0, .int .u8 0, .int .u8 0, .int .u8 0, .int .u8 0, .int .u8 0, .int .u8 0] 26)) = w0 at *
    clear R0
    go_upto_region 4 with fail
    refine (F.out _).mono ?_
    rintro e _ ⟨rfl, rfl⟩
    rename World => w1
    have Y1 := Lib.hid (z20_at w1 rfl)
    have G1 := bnew w1 (.cells #[.int .u8 0, .int .u8 0, .int .u8 0, .int .u8 0, .int .u8 0, .int .u8 0, .int .u8 0, .int .u8 0, .int .u8 0, .int .u8 0, .int .u8 0, .int .u8 0, .int .u8 0, .int .u8 0, .int .u8 0, .int .u8 0, .int .u8 0, .int .u8 0, .int .u8 0, .int .u8 0] 26)
    have B1 := Lib.hid (bb B0.out G1)
    have LB1 := Lib.hid (LB.out.past G1)
    have LZ1 := Lib.hid (LZ.out.past G1)
    have LT1 := Lib.hid LB.out.lt
    have LT2 := Lib.hid LZ.out.lt
    have LE1 := Lib.hid B0.out.size
    clear G1 LB LZ B0
    go_upto_region 5 with (first | (show wpList _ _ _ ({ dst := _, op := Op.load 26 _, type := _, pos := _, after := _, guard := _ } :: _) _ _; go_must (refine trW.wp_ld (l := x) (by rfl) _ rfl (R1.out) (HP.out.len) rfl ?_)) | (show wpList _ _ _ ({ dst := none, op := Op.store 26 (.tmp 10) _, type := _, pos := _, after := _, guard := _ } :: _) _ _; go_must (refine trW.wp_st (g := w1.heap.size) (l := x) (by rfl) _ _ rfl (Y1.out) (zd_isD.len) (HP.out.len) rfl rfl ?_); intro w2 hR2 hg2 hb2 hz2; have R2 := Lib.hid hR2; have LB2 := Lib.hid (LB1.out.far hg2 (show w.heap.size ≠ w1.heap.size by have := LT1.out; omega)); have LZ2 := Lib.hid (LZ1.out.far hg2 (show w.heap.size + 1 ≠ w1.heap.size by have := LT2.out; omega)); have B2 := Lib.hid (B1.out.trans (hb2.mono LE1.out)); clear hR2 hg2 hb2 hz2 B1 LB1 LZ1 Y1))
    by_cases ck : i < k
    · have d1 : (i : Int) < k := by omega
      have HCK := Lib.hid ck
      rw [if_pos ck] at HSL
      have HSM : Hid ((sidesT k i).length = m) := Lib.hid (by have hm := HM.out; have := HSL.out; rw [List.length_append] at this; simp at this; omega)
      have HE := Lib.hid (HX.out (sidesT k i) false HSM.out)
      clear ck HX HSL
      go_upto_region 6 with fail
      have HF2 := Lib.hid (HF.out.past B2.out)
      rename World => w2
      (have RD := grows_roads (S := fun x' => Below w2.heap.size w2 x') (fun a b h1 h2 => h2.trans (h1.mono h2.size))); refine region_ordT 11 _ Grows RD (Below.drew (Below.refl _ _)) (by kernel_rfl) (by decide) ?_; intro ops Q' hops hPQ hN; (have HNS : Hid (Region.noSelect ops = true ∧ Region.sinkB .any ops 11 = true ∧ Region.chainB .any ops 11 = true ∧ 11 < ops.size) := Lib.hid (by rw [hops]; exact ⟨by kernel_rfl, by kernel_rfl, by kernel_rfl, by decide⟩)); (have hsz : ops.size = 12 := (by rw [hops]; rfl)); have HOP := Lib.hid hops; have HPQ := Lib.hid hPQ; have HN := Lib.hid hN; rw [hsz]; clear hops hsz hPQ hN
      refine ordT_take RD 0 (at_list (by rw [HOP.out]; rfl)) HNS.out HPQ.out (by rw [HOP.out]; kernel_rfl) (by rw [HOP.out]; kernel_rfl) (by rw [HOP.out]; rfl) (fun K hK => ?_); apply Exists.intro; refine ⟨fun W hSW => ?_, hK _ ?_⟩; (focus ((try dsimp only at hSW); go_simp; try with_reducible rfl)); clear hK K; (try simp only [Act.put, List.setIfInBounds_toArray, List.set_cons_zero, List.set_cons_succ])
      refine ordT_take RD 1 (at_list (by rw [HOP.out]; rfl)) HNS.out HPQ.out (by rw [HOP.out]; kernel_rfl) (by rw [HOP.out]; kernel_rfl) (by rw [HOP.out]; rfl) (fun K hK => ?_); apply Exists.intro; refine ⟨fun W hSW => ?_, hK _ ?_⟩; (focus ((try dsimp only at hSW); go_simp; try with_reducible rfl)); clear hK K; (try simp only [Act.put, List.setIfInBounds_toArray, List.set_cons_zero, List.set_cons_succ])
      refine ordT_take RD 2 (at_list (by rw [HOP.out]; rfl)) HNS.out HPQ.out (by rw [HOP.out]; kernel_rfl) (by rw [HOP.out]; kernel_rfl) (by rw [HOP.out]; rfl) (fun K hK => ?_); apply Exists.intro; refine ⟨fun W hSW => ?_, hK _ ?_⟩; (focus ((try dsimp only at hSW); exact trW.quiet_ld (l := d) _ rfl (rng_lies (LB2.out.past hSW)) (HD.out.len) rfl)); clear hK K; (try simp only [Act.put, List.setIfInBounds_toArray, List.set_cons_zero, List.set_cons_succ])
      refine ordT_take RD 3 (at_list (by rw [HOP.out]; rfl)) HNS.out HPQ.out (by rw [HOP.out]; kernel_rfl) (by rw [HOP.out]; kernel_rfl) (by rw [HOP.out]; rfl) (fun K hK => ?_); apply Exists.intro; refine ⟨fun W hSW => ?_, hK _ ?_⟩; (focus ((try dsimp only at hSW); go_simp; try with_reducible rfl)); clear hK K; (try simp only [Act.put, List.setIfInBounds_toArray, List.set_cons_zero, List.set_cons_succ])
      refine ordT_take RD 4 (at_list (by rw [HOP.out]; rfl)) HNS.out HPQ.out (by rw [HOP.out]; kernel_rfl) (by rw [HOP.out]; kernel_rfl) (by rw [HOP.out]; rfl) (fun K hK => ?_); apply Exists.intro; refine ⟨fun W hSW => ?_, hK _ ?_⟩; (focus ((try dsimp only at hSW); go_simp; try with_reducible rfl)); clear hK K; (try simp only [Act.put, List.setIfInBounds_toArray, List.set_cons_zero, List.set_cons_succ])
      refine ordT_take RD 5 (at_list (by rw [HOP.out]; rfl)) HNS.out HPQ.out (by rw [HOP.out]; kernel_rfl) (by rw [HOP.out]; kernel_rfl) (by rw [HOP.out]; rfl) (fun K hK => ?_); apply Exists.intro; refine ⟨fun W hSW => ?_, hK _ ?_⟩; (focus ((try dsimp only at hSW); go_simp; try with_reducible rfl)); clear hK K; (try simp only [Act.put, List.setIfInBounds_toArray, List.set_cons_zero, List.set_cons_succ])
      refine ordT_take RD 6 (at_list (by rw [HOP.out]; rfl)) HNS.out HPQ.out (by rw [HOP.out]; kernel_rfl) (by rw [HOP.out]; kernel_rfl) (by rw [HOP.out]; rfl) (fun K hK => ?_); apply Exists.intro; refine ⟨fun W hSW => ?_, hK _ ?_⟩; (focus ((try dsimp only at hSW); go_simp; try with_reducible rfl)); clear hK K; (try simp only [Act.put, List.setIfInBounds_toArray, List.set_cons_zero, List.set_cons_succ])
      refine ordT_take RD 7 (at_list (by rw [HOP.out]; rfl)) HNS.out HPQ.out (by rw [HOP.out]; kernel_rfl) (by rw [HOP.out]; kernel_rfl) (by rw [HOP.out]; rfl) (fun K hK => ?_); apply Exists.intro; refine ⟨fun W hSW => ?_, hK _ ?_⟩; (focus ((try dsimp only at hSW); go_simp; try with_reducible rfl)); clear hK K; (try simp only [Act.put, List.setIfInBounds_toArray, List.set_cons_zero, List.set_cons_succ])
      refine ordT_take RD 9 (at_list (by rw [HOP.out]; rfl)) HNS.out HPQ.out (by rw [HOP.out]; kernel_rfl) (by rw [HOP.out]; kernel_rfl) (by rw [HOP.out]; rfl) (fun K hK => ?_); apply Exists.intro; refine ⟨fun W hSW => ?_, hK _ ?_⟩; (focus ((try dsimp only at hSW); exact trW.quiet_ld (l := x) _ rfl (rng_lies (R2.out.past hSW)) (HP.out.len) rfl)); clear hK K; (try simp only [Act.put, List.setIfInBounds_toArray, List.set_cons_zero, List.set_cons_succ])
      refine ordT_one RD 8 (by rw [HOP.out]; kernel_rfl) (at_list (by rw [HOP.out]; rfl)) (by rw [HOP.out]; rfl) (fun W1 hWW hSW K hK => ?_); (try dsimp only at hSW)
      go_simp
      refine (IH.out k HK.out.2 i d l' (some ⟨b, off, none⟩) m c W1 HK.out.1 (by have := HI.out; have := HK.out; omega) HCK.out HD.out (HF2.out.past hSW) HFL.out HSM.out (by have := HC.out; have := HM.out; omega) HC.out.2).mono ?_
      rintro e w3 ⟨rfl, b3⟩
      refine hK _ _ (bb hSW b3) ?_
      clear hSW hWW b3
      clear hK K; (try simp only [Act.put, List.setIfInBounds_toArray, List.set_cons_zero, List.set_cons_succ])
      have HG := Lib.hid (goD_isD HD.out (sidesT k i) l')
      obtain ⟨y, hy⟩ : ∃ y, goD d (sidesT k i) l' = y := ⟨_, rfl⟩
      rw [hy] at HG HE ⊢
      have HY := Lib.hid hy
      clear hy
      refine ordT_one RD 10 (by rw [HOP.out]; kernel_rfl) (at_list (by rw [HOP.out]; rfl)) (by rw [HOP.out]; rfl) (fun W2 hWW hSW K hK => ?_); (try dsimp only at hSW)
      go_simp
      refine (rnode_any y x W2 HG.out HP.out).mono ?_
      rintro e w4 ⟨rfl, b4⟩
      refine hK _ _ (bb hSW b4) ?_
      clear hSW hWW b4
      clear hK K; (try simp only [Act.put, List.setIfInBounds_toArray, List.set_cons_zero, List.set_cons_succ])
      refine ordT_end (by rw [HOP.out]; kernel_rfl) (fun W3 hWW hSW => ?_); rw [HOP.out]; simp only [List.drop_succ_cons, List.drop_zero]; have hN := HN.out; clear HOP HNS HPQ HN RD; (try dsimp only at hSW)
      have B3 := Lib.hid (bb B2.out hSW)
      have LZ3 := Lib.hid (LZ2.out.past hSW)
      have HN2 := Lib.hid (node_isD y x)
      clear hSW
      go_wp2_with (show wpList _ _ _ ({ dst := none, op := Op.store 26 _ _, type := _, pos := _, after := _, guard := _ } :: _) _ _; go_must (refine trW.wp_st (g := (w.heap.size + 1)) (l := nodeD y x) (by rfl) _ _ rfl (LZ3.out) (zd_isD.len) (HN2.out.len) rfl rfl ?_); intro w9 hR9 hg9 hb9 hz9)
      refine bodyPost_ret (trW.ret_1 (by exact Tryd.results40) _ _ _ (HN2.out.len) rfl (hR9)) rfl ?_
      exact ⟨by first | rw [HE.out]; rfl | rw [if_pos HCK.out, HE.out]; rfl, B3.out.trans (hb9.mono (by omega))⟩
    · have d1 : ¬ (i : Int) < k := by omega
      have HCK := Lib.hid ck
      rw [if_neg ck] at HSL
      have HSM : Hid ((sidesT (n - k) (i - k)).length = m) := Lib.hid (by have hm := HM.out; have := HSL.out; rw [List.length_append] at this; simp at this; omega)
      have HE := Lib.hid (HX.out (sidesT (n - k) (i - k)) true HSM.out)
      obtain ⟨n', hn'⟩ : ∃ n', n - k = n' := ⟨_, rfl⟩
      obtain ⟨i', hi'⟩ : ∃ i', i - k = i' := ⟨_, rfl⟩
      have HNI : Hid (n - k = n' ∧ i - k = i') := Lib.hid ⟨hn', hi'⟩
      have z1 : (n : Int) - k = (n' : Int) := by omega
      have z2 : (i : Int) - k = (i' : Int) := by omega
      have z3 : IntKind.i64.wrap (n' : Int) = (n' : Int) := IntWalk.i64_in _ (by omega)
      have z4 : IntKind.i64.wrap (i' : Int) = (i' : Int) := IntWalk.i64_in _ (by omega)
      rw [hn', hi'] at HSM HE
      clear ck HX HSL hn' hi'
      go_upto_region 7 with fail
      have HF2 := Lib.hid (HF.out.past B2.out)
      rename World => w2
      (have RD := grows_roads (S := fun x' => Below w2.heap.size w2 x') (fun a b h1 h2 => h2.trans (h1.mono h2.size))); refine region_ordT 15 _ Grows RD (Below.drew (Below.refl _ _)) (by kernel_rfl) (by decide) ?_; intro ops Q' hops hPQ hN; (have HNS : Hid (Region.noSelect ops = true ∧ Region.sinkB .any ops 15 = true ∧ Region.chainB .any ops 15 = true ∧ 15 < ops.size) := Lib.hid (by rw [hops]; exact ⟨by kernel_rfl, by kernel_rfl, by kernel_rfl, by decide⟩)); (have hsz : ops.size = 16 := (by rw [hops]; rfl)); have HOP := Lib.hid hops; have HPQ := Lib.hid hPQ; have HN := Lib.hid hN; rw [hsz]; clear hops hsz hPQ hN
      refine ordT_take RD 0 (at_list (by rw [HOP.out]; rfl)) HNS.out HPQ.out (by rw [HOP.out]; kernel_rfl) (by rw [HOP.out]; kernel_rfl) (by rw [HOP.out]; rfl) (fun K hK => ?_); apply Exists.intro; refine ⟨fun W hSW => ?_, hK _ ?_⟩; (focus ((try dsimp only at hSW); exact trW.quiet_ld (l := x) _ rfl (rng_lies (R2.out.past hSW)) (HP.out.len) rfl)); clear hK K; (try simp only [Act.put, List.setIfInBounds_toArray, List.set_cons_zero, List.set_cons_succ])
      refine ordT_take RD 1 (at_list (by rw [HOP.out]; rfl)) HNS.out HPQ.out (by rw [HOP.out]; kernel_rfl) (by rw [HOP.out]; kernel_rfl) (by rw [HOP.out]; rfl) (fun K hK => ?_); apply Exists.intro; refine ⟨fun W hSW => ?_, hK _ ?_⟩; (focus ((try dsimp only at hSW); go_simp; try with_reducible rfl)); clear hK K; (try simp only [Act.put, List.setIfInBounds_toArray, List.set_cons_zero, List.set_cons_succ])
      refine ordT_take RD 2 (at_list (by rw [HOP.out]; rfl)) HNS.out HPQ.out (by rw [HOP.out]; kernel_rfl) (by rw [HOP.out]; kernel_rfl) (by rw [HOP.out]; rfl) (fun K hK => ?_); apply Exists.intro; refine ⟨fun W hSW => ?_, hK _ ?_⟩; (focus ((try dsimp only at hSW); go_simp; try with_reducible rfl)); clear hK K; (try simp only [Act.put, List.setIfInBounds_toArray, List.set_cons_zero, List.set_cons_succ])
      refine ordT_take RD 3 (at_list (by rw [HOP.out]; rfl)) HNS.out HPQ.out (by rw [HOP.out]; kernel_rfl) (by rw [HOP.out]; kernel_rfl) (by rw [HOP.out]; rfl) (fun K hK => ?_); apply Exists.intro; refine ⟨fun W hSW => ?_, hK _ ?_⟩; (focus ((try dsimp only at hSW); go_simp; try with_reducible rfl)); clear hK K; (try simp only [Act.put, List.setIfInBounds_toArray, List.set_cons_zero, List.set_cons_succ])
      refine ordT_take RD 4 (at_list (by rw [HOP.out]; rfl)) HNS.out HPQ.out (by rw [HOP.out]; kernel_rfl) (by rw [HOP.out]; kernel_rfl) (by rw [HOP.out]; rfl) (fun K hK => ?_); apply Exists.intro; refine ⟨fun W hSW => ?_, hK _ ?_⟩; (focus ((try dsimp only at hSW); go_simp; try with_reducible rfl)); clear hK K; (try simp only [Act.put, List.setIfInBounds_toArray, List.set_cons_zero, List.set_cons_succ])
      refine ordT_take RD 5 (at_list (by rw [HOP.out]; rfl)) HNS.out HPQ.out (by rw [HOP.out]; kernel_rfl) (by rw [HOP.out]; kernel_rfl) (by rw [HOP.out]; rfl) (fun K hK => ?_); apply Exists.intro; refine ⟨fun W hSW => ?_, hK _ ?_⟩; (focus ((try dsimp only at hSW); go_simp; try with_reducible rfl)); clear hK K; (try simp only [Act.put, List.setIfInBounds_toArray, List.set_cons_zero, List.set_cons_succ])
      refine ordT_take RD 6 (at_list (by rw [HOP.out]; rfl)) HNS.out HPQ.out (by rw [HOP.out]; kernel_rfl) (by rw [HOP.out]; kernel_rfl) (by rw [HOP.out]; rfl) (fun K hK => ?_); apply Exists.intro; refine ⟨fun W hSW => ?_, hK _ ?_⟩; (focus ((try dsimp only at hSW); go_simp; try with_reducible rfl)); clear hK K; (try simp only [Act.put, List.setIfInBounds_toArray, List.set_cons_zero, List.set_cons_succ])
      refine ordT_take RD 7 (at_list (by rw [HOP.out]; rfl)) HNS.out HPQ.out (by rw [HOP.out]; kernel_rfl) (by rw [HOP.out]; kernel_rfl) (by rw [HOP.out]; rfl) (fun K hK => ?_); apply Exists.intro; refine ⟨fun W hSW => ?_, hK _ ?_⟩; (focus ((try dsimp only at hSW); exact trW.quiet_ld (l := d) _ rfl (rng_lies (LB2.out.past hSW)) (HD.out.len) rfl)); clear hK K; (try simp only [Act.put, List.setIfInBounds_toArray, List.set_cons_zero, List.set_cons_succ])
      refine ordT_take RD 8 (at_list (by rw [HOP.out]; rfl)) HNS.out HPQ.out (by rw [HOP.out]; kernel_rfl) (by rw [HOP.out]; kernel_rfl) (by rw [HOP.out]; rfl) (fun K hK => ?_); apply Exists.intro; refine ⟨fun W hSW => ?_, hK _ ?_⟩; (focus ((try dsimp only at hSW); go_simp; try with_reducible rfl)); clear hK K; (try simp only [Act.put, List.setIfInBounds_toArray, List.set_cons_zero, List.set_cons_succ])
      refine ordT_take RD 9 (at_list (by rw [HOP.out]; rfl)) HNS.out HPQ.out (by rw [HOP.out]; kernel_rfl) (by rw [HOP.out]; kernel_rfl) (by rw [HOP.out]; rfl) (fun K hK => ?_); apply Exists.intro; refine ⟨fun W hSW => ?_, hK _ ?_⟩; (focus ((try dsimp only at hSW); go_simp; try with_reducible rfl)); clear hK K; (try simp only [Act.put, List.setIfInBounds_toArray, List.set_cons_zero, List.set_cons_succ])
      refine ordT_take RD 10 (at_list (by rw [HOP.out]; rfl)) HNS.out HPQ.out (by rw [HOP.out]; kernel_rfl) (by rw [HOP.out]; kernel_rfl) (by rw [HOP.out]; rfl) (fun K hK => ?_); apply Exists.intro; refine ⟨fun W hSW => ?_, hK _ ?_⟩; (focus ((try dsimp only at hSW); go_simp; try with_reducible rfl)); clear hK K; (try simp only [Act.put, List.setIfInBounds_toArray, List.set_cons_zero, List.set_cons_succ])
      refine ordT_take RD 11 (at_list (by rw [HOP.out]; rfl)) HNS.out HPQ.out (by rw [HOP.out]; kernel_rfl) (by rw [HOP.out]; kernel_rfl) (by rw [HOP.out]; rfl) (fun K hK => ?_); apply Exists.intro; refine ⟨fun W hSW => ?_, hK _ ?_⟩; (focus ((try dsimp only at hSW); go_simp; try with_reducible rfl)); clear hK K; (try simp only [Act.put, List.setIfInBounds_toArray, List.set_cons_zero, List.set_cons_succ])
      refine ordT_take RD 12 (at_list (by rw [HOP.out]; rfl)) HNS.out HPQ.out (by rw [HOP.out]; kernel_rfl) (by rw [HOP.out]; kernel_rfl) (by rw [HOP.out]; rfl) (fun K hK => ?_); apply Exists.intro; refine ⟨fun W hSW => ?_, hK _ ?_⟩; (focus ((try dsimp only at hSW); go_simp; try with_reducible rfl)); clear hK K; (try simp only [Act.put, List.setIfInBounds_toArray, List.set_cons_zero, List.set_cons_succ])
      refine ordT_one RD 13 (by rw [HOP.out]; kernel_rfl) (at_list (by rw [HOP.out]; rfl)) (by rw [HOP.out]; rfl) (fun W1 hWW hSW K hK => ?_); (try dsimp only at hSW)
      go_simp
      refine (IH.out n' (by have := HNI.out; have := HK.out; omega) i' d l' (some ⟨b, off, none⟩) m c W1 (by have := HNI.out; have := HK.out; omega) (by have := HNI.out; have := HI.out; have := HK.out; omega) (by have := HNI.out; have := HI.out; have := HK.out; have := HCK.out; omega) HD.out (HF2.out.past hSW) HFL.out HSM.out (by have := HC.out; have := HM.out; omega) HC.out.2).mono ?_
      rintro e w3 ⟨rfl, b3⟩
      refine hK _ _ (bb hSW b3) ?_
      clear hSW hWW b3
      clear hK K; (try simp only [Act.put, List.setIfInBounds_toArray, List.set_cons_zero, List.set_cons_succ])
      have HG := Lib.hid (goD_isD HD.out (sidesT n' i') l')
      obtain ⟨y, hy⟩ : ∃ y, goD d (sidesT n' i') l' = y := ⟨_, rfl⟩
      rw [hy] at HG HE ⊢
      have HY := Lib.hid hy
      clear hy
      refine ordT_one RD 14 (by rw [HOP.out]; kernel_rfl) (at_list (by rw [HOP.out]; rfl)) (by rw [HOP.out]; rfl) (fun W2 hWW hSW K hK => ?_); (try dsimp only at hSW)
      go_simp
      refine (rnode_any x y W2 HP.out HG.out).mono ?_
      rintro e w4 ⟨rfl, b4⟩
      refine hK _ _ (bb hSW b4) ?_
      clear hSW hWW b4
      clear hK K; (try simp only [Act.put, List.setIfInBounds_toArray, List.set_cons_zero, List.set_cons_succ])
      refine ordT_end (by rw [HOP.out]; kernel_rfl) (fun W3 hWW hSW => ?_); rw [HOP.out]; simp only [List.drop_succ_cons, List.drop_zero]; have hN := HN.out; clear HOP HNS HPQ HN RD; (try dsimp only at hSW)
      have B3 := Lib.hid (bb B2.out hSW)
      have LZ3 := Lib.hid (LZ2.out.past hSW)
      have HN2 := Lib.hid (node_isD x y)
      clear hSW
      go_wp2_with (show wpList _ _ _ ({ dst := none, op := Op.store 26 _ _, type := _, pos := _, after := _, guard := _ } :: _) _ _; go_must (refine trW.wp_st (g := (w.heap.size + 1)) (l := nodeD x y) (by rfl) _ _ rfl (LZ3.out) (zd_isD.len) (HN2.out.len) rfl rfl ?_); intro w9 hR9 hg9 hb9 hz9)
      refine bodyPost_ret (trW.ret_1 (by exact Tryd.results40) _ _ _ (HN2.out.len) rfl (hR9)) rfl ?_
      refine ⟨?_, B3.out.trans (hb9.mono (by omega))⟩
      first
      | rw [if_neg HCK.out, HNI.out.1, HNI.out.2, HE.out]; rfl
      | rw [HNI.out.1, HNI.out.2, HE.out]; rfl
end Go.Proofs.YtjdgobfjpjnhgaaDoor.trW

namespace Go.Proofs.YtjdgobfjpjnhgaaDoor.trW
set_option maxRecDepth 100000
open Go.RowKit Go.Proofs.YtjdgobfjpjnhgaaDoor.base Go.Proofs.YtjdgobfjpjnhgaaDoor.shP Go.Proofs.YtjdgobfjpjnhgaaDoor.shW Go.Proofs.YtjdgobfjpjnhgaaDoor.trP
set_option linter.unusedVariables false
set_option linter.unusedSimpArgs false
set_option maxRecDepth 100000
def goE (n i : Int) (ls : List (List Int)) : Int := if okN n i then (if ls.length = (sdL n i).length then 0 else 12) else 2
def goV (n i : Int) (d : List Int) (ls : List (List Int)) : List Int := if okN n i then (if ls.length = (sdL n i).length then goD d (sdL n i) ls else zd) else zd
theorem go_no {n i : Int} {ls : List (List Int)} {d : List Int} (h : okN n i = false) : goE n i ls = 2 ∧ goV n i d ls = zd := ⟨by rw [goE, if_neg (by rw [h]; decide)], by rw [goV, if_neg (by rw [h]; decide)]⟩
theorem go_bad {n i : Int} {ls : List (List Int)} {d : List Int} (h : okN n i = true) (e : ¬ ls.length = (sdL n i).length) : goE n i ls = 12 ∧ goV n i d ls = zd := ⟨by rw [goE, if_pos h, if_neg e], by rw [goV, if_pos h, if_neg e]⟩
theorem go_yes {n i : Int} {ls : List (List Int)} {d : List Int} (h : okN n i = true) (e : ls.length = (sdL n i).length) : goE n i ls = 0 ∧ goV n i d ls = goD d (sdL n i) ls := ⟨by rw [goE, if_pos h, if_pos e], by rw [goV, if_pos h, if_pos e]⟩
theorem goV_isD (n i : Int) {d : List Int} (hd : IsD d) (ls : List (List Int)) : IsD (goV n i d ls) := by
  unfold goV
  split
  · split
    · exact goD_isD hd _ _
    · exact zd_isD
  · exact zd_isD
theorem bld_arr : (Tryd.prog.info? 26).isSome = true := by kernel_rfl
set_option maxHeartbeats 3200000 in
theorem rUp_any (n i : Int) (d : List Int) (ls : List (List Int)) (A : Option Addr) (L c : Nat) (w : World) (hn1 : -9223372036854775808 ≤ n) (hn2 : n ≤ 9223372036854775807) (hi1 : -9223372036854775808 ≤ i) (hi2 : i ≤ 9223372036854775807) (hd : IsD d) (hA : HasD w A ls) (hl : ls.length = L) (hc : L ≤ c) (hm : c ≤ 9223372036854775807) :
    Calls Tryd.prog 20 #[.int .i64 n, .int .i64 i, .agg (darr d), .slice A L c] w fun e w' => e = .returned (.tuple #[.agg (darr (goV n i d ls)), .int .i64 (goE n i ls)]) ∧ Below w.heap.size w w' := by
  (have HD := Lib.hid hd; have HA := Lib.hid hA; have HL := Lib.hid hl; have HC := Lib.hid (And.intro hc hm); have L9 : (L : Int) ≤ 9223372036854775807 := (by omega); have G1 := bnew w (.cells (darr d) 26); have S1 : (w.alloc (.cells (darr d) 26)).heap.size = w.heap.size + 1 := (by simp); have G2 := bnew (w.alloc (.cells (darr d) 26)) (.cells #[.int .u8 0, .int .u8 0, .int .u8 0, .int .u8 0, .int .u8 0, .int .u8 0, .int .u8 0, .int .u8 0, .int .u8 0, .int .u8 0, .int .u8 0, .int .u8 0, .int .u8 0, .int .u8 0, .int .u8 0, .int .u8 0, .int .u8 0, .int .u8 0, .int .u8 0, .int .u8 0] 26); have LB := Lib.hid ((at_box (w := w) (d := d) rfl).past G2); have LZ := Lib.hid (z20_at (w.alloc (.cells (darr d) 26)) S1); have B0 := Lib.hid (bb G1 G2); have S0 : Hid (((w.alloc (.cells (darr d) 26)).alloc (.cells #[.int .u8 0, .int .u8 0, .int .u8 0, .int .u8 0, .int .u8 0, .int .u8 0, .int .u8 0, .int .u8 0, .int .u8 0, .int .u8 0, .int .u8 0, .int .u8 0, .int .u8 0, .int .u8 0, .int .u8 0, .int .u8 0, .int .u8 0, .int .u8 0, .int .u8 0, .int .u8 0] 26)).heap.size = w.heap.size + 2) := Lib.hid (by simp))
  have R := Lib.hid (fun w => rSteps_any n i w hn1 hn2 hi1 hi2)
  have HSL := Lib.hid (sd_len n i)
  clear hd hA hl hc hm G1 G2 S1
  cases ho : okN n i
  · have HV := Lib.hid (sd_no ho)
    have HU := Lib.hid (go_no (ls := ls) (d := d) ho)
    clear ho
    go_enter Tryd.func20, Tryd.ntmps20
    go_upto_region 1 with fail
    generalize ((w.alloc (.cells (darr d) 26)).alloc (.cells #[.int .u8 0, .int .u8 0, .int .u8 0, .int .u8 0, .int .u8 0, .int .u8 0, .int .u8 0, .int .u8 0, .int .u8 0, .int .u8 0, .int .u8 0, .int .u8 0, .int .u8 0, .int .u8 0, .int .u8 0, .int .u8 0, .int .u8 0, .int .u8 0, .int .u8 0, .int .u8 0] 26)) = w0 at *
    go_wp2_with fail
    refine (R.out _).mono ?_
    rintro e _ ⟨rfl, rfl⟩
    rw [HV.out.1, HV.out.2]
    go_wp2_with (show wpList _ _ _ ({ dst := none, op := Op.store 26 _ _, type := _, pos := _, after := _, guard := _ } :: _) _ _; go_must (refine trW.wp_st (g := (w.heap.size + 1)) (l := zd) (by rfl) _ _ rfl (LZ.out) (zd_isD.len) (zd_isD.len) rfl rfl ?_); intro w9 hR9 hg9 hb9 hz9)
    refine bodyPost_ret (trW.ret_d (by exact Tryd.results20) _ _ _ (zd_isD.len) rfl (hR9)) rfl ?_
    exact ⟨by rw [HU.out.1, HU.out.2]; rfl, B0.out.trans (hb9.mono (by omega))⟩
  · have HK := Lib.hid (okN_iff ho)
    have HV := Lib.hid (sd_yes ho)
    obtain ⟨N, hN⟩ : ∃ N, n.toNat = N := ⟨_, rfl⟩
    obtain ⟨I, hI⟩ : ∃ I, i.toNat = I := ⟨_, rfl⟩
    have en : n = (N : Int) := by have := HK.out; omega
    have ei : i = (I : Int) := by have := HK.out; omega
    rw [hN, hI] at HV
    have HB := Lib.hid (show 1 ≤ N ∧ N ≤ 600 ∧ I < N by have := HK.out; omega)
    by_cases cl : L = (sdL n i).length
    · have HU := Lib.hid (go_yes (d := d) ho (by rw [HL.out]; exact cl))
      have HCL := Lib.hid cl
      subst en
      subst ei
      clear ho hN hI hn1 hn2 hi1 hi2
      go_enter Tryd.func20, Tryd.ntmps20
      go_upto_region 1 with fail
      have HA0 := Lib.hid (HA.out.past B0.out)
      generalize ((w.alloc (.cells (darr d) 26)).alloc (.cells #[.int .u8 0, .int .u8 0, .int .u8 0, .int .u8 0, .int .u8 0, .int .u8 0, .int .u8 0, .int .u8 0, .int .u8 0, .int .u8 0, .int .u8 0, .int .u8 0, .int .u8 0, .int .u8 0, .int .u8 0, .int .u8 0, .int .u8 0, .int .u8 0, .int .u8 0, .int .u8 0] 26)) = w0 at *
      go_wp2_with fail
      refine (R.out _).mono ?_
      rintro e _ ⟨rfl, rfl⟩
      rw [HV.out.2]
      have l1 : ((sdL (N : Int) (I : Int)).length : Int) = (L : Int) := by omega
      clear cl
      go_wp2_with fail
      refine (rsteps_any N I _ HB.out.1 HB.out.2.1 HB.out.2.2).mono ?_
      rintro e _ ⟨rfl, rfl⟩
      rw [← HV.out.1, l1]
      clear l1
      go_wp2_with (first | (show wpList _ _ _ ({ dst := _, op := Op.load 26 (.tmp 6), type := _, pos := _, after := _, guard := _ } :: _) _ _; go_must (refine trW.wp_l0 (l := d) (by rfl) _ rfl (LB.out) (HD.out.len) rfl ?_)))
      refine (rup_any N I d ls A L c _ HB.out.1 HB.out.2.1 HB.out.2.2 HD.out HA0.out HL.out (by rw [← HV.out.1]; exact HCL.out.symm) HC.out.1 HC.out.2).mono ?_
      rintro e w1 ⟨rfl, b1⟩
      have LZ1 := Lib.hid (LZ.out.past b1)
      have B1 := Lib.hid (bb B0.out b1)
      have HG := Lib.hid (goD_isD HD.out (sidesT N I) ls)
      clear b1 B0 LZ
      go_wp2_with (show wpList _ _ _ ({ dst := none, op := Op.store 26 _ _, type := _, pos := _, after := _, guard := _ } :: _) _ _; go_must (refine trW.wp_st (g := (w.heap.size + 1)) (l := goD d (sidesT N I) ls) (by rfl) _ _ rfl (LZ1.out) (zd_isD.len) (HG.out.len) rfl rfl ?_); intro w9 hR9 hg9 hb9 hz9)
      refine bodyPost_ret (trW.ret_d (by exact Tryd.results20) _ _ _ (HG.out.len) rfl (hR9)) rfl ?_
      exact ⟨by rw [HU.out.1, HU.out.2, HV.out.1]; rfl, B1.out.trans (hb9.mono (by omega))⟩
    · have HU := Lib.hid (go_bad (d := d) ho (by rw [HL.out]; exact cl))
      have HCL := Lib.hid cl
      subst en
      subst ei
      clear ho hN hI hn1 hn2 hi1 hi2
      go_enter Tryd.func20, Tryd.ntmps20
      go_upto_region 1 with fail
      generalize ((w.alloc (.cells (darr d) 26)).alloc (.cells #[.int .u8 0, .int .u8 0, .int .u8 0, .int .u8 0, .int .u8 0, .int .u8 0, .int .u8 0, .int .u8 0, .int .u8 0, .int .u8 0, .int .u8 0, .int .u8 0, .int .u8 0, .int .u8 0, .int .u8 0, .int .u8 0, .int .u8 0, .int .u8 0, .int .u8 0, .int .u8 0] 26)) = w0 at *
      go_wp2_with fail
      refine (R.out _).mono ?_
      rintro e _ ⟨rfl, rfl⟩
      rw [HV.out.2]
      have l1 : ¬ (L : Int) = ((sidesT N I).length : Int) := by rw [← HV.out.1]; omega
      clear cl
      go_wp2_with fail
      refine (rsteps_any N I _ HB.out.1 HB.out.2.1 HB.out.2.2).mono ?_
      rintro e _ ⟨rfl, rfl⟩
      go_wp2_with (show wpList _ _ _ ({ dst := none, op := Op.store 26 _ _, type := _, pos := _, after := _, guard := _ } :: _) _ _; go_must (refine trW.wp_st (g := (w.heap.size + 1)) (l := zd) (by rfl) _ _ rfl (LZ.out) (zd_isD.len) (zd_isD.len) rfl rfl ?_); intro w9 hR9 hg9 hb9 hz9)
      refine bodyPost_ret (trW.ret_d (by exact Tryd.results20) _ _ _ (zd_isD.len) rfl (hR9)) rfl ?_
      exact ⟨by rw [HU.out.1, HU.out.2]; rfl, B0.out.trans (hb9.mono (by omega))⟩
end Go.Proofs.YtjdgobfjpjnhgaaDoor.trW

namespace Go.Proofs.YtjdgobfjpjnhgaaDoor.trW
set_option maxRecDepth 100000
open Go.RowKit Go.Proofs.YtjdgobfjpjnhgaaDoor.base Go.Proofs.YtjdgobfjpjnhgaaDoor.shP Go.Proofs.YtjdgobfjpjnhgaaDoor.shW Go.Proofs.YtjdgobfjpjnhgaaDoor.trP
set_option linter.unusedVariables false
set_option linter.unusedSimpArgs false
set_option maxRecDepth 100000
theorem OwnB.kept {w w' : World} {B g : Nat} {v : Value} {bs : List Bool} (h : OwnB w B v bs) (hg : w.grownBy w' (some g)) (hne : v.ownBlock ≠ some g) : OwnB w' B v bs := World.ownsRow.kept h hg (.inr hne)
theorem OwnB.apart {w : World} {B g : Nat} {v : Value} {bs : List Bool} (h : OwnB w B v bs) (hg : w.heap.size ≤ g) : v.ownBlock ≠ some g := fun e => by
  have := (World.ownsRow.lt h g e).2
  omega
theorem op_st {o : Oper} {a : Act} {w : World} {K : Act → World → Prop} {Q : Exit → Act → World → Prop} {g : Nat} {l0 l : List Int} (p x : Operand) (ho : o.op = .store 26 p x) (k : Lies w g 26 (sv l0)) (e0 : l0.length = 20) (e : l.length = 20)
    (hp : a.eval p = .pointer (some ⟨g, 0, none⟩)) (hx : a.eval x = .agg (darr l)) (H : ∀ w', Lies w' g 26 (sv l) → w.grownBy w' (some g) → Below g w w' → w'.heap.size = w.heap.size → K (a.put o.dst undef) w') : Oper.wp Tryd.prog o a w K Q := by
  refine wp_store_mid (P := Tryd.prog) 26 p x ho g 0 _ hp hx (fun j hj => ⟨?_, k.free _⟩) (by rw [show (darr l).size = (sv l).length from by simp [darr, sv]]; exact info20l e) (sv_all l) (H _ ?_ (far_cells _ _ (World.grownBy.refl _ _)) (below_cells (Nat.le_refl _) _ _ (Below.refl _ _)) (size_cells _ _ _ _))
  · rw [k.cell, List.getElem?_eq_getElem (by simp only [darr, List.size_toArray, List.length_map] at hj; simp [sv]; omega)]; rfl
  · have := heap_setCells_row g 26 (darr l).toList 0 w _ k
    unfold Lies
    rw [this, setMany_all _ _ (by simp [sv, darr, e0, e])]; rfl
section
variable {P : Program} {ops : Array Oper} {Q : Exit → Act → World → Prop} {S : World → Prop}
/-- Two new blocks in either order: they are two, and new. -/
theorem ord_new2b (R : Roads S Grows) {n : Nat} {l : Array Bool} {a : Act} {w : World} (i j : Nat) {o u : Oper} (vo vu : Nat → Value) (xo xu : Obj)
    (hr : Region.ready .any ops l = [i, j]) (hri : Region.ready .any ops (l.setIfInBounds i true) = [j]) (hrj : Region.ready .any ops (l.setIfInBounds j true) = [i]) (ho : ops[i]? = some o) (hu : ops[j]? = some u)
    (hap : (o.apart ops u && u.apart ops o) = true) (hs : Region.noSelect ops = true) (hw : Region.wanted o (yielded ops a.tmps) = true) (hw2 : Region.wanted u (yielded ops a.tmps) = true)
    (eo : ∀ W, (execOp a.eval o).run P W = .ok (.value (vo W.heap.size)) (W.alloc xo)) (eu : ∀ W, (execOp a.eval u).run P W = .ok (.value (vu W.heap.size)) (W.alloc xu))
    (h : ∀ x y W, Grows w W → S W → W.heap[x]? = some xo → W.heap[y]? = some xu → w.heap.size ≤ x → w.heap.size ≤ y → x ≠ y → Ord P ops Q S Grows n ((l.setIfInBounds i true).setIfInBounds j true) ((a.put o.dst (vo x)).put u.dst (vu y)) W) : Ord P ops Q S Grows (n + 2) l a w := by
  simp only [Bool.and_eq_true] at hap
  obtain ⟨p1, p2, p3⟩ := Oper.apart_spec hap.1
  have so := Region.noSelect_spec hs i o
  have su := Region.noSelect_spec hs j u
  refine ord_two R i j hr ho hu hw hw2 (fun W hW hS K hK => ?_) (fun W hW hS K hK => ?_)
  · unfold Oper.wp
    rw [eo W]
    refine hK _ _ (R.keep (grows_alloc W xo) hS) ?_
    refine ord_one R j hri hu (by rw [wanted_put u a o.dst _ p1]; exact hw2) (fun W1 hW1 hS1 K1 hK1 => ?_)
    unfold Oper.wp
    rw [execOp_put u (fun cs b => su cs b hu) a o.dst _ p1, eu W1]
    refine hK1 _ _ (R.keep (grows_alloc W1 xu) hS1) ?_
    have g1 : Grows w (W1.alloc xu) := R.trans (R.trans hW (grows_alloc W xo)) (R.trans hW1 (grows_alloc W1 xu))
    have z1 : w.heap.size ≤ W.heap.size := hW.size
    have z2 : W.heap.size + 1 ≤ W1.heap.size := by have := hW1.size; rw [World.size_alloc] at this; exact this
    exact h _ _ _ g1 (R.keep (grows_alloc W1 xu) hS1) (block_past (block_past (heap_alloc_new W xo) hW1) (grows_alloc W1 xu)) (heap_alloc_new W1 xu) z1 (by omega) (by omega)
  · unfold Oper.wp
    rw [eu W]
    refine hK _ _ (R.keep (grows_alloc W xu) hS) ?_
    refine ord_one R i hrj ho (by rw [wanted_put o a u.dst _ p3]; exact hw) (fun W1 hW1 hS1 K1 hK1 => ?_)
    unfold Oper.wp
    rw [execOp_put o (fun cs b => so cs b ho) a u.dst _ p3, eo W1]
    refine hK1 _ _ (R.keep (grows_alloc W1 xo) hS1) ?_
    have g1 : Grows w (W1.alloc xo) := R.trans (R.trans hW (grows_alloc W xu)) (R.trans hW1 (grows_alloc W1 xo))
    have z1 : w.heap.size ≤ W.heap.size := hW.size
    have z2 : W.heap.size + 1 ≤ W1.heap.size := by have := hW1.size; rw [World.size_alloc] at this; exact this
    have := h _ _ _ g1 (R.keep (grows_alloc W1 xo) hS1) (heap_alloc_new W1 xo) (block_past (block_past (heap_alloc_new W xu) hW1) (grows_alloc W1 xo)) (by omega) z1 (by omega)
    rw [← Act.put_comm a _ _ p2] 
    by_cases hij : i = j
    · subst hij; exact this
    · rw [Array.setIfInBounds_comm _ _ (Ne.symm hij)]; exact this
end
theorem goD_take (d : List Int) (ss : List Bool) (l : List (List Int)) (k : Nat) (h1 : k < ss.length) (h2 : k < l.length) : goD d (ss.take (k + 1)) (l.take (k + 1)) = if ss.getD k false then nodeD (l.getD k zd) (goD d (ss.take k) (l.take k)) else nodeD (goD d (ss.take k) (l.take k)) (l.getD k zd) := by
  rw [gd false ss k h1, gd zd l k h2]
  exact up_take nodeD d ss l k h1 h2
set_option maxHeartbeats 6400000 in
theorem Up_any (n i : Int) (d : List Int) (ls : List (List Int)) (A : Option Addr) (L c : Nat) (w : World) (hT : Tab w) (hn1 : -9223372036854775808 ≤ n) (hn2 : n ≤ 9223372036854775807) (hi1 : -9223372036854775808 ≤ i) (hi2 : i ≤ 9223372036854775807) (hd : IsD d) (hA : HasD w A ls) (hl : ls.length = L) (hc : L ≤ c) (hm : c ≤ 9223372036854775807) :
    Calls Tryd.prog 19 #[.int .i64 n, .int .i64 i, .agg (darr d), .slice A L c] w fun e w' => e = .returned (.tuple #[.agg (darr (goV n i d ls)), .int .i64 (goE n i ls)]) ∧ Below w.heap.size w w' := by
  have HT := Lib.hid hT
  (have HD := Lib.hid hd; have HA := Lib.hid hA; have HL := Lib.hid hl; have HC := Lib.hid (And.intro hc hm); have L9 : (L : Int) ≤ 9223372036854775807 := (by omega); have G1 := bnew w (.cells (darr d) 26); have S1 : (w.alloc (.cells (darr d) 26)).heap.size = w.heap.size + 1 := (by simp); have G2 := bnew (w.alloc (.cells (darr d) 26)) (.cells #[.int .u8 0, .int .u8 0, .int .u8 0, .int .u8 0, .int .u8 0, .int .u8 0, .int .u8 0, .int .u8 0, .int .u8 0, .int .u8 0, .int .u8 0, .int .u8 0, .int .u8 0, .int .u8 0, .int .u8 0, .int .u8 0, .int .u8 0, .int .u8 0, .int .u8 0, .int .u8 0] 26); have LB := Lib.hid ((at_box (w := w) (d := d) rfl).past G2); have LZ := Lib.hid (z20_at (w.alloc (.cells (darr d) 26)) S1); have B0 := Lib.hid (bb G1 G2); have S0 : Hid (((w.alloc (.cells (darr d) 26)).alloc (.cells #[.int .u8 0, .int .u8 0, .int .u8 0, .int .u8 0, .int .u8 0, .int .u8 0, .int .u8 0, .int .u8 0, .int .u8 0, .int .u8 0, .int .u8 0, .int .u8 0, .int .u8 0, .int .u8 0, .int .u8 0, .int .u8 0, .int .u8 0, .int .u8 0, .int .u8 0, .int .u8 0] 26)).heap.size = w.heap.size + 2) := Lib.hid (by simp))
  have R := Lib.hid (fun w => sidesOf_any n i w hn1 hn2 hi1 hi2)
  have HSL := Lib.hid (sd_len n i)
  clear hd hA hl hc hm G1 G2 S1 hn1 hn2 hi1 hi2 hT
  go_enter Tryd.func19, Tryd.ntmps19
  go_upto_region 1 with fail
  generalize ((w.alloc (.cells (darr d) 26)).alloc (.cells #[.int .u8 0, .int .u8 0, .int .u8 0, .int .u8 0, .int .u8 0, .int .u8 0, .int .u8 0, .int .u8 0, .int .u8 0, .int .u8 0, .int .u8 0, .int .u8 0, .int .u8 0, .int .u8 0, .int .u8 0, .int .u8 0, .int .u8 0, .int .u8 0, .int .u8 0, .int .u8 0] 26)) = w0 at *
  go_wp2_with fail
  refine (R.out _).mono ?_
  rintro e w1 ⟨SA, sc, rfl, o1, b1⟩
  have B1 := Lib.hid (bb B0.out b1)
  have LB1 := Lib.hid (LB.out.past b1)
  have LZ1 := Lib.hid (LZ.out.past b1)
  have O1 := Lib.hid o1
  clear b1 o1 B0 LB LZ R
  cases ho : okN n i
  · have HV := Lib.hid (sd_no ho)
    have HU := Lib.hid (go_no (ls := ls) (d := d) ho)
    clear ho
    rw [HV.out.2]
    go_wp2_with (show wpList _ _ _ ({ dst := none, op := Op.store 26 _ _, type := _, pos := _, after := _, guard := _ } :: _) _ _; go_must (refine trW.wp_st (g := (w.heap.size + 1)) (l := zd) (by rfl) _ _ rfl (LZ1.out) (zd_isD.len) (zd_isD.len) rfl rfl ?_); intro w9 hR9 hg9 hb9 hz9)
    refine bodyPost_ret (trW.ret_d (by exact Tryd.results19) _ _ _ (zd_isD.len) rfl (hR9)) rfl ?_
    exact ⟨by rw [HU.out.1, HU.out.2]; rfl, B1.out.trans (hb9.mono (by omega))⟩
  have HV := Lib.hid (sd_yes ho)
  rw [HV.out.2]
  by_cases cl : L = (sdL n i).length
  case neg =>
    have HU := Lib.hid (go_bad (d := d) ho (by rw [HL.out]; exact cl))
    obtain ⟨T, hT⟩ : ∃ T, (sdL n i).length = T := ⟨_, rfl⟩
    rw [hT] at HSL cl ⊢
    have l1 : ¬ (L : Int) = (T : Int) := by omega
    clear ho cl
    go_wp2_with (show wpList _ _ _ ({ dst := none, op := Op.store 26 _ _, type := _, pos := _, after := _, guard := _ } :: _) _ _; go_must (refine trW.wp_st (g := (w.heap.size + 1)) (l := zd) (by rfl) _ _ rfl (LZ1.out) (zd_isD.len) (zd_isD.len) rfl rfl ?_); intro w9 hR9 hg9 hb9 hz9)
    refine bodyPost_ret (trW.ret_d (by exact Tryd.results19) _ _ _ (zd_isD.len) rfl (hR9)) rfl ?_
    exact ⟨by rw [HU.out.1, HU.out.2]; rfl, B1.out.trans (hb9.mono (by omega))⟩
  case pos =>
    have HU := Lib.hid (go_yes (d := d) ho (by rw [HL.out]; exact cl))
    have HO1 := Lib.hid O1.out
    rw [← cl] at HO1 HSL ⊢
    have HSS : Hid ((sdL n i).length = L) := Lib.hid cl.symm
    generalize sdL n i = ss at *
    have L10 : (L : Int) ≤ 10 := by have := HSL.out; omega
    clear ho cl O1 HV
    go_upto_region 6 with fail
    have Y1 := Lib.hid (z20_at w1 rfl)
    have G1 := bnew w1 (.cells #[.int .u8 0, .int .u8 0, .int .u8 0, .int .u8 0, .int .u8 0, .int .u8 0, .int .u8 0, .int .u8 0, .int .u8 0, .int .u8 0, .int .u8 0, .int .u8 0, .int .u8 0, .int .u8 0, .int .u8 0, .int .u8 0, .int .u8 0, .int .u8 0, .int .u8 0, .int .u8 0] 26)
    have B2 := Lib.hid (bb B1.out G1)
    have LZ2 := Lib.hid (LZ1.out.past G1)
    have O2 := Lib.hid (HO1.out.past G1)
    have AP := Lib.hid (HO1.out.apart (g := w1.heap.size) (Nat.le_refl _))
    have LT1 := Lib.hid LB1.out.lt
    have LT2 := Lib.hid LZ1.out.lt
    have LE1 := Lib.hid B1.out.size
    clear G1 LZ1 B1 HO1
    go_upto_region 7 with (first | (show wpList _ _ _ ({ dst := _, op := Op.load 26 (.tmp 6), type := _, pos := _, after := _, guard := _ } :: _) _ _; go_must (refine trW.wp_l0 (l := d) (by rfl) _ rfl (LB1.out) (HD.out.len) rfl ?_)) | (show wpList _ _ _ ({ dst := none, op := Op.store 26 (.tmp 12) _, type := _, pos := _, after := _, guard := _ } :: _) _ _; go_must (refine trW.wp_st (g := w1.heap.size) (l := d) (by rfl) _ _ rfl (Y1.out) (zd_isD.len) (HD.out.len) rfl rfl ?_); intro w2 hR2 hg2 hb2 hz2; have R2 := Lib.hid hR2; have LZ3 := Lib.hid (LZ2.out.far hg2 (show w.heap.size + 1 ≠ w1.heap.size by have := LT2.out; omega)); have B3 := Lib.hid (B2.out.trans (hb2.mono LE1.out)); have O3 := Lib.hid (O2.out.kept hg2 AP.out); clear hR2 hg2 hb2 hz2 B2 LZ2 O2 LB1 Y1))
    rename World => w2
    obtain ⟨gs, hgs⟩ : ∃ gs, w1.heap.size = gs := ⟨_, rfl⟩
    rw [hgs] at R2 AP LT2 LE1 ⊢
    clear hgs LT1
    go_wp2_with fail
    go_loopw [36] (fun iv wr => ∃ k : Nat, k ≤ L ∧ iv = .int .i64 (k : Int) ∧ Lies wr gs 26 (sv (goD d (ss.take k) (ls.take k))) ∧ Lies wr (w.heap.size + 1) 26 (sv zd) ∧ OwnB wr w0.heap.size (.slice SA L sc) ss ∧ Below w.heap.size w wr) (fun iv _ => L - (intOf iv).toNat)
    case atStart => exact ⟨0, Nat.zero_le _, rfl, by rw [List.take_zero, List.take_zero]; exact R2.out, LZ3.out, O3.out, B3.out⟩
    case round =>
      clear R2 LZ3 O3 B3
      obtain ⟨k, hk, rfl, sum, res, own, acc⟩ := hrel
      have HSD := Lib.hid (goD_isD HD.out (ss.take k) (ls.take k))
      have HACC := Lib.hid acc
      have HR := Lib.hid res
      have HO := Lib.hid own
      by_cases hlt : k < L
      · obtain ⟨gr, rfl, hgr1, hgr2⟩ := own.spot (by omega)
        have HX := Lib.hid (goD_take d ss ls k (by rw [HSS.out]; exact hlt) (by rw [HL.out]; exact hlt))
        have HSUM := Lib.hid sum
        have x1 := own.cell (i := k) (by omega)
        obtain ⟨b, off, rfl, hb⟩ := HA.out.some (by rw [HL.out]; omega)
        have X2 := Lib.hid (fun x' (h : Below w.heap.size w x') => (HA.out.past h).rng rfl (i := k) (by rw [HL.out]; exact hlt))
        have HP := Lib.hid (HA.out.d.getz k)
        generalize ls.getD k zd = p at *
        generalize ss.getD k false = bv at *
        generalize goD d (ss.take k) (ls.take k) = s at *
        have HLT := Lib.hid hlt
        have k1 : (k : Int) < L := by omega
        have k0 : 0 ≤ (k : Int) := by omega
        have HGR := Lib.hid hgr2
        clear acc res own hk hlt sum hgr1 hgr2 hb
        go_upto_region 10 with fail
        (have RD := grows_roads (S := fun x' => Below wr.heap.size wr x') (fun a b h1 h2 => h2.trans (h1.mono h2.size))); refine region_ord _ Grows RD (Below.drew (Below.refl _ _)) (by kernel_rfl) ?_; intro ops Q' hops hPQ hN; (have HNS : Hid (Region.noSelect ops = true) := Lib.hid (by rw [hops]; kernel_rfl)); (have hsz : ops.size = 9 := (by rw [hops]; rfl)); have HOP := Lib.hid hops; have HPQ := Lib.hid hPQ; have HN := Lib.hid hN; rw [hsz]; clear hops hsz hPQ hN
        refine ord_take RD 0 (at_list (by rw [HOP.out]; rfl)) HNS.out HPQ.out (by rw [HOP.out]; kernel_rfl) (by rw [HOP.out]; kernel_rfl) (by rw [HOP.out]; rfl) (fun K hK => ?_); apply Exists.intro; refine ⟨fun W hSW => ?_, hK _ ?_⟩; (focus ((try dsimp only at hSW); exact trW.quiet_ld (l := s) _ rfl (rng_lies (HSUM.out.past hSW)) (HSD.out.len) rfl)); clear hK K; (try simp only [Act.put, List.setIfInBounds_toArray, List.set_cons_zero, List.set_cons_succ])
        refine ord_take RD 1 (at_list (by rw [HOP.out]; rfl)) HNS.out HPQ.out (by rw [HOP.out]; kernel_rfl) (by rw [HOP.out]; kernel_rfl) (by rw [HOP.out]; rfl) (fun K hK => ?_); apply Exists.intro; refine ⟨fun W hSW => ?_, hK _ ?_⟩; (focus ((try dsimp only at hSW); go_simp; try with_reducible rfl)); clear hK K; (try simp only [Act.put, List.setIfInBounds_toArray, List.set_cons_zero, List.set_cons_succ])
        refine ord_take RD 2 (at_list (by rw [HOP.out]; rfl)) HNS.out HPQ.out (by rw [HOP.out]; kernel_rfl) (by rw [HOP.out]; kernel_rfl) (by rw [HOP.out]; rfl) (fun K hK => ?_); apply Exists.intro; refine ⟨fun W hSW => ?_, hK _ ?_⟩; (focus ((try dsimp only at hSW); go_simp; try with_reducible rfl)); clear hK K; (try simp only [Act.put, List.setIfInBounds_toArray, List.set_cons_zero, List.set_cons_succ])
        refine ord_take RD 3 (at_list (by rw [HOP.out]; rfl)) HNS.out HPQ.out (by rw [HOP.out]; kernel_rfl) (by rw [HOP.out]; kernel_rfl) (by rw [HOP.out]; rfl) (fun K hK => ?_); apply Exists.intro; refine ⟨fun W hSW => ?_, hK _ ?_⟩; (focus ((try dsimp only at hSW); go_simp; try with_reducible rfl)); clear hK K; (try simp only [Act.put, List.setIfInBounds_toArray, List.set_cons_zero, List.set_cons_succ])
        refine ord_take RD 4 (at_list (by rw [HOP.out]; rfl)) HNS.out HPQ.out (by rw [HOP.out]; kernel_rfl) (by rw [HOP.out]; kernel_rfl) (by rw [HOP.out]; rfl) (fun K hK => ?_); apply Exists.intro; refine ⟨fun W hSW => ?_, hK _ ?_⟩; (focus ((try dsimp only at hSW); exact trW.quiet_ld (l := p) _ rfl (X2.out _ (bb HACC.out hSW)) (HP.out.len) rfl)); clear hK K; (try simp only [Act.put, List.setIfInBounds_toArray, List.set_cons_zero, List.set_cons_succ])
        refine ord_new2b RD 5 6 (fun g => .pointer (some ⟨g, 0, none⟩)) (fun g => .pointer (some ⟨g, 0, none⟩)) (.cells #[.int .u8 0, .int .u8 0, .int .u8 0, .int .u8 0, .int .u8 0, .int .u8 0, .int .u8 0, .int .u8 0, .int .u8 0, .int .u8 0, .int .u8 0, .int .u8 0, .int .u8 0, .int .u8 0, .int .u8 0, .int .u8 0, .int .u8 0, .int .u8 0, .int .u8 0, .int .u8 0] 26) (.cells #[.int .u8 0, .int .u8 0, .int .u8 0, .int .u8 0, .int .u8 0, .int .u8 0, .int .u8 0, .int .u8 0, .int .u8 0, .int .u8 0, .int .u8 0, .int .u8 0, .int .u8 0, .int .u8 0, .int .u8 0, .int .u8 0, .int .u8 0, .int .u8 0, .int .u8 0, .int .u8 0] 26) (by rw [HOP.out]; kernel_rfl) (by rw [HOP.out]; kernel_rfl) (by rw [HOP.out]; kernel_rfl) (at_list (by rw [HOP.out]; rfl)) (at_list (by rw [HOP.out]; rfl)) (by rw [HOP.out]; kernel_rfl) HNS.out (by rw [HOP.out]; rfl) (by rw [HOP.out]; rfl) (fun W => by go_simp) (fun W => by go_simp) ?_
        intro g1 g2 V hV hSV hg1 hg2 hn1 hn2 hn3
        have HN3 := Lib.hid (And.intro hn1 (And.intro hn2 hn3))
        (try simp only [Act.put, List.setIfInBounds_toArray, List.set_cons_zero, List.set_cons_succ])
        refine ord_one RD 7 (by rw [HOP.out]; kernel_rfl) (at_list (by rw [HOP.out]; rfl)) (by rw [HOP.out]; rfl) (fun W1 hWW hSW K hK => ?_); (try dsimp only at hSW)
        have K1 : Lies W1 g1 26 (sv zd) := block_past hg1 hWW
        have K2 : Lies W1 g2 26 (sv zd) := block_past hg2 hWW
        refine op_st (g := g1) (l := s) _ _ rfl K1 zd_isD.len HSD.out.len rfl rfl ?_
        intro V7 l7 gr7 b7 z7
        refine hK _ _ (hSW.trans (b7.mono HN3.out.1)) ?_
        have L7 := Lib.hid l7
        have M7 := Lib.hid (K2.far gr7 (Ne.symm HN3.out.2.2))
        clear hSW hWW l7 gr7 b7 z7 hV hSV hg1 hg2 hn1 hn2 hn3 K1 K2
        clear hK K; (try simp only [Act.put, List.setIfInBounds_toArray, List.set_cons_zero, List.set_cons_succ])
        refine ord_one RD 8 (by rw [HOP.out]; kernel_rfl) (at_list (by rw [HOP.out]; rfl)) (by rw [HOP.out]; rfl) (fun W2 hWW hSW K hK => ?_); (try dsimp only at hSW)
        refine op_st (g := g2) (l := p) _ _ rfl (M7.out.past hWW) zd_isD.len HP.out.len rfl rfl ?_
        intro V8 l8 gr8 b8 z8
        refine hK _ _ (hSW.trans (b8.mono HN3.out.2.1)) ?_
        have M8 := Lib.hid l8
        have L8 := Lib.hid ((L7.out.past hWW).far gr8 HN3.out.2.2)
        clear hSW hWW l8 gr8 b8 z8 L7 M7
        clear hK K; (try simp only [Act.put, List.setIfInBounds_toArray, List.set_cons_zero, List.set_cons_succ])
        refine ord_done (by rw [HOP.out]; kernel_rfl) (fun W3 hWW hSW => HN.out _ _ ?_); clear HOP HNS HPQ HN RD; (try dsimp only at hSW)
        have A1 := Lib.hid (L8.out.past hWW)
        have A2 := Lib.hid (M8.out.past hWW)
        have SUM := Lib.hid (HSUM.out.past hSW)
        have RES := Lib.hid (HR.out.past hSW)
        have OWN := Lib.hid (HO.out.past hSW)
        have ACC := Lib.hid (bb HACC.out hSW)
        have N1 : Hid (wr.heap.size ≤ g1 ∧ wr.heap.size ≤ g2 ∧ g1 ≠ g2) := Lib.hid HN3.out
        have LTS := Lib.hid HSUM.out.lt
        have LTR := Lib.hid HR.out.lt
        have LTO := Lib.hid HGR.out
        have LTA := Lib.hid HACC.out.size
        clear hSW hWW L8 M8 HSUM HR HO HACC HN3
        cases bv
        · (go_wp2_with (first | (show wpList _ _ _ ({ dst := _, op := Op.load 26 (.tmp 15), type := _, pos := _, after := _, guard := _ } :: _) _ _; go_must (refine trW.wp_l0 (l := s) (by rfl) _ rfl (A1.out) (HSD.out.len) rfl ?_)) | (show wpList _ _ _ ({ dst := _, op := Op.load 26 (.tmp 16), type := _, pos := _, after := _, guard := _ } :: _) _ _; go_must (refine trW.wp_l0 (l := p) (by rfl) _ rfl (A2.out) (HP.out.len) rfl ?_))); refine (node_any s p _ (HT.out.below ACC.out (Nat.le_refl _)) HSD.out HP.out).mono ?_; rintro e w5 ⟨rfl, b5⟩; have SUM5 := Lib.hid (SUM.out.past b5); have RES5 := Lib.hid (RES.out.past b5); have OWN5 := Lib.hid (OWN.out.past b5); have ACC5 := Lib.hid (bb ACC.out b5); have HN5 := Lib.hid (node_isD s p); clear b5 SUM RES OWN ACC A1 A2; go_wp2_with ((show wpList _ _ _ ({ dst := none, op := Op.store 26 (.tmp 12) _, type := _, pos := _, after := _, guard := _ } :: _) _ _; go_must (refine trW.wp_st (g := gs) (l := nodeD s p) (by rfl) _ _ rfl (SUM5.out) (HSD.out.len) (HN5.out.len) rfl rfl ?_); intro w6 hR6 hg6 hb6 hz6)); refine ⟨⟨k + 1, HLT.out, by go_num, by rw [HX.out]; exact hR6, RES5.out.far hg6 (by have := LT2.out; omega), OWN5.out.kept hg6 AP.out, ACC5.out.trans (hb6.mono LE1.out)⟩, by simp [intOf]; have := HLT.out; omega⟩)
        · go_upto_region 13 with (first | (show wpList _ _ _ ({ dst := _, op := Op.load 26 (.tmp 16), type := _, pos := _, after := _, guard := _ } :: _) _ _; go_must (refine trW.wp_l0 (l := p) (by rfl) _ rfl (A2.out) (HP.out.len) rfl ?_)) | (show wpList _ _ _ ({ dst := _, op := Op.load 26 (.tmp 15), type := _, pos := _, after := _, guard := _ } :: _) _ _; go_must (refine trW.wp_l0 (l := s) (by rfl) _ rfl (A1.out) (HSD.out.len) rfl ?_)) | (show wpList _ _ _ ({ dst := none, op := Op.store 26 (.tmp 15) _, type := _, pos := _, after := _, guard := _ } :: _) _ _; go_must (refine trW.wp_st (g := g1) (l := p) (by rfl) _ _ rfl (A1.out) (HSD.out.len) (HP.out.len) rfl rfl ?_); intro w4 hR4 hg4 hb4 hz4; have C1 := Lib.hid hR4; have A2' := Lib.hid (A2.out.far hg4 (Ne.symm N1.out.2.2)); have SUM' := Lib.hid (SUM.out.far hg4 (by have := LTS.out; have := N1.out; omega)); have RES' := Lib.hid (RES.out.far hg4 (by have := LTR.out; have := N1.out; omega)); have OWN' := Lib.hid (OWN.out.kept hg4 (fun e => by injection e with e; have e : gr = g1 := e; have := LTO.out; have := N1.out; omega)); have ACC' := Lib.hid (ACC.out.trans (hb4.mono (by have := LTA.out; have := N1.out; omega))); clear hR4 hg4 hb4 hz4 A1 A2 SUM RES OWN ACC) | (show wpList _ _ _ ({ dst := none, op := Op.store 26 (.tmp 16) _, type := _, pos := _, after := _, guard := _ } :: _) _ _; go_must (refine trW.wp_st (g := g2) (l := s) (by rfl) _ _ rfl (A2'.out) (HP.out.len) (HSD.out.len) rfl rfl ?_); intro w5 hR5 hg5 hb5 hz5; have A2 := Lib.hid hR5; have A1 := Lib.hid (C1.out.far hg5 N1.out.2.2); have SUM := Lib.hid (SUM'.out.far hg5 (by have := LTS.out; have := N1.out; omega)); have RES := Lib.hid (RES'.out.far hg5 (by have := LTR.out; have := N1.out; omega)); have OWN := Lib.hid (OWN'.out.kept hg5 (fun e => by injection e with e; have e : gr = g2 := e; have := LTO.out; have := N1.out; omega)); have ACC := Lib.hid (ACC'.out.trans (hb5.mono (by have := LTA.out; have := N1.out; omega))); clear hR5 hg5 hb5 hz5 C1 A2' SUM' RES' OWN' ACC'))
          (go_wp2_with (first | (show wpList _ _ _ ({ dst := _, op := Op.load 26 (.tmp 15), type := _, pos := _, after := _, guard := _ } :: _) _ _; go_must (refine trW.wp_l0 (l := p) (by rfl) _ rfl (A1.out) (HP.out.len) rfl ?_)) | (show wpList _ _ _ ({ dst := _, op := Op.load 26 (.tmp 16), type := _, pos := _, after := _, guard := _ } :: _) _ _; go_must (refine trW.wp_l0 (l := s) (by rfl) _ rfl (A2.out) (HSD.out.len) rfl ?_))); refine (node_any p s _ (HT.out.below ACC.out (Nat.le_refl _)) HP.out HSD.out).mono ?_; rintro e w5 ⟨rfl, b5⟩; have SUM5 := Lib.hid (SUM.out.past b5); have RES5 := Lib.hid (RES.out.past b5); have OWN5 := Lib.hid (OWN.out.past b5); have ACC5 := Lib.hid (bb ACC.out b5); have HN5 := Lib.hid (node_isD p s); clear b5 SUM RES OWN ACC A1 A2; go_wp2_with ((show wpList _ _ _ ({ dst := none, op := Op.store 26 (.tmp 12) _, type := _, pos := _, after := _, guard := _ } :: _) _ _; go_must (refine trW.wp_st (g := gs) (l := nodeD p s) (by rfl) _ _ rfl (SUM5.out) (HSD.out.len) (HN5.out.len) rfl rfl ?_); intro w6 hR6 hg6 hb6 hz6)); refine ⟨⟨k + 1, HLT.out, by go_num, by rw [HX.out]; exact hR6, RES5.out.far hg6 (by have := LT2.out; omega), OWN5.out.kept hg6 AP.out, ACC5.out.trans (hb6.mono LE1.out)⟩, by simp [intOf]; have := HLT.out; omega⟩)
      · have k1 : ¬ (k : Int) < L := by omega
        have HSUM : Hid (Lies wr gs 26 (sv (goD d ss ls))) := Lib.hid (by
          rw [List.take_of_length_le (by rw [HSS.out]; omega), List.take_of_length_le (by rw [HL.out]; omega)] at sum; exact sum)
        have HGD := Lib.hid (goD_isD HD.out ss ls)
        clear acc res own hk hlt sum
        go_wp2_with (first | (show wpList _ _ _ ({ dst := _, op := Op.load 26 (.tmp 12), type := _, pos := _, after := _, guard := _ } :: _) _ _; go_must (refine trW.wp_l0 (l := goD d ss ls) (by rfl) _ rfl (HSUM.out) (HGD.out.len) rfl ?_)) | (show wpList _ _ _ ({ dst := none, op := Op.store 26 _ _, type := _, pos := _, after := _, guard := _ } :: _) _ _; go_must (refine trW.wp_st (g := (w.heap.size + 1)) (l := goD d ss ls) (by rfl) _ _ rfl (HR.out) (zd_isD.len) (HGD.out.len) rfl rfl ?_); intro w9 hR9 hg9 hb9 hz9))
        refine bodyPost_ret (trW.ret_d (by exact Tryd.results19) _ _ _ (HGD.out.len) rfl (hR9)) rfl ?_
        exact ⟨by rw [HU.out.1, HU.out.2]; rfl, HACC.out.trans (hb9.mono (by omega))⟩
end Go.Proofs.YtjdgobfjpjnhgaaDoor.trW

namespace Go.Proofs.YtjdgobfjpjnhgaaDoor.trW
set_option maxRecDepth 100000
open Go.RowKit Go.Proofs.YtjdgobfjpjnhgaaDoor.base Go.Proofs.YtjdgobfjpjnhgaaDoor.shP Go.Proofs.YtjdgobfjpjnhgaaDoor.shW Go.Proofs.YtjdgobfjpjnhgaaDoor.trP
set_option linter.unusedVariables false
set_option linter.unusedSimpArgs false
set_option maxRecDepth 100000
theorem goE_cases (n i : Int) (ls : List (List Int)) : goE n i ls = 0 ∨ goE n i ls = 2 ∨ goE n i ls = 12 := by
  unfold goE; split
  · split <;> simp
  · simp
def vE (n i : Int) (b : List Int) (ls : List (List Int)) : Int := if lfB b then goE n i ls else 4
def vB (r : List Int) (n i : Int) (b : List Int) (ls : List (List Int)) : Bool := lfB b && decide (goE n i ls = 0) && decide (goV n i (leafD b) ls = r)
theorem v_no {r : List Int} {n i : Int} {b : List Int} {ls : List (List Int)} (h : ¬ b.length ≤ 10000) : vE n i b ls = 4 ∧ vB r n i b ls = false := by
  have : lfB b = false := by unfold lfB; simpa using h
  exact ⟨by rw [vE, if_neg (by rw [this]; decide)], by rw [vB, this]; rfl⟩
theorem v_err {r : List Int} {n i : Int} {b : List Int} {ls : List (List Int)} (h : b.length ≤ 10000) (e : goE n i ls ≠ 0) : vE n i b ls = goE n i ls ∧ vB r n i b ls = false := by
  have : lfB b = true := by unfold lfB; simpa using h
  exact ⟨by rw [vE, if_pos this], by rw [vB, this, decide_eq_false e]; rfl⟩
theorem v_ok {r : List Int} {n i : Int} {b : List Int} {ls : List (List Int)} (h : b.length ≤ 10000) (e : goE n i ls = 0) : vE n i b ls = 0 ∧ vB r n i b ls = decide (goV n i (leafD b) ls = r) := by
  have : lfB b = true := by unfold lfB; simpa using h
  exact ⟨by rw [vE, if_pos this, e], by rw [vB, this, decide_eq_true e]; rfl⟩
set_option maxHeartbeats 3200000 in
theorem Verify_any (r : List Int) (n i : Int) (b : List Int) (ls : List (List Int)) (BA : Option Addr) (nb cb : Nat) (A : Option Addr) (L c : Nat) (w : World) (hT : Tab w) (hr : IsD r) (hn1 : -9223372036854775808 ≤ n) (hn2 : n ≤ 9223372036854775807) (hi1 : -9223372036854775808 ≤ i) (hi2 : i ≤ 9223372036854775807)
    (hB : Has .u8 w BA b) (hbl : b.length = nb) (hbc : nb ≤ cb) (hbm : cb ≤ 9223372036854775807) (hbb : ∀ z ∈ b, 0 ≤ z ∧ z ≤ 255) (hA : HasD w A ls) (hl : ls.length = L) (hc : L ≤ c) (hm : c ≤ 9223372036854775807) :
    Calls Tryd.prog 21 #[.agg (darr r), .int .i64 n, .int .i64 i, .slice BA nb cb, .slice A L c] w fun e w' => e = .returned (.tuple #[.bool (vB r n i b ls), .int .i64 (vE n i b ls)]) ∧ Below w.heap.size w w' := by
  have HT := Lib.hid hT
  (have n9 : (nb : Int) ≤ 9223372036854775807 := (by omega); have HR := Lib.hid hr; have HB := Lib.hid hB; have HBL := Lib.hid hbl; have HBC := Lib.hid (And.intro hbc hbm); have HBB := Lib.hid hbb; have HA := Lib.hid hA; have HL := Lib.hid hl; have HC := Lib.hid (And.intro hc hm); have B0 := Lib.hid (bnew w (.cells (darr r) 26)); have LR := Lib.hid (at_box (w := w) (d := r) rfl); have UP := Lib.hid (fun d hd w' (hw : Below w.heap.size w w') => (Up_any n i d ls A L c w' (hT.below hw (Nat.le_refl _)) hn1 hn2 hi1 hi2 hd (hA.past hw) hl hc hm)); have LF := Lib.hid (fun w' (hw : Below w.heap.size w w') => (Leaf_any b BA nb cb w' (hT.below hw (Nat.le_refl _)) (hB.below hw (Nat.le_refl _)) hbl hbc hbm hbb)); clear hr hB hbl hbc hbm hbb hA hl hc hm hn1 hn2 hi1 hi2)
  (go_enter Tryd.func21, Tryd.ntmps21; go_upto_region 1 with fail; generalize (w.alloc (.cells (darr r) 26)) = w0 at *; go_wp2_with fail; refine (LF.out _ B0.out).mono ?_; rintro e w1 ⟨rfl, b1⟩; have B1 := Lib.hid (bb B0.out b1); have LR1 := Lib.hid (LR.out.past b1); clear b1 B0 LR LF; have Y1 := Lib.hid (z20_at w1 rfl); have G1 := bnew w1 (.cells #[.int .u8 0, .int .u8 0, .int .u8 0, .int .u8 0, .int .u8 0, .int .u8 0, .int .u8 0, .int .u8 0, .int .u8 0, .int .u8 0, .int .u8 0, .int .u8 0, .int .u8 0, .int .u8 0, .int .u8 0, .int .u8 0, .int .u8 0, .int .u8 0, .int .u8 0, .int .u8 0] 26); have B2 := Lib.hid (bb B1.out G1); have LR2 := Lib.hid (LR1.out.past G1); have LT1 := Lib.hid LR1.out.lt; have LE1 := Lib.hid B1.out.size; clear G1 LR1 B1; by_cases cl : b.length ≤ 10000; (case neg => (have HV := Lib.hid (v_no (r := r) (n := n) (i := i) (ls := ls) cl); rw [(lf_no cl).1, (lf_no cl).2]; clear cl; go_wp2_with ((show wpList _ _ _ ({ dst := none, op := Op.store 26 (.tmp 12) _, type := _, pos := _, after := _, guard := _ } :: _) _ _; go_must (refine trW.wp_st (g := w1.heap.size) (l := zd) (by rfl) _ _ rfl (Y1.out) (zd_isD.len) (zd_isD.len) rfl rfl ?_); intro w2 hR2 hg2 hb2 hz2; have B3 := Lib.hid (B2.out.trans (hb2.mono LE1.out)))); go_ret2; exact ⟨by rw [HV.out.1, HV.out.2]; rfl, B3.out⟩)); (case pos => (have HV1 := Lib.hid (v_err (r := r) (n := n) (i := i) (ls := ls) cl); have HV2 := Lib.hid (v_ok (r := r) (n := n) (i := i) (ls := ls) cl); rw [(lf_yes cl).1, (lf_yes cl).2]; have HLD := Lib.hid (leaf_isD b); clear cl; go_wp2_with (first | (show wpList _ _ _ ({ dst := none, op := Op.store 26 (.tmp 12) _, type := _, pos := _, after := _, guard := _ } :: _) _ _; go_must (refine trW.wp_st (g := w1.heap.size) (l := leafD b) (by rfl) _ _ rfl (Y1.out) (zd_isD.len) (HLD.out.len) rfl rfl ?_); intro w2 hR2 hg2 hb2 hz2; have R2 := Lib.hid hR2; have B3 := Lib.hid (B2.out.trans (hb2.mono LE1.out)); have LR3 := Lib.hid (LR2.out.far hg2 (show w.heap.size ≠ w1.heap.size by have := LT1.out; omega)); clear hR2 hg2 hb2 hz2 B2 LR2 Y1) | (show wpList _ _ _ ({ dst := _, op := Op.load 26 (.tmp 12), type := _, pos := _, after := _, guard := _ } :: _) _ _; go_must (refine trW.wp_l0 (l := leafD b) (by rfl) _ rfl (R2.out) (HLD.out.len) rfl ?_))); refine (UP.out (leafD b) HLD.out _ B3.out).mono ?_; rintro e w3 ⟨rfl, b3⟩; have B4 := Lib.hid (bb B3.out b3); have LR4 := Lib.hid (LR3.out.past b3); clear b3 B3 LR3 UP R2; have HGV := Lib.hid (goV_isD n i HLD.out ls); have HGE := goE_cases n i ls; obtain ⟨x, hx⟩ : ∃ x, goV n i (leafD b) ls = x := ⟨_, rfl⟩; rw [hx] at HGV HV2 ⊢; have Y3 := Lib.hid (z20_at w3 rfl); have G3 := bnew w3 (.cells #[.int .u8 0, .int .u8 0, .int .u8 0, .int .u8 0, .int .u8 0, .int .u8 0, .int .u8 0, .int .u8 0, .int .u8 0, .int .u8 0, .int .u8 0, .int .u8 0, .int .u8 0, .int .u8 0, .int .u8 0, .int .u8 0, .int .u8 0, .int .u8 0, .int .u8 0, .int .u8 0] 26); have B5 := Lib.hid (bb B4.out G3); have LR5 := Lib.hid (LR4.out.past G3); have LT3 := Lib.hid LR4.out.lt; have LE3 := Lib.hid B4.out.size; have HXX := Lib.hid hx; clear G3 LR4 B4 hx; rcases HGE with he | he; (case inl => (have HV := Lib.hid (HV2.out he); rw [he]; clear he HV1 HV2; go_wp2_with (first | (show wpList _ _ _ ({ dst := none, op := Op.store 26 (.tmp 14) _, type := _, pos := _, after := _, guard := _ } :: _) _ _; go_must (refine trW.wp_st (g := w3.heap.size) (l := x) (by rfl) _ _ rfl (Y3.out) (zd_isD.len) (HGV.out.len) rfl rfl ?_); intro w4 hR4 hg4 hb4 hz4; have R4 := Lib.hid hR4; have B6 := Lib.hid (B5.out.trans (hb4.mono LE3.out)); have LR6 := Lib.hid (LR5.out.far hg4 (show w.heap.size ≠ w3.heap.size by have := LT3.out; omega)); clear hR4 hg4 hb4 hz4 B5 LR5 Y3) | (show wpList _ _ _ ({ dst := _, op := Op.load 26 (.tmp 14), type := _, pos := _, after := _, guard := _ } :: _) _ _; go_must (refine trW.wp_l0 (l := x) (by rfl) _ rfl (R4.out) (HGV.out.len) rfl ?_)) | (show wpList _ _ _ ({ dst := _, op := Op.load 26 (.tmp 5), type := _, pos := _, after := _, guard := _ } :: _) _ _; go_must (refine trW.wp_l0 (l := r) (by rfl) _ rfl (LR6.out) (HR.out.len) rfl ?_)) | (show wpList _ _ _ ({ dst := _, op := Op.binOp .eql 26 _ _ _, type := _, pos := _, after := _, guard := _ } :: _) _ _; go_must (refine trW.wp_eql (l := x) (m := r) (by rfl) _ _ _ rfl HGV.out HR.out rfl rfl ?_))); go_ret2; exact ⟨by rw [HV.out.1, HV.out.2]; rfl, B6.out⟩)); (case inr => (rcases he with he | he <;> (have HV := Lib.hid (HV1.out (by rw [he]; decide)); have HE := Lib.hid he; rw [he]; clear he HV1 HV2; go_wp2_with ((show wpList _ _ _ ({ dst := none, op := Op.store 26 (.tmp 14) _, type := _, pos := _, after := _, guard := _ } :: _) _ _; go_must (refine trW.wp_st (g := w3.heap.size) (l := x) (by rfl) _ _ rfl (Y3.out) (zd_isD.len) (HGV.out.len) rfl rfl ?_); intro w4 hR4 hg4 hb4 hz4; have B6 := Lib.hid (B5.out.trans (hb4.mono LE3.out)); clear hR4 hg4 hb4 hz4 B5 LR5 Y3)); go_ret2; exact ⟨by rw [HV.out.1, HV.out.2, HE.out]; rfl, B6.out⟩))))))
set_option maxHeartbeats 3200000 in
theorem rVerify_any (r : List Int) (n i : Int) (b : List Int) (ls : List (List Int)) (BA : Option Addr) (nb cb : Nat) (A : Option Addr) (L c : Nat) (w : World) (hr : IsD r) (hn1 : -9223372036854775808 ≤ n) (hn2 : n ≤ 9223372036854775807) (hi1 : -9223372036854775808 ≤ i) (hi2 : i ≤ 9223372036854775807)
    (hB : Has .u8 w BA b) (hbl : b.length = nb) (hbc : nb ≤ cb) (hbm : cb ≤ 9223372036854775807) (hbb : ∀ z ∈ b, 0 ≤ z ∧ z ≤ 255) (hA : HasD w A ls) (hl : ls.length = L) (hc : L ≤ c) (hm : c ≤ 9223372036854775807) :
    Calls Tryd.prog 22 #[.agg (darr r), .int .i64 n, .int .i64 i, .slice BA nb cb, .slice A L c] w fun e w' => e = .returned (.tuple #[.bool (vB r n i b ls), .int .i64 (vE n i b ls)]) ∧ Below w.heap.size w w' := by
  (have n9 : (nb : Int) ≤ 9223372036854775807 := (by omega); have HR := Lib.hid hr; have HB := Lib.hid hB; have HBL := Lib.hid hbl; have HBC := Lib.hid (And.intro hbc hbm); have HBB := Lib.hid hbb; have HA := Lib.hid hA; have HL := Lib.hid hl; have HC := Lib.hid (And.intro hc hm); have B0 := Lib.hid (bnew w (.cells (darr r) 26)); have LR := Lib.hid (at_box (w := w) (d := r) rfl); have UP := Lib.hid (fun d hd w' (hw : Below w.heap.size w w') => (rUp_any n i d ls A L c w' hn1 hn2 hi1 hi2 hd (hA.past hw) hl hc hm)); have LF := Lib.hid (fun w' (hw : Below w.heap.size w w') => (rLeaf_any b BA nb cb w' (hB.below hw (Nat.le_refl _)) hbl (by omega) hbb)); clear hr hB hbl hbc hbm hbb hA hl hc hm hn1 hn2 hi1 hi2)
  (go_enter Tryd.func22, Tryd.ntmps22; go_upto_region 1 with fail; generalize (w.alloc (.cells (darr r) 26)) = w0 at *; go_wp2_with fail; refine (LF.out _ B0.out).mono ?_; rintro e w1 ⟨rfl, b1⟩; have B1 := Lib.hid (bb B0.out b1); have LR1 := Lib.hid (LR.out.past b1); clear b1 B0 LR LF; have Y1 := Lib.hid (z20_at w1 rfl); have G1 := bnew w1 (.cells #[.int .u8 0, .int .u8 0, .int .u8 0, .int .u8 0, .int .u8 0, .int .u8 0, .int .u8 0, .int .u8 0, .int .u8 0, .int .u8 0, .int .u8 0, .int .u8 0, .int .u8 0, .int .u8 0, .int .u8 0, .int .u8 0, .int .u8 0, .int .u8 0, .int .u8 0, .int .u8 0] 26); have B2 := Lib.hid (bb B1.out G1); have LR2 := Lib.hid (LR1.out.past G1); have LT1 := Lib.hid LR1.out.lt; have LE1 := Lib.hid B1.out.size; clear G1 LR1 B1; by_cases cl : b.length ≤ 10000; (case neg => (have HV := Lib.hid (v_no (r := r) (n := n) (i := i) (ls := ls) cl); rw [(lf_no cl).1, (lf_no cl).2]; clear cl; go_wp2_with ((show wpList _ _ _ ({ dst := none, op := Op.store 26 (.tmp 12) _, type := _, pos := _, after := _, guard := _ } :: _) _ _; go_must (refine trW.wp_st (g := w1.heap.size) (l := zd) (by rfl) _ _ rfl (Y1.out) (zd_isD.len) (zd_isD.len) rfl rfl ?_); intro w2 hR2 hg2 hb2 hz2; have B3 := Lib.hid (B2.out.trans (hb2.mono LE1.out)))); go_ret2; exact ⟨by rw [HV.out.1, HV.out.2]; rfl, B3.out⟩)); (case pos => (have HV1 := Lib.hid (v_err (r := r) (n := n) (i := i) (ls := ls) cl); have HV2 := Lib.hid (v_ok (r := r) (n := n) (i := i) (ls := ls) cl); rw [(lf_yes cl).1, (lf_yes cl).2]; have HLD := Lib.hid (leaf_isD b); clear cl; go_wp2_with (first | (show wpList _ _ _ ({ dst := none, op := Op.store 26 (.tmp 12) _, type := _, pos := _, after := _, guard := _ } :: _) _ _; go_must (refine trW.wp_st (g := w1.heap.size) (l := leafD b) (by rfl) _ _ rfl (Y1.out) (zd_isD.len) (HLD.out.len) rfl rfl ?_); intro w2 hR2 hg2 hb2 hz2; have R2 := Lib.hid hR2; have B3 := Lib.hid (B2.out.trans (hb2.mono LE1.out)); have LR3 := Lib.hid (LR2.out.far hg2 (show w.heap.size ≠ w1.heap.size by have := LT1.out; omega)); clear hR2 hg2 hb2 hz2 B2 LR2 Y1) | (show wpList _ _ _ ({ dst := _, op := Op.load 26 (.tmp 12), type := _, pos := _, after := _, guard := _ } :: _) _ _; go_must (refine trW.wp_l0 (l := leafD b) (by rfl) _ rfl (R2.out) (HLD.out.len) rfl ?_))); refine (UP.out (leafD b) HLD.out _ B3.out).mono ?_; rintro e w3 ⟨rfl, b3⟩; have B4 := Lib.hid (bb B3.out b3); have LR4 := Lib.hid (LR3.out.past b3); clear b3 B3 LR3 UP R2; have HGV := Lib.hid (goV_isD n i HLD.out ls); have HGE := goE_cases n i ls; obtain ⟨x, hx⟩ : ∃ x, goV n i (leafD b) ls = x := ⟨_, rfl⟩; rw [hx] at HGV HV2 ⊢; have Y3 := Lib.hid (z20_at w3 rfl); have G3 := bnew w3 (.cells #[.int .u8 0, .int .u8 0, .int .u8 0, .int .u8 0, .int .u8 0, .int .u8 0, .int .u8 0, .int .u8 0, .int .u8 0, .int .u8 0, .int .u8 0, .int .u8 0, .int .u8 0, .int .u8 0, .int .u8 0, .int .u8 0, .int .u8 0, .int .u8 0, .int .u8 0, .int .u8 0] 26); have B5 := Lib.hid (bb B4.out G3); have LR5 := Lib.hid (LR4.out.past G3); have LT3 := Lib.hid LR4.out.lt; have LE3 := Lib.hid B4.out.size; have HXX := Lib.hid hx; clear G3 LR4 B4 hx; rcases HGE with he | he; (case inl => (have HV := Lib.hid (HV2.out he); rw [he]; clear he HV1 HV2; go_wp2_with (first | (show wpList _ _ _ ({ dst := none, op := Op.store 26 (.tmp 14) _, type := _, pos := _, after := _, guard := _ } :: _) _ _; go_must (refine trW.wp_st (g := w3.heap.size) (l := x) (by rfl) _ _ rfl (Y3.out) (zd_isD.len) (HGV.out.len) rfl rfl ?_); intro w4 hR4 hg4 hb4 hz4; have R4 := Lib.hid hR4; have B6 := Lib.hid (B5.out.trans (hb4.mono LE3.out)); have LR6 := Lib.hid (LR5.out.far hg4 (show w.heap.size ≠ w3.heap.size by have := LT3.out; omega)); clear hR4 hg4 hb4 hz4 B5 LR5 Y3) | (show wpList _ _ _ ({ dst := _, op := Op.load 26 (.tmp 14), type := _, pos := _, after := _, guard := _ } :: _) _ _; go_must (refine trW.wp_l0 (l := x) (by rfl) _ rfl (R4.out) (HGV.out.len) rfl ?_)) | (show wpList _ _ _ ({ dst := _, op := Op.load 26 (.tmp 5), type := _, pos := _, after := _, guard := _ } :: _) _ _; go_must (refine trW.wp_l0 (l := r) (by rfl) _ rfl (LR6.out) (HR.out.len) rfl ?_)) | (show wpList _ _ _ ({ dst := _, op := Op.binOp .eql 26 _ _ _, type := _, pos := _, after := _, guard := _ } :: _) _ _; go_must (refine trW.wp_eql (l := x) (m := r) (by rfl) _ _ _ rfl HGV.out HR.out rfl rfl ?_))); go_ret2; exact ⟨by rw [HV.out.1, HV.out.2]; rfl, B6.out⟩)); (case inr => (rcases he with he | he <;> (have HV := Lib.hid (HV1.out (by rw [he]; decide)); have HE := Lib.hid he; rw [he]; clear he HV1 HV2; go_wp2_with ((show wpList _ _ _ ({ dst := none, op := Op.store 26 (.tmp 14) _, type := _, pos := _, after := _, guard := _ } :: _) _ _; go_must (refine trW.wp_st (g := w3.heap.size) (l := x) (by rfl) _ _ rfl (Y3.out) (zd_isD.len) (HGV.out.len) rfl rfl ?_); intro w4 hR4 hg4 hb4 hz4; have B6 := Lib.hid (B5.out.trans (hb4.mono LE3.out)); clear hR4 hg4 hb4 hz4 B5 LR5 Y3)); go_ret2; exact ⟨by rw [HV.out.1, HV.out.2, HE.out]; rfl, B6.out⟩))))))
end Go.Proofs.YtjdgobfjpjnhgaaDoor.trW

namespace Go.Proofs.YtjdgobfjpjnhgaaDoor.trW
set_option maxRecDepth 100000
open Go.RowKit Go.Proofs.YtjdgobfjpjnhgaaDoor.base Go.Proofs.YtjdgobfjpjnhgaaDoor.shP Go.Proofs.YtjdgobfjpjnhgaaDoor.shW Go.Proofs.YtjdgobfjpjnhgaaDoor.trP
set_option linter.unusedVariables false
set_option linter.unusedSimpArgs false
set_option maxRecDepth 100000
def prD (ls : List (List Int)) (i : Nat) : List (List Int) := proofT nodeD zd ls i
theorem prD_len (ls : List (List Int)) (i : Nat) : (prD ls i).length = (sidesT ls.length i).length := proof_len nodeD zd _ ls i rfl
theorem prD_le {ls : List (List Int)} (h : ls.length ≤ 600) (i : Nat) : (prD ls i).length ≤ 10 := by
  rw [prD_len]; exact sides_le 10 _ _ (by omega)
theorem prD_one {ls : List (List Int)} (h : ¬ 2 ≤ ls.length) (i : Nat) : prD ls i = [] := proof_one nodeD zd h i
theorem prD_two {ls : List (List Int)} {k : Nat} (h : 2 ≤ ls.length) (hk : half ls.length = k) (i : Nat) : prD ls i = if i < k then prD (ls.take k) i ++ [rtD (ls.drop k)] else prD (ls.drop k) (i - k) ++ [rtD (ls.take k)] := by
  subst hk
  unfold prD
  conv => lhs; rw [proofT]
  rw [dif_pos h]; rfl
theorem prD_rev {ls : List (List Int)} {k : Nat} (h : 2 ≤ ls.length) (hk : half ls.length = k) (i : Nat) : (prD ls i).reverse = if i < k then rtD (ls.drop k) :: (prD (ls.take k) i).reverse else rtD (ls.take k) :: (prD (ls.drop k) (i - k)).reverse := by
  rw [prD_two h hk]; split <;> simp
theorem prD_all {ls : List (List Int)} (h : AllD ls) : ∀ (i : Nat), AllD (prD ls i) := by
  suffices H : ∀ n (ls : List (List Int)), ls.length = n → AllD ls → ∀ i, AllD (prD ls i) from H _ ls rfl h
  intro n
  induction n using Nat.strongRecOn with
  | _ n ih =>
    intro ls hl h i
    by_cases h2 : 2 ≤ ls.length
    · have a1 := half_pos ls.length
      have a2 := half_lt h2
      rw [prD_two h2 rfl]
      split
      · exact (ih (half ls.length) (by omega) _ (by rw [List.length_take]; omega) (h.take _) i).append (AllD.one (rt_isD _ _ rfl (h.drop _)))
      · exact (ih (ls.length - half ls.length) (by omega) _ (by rw [List.length_drop]) (h.drop _) _).append (AllD.one (rt_isD _ _ rfl (h.take _)))
    · rw [prD_one h2]; exact AllD.nil
def PF (B : Nat) (l : List (List Int)) (e : Ending) (w' : World) : Prop := ∃ A c, e = .returned (.slice A l.length c) ∧ OwnD w' B (.slice A l.length c) l
set_option maxHeartbeats 6400000 in
theorem rproof_any : ∀ (n i : Nat) (ls : List (List Int)) (A : Option Addr) (c : Nat) (w : World), HasD w A ls → ls.length = n → n ≤ c → c ≤ 9223372036854775807 → 1 ≤ n → n ≤ 600 → i < n →
    Calls Tryd.prog 36 #[.slice A n c, .int .i64 (i : Int)] w fun e w' => PF w.heap.size (prD ls i) e w' ∧ Below w.heap.size w w' := by
  intro n
  induction n using Nat.strongRecOn with
  | _ n ih =>
  intro i ls A c w hA hl hc hm hn1 hn hi
  have IH := Lib.hid ih
  have HA := Lib.hid hA
  have HL := Lib.hid hl
  have HC := Lib.hid (And.intro hc hm)
  have n9 : (n : Int) ≤ 600 := by omega
  have n0 : 1 ≤ (n : Int) := by omega
  have i0 : 0 ≤ (i : Int) := by omega
  have i1 : (i : Int) < n := by omega
  clear ih hA
  by_cases h1 : n = 1
  · have HV := Lib.hid (prD_one (ls := ls) (by rw [HL.out, h1]; omega) i)
    have e1 : (n : Int) = 1 := by omega
    clear hl hc hm hn hi h1 hn1
    go_enter Tryd.func36, Tryd.ntmps36
    go_wp2_with fail
    go_ret
    exact ⟨⟨none, 0, by rw [HV.out]; rfl, by rw [HV.out]; exact OwnD.nil _ _⟩, Below.refl _ _⟩
  · have h2 : 2 ≤ n := by omega
    have k1 := half_pos n
    have k2 := half_lt h2
    have F := Lib.hid (fun w => half_any n w h2 (by omega))
    have HV := Lib.hid (prD_two (ls := ls) (k := half n) (by rw [HL.out]; exact h2) (by rw [HL.out]) i)
    obtain ⟨b, off, rfl, hb⟩ := HA.out.some (by rw [HL.out]; omega)
    generalize half n = k at *
    have HF := Lib.hid (HA.out.front k)
    have HG := Lib.hid (cut_at HA.out (k := k) (by rw [HL.out]; exact k2) (by rw [HL.out]; exact hc))
    have HLT : Hid ((ls.take k).length = k) := Lib.hid (by rw [List.length_take, HL.out]; omega)
    have HLD : Hid ((ls.drop k).length = n - k) := Lib.hid (by rw [List.length_drop, HL.out])
    have DT := Lib.hid (rt_isD _ _ rfl HF.out.d)
    have DD := Lib.hid (rt_isD _ _ rfl HG.out.d)
    generalize ls.take k = l1 at *
    generalize ls.drop k = l2 at *
    have e1 : ¬ (n : Int) = 1 := by omega
    have q1 : ¬ c = k := by omega
    have q2 : (k : Int) ≤ n := by omega
    have q3 : (k : Int) ≤ c := by omega
    have q4 : (n : Int) ≤ c := by omega
    have HK := Lib.hid (And.intro k1 (And.intro k2 (And.intro hn (And.intro hc hi))))
    clear hl hc hm hn h1 h2 k1 k2 hi hn1 hb
    go_enter Tryd.func36, Tryd.ntmps36
    go_wp2_with fail
    refine (F.out _).mono ?_
    rintro e _ ⟨rfl, rfl⟩
    rename World => w1
    by_cases ck : i < k
    · have d1 : (i : Int) < k := by omega
      have HCK := Lib.hid ck
      rw [if_pos ck] at HV
      have HPL := Lib.hid (prD_le (ls := l1) (by rw [HLT.out]; have := HK.out; omega) i)
      clear ck
      go_upto_region 5 with fail
      (have RD := grows_roads (S := fun x' => Below w1.heap.size w1 x') (fun a b h1 h2 => h2.trans (h1.mono h2.size))); refine region_ordT 11 _ Grows RD (Below.drew (Below.refl _ _)) (by kernel_rfl) (by decide) ?_; intro ops Q' hops hPQ hN; (have HNS : Hid (Region.noSelect ops = true ∧ Region.sinkB .any ops 11 = true ∧ Region.chainB .any ops 11 = true ∧ 11 < ops.size) := Lib.hid (by rw [hops]; exact ⟨by kernel_rfl, by kernel_rfl, by kernel_rfl, by decide⟩)); (have hsz : ops.size = 12 := (by rw [hops]; rfl)); have HOP := Lib.hid hops; have HPQ := Lib.hid hPQ; have HN := Lib.hid hN; rw [hsz]; clear hops hsz hPQ hN
      refine ordT_take RD 0 (at_list (by rw [HOP.out]; rfl)) HNS.out HPQ.out (by rw [HOP.out]; kernel_rfl) (by rw [HOP.out]; kernel_rfl) (by rw [HOP.out]; rfl) (fun K hK => ?_); apply Exists.intro; refine ⟨fun W hSW => ?_, hK _ ?_⟩; (focus ((try dsimp only at hSW); go_simp; try with_reducible rfl)); clear hK K; (try simp only [Act.put, List.setIfInBounds_toArray, List.set_cons_zero, List.set_cons_succ])
      refine ordT_take RD 1 (at_list (by rw [HOP.out]; rfl)) HNS.out HPQ.out (by rw [HOP.out]; kernel_rfl) (by rw [HOP.out]; kernel_rfl) (by rw [HOP.out]; rfl) (fun K hK => ?_); apply Exists.intro; refine ⟨fun W hSW => ?_, hK _ ?_⟩; (focus ((try dsimp only at hSW); go_simp; try with_reducible rfl)); clear hK K; (try simp only [Act.put, List.setIfInBounds_toArray, List.set_cons_zero, List.set_cons_succ])
      refine ordT_take RD 2 (at_list (by rw [HOP.out]; rfl)) HNS.out HPQ.out (by rw [HOP.out]; kernel_rfl) (by rw [HOP.out]; kernel_rfl) (by rw [HOP.out]; rfl) (fun K hK => ?_); apply Exists.intro; refine ⟨fun W hSW => ?_, hK _ ?_⟩; (focus ((try dsimp only at hSW); go_simp; try with_reducible rfl)); clear hK K; (try simp only [Act.put, List.setIfInBounds_toArray, List.set_cons_zero, List.set_cons_succ])
      refine ordT_take RD 3 (at_list (by rw [HOP.out]; rfl)) HNS.out HPQ.out (by rw [HOP.out]; kernel_rfl) (by rw [HOP.out]; kernel_rfl) (by rw [HOP.out]; rfl) (fun K hK => ?_); apply Exists.intro; refine ⟨fun W hSW => ?_, hK _ ?_⟩; (focus ((try dsimp only at hSW); go_simp; try with_reducible rfl)); clear hK K; (try simp only [Act.put, List.setIfInBounds_toArray, List.set_cons_zero, List.set_cons_succ])
      refine ordT_take RD 5 (at_list (by rw [HOP.out]; rfl)) HNS.out HPQ.out (by rw [HOP.out]; kernel_rfl) (by rw [HOP.out]; kernel_rfl) (by rw [HOP.out]; rfl) (fun K hK => ?_); apply Exists.intro; refine ⟨fun W hSW => ?_, hK _ ?_⟩; (focus ((try dsimp only at hSW); go_simp; try with_reducible rfl)); clear hK K; (try simp only [Act.put, List.setIfInBounds_toArray, List.set_cons_zero, List.set_cons_succ])
      refine ordT_take RD 6 (at_list (by rw [HOP.out]; rfl)) HNS.out HPQ.out (by rw [HOP.out]; kernel_rfl) (by rw [HOP.out]; kernel_rfl) (by rw [HOP.out]; rfl) (fun K hK => ?_); apply Exists.intro; refine ⟨fun W hSW => ?_, hK _ ?_⟩; (focus ((try dsimp only at hSW); go_simp; try with_reducible rfl)); clear hK K; (try simp only [Act.put, List.setIfInBounds_toArray, List.set_cons_zero, List.set_cons_succ])
      refine ordT_take RD 7 (at_list (by rw [HOP.out]; rfl)) HNS.out HPQ.out (by rw [HOP.out]; kernel_rfl) (by rw [HOP.out]; kernel_rfl) (by rw [HOP.out]; rfl) (fun K hK => ?_); apply Exists.intro; refine ⟨fun W hSW => ?_, hK _ ?_⟩; (focus ((try dsimp only at hSW); go_simp; try with_reducible rfl)); clear hK K; (try simp only [Act.put, List.setIfInBounds_toArray, List.set_cons_zero, List.set_cons_succ])
      refine ordT_one RD 4 (by rw [HOP.out]; kernel_rfl) (at_list (by rw [HOP.out]; rfl)) (by rw [HOP.out]; rfl) (fun W1 hWW hSW K hK => ?_); (try dsimp only at hSW)
      go_simp
      refine (IH.out k HK.out.2.1 i l1 (some ⟨b, off, none⟩) c W1 (HF.out.past hSW) HLT.out (by have := HK.out; omega) HC.out.2 HK.out.1 (by have := HK.out; omega) HCK.out).mono ?_
      rintro e w3 ⟨⟨A3, c3, rfl, o3⟩, b3⟩
      refine hK _ _ (bb hSW b3) ?_
      have O3 := Lib.hid (o3.mono hSW.size)
      obtain ⟨ps, hps⟩ : ∃ ps, prD l1 i = ps := ⟨_, rfl⟩
      rw [hps] at HPL O3 HV ⊢
      clear hSW hWW b3 o3 hps
      clear hK K; (try simp only [Act.put, List.setIfInBounds_toArray, List.set_cons_zero, List.set_cons_succ])
      refine ordT_one RD 8 (by rw [HOP.out]; kernel_rfl) (at_list (by rw [HOP.out]; rfl)) (by rw [HOP.out]; rfl) (fun W2 hWW hSW K hK => ?_); (try dsimp only at hSW)
      go_simp
      refine (rroot_any (n - k) l2 (some ⟨b, off + k * 20, none⟩) (c - k) _ (HG.out.past hSW) HLD.out (by have := HK.out; omega) (by have := HC.out; omega) (by have := HK.out; omega)).mono ?_
      rintro e w4 ⟨rfl, b4⟩
      refine hK _ _ (bb hSW b4) ?_
      have O4 := Lib.hid ((O3.out.past hWW).past b4)
      clear hSW hWW b4 O3
      clear hK K; (try simp only [Act.put, List.setIfInBounds_toArray, List.set_cons_zero, List.set_cons_succ])
      refine ordT_one RD 9 (by rw [HOP.out]; kernel_rfl) (at_list (by rw [HOP.out]; rfl)) (by rw [HOP.out]; rfl) (fun W3 hWW hSW K hK => ?_); (try dsimp only at hSW)
      refine op_lit1 (q := rtD l2) _ rfl DD.out.len rfl ?_
      have HS9 := Lib.hid (bb hSW (bnew W3 (.cells (darr (rtD l2)) 26)))
      refine hK _ _ HS9.out ?_
      have O5 := Lib.hid ((O4.out.past hWW).past (bnew W3 (.cells (darr (rtD l2)) 26)))
      have HL5 := Lib.hid (lit_one (w := W3) rfl DD.out)
      generalize (W3.alloc (.cells (darr (rtD l2)) 26)) = w5 at *
      generalize W3.heap.size = g5 at *
      clear hSW hWW O4 HS9
      clear hK K; (try simp only [Act.put, List.setIfInBounds_toArray, List.set_cons_zero, List.set_cons_succ])
      refine ordT_one RD 10 (by rw [HOP.out]; kernel_rfl) (at_list (by rw [HOP.out]; rfl)) (by rw [HOP.out]; rfl) (fun W4 hWW hSW K hK => ?_); (try dsimp only at hSW)
      have O6 := Lib.hid (O5.out.past hWW)
      have L6 := Lib.hid (HL5.out.past hWW)
      have LS := Lib.hid hSW
      refine op_appD _ _ rfl w1.heap.size _ ps rfl O6.out ⟨g5, 0, none⟩ 1 1 [rtD l2] rfl rfl L6.out (by have := HPL.out; omega) LS.out.size (by omega) (ps.length + 1) rfl ?_
      intro A7 c7 w7 o7 g7 b7
      refine hK _ _ (hSW.trans b7) ?_
      have O7 := Lib.hid o7
      clear hSW hWW o7 g7 b7 O6 L6 LS O5 HL5
      clear hK K; (try simp only [Act.put, List.setIfInBounds_toArray, List.set_cons_zero, List.set_cons_succ])
      refine ordT_end (by rw [HOP.out]; kernel_rfl) (fun W5 hWW hSW => ?_); rw [HOP.out]; simp only [List.drop_succ_cons, List.drop_zero]; have hN := HN.out; clear HOP HNS HPQ HN RD; (try dsimp only at hSW)
      have O8 := Lib.hid (O7.out.past hWW)
      clear hWW
      go_wp2_with fail
      go_ret
      refine ⟨⟨A7, c7, by rw [HV.out, List.length_append]; rfl, ?_⟩, hSW⟩
      rw [HV.out, List.length_append]; exact O8.out
    · have d1 : ¬ (i : Int) < k := by omega
      obtain ⟨i', hi'⟩ : ∃ i', i - k = i' := ⟨_, rfl⟩
      have z2 : (i : Int) - k = (i' : Int) := by omega
      have z4 : IntKind.i64.wrap (i' : Int) = (i' : Int) := IntWalk.i64_in _ (by omega)
      have HII : Hid (i' < n - k) := Lib.hid (by have := HK.out; omega)
      have HCK := Lib.hid ck
      rw [if_neg ck, hi'] at HV
      have HPL := Lib.hid (prD_le (ls := l2) (by rw [HLD.out]; have := HK.out; omega) i')
      clear ck hi'
      go_upto_region 6 with fail
      (have RD := grows_roads (S := fun x' => Below w1.heap.size w1 x') (fun a b h1 h2 => h2.trans (h1.mono h2.size))); refine region_ordT 13 _ Grows RD (Below.drew (Below.refl _ _)) (by kernel_rfl) (by decide) ?_; intro ops Q' hops hPQ hN; (have HNS : Hid (Region.noSelect ops = true ∧ Region.sinkB .any ops 13 = true ∧ Region.chainB .any ops 13 = true ∧ 13 < ops.size) := Lib.hid (by rw [hops]; exact ⟨by kernel_rfl, by kernel_rfl, by kernel_rfl, by decide⟩)); (have hsz : ops.size = 14 := (by rw [hops]; rfl)); have HOP := Lib.hid hops; have HPQ := Lib.hid hPQ; have HN := Lib.hid hN; rw [hsz]; clear hops hsz hPQ hN
      refine ordT_take RD 0 (at_list (by rw [HOP.out]; rfl)) HNS.out HPQ.out (by rw [HOP.out]; kernel_rfl) (by rw [HOP.out]; kernel_rfl) (by rw [HOP.out]; rfl) (fun K hK => ?_); apply Exists.intro; refine ⟨fun W hSW => ?_, hK _ ?_⟩; (focus ((try dsimp only at hSW); go_simp; try with_reducible rfl)); clear hK K; (try simp only [Act.put, List.setIfInBounds_toArray, List.set_cons_zero, List.set_cons_succ])
      refine ordT_take RD 1 (at_list (by rw [HOP.out]; rfl)) HNS.out HPQ.out (by rw [HOP.out]; kernel_rfl) (by rw [HOP.out]; kernel_rfl) (by rw [HOP.out]; rfl) (fun K hK => ?_); apply Exists.intro; refine ⟨fun W hSW => ?_, hK _ ?_⟩; (focus ((try dsimp only at hSW); go_simp; try with_reducible rfl)); clear hK K; (try simp only [Act.put, List.setIfInBounds_toArray, List.set_cons_zero, List.set_cons_succ])
      refine ordT_take RD 2 (at_list (by rw [HOP.out]; rfl)) HNS.out HPQ.out (by rw [HOP.out]; kernel_rfl) (by rw [HOP.out]; kernel_rfl) (by rw [HOP.out]; rfl) (fun K hK => ?_); apply Exists.intro; refine ⟨fun W hSW => ?_, hK _ ?_⟩; (focus ((try dsimp only at hSW); go_simp; try with_reducible rfl)); clear hK K; (try simp only [Act.put, List.setIfInBounds_toArray, List.set_cons_zero, List.set_cons_succ])
      refine ordT_take RD 3 (at_list (by rw [HOP.out]; rfl)) HNS.out HPQ.out (by rw [HOP.out]; kernel_rfl) (by rw [HOP.out]; kernel_rfl) (by rw [HOP.out]; rfl) (fun K hK => ?_); apply Exists.intro; refine ⟨fun W hSW => ?_, hK _ ?_⟩; (focus ((try dsimp only at hSW); go_simp; try with_reducible rfl)); clear hK K; (try simp only [Act.put, List.setIfInBounds_toArray, List.set_cons_zero, List.set_cons_succ])
      refine ordT_take RD 4 (at_list (by rw [HOP.out]; rfl)) HNS.out HPQ.out (by rw [HOP.out]; kernel_rfl) (by rw [HOP.out]; kernel_rfl) (by rw [HOP.out]; rfl) (fun K hK => ?_); apply Exists.intro; refine ⟨fun W hSW => ?_, hK _ ?_⟩; (focus ((try dsimp only at hSW); go_simp; try with_reducible rfl)); clear hK K; (try simp only [Act.put, List.setIfInBounds_toArray, List.set_cons_zero, List.set_cons_succ])
      refine ordT_take RD 5 (at_list (by rw [HOP.out]; rfl)) HNS.out HPQ.out (by rw [HOP.out]; kernel_rfl) (by rw [HOP.out]; kernel_rfl) (by rw [HOP.out]; rfl) (fun K hK => ?_); apply Exists.intro; refine ⟨fun W hSW => ?_, hK _ ?_⟩; (focus ((try dsimp only at hSW); go_simp; try with_reducible rfl)); clear hK K; (try simp only [Act.put, List.setIfInBounds_toArray, List.set_cons_zero, List.set_cons_succ])
      refine ordT_take RD 7 (at_list (by rw [HOP.out]; rfl)) HNS.out HPQ.out (by rw [HOP.out]; kernel_rfl) (by rw [HOP.out]; kernel_rfl) (by rw [HOP.out]; rfl) (fun K hK => ?_); apply Exists.intro; refine ⟨fun W hSW => ?_, hK _ ?_⟩; (focus ((try dsimp only at hSW); go_simp; try with_reducible rfl)); clear hK K; (try simp only [Act.put, List.setIfInBounds_toArray, List.set_cons_zero, List.set_cons_succ])
      refine ordT_take RD 8 (at_list (by rw [HOP.out]; rfl)) HNS.out HPQ.out (by rw [HOP.out]; kernel_rfl) (by rw [HOP.out]; kernel_rfl) (by rw [HOP.out]; rfl) (fun K hK => ?_); apply Exists.intro; refine ⟨fun W hSW => ?_, hK _ ?_⟩; (focus ((try dsimp only at hSW); go_simp; try with_reducible rfl)); clear hK K; (try simp only [Act.put, List.setIfInBounds_toArray, List.set_cons_zero, List.set_cons_succ])
      refine ordT_take RD 9 (at_list (by rw [HOP.out]; rfl)) HNS.out HPQ.out (by rw [HOP.out]; kernel_rfl) (by rw [HOP.out]; kernel_rfl) (by rw [HOP.out]; rfl) (fun K hK => ?_); apply Exists.intro; refine ⟨fun W hSW => ?_, hK _ ?_⟩; (focus ((try dsimp only at hSW); go_simp; try with_reducible rfl)); clear hK K; (try simp only [Act.put, List.setIfInBounds_toArray, List.set_cons_zero, List.set_cons_succ])
      refine ordT_one RD 6 (by rw [HOP.out]; kernel_rfl) (at_list (by rw [HOP.out]; rfl)) (by rw [HOP.out]; rfl) (fun W1 hWW hSW K hK => ?_); (try dsimp only at hSW)
      go_simp
      refine (IH.out (n - k) (by have := HK.out; omega) i' l2 (some ⟨b, off + k * 20, none⟩) (c - k) W1 (HG.out.past hSW) HLD.out (by have := HK.out; omega) (by have := HC.out; omega) (by have := HK.out; omega) (by have := HK.out; omega) HII.out).mono ?_
      rintro e w3 ⟨⟨A3, c3, rfl, o3⟩, b3⟩
      refine hK _ _ (bb hSW b3) ?_
      have O3 := Lib.hid (o3.mono hSW.size)
      obtain ⟨ps, hps⟩ : ∃ ps, prD l2 i' = ps := ⟨_, rfl⟩
      rw [hps] at HPL O3 HV ⊢
      clear hSW hWW b3 o3 hps
      clear hK K; (try simp only [Act.put, List.setIfInBounds_toArray, List.set_cons_zero, List.set_cons_succ])
      refine ordT_one RD 10 (by rw [HOP.out]; kernel_rfl) (at_list (by rw [HOP.out]; rfl)) (by rw [HOP.out]; rfl) (fun W2 hWW hSW K hK => ?_); (try dsimp only at hSW)
      go_simp
      refine (rroot_any k l1 (some ⟨b, off, none⟩) c _ (HF.out.past hSW) HLT.out (by have := HK.out; omega) HC.out.2 (by have := HK.out; omega)).mono ?_
      rintro e w4 ⟨rfl, b4⟩
      refine hK _ _ (bb hSW b4) ?_
      have O4 := Lib.hid ((O3.out.past hWW).past b4)
      clear hSW hWW b4 O3
      clear hK K; (try simp only [Act.put, List.setIfInBounds_toArray, List.set_cons_zero, List.set_cons_succ])
      refine ordT_one RD 11 (by rw [HOP.out]; kernel_rfl) (at_list (by rw [HOP.out]; rfl)) (by rw [HOP.out]; rfl) (fun W3 hWW hSW K hK => ?_); (try dsimp only at hSW)
      refine op_lit1 (q := rtD l1) _ rfl DT.out.len rfl ?_
      have HS9 := Lib.hid (bb hSW (bnew W3 (.cells (darr (rtD l1)) 26)))
      refine hK _ _ HS9.out ?_
      have O5 := Lib.hid ((O4.out.past hWW).past (bnew W3 (.cells (darr (rtD l1)) 26)))
      have HL5 := Lib.hid (lit_one (w := W3) rfl DT.out)
      generalize (W3.alloc (.cells (darr (rtD l1)) 26)) = w5 at *
      generalize W3.heap.size = g5 at *
      clear hSW hWW O4 HS9
      clear hK K; (try simp only [Act.put, List.setIfInBounds_toArray, List.set_cons_zero, List.set_cons_succ])
      refine ordT_one RD 12 (by rw [HOP.out]; kernel_rfl) (at_list (by rw [HOP.out]; rfl)) (by rw [HOP.out]; rfl) (fun W4 hWW hSW K hK => ?_); (try dsimp only at hSW)
      have O6 := Lib.hid (O5.out.past hWW)
      have L6 := Lib.hid (HL5.out.past hWW)
      have LS := Lib.hid hSW
      refine op_appD _ _ rfl w1.heap.size _ ps rfl O6.out ⟨g5, 0, none⟩ 1 1 [rtD l1] rfl rfl L6.out (by have := HPL.out; omega) LS.out.size (by omega) (ps.length + 1) rfl ?_
      intro A7 c7 w7 o7 g7 b7
      refine hK _ _ (hSW.trans b7) ?_
      have O7 := Lib.hid o7
      clear hSW hWW o7 g7 b7 O6 L6 LS O5 HL5
      clear hK K; (try simp only [Act.put, List.setIfInBounds_toArray, List.set_cons_zero, List.set_cons_succ])
      refine ordT_end (by rw [HOP.out]; kernel_rfl) (fun W5 hWW hSW => ?_); rw [HOP.out]; simp only [List.drop_succ_cons, List.drop_zero]; have hN := HN.out; clear HOP HNS HPQ HN RD; (try dsimp only at hSW)
      have O8 := Lib.hid (O7.out.past hWW)
      clear hWW
      go_wp2_with fail
      go_ret
      refine ⟨⟨A7, c7, by rw [HV.out, List.length_append]; rfl, ?_⟩, hSW⟩
      rw [HV.out, List.length_append]; exact O8.out
end Go.Proofs.YtjdgobfjpjnhgaaDoor.trW

namespace Go.Proofs.YtjdgobfjpjnhgaaDoor.trW
set_option maxRecDepth 100000
open Go.RowKit Go.Proofs.YtjdgobfjpjnhgaaDoor.base Go.Proofs.YtjdgobfjpjnhgaaDoor.shP Go.Proofs.YtjdgobfjpjnhgaaDoor.shW Go.Proofs.YtjdgobfjpjnhgaaDoor.trP
set_option linter.unusedVariables false
set_option linter.unusedSimpArgs false
set_option maxRecDepth 100000
def inB (rs : List R8) (i : Int) : Bool := decide (0 ≤ i) && decide (i < rs.length)
def prE (rs : List R8) (i : Int) : Int := if chB rs then (if inB rs i then 0 else 2) else 4
def prL (rs : List R8) (i : Int) : List (List Int) := if chB rs then (if inB rs i then prD (lvs rs) i.toNat else []) else []
theorem pr_bad {rs : List R8} {i : Int} (h : chB rs = false) : prE rs i = 4 ∧ prL rs i = [] := ⟨by rw [prE, if_neg (by rw [h]; decide)], by rw [prL, if_neg (by rw [h]; decide)]⟩
theorem pr_out {rs : List R8} {i : Int} (h : chB rs = true) (k : ¬ (0 ≤ i ∧ i < rs.length)) : prE rs i = 2 ∧ prL rs i = [] := by
  have : inB rs i = false := by
    rw [← Bool.not_eq_true]; intro e
    simp only [inB, Bool.and_eq_true, decide_eq_true_eq] at e
    exact k e
  exact ⟨by rw [prE, if_pos h, if_neg (by rw [this]; decide)], by rw [prL, if_pos h, if_neg (by rw [this]; decide)]⟩
theorem pr_in {rs : List R8} {i : Int} (h : chB rs = true) (k : 0 ≤ i ∧ i < rs.length) : prE rs i = 0 ∧ prL rs i = prD (lvs rs) i.toNat := by
  have : inB rs i = true := by simp [inB, k.1, k.2]
  exact ⟨by rw [prE, if_pos h, if_pos this], by rw [prL, if_pos h, if_pos this]⟩
theorem prL_le (rs : List R8) (i : Int) : (prL rs i).length ≤ 10 := by
  unfold prL
  split
  · split
    · rename_i h _
      exact prD_le (by rw [lvs_len]; exact ch_le h) _
    · simp
  · simp
def PG (B : Nat) (l : List (List Int)) (x : Int) (e : Ending) (w' : World) : Prop := ∃ A c, e = .returned (.tuple #[.slice A l.length c, .int .i64 x]) ∧ OwnD w' B (.slice A l.length c) l
theorem OwnD.apart {w : World} {B g : Nat} {v : Value} {ls : List (List Int)} (h : OwnD w B v ls) (hg : w.heap.size ≤ g) : v.ownBlock ≠ some g := fun e => by
  have := (h.o.lt g e).2
  omega
theorem PG.nil (B : Nat) (x : Int) (w : World) {l : List (List Int)} (h : l = []) : PG B l x (.returned (.tuple #[.slice none 0 0, .int .i64 x])) w := by
  subst h; exact ⟨none, 0, rfl, OwnD.nil _ _⟩
set_option maxHeartbeats 3200000 in
theorem rProve_any (rs : List R8) (i : Int) (P : Option Addr) (m d : Nat) (w : World) (hR : RowsB w P m d rs) (hi1 : -9223372036854775808 ≤ i) (hi2 : i ≤ 9223372036854775807) :
    Calls Tryd.prog 15 #[.slice P m d, .int .i64 i] w fun e w' => PG w.heap.size (prL rs i) (prE rs i) e w' ∧ Below w.heap.size w w' := by
  have HR := Lib.hid hR
  have HL := Lib.hid hR.l
  have m9 : (m : Int) ≤ 9223372036854775807 := by have := hR.c1; have := hR.c2; omega
  clear hR
  go_enter Tryd.func15, Tryd.ntmps15
  go_wp2_with fail
  refine (rCheck_any rs P m d w HR.out).mono ?_
  rintro e _ ⟨rfl, rfl⟩
  rename World => w1
  rcases Bool.eq_false_or_eq_true (chB rs) with hch | hch
  · rw [chE_yes hch]
    by_cases ci : 0 ≤ i ∧ i < rs.length
    · have HV := Lib.hid (pr_in hch ci)
      have HM := Lib.hid (ch_le hch)
      have HCH := Lib.hid hch
      obtain ⟨I, hI⟩ : ∃ I, i.toNat = I := ⟨_, rfl⟩
      have ei : i = (I : Int) := by omega
      rw [hI] at HV
      subst ei
      rw [HL.out] at ci HM
      have c1 : 0 ≤ (I : Int) := by omega
      have c2 : (I : Int) < m := by omega
      have HI : Hid (I < m) := Lib.hid (by omega)
      clear ci hch hI hi1 hi2
      go_wp2_with fail
      refine (rdigests_any rs P m d w1 HR.out HCH.out).mono ?_
      rintro e w2 ⟨A, c, rfl, own, b2⟩
      have HO := Lib.hid own
      have B2 := Lib.hid b2
      clear own b2
      go_wp2_with fail
      refine (rproof_any m I (lvs rs) A c w2 HO.out.has (by rw [lvs_len, HL.out]) HO.out.len.2.1 (by have := HO.out.len.2.2; unfold maxLen at this; omega) (by have := HI.out; omega) HM.out HI.out).mono ?_
      rintro e w3 ⟨⟨A3, c3, rfl, o3⟩, b3⟩
      have O3 := Lib.hid (o3.mono B2.out.size)
      have B3 := Lib.hid (bb B2.out b3)
      clear o3 b3
      go_wp2_with fail
      go_ret2
      exact ⟨⟨A3, c3, by rw [HV.out.1, HV.out.2]; rfl, by rw [HV.out.2]; exact O3.out⟩, B3.out⟩
    · have HV := Lib.hid (pr_out hch ci)
      by_cases c0 : i < 0
      · clear ci hch
        go_wp2_with fail
        go_ret2
        exact ⟨by rw [HV.out.1]; exact PG.nil _ _ _ HV.out.2, Below.refl _ _⟩
      · have c2 : (m : Int) ≤ i := by rw [HL.out] at ci; omega
        clear ci hch
        go_wp2_with fail
        go_ret2
        exact ⟨by rw [HV.out.1]; exact PG.nil _ _ _ HV.out.2, Below.refl _ _⟩
  · rw [chE_no hch]
    have HV := Lib.hid (pr_bad (i := i) hch)
    clear hch
    go_wp2_with fail
    go_ret2
    exact ⟨by rw [HV.out.1]; exact PG.nil _ _ _ HV.out.2, Below.refl _ _⟩
set_option maxHeartbeats 6400000 in
theorem Prove_any (rs : List R8) (i : Int) (P : Option Addr) (m d : Nat) (w : World) (hT : Tab w) (hR : RowsB w P m d rs) (hi1 : -9223372036854775808 ≤ i) (hi2 : i ≤ 9223372036854775807) :
    Calls Tryd.prog 14 #[.slice P m d, .int .i64 i] w fun e w' => PG w.heap.size (prL rs i) (prE rs i) e w' ∧ Below w.heap.size w w' := by
  have HT := Lib.hid hT
  have HR := Lib.hid hR
  have HL := Lib.hid hR.l
  have m9 : (m : Int) ≤ 9223372036854775807 := by have := hR.c1; have := hR.c2; omega
  clear hR hT
  go_enter Tryd.func14, Tryd.ntmps14
  go_wp2_with fail
  refine (leavesOf_any rs P m d w HT.out HR.out).mono ?_
  rintro e w1 ⟨hv, b1⟩
  have B1 := Lib.hid b1
  clear b1
  rcases hv with ⟨hch, LA, lc, rfl, own⟩ | ⟨hch, rfl⟩
  case inr =>
    have HV := Lib.hid (pr_bad (i := i) hch)
    clear hch
    go_wp2_with fail
    go_ret2
    exact ⟨by rw [HV.out.1]; exact PG.nil _ _ _ HV.out.2, B1.out⟩
  case inl =>
    by_cases ci : 0 ≤ i ∧ i < rs.length
    case neg =>
      have HV := Lib.hid (pr_out hch ci)
      by_cases c0 : i < 0
      · clear ci hch
        go_wp2_with fail
        go_ret2
        exact ⟨by rw [HV.out.1]; exact PG.nil _ _ _ HV.out.2, B1.out⟩
      · have c2 : (m : Int) ≤ i := by rw [HL.out] at ci; omega
        clear ci hch
        go_wp2_with fail
        go_ret2
        exact ⟨by rw [HV.out.1]; exact PG.nil _ _ _ HV.out.2, B1.out⟩
    case pos =>
      have HV := Lib.hid (pr_in hch ci)
      have hm := ch_le hch
      obtain ⟨I, hI⟩ : ∃ I, i.toNat = I := ⟨_, rfl⟩
      have ei : i = (I : Int) := by omega
      rw [hI] at HV
      subst ei
      rw [HL.out] at ci hm
      have HM := Lib.hid hm
      have c1 : 0 ≤ (I : Int) := by omega
      have c2 : (I : Int) < m := by omega
      have HI : Hid (I < m) := Lib.hid (by omega)
      have HO := Lib.hid own
      have HLL : Hid ((lvs rs).length = m) := Lib.hid (by rw [lvs_len, HL.out])
      have HPL := Lib.hid (prD_le (ls := lvs rs) (by rw [HLL.out]; exact hm) I)
      generalize lvs rs = all at *
      clear ci hch hI hi1 hi2 hm own
      go_wp2_with fail
      go_loopw [1, 4, 5, 6, 8] (fun iv _ _ lv pv wr => ∃ (n k L c c' : Nat) (A A' : Option Addr) (cur ps : List (List Int)), lv = .slice A n c ∧ iv = .int .i64 (k : Int) ∧ pv = .slice A' L c' ∧ HasD w1 A cur ∧ cur.length = n ∧ n ≤ 600 ∧ n ≤ c ∧ c ≤ 9223372036854775807 ∧ k < n ∧ (prD all I).reverse = ps ++ (prD cur k).reverse ∧ L = ps.length ∧ OwnD wr w1.heap.size (.slice A' L c') ps ∧ Below w1.heap.size w1 wr) (fun _ _ _ lv _ _ => match lv with | .slice _ n _ => n | _ => 0)
      case atStart => exact ⟨m, I, 0, lc, 0, LA, none, all, [], rfl, rfl, rfl, HO.out.has, HLL.out, HM.out, HO.out.len.2.1, by have := HO.out.len.2.2; unfold maxLen at this; omega, HI.out, by simp, rfl, OwnD.nil _ _, Below.refl _ _⟩
      case round =>
        obtain ⟨n, k, L, c, c', A, A', cur, ps, rfl, rfl, rfl, hA, hl, hn, hc, hm, hk, hrev, hL, own, acc⟩ := hrel
        have HA := Lib.hid hA
        have HCL := Lib.hid hl
        have HC := Lib.hid (And.intro hc hm)
        have HREV := Lib.hid hrev
        have HLE := Lib.hid hL
        have HOW := Lib.hid own
        have HACC := Lib.hid acc
        have HPS : Hid (L ≤ 10) := Lib.hid (by have h := HPL.out; have := congrArg List.length hrev; rw [List.length_reverse, List.length_append] at this; omega)
        have n9 : (n : Int) ≤ 600 := by omega
        have k0 : 0 ≤ (k : Int) := by omega
        have k3 : (k : Int) < n := by omega
        by_cases h2 : 2 ≤ n
        · have k1 := half_pos n
          have k2 := half_lt h2
          have F := Lib.hid (fun w => first_any n w h2 hn)
          have HRV := Lib.hid (prD_rev (ls := cur) (k := half n) (by rw [HCL.out]; exact h2) (by rw [HCL.out]) k)
          obtain ⟨b, off, rfl, hb⟩ := HA.out.some (by rw [HCL.out]; omega)
          generalize half n = h at *
          have HF := Lib.hid (HA.out.front h)
          have HG := Lib.hid (cut_at HA.out (k := h) (by rw [HCL.out]; exact k2) (by rw [HCL.out]; exact hc))
          have HLT : Hid ((cur.take h).length = h) := Lib.hid (by rw [List.length_take, HCL.out]; omega)
          have HLD : Hid ((cur.drop h).length = n - h) := Lib.hid (by rw [List.length_drop, HCL.out])
          have DT := Lib.hid (rt_isD _ _ rfl HF.out.d)
          have DD := Lib.hid (rt_isD _ _ rfl HG.out.d)
          generalize cur.take h = l1 at *
          generalize cur.drop h = l2 at *
          have e1 : (1 : Int) < n := by omega
          have q1 : ¬ c = h := by omega
          have q2 : (h : Int) ≤ n := by omega
          have q3 : (h : Int) ≤ c := by omega
          have q4 : (n : Int) ≤ c := by omega
          have HK := Lib.hid (And.intro k1 (And.intro k2 (And.intro hn (And.intro hc hk))))
          clear hA hl hc hm hn h2 k1 k2 hk hb hrev hL own acc
          go_wp2_with fail
          refine (F.out _).mono ?_
          rintro e _ ⟨rfl, rfl⟩
          rename World => w2
          go_upto_region 9 with fail
          go_quiet (fail)
          rename Nat => nq
          replace HOW := Lib.hid (HOW.out.past (below_drewN (Below.refl _ _) nq))
          replace HACC := Lib.hid (below_drewN HACC.out nq)
          generalize w2.drewN nq = w2' at *
          by_cases ck : k < h
          · have d1 : (k : Int) < h := by omega
            rw [if_pos ck] at HRV
            have HCK := Lib.hid ck
            clear ck
            go_wp2_with fail
            refine (root_any (n - h) l2 (some ⟨b, off + h * 20, none⟩) (c - h) _ (HG.out.past HACC.out) HLD.out (by have := HK.out; omega) (by have := HC.out; omega) (by have := HK.out; omega) ((HT.out.below B1.out (Nat.le_refl _)).below HACC.out (Nat.le_refl _))).mono ?_
            (rintro e w3 ⟨rfl, b3⟩; have B3 := Lib.hid (bb HACC.out b3); have O3 := Lib.hid (HOW.out.past b3); have Y1 := Lib.hid (z20_at w3 rfl); have G1 := bnew w3 (.cells #[.int .u8 0, .int .u8 0, .int .u8 0, .int .u8 0, .int .u8 0, .int .u8 0, .int .u8 0, .int .u8 0, .int .u8 0, .int .u8 0, .int .u8 0, .int .u8 0, .int .u8 0, .int .u8 0, .int .u8 0, .int .u8 0, .int .u8 0, .int .u8 0, .int .u8 0, .int .u8 0] 26); have B4 := Lib.hid (bb B3.out G1); have O4 := Lib.hid (O3.out.past G1); have AP := Lib.hid (O3.out.apart (g := w3.heap.size) (Nat.le_refl _)); have LE3 := Lib.hid B3.out.size; clear b3 G1 B3 O3 HOW HACC; obtain ⟨q, hq⟩ : ∃ q, rtD l2 = q := ⟨_, rfl⟩; have HQ := Lib.hid DD.out; rw [hq] at HQ HRV ⊢; clear hq; go_wp2_with (first | (show wpList _ _ _ ({ dst := none, op := Op.store 26 (.tmp 12) _, type := _, pos := _, after := _, guard := _ } :: _) _ _; go_must (refine trW.wp_st (g := w3.heap.size) (l := q) (by rfl) _ _ rfl (Y1.out) (zd_isD.len) (HQ.out.len) rfl rfl ?_); intro w4 hR4 hg4 hb4 hz4; have R4 := Lib.hid hR4; have O5 := Lib.hid (O4.out.kept hg4 AP.out); have B5 := Lib.hid (B4.out.trans (hb4.mono LE3.out)); clear hR4 hg4 hb4 hz4 B4 O4 Y1; have G4 := bnew w4 (.cells (darr q) 26); have O6 := Lib.hid (O5.out.past G4); have B6 := Lib.hid (bb B5.out G4); have LQ := Lib.hid (lit_one (w := w4) (g := w4.heap.size) rfl HQ.out); clear G4) | (show wpList _ _ _ ({ dst := _, op := Op.load 26 (.tmp 12), type := _, pos := _, after := _, guard := _ } :: _) _ _; go_must (refine trW.wp_l0 (l := q) (by rfl) _ rfl (R4.out) (HQ.out.len) rfl ?_)) | (show wpList _ _ _ ({ dst := _, op := Op.buildSlice 34 1 _, type := _, pos := _, after := _, guard := _ } :: _) _ _; go_must (refine trW.wp_lit1 (q := q) (by rfl) _ rfl (HQ.out.len) rfl ?_)) | (at_builtin; refine appD (by rfl) _ _ rfl w1.heap.size _ ps rfl O6.out ⟨w4.heap.size, 0, none⟩ 1 1 [q] rfl rfl LQ.out (by have := HPS.out; have := HLE.out; omega) B6.out.size (by omega) (L + 1) (by rw [HLE.out]) ?_; intro A7 c7 w7 ho7 hg7 hb7)))
            go_roundw
            case rel => exact ⟨_, _, _, _, _, ⟨h, k, L + 1, c, c7, some ⟨b, off, none⟩, rfl, rfl, A7, rfl, l1, HF.out, HLT.out, by have := HK.out; omega, by have := HK.out; omega, HC.out.2, HCK.out, ps ++ [q], by have e := HREV.out; rw [HRV.out] at e; rw [← List.reverse_reverse (prD all I), e]; simp, by rw [HLE.out]; simp, ho7, B6.out.trans hb7⟩, rfl, rfl, rfl, rfl, rfl⟩
            case measure => have := HK.out; omega
          · have d1 : ¬ (k : Int) < h := by omega
            obtain ⟨k', hk'⟩ : ∃ k', k - h = k' := ⟨_, rfl⟩
            have z2 : (k : Int) - h = (k' : Int) := by omega
            have z4 : IntKind.i64.wrap (k' : Int) = (k' : Int) := IntWalk.i64_in _ (by omega)
            have HII : Hid (k' < n - h) := Lib.hid (by have := HK.out; omega)
            rw [if_neg ck, hk'] at HRV
            clear ck hk'
            go_wp2_with fail
            refine (root_any h l1 (some ⟨b, off, none⟩) c _ (HF.out.past HACC.out) HLT.out (by have := HK.out; omega) HC.out.2 (by have := HK.out; omega) ((HT.out.below B1.out (Nat.le_refl _)).below HACC.out (Nat.le_refl _))).mono ?_
            (rintro e w3 ⟨rfl, b3⟩; have B3 := Lib.hid (bb HACC.out b3); have O3 := Lib.hid (HOW.out.past b3); have Y1 := Lib.hid (z20_at w3 rfl); have G1 := bnew w3 (.cells #[.int .u8 0, .int .u8 0, .int .u8 0, .int .u8 0, .int .u8 0, .int .u8 0, .int .u8 0, .int .u8 0, .int .u8 0, .int .u8 0, .int .u8 0, .int .u8 0, .int .u8 0, .int .u8 0, .int .u8 0, .int .u8 0, .int .u8 0, .int .u8 0, .int .u8 0, .int .u8 0] 26); have B4 := Lib.hid (bb B3.out G1); have O4 := Lib.hid (O3.out.past G1); have AP := Lib.hid (O3.out.apart (g := w3.heap.size) (Nat.le_refl _)); have LE3 := Lib.hid B3.out.size; clear b3 G1 B3 O3 HOW HACC; obtain ⟨q, hq⟩ : ∃ q, rtD l1 = q := ⟨_, rfl⟩; have HQ := Lib.hid DT.out; rw [hq] at HQ HRV ⊢; clear hq; go_wp2_with (first | (show wpList _ _ _ ({ dst := none, op := Op.store 26 (.tmp 12) _, type := _, pos := _, after := _, guard := _ } :: _) _ _; go_must (refine trW.wp_st (g := w3.heap.size) (l := q) (by rfl) _ _ rfl (Y1.out) (zd_isD.len) (HQ.out.len) rfl rfl ?_); intro w4 hR4 hg4 hb4 hz4; have R4 := Lib.hid hR4; have O5 := Lib.hid (O4.out.kept hg4 AP.out); have B5 := Lib.hid (B4.out.trans (hb4.mono LE3.out)); clear hR4 hg4 hb4 hz4 B4 O4 Y1; have G4 := bnew w4 (.cells (darr q) 26); have O6 := Lib.hid (O5.out.past G4); have B6 := Lib.hid (bb B5.out G4); have LQ := Lib.hid (lit_one (w := w4) (g := w4.heap.size) rfl HQ.out); clear G4) | (show wpList _ _ _ ({ dst := _, op := Op.load 26 (.tmp 12), type := _, pos := _, after := _, guard := _ } :: _) _ _; go_must (refine trW.wp_l0 (l := q) (by rfl) _ rfl (R4.out) (HQ.out.len) rfl ?_)) | (show wpList _ _ _ ({ dst := _, op := Op.buildSlice 34 1 _, type := _, pos := _, after := _, guard := _ } :: _) _ _; go_must (refine trW.wp_lit1 (q := q) (by rfl) _ rfl (HQ.out.len) rfl ?_)) | (at_builtin; refine appD (by rfl) _ _ rfl w1.heap.size _ ps rfl O6.out ⟨w4.heap.size, 0, none⟩ 1 1 [q] rfl rfl LQ.out (by have := HPS.out; have := HLE.out; omega) B6.out.size (by omega) (L + 1) (by rw [HLE.out]) ?_; intro A7 c7 w7 ho7 hg7 hb7)))
            go_roundw
            case rel => exact ⟨_, _, _, _, _, ⟨n - h, k', L + 1, c - h, c7, some ⟨b, off + h * 20, none⟩, rfl, rfl, A7, rfl, l2, HG.out, HLD.out, by have := HK.out; omega, by have := HK.out; omega, by have := HC.out; omega, HII.out, ps ++ [q], by have e := HREV.out; rw [HRV.out] at e; rw [← List.reverse_reverse (prD all I), e]; simp, by rw [HLE.out]; simp, ho7, B6.out.trans hb7⟩, rfl, rfl, rfl, rfl, rfl⟩
            case measure => have := HK.out; omega
        · have e1 : ¬ (1 : Int) < n := by omega
          have HEND : Hid (ps.reverse = prD all I) := Lib.hid (by rw [prD_one (ls := cur) (by rw [HCL.out]; exact h2) k] at hrev; rw [← List.reverse_reverse (prD all I), hrev]; simp)
          clear hA hl hc hm hn h2 hk hrev hL own acc
          go_wp2_with fail
          refine (RevD_any w1.heap.size A' L c' ps wr HOW.out (by have := HPS.out; omega)).mono ?_
          rintro e w2 ⟨rfl, o2, b2⟩
          have O2 := Lib.hid (o2.mono B1.out.size)
          have B2 := Lib.hid (bb B1.out (HACC.out.trans b2))
          clear o2 b2
          go_wp2_with fail
          go_ret2
          have hlen : (prD all I).length = L := by rw [← HEND.out, List.length_reverse, HLE.out]
          refine ⟨⟨A', c', by rw [HV.out.1, HV.out.2, hlen]; rfl, by rw [HV.out.2, hlen, ← HEND.out]; exact O2.out⟩, B2.out⟩
end Go.Proofs.YtjdgobfjpjnhgaaDoor.trW
