/- What the functions of package hashes and of its reference return, by walks. -/
import Derived.Test.YtnikphjhcicgbabBase
import Derived.Test.YtnikphjhcicgbabHashPlain
import Derived.WalkKit
import Derived.Lib.Hide
import Derived.WalkSpells
import Derived.WalkLawsBesides
import Derived.OneCell
namespace Go.Proofs.Ytnikphjhcicgbab.hashW
open Go.RowKit Go.Proofs.Ytnikphjhcicgbab.base Go.Proofs.Ytnikphjhcicgbab.hashP
set_option linter.unusedVariables false

set_option maxHeartbeats 400000 in
theorem rstep_any (h c : Int) (w : World) (h1 : 0 ≤ h) (h2 : h ≤ 4294967295) (c1 : 0 ≤ c) (c2 : c ≤ 255) :
    Calls Try.prog 34 #[.int .u32 h, .int .u8 c] w fun e w' => e = .returned (.int .u32 (hStep h c)) ∧ w = w' := by
  go_enter Try.func34, Try.ntmps34
  go_wp2
  go_ret
  exact ⟨rfl, rfl⟩

set_option maxHeartbeats 400000 in
theorem back_any (h c : Int) (w : World) (h1 : 0 ≤ h) (h2 : h ≤ 4294967295) (c1 : 0 ≤ c) (c2 : c ≤ 255) :
    Calls Try.prog 35 #[.int .u32 h, .int .u8 c] w fun e w' => e = .returned (.int .u32 (hBack h c)) ∧ w = w' := by
  go_enter Try.func35, Try.ntmps35
  go_wp2
  go_ret
  exact ⟨rfl, rfl⟩

-- The loop of the closure over the bytes.
set_option maxHeartbeats 1000000 in
theorem steps_some (h : Int) (b off cap : Nat) (zs : List Int) (w : World) (h1 : 0 ≤ h) (h2 : h ≤ 4294967295) (hz : ∀ z ∈ zs, 0 ≤ z ∧ z ≤ 255)
    (hb : b < w.heap.size) (hc : ∀ i, i < zs.length → w.cell? ⟨b, off + i, none⟩ = some (.int .u8 (zs.getD i 0))) (hl : zs.length ≤ 9223372036854775807) :
    Calls Try.prog 44 #[.int .u32 h, .slice (some ⟨b, off, none⟩) zs.length cap] w fun e w' => e = .returned (.int .u32 (hSteps h zs)) ∧ Below w.heap.size w w' := by
  have HC := Lib.hid hc
  clear hc
  have HZ := Lib.hid hz
  clear hz
  go_enter Try.func44, Try.ntmps44
  go_wp2_with fail
  go_loopw [11] (fun i wr => ∃ k : Nat, k ≤ zs.length ∧ i = .int .i64 k ∧ wr.heap[w.heap.size]? = some (.cells #[.int .u32 (hSteps h (zs.take k))] 38 (0, 0)) ∧ Below w.heap.size w wr) (fun i _ => zs.length - (intOf i).toNat)
  case atStart => exact ⟨0, Nat.zero_le _, rfl, heap_alloc_new _ _, (Below.refl _ _).alloc (Nat.le_refl _) _⟩
  case round =>
    obtain ⟨k, hk, rfl, hblk, hbel⟩ := hrel
    have hcap := cell_of_one hblk
    have hfree := free_of_one hblk
    have Hblk := Lib.hid hblk
    clear hblk
    by_cases hlt : k < zs.length
    · have hcell : wr.cell? ⟨b, off + k, none⟩ = some (.int .u8 (zs.getD k 0)) := by rw [(bcell hbel).1 b _ hb]; exact HC.out k hlt
      have hbd := HZ.out (zs.getD k 0) (by rw [List.getD_eq_getElem?_getD, List.getElem?_eq_getElem hlt]; simp)
      have hsb := hSteps_bd (zs.take k) h1 h2 (fun z hz => HZ.out z (List.mem_of_mem_take hz))
      generalize hv : zs.getD k 0 = v at *
      generalize hs : hSteps h (zs.take k) = g at *
      have v1 := hbd.1
      have v2 := hbd.2
      have g1 := hsb.1
      have g2 := hsb.2
      have HV := Lib.hid hv
      have HS := Lib.hid hs
      clear hbd hsb hv hs
      go_wp2
      go_end0
      go_wp2
      go_roundw
      case rel =>
        refine ⟨k + 1, by omega, by go_num, ?_, hbel.setCell (Nat.le_refl _) _⟩
        rw [take_snoc 0 zs k hlt, hSteps_snoc, HV.out, HS.out]
        exact one_setCell Hblk.out
      case measure => simp [intOf]; omega
    · have : zs.take k = zs := List.take_of_length_le (by omega)
      have HT := Lib.hid this
      clear this
      go_wp2
      go_ret
      exact ⟨ret1 (by rw [HT.out]), hbel⟩

set_option maxHeartbeats 1000000 in
theorem steps_nil (h : Int) (a : Option Addr) (cap : Nat) (w : World) (h1 : 0 ≤ h) (h2 : h ≤ 4294967295) :
    Calls Try.prog 44 #[.int .u32 h, .slice a 0 cap] w fun e w' => e = .returned (.int .u32 h) ∧ Below w.heap.size w w' := by
  go_enter Try.func44, Try.ntmps44
  go_wp2_with fail
  go_loopw [11] (fun i wr => i = .int .i64 0 ∧ wr.heap[w.heap.size]? = some (.cells #[.int .u32 h] 38 (0, 0)) ∧ Below w.heap.size w wr) (fun i _ => 0)
  case atStart => exact ⟨rfl, heap_alloc_new _ _, (Below.refl _ _).alloc (Nat.le_refl _) _⟩
  case round =>
    obtain ⟨rfl, hblk, hbel⟩ := hrel
    have hcap := cell_of_one hblk
    go_wp2
    go_ret
    exact ⟨rfl, hbel⟩

theorem steps_any (h : Int) (a : Option Addr) (len cap : Nat) (zs : List Int) (w : World) (h1 : 0 ≤ h) (h2 : h ≤ 4294967295) (hz : ∀ z ∈ zs, 0 ≤ z ∧ z ≤ 255)
    (hc : Has .u8 w a zs) (hlen : zs.length = len) (hl : len ≤ 9223372036854775807) :
    Calls Try.prog 44 #[.int .u32 h, .slice a len cap] w fun e w' => e = .returned (.int .u32 (hSteps h zs)) ∧ Below w.heap.size w w' := by
  subst hlen
  rcases hc with rfl | ⟨b, off, rfl, hb, hc⟩
  · exact steps_nil h a cap w h1 h2
  · exact steps_some h b off cap zs w h1 h2 hz hb hc hl

set_option maxHeartbeats 1000000 in
theorem step_any (h c : Int) (w : World) (h1 : 0 ≤ h) (h2 : h ≤ 4294967295) (c1 : 0 ≤ c) (c2 : c ≤ 255) :
    Calls Try.prog 33 #[.int .u32 h, .int .u8 c] w fun e w' => e = .returned (.int .u32 (hStep h c)) ∧ Below w.heap.size w w' := by
  have hall : ∀ z ∈ [c], 0 ≤ z ∧ z ≤ 255 := by simp; omega
  have HA := Lib.hid hall
  clear hall
  have HE : Hid (hSteps h [c] = hStep h c) := Lib.hid rfl
  go_enter Try.func33, Try.ntmps33
  go_wp2_with fail
  refine (steps_any h _ 1 1 [c] _ h1 h2 HA.out (.inr ⟨w.heap.size, 0, rfl, by simp, fun i hi => ?_⟩) rfl (by omega)).mono ?_
  · obtain rfl : i = 0 := by simp at hi; omega
    go_simp
  · rintro e w' ⟨rfl, hb⟩
    go_wp2_with fail
    go_ret
    exact ⟨ret1 HE.out, ((Below.refl _ _).alloc (Nat.le_refl _) _).trans (hb.mono (by simp))⟩

def kOk (k : Int) : Bool := decide (0 ≤ k) && decide (k < 8)
def kStart (k : Int) : Int := if kOk k then (k + 1) * 2654435769 % 4294967296 else 0
def kE (k : Int) : Int := if kOk k then 0 else 2
theorem kOk_iff (k : Int) : kOk k = true ↔ 0 ≤ k ∧ k < 8 := by simp [kOk]
theorem kOk_no (k : Int) : kOk k = false ↔ k < 0 ∨ 8 ≤ k := by simp [kOk]; omega
theorem kStart_bd (k : Int) : 0 ≤ kStart k ∧ kStart k ≤ 4294967295 := by unfold kStart; split <;> omega
theorem kE_bd (k : Int) : 0 ≤ kE k ∧ kE k ≤ 2 := by unfold kE; split <;> omega

set_option maxHeartbeats 400000 in
theorem start_any (k : Int) (w : World) :
    Calls Try.prog 27 #[.int .i64 k] w fun e w' => e = .returned (.tuple #[.int .u32 (kStart k), .int .i64 (kE k)]) ∧ w = w' := by
  by_cases c1 : k < 0
  · have h : kOk k = false := (kOk_no k).2 (by omega)
    go_enter Try.func27, Try.ntmps27
    go_wp2
    go_ret2
    exact ⟨ret2 (by simp [kStart, h]) (by simp [kE, h]), rfl⟩
  · by_cases c2 : 8 ≤ k
    · have h : kOk k = false := (kOk_no k).2 (by omega)
      go_enter Try.func27, Try.ntmps27
      go_wp2
      go_ret2
      exact ⟨ret2 (by simp [kStart, h]) (by simp [kE, h]), rfl⟩
    · have h : kOk k = true := (kOk_iff k).2 (by omega)
      go_enter Try.func27, Try.ntmps27
      go_wp2
      go_ret2
      exact ⟨ret2 (by simp [kStart, h]) (by simp [kE, h]), rfl⟩

set_option maxHeartbeats 400000 in
theorem rkind_any (k : Int) (w : World) :
    Calls Try.prog 40 #[.int .i64 k] w fun e w' => e = .returned (.bool (kOk k)) ∧ w = w' := by
  by_cases c1 : 0 ≤ k
  · go_enter Try.func40, Try.ntmps40
    go_wp2
    go_ret
    exact ⟨retb (by simp [kOk]; omega), rfl⟩
  · go_enter Try.func40, Try.ntmps40
    go_wp2
    go_ret
    exact ⟨retb (by simp [kOk]; omega), rfl⟩

set_option maxHeartbeats 400000 in
theorem rbegin_any (k : Int) (w : World) (h1 : 0 ≤ k) (h2 : k < 8) :
    Calls Try.prog 45 #[.int .i64 k] w fun e w' => e = .returned (.int .u32 (kStart k)) ∧ w = w' := by
  have h : kOk k = true := (kOk_iff k).2 (by omega)
  go_enter Try.func45, Try.ntmps45
  go_wp2
  go_ret
  exact ⟨ret1 (by simp [kStart, h]), rfl⟩

set_option maxHeartbeats 400000 in
theorem rstart_any (k : Int) (w : World) :
    Calls Try.prog 32 #[.int .i64 k] w fun e w' => e = .returned (.tuple #[.int .u32 (kStart k), .int .i64 (kE k)]) ∧ w = w' := by
  cases h : kOk k
  · go_enter Try.func32, Try.ntmps32
    go_wp2_with (first | (go_at_call 40; refine (rkind_any _ _).mono ?_; rintro e w' ⟨rfl, rfl⟩) | go_in)
    go_ret2
    exact ⟨ret2 (by simp [kStart, h]) (by simp [kE, h]), rfl⟩
  · have hk := (kOk_iff k).1 h
    have k1 := hk.1
    have k2 := hk.2
    clear hk
    go_enter Try.func32, Try.ntmps32
    go_wp2_with (first | (go_at_call 40; refine (rkind_any _ _).mono ?_; rintro e w' ⟨rfl, rfl⟩) | (go_at_call 45; refine (rbegin_any _ _ k1 k2).mono ?_; rintro e w' ⟨rfl, rfl⟩) | go_in)
    go_ret2
    exact ⟨ret2 rfl (by simp [kE, h]), rfl⟩

set_option maxHeartbeats 400000 in
theorem check_any (h : Int) (w : World) (h1 : 0 ≤ h) (h2 : h ≤ 4294967295) :
    Calls Try.prog 30 #[.int .u32 h] w fun e w' => e = .returned (.int .u8 (h / 16777216)) ∧ w = w' := by
  go_enter Try.func30, Try.ntmps30
  go_wp2
  go_ret
  exact ⟨rfl, rfl⟩
set_option maxHeartbeats 400000 in
theorem rcheck_any (h : Int) (w : World) (h1 : 0 ≤ h) (h2 : h ≤ 4294967295) :
    Calls Try.prog 37 #[.int .u32 h] w fun e w' => e = .returned (.int .u8 (h / 16777216)) ∧ w = w' := by
  go_enter Try.func37, Try.ntmps37
  go_wp2
  go_ret
  exact ⟨rfl, rfl⟩

/-- The powers that the reference goes through. -/
def invs : Nat → Int × Int
  | 0 => (1, 16777619)
  | k + 1 => ((invs k).1 * (invs k).2 % 4294967296, (invs k).2 * (invs k).2 % 4294967296)
theorem invs_bd : ∀ k, 0 ≤ (invs k).1 ∧ (invs k).1 ≤ 4294967295 ∧ 0 ≤ (invs k).2 ∧ (invs k).2 ≤ 4294967295
  | 0 => by decide
  | k + 1 => by simp only [invs]; omega
theorem invs_30 : (invs 30).1 = 899433627 := by decide +kernel

set_option maxHeartbeats 400000 in
theorem inverse_any (w : World) :
    Calls Try.prog 46 #[] w fun e w' => e = .returned (.int .u32 899433627) ∧ w = w' := by
  go_enter Try.func46, Try.ntmps46
  go_wp2_with fail
  go_loop [1, 2, 3] (fun a b i => ∃ k : Nat, k ≤ 30 ∧ i = .int .i64 k ∧ a = .int .u32 (invs k).1 ∧ b = .int .u32 (invs k).2) (fun _ _ i => 30 - (intOf i).toNat)
  case atStart => exact ⟨0, by omega, rfl, rfl, rfl⟩
  case round =>
    obtain ⟨k, hk, rfl, rfl, rfl⟩ := hrel
    have hb := invs_bd k
    have b1 := hb.1
    have b2 := hb.2.1
    have b3 := hb.2.2.1
    have b4 := hb.2.2.2
    clear hb
    have HN : Hid (invs (k + 1) = ((invs k).1 * (invs k).2 % 4294967296, (invs k).2 * (invs k).2 % 4294967296)) := Lib.hid rfl
    by_cases hlt : k < 30
    · go_wp2
      go_round
      case rel => exact ⟨k + 1, by omega, by go_num, by rw [HN.out], by rw [HN.out]⟩
      case measure => simp [intOf]; omega
    · obtain rfl : k = 30 := by omega
      go_wp2
      go_ret
      exact ⟨ret1 invs_30, rfl⟩

set_option maxHeartbeats 400000 in
theorem rback_any (h c : Int) (w : World) (h1 : 0 ≤ h) (h2 : h ≤ 4294967295) (c1 : 0 ≤ c) (c2 : c ≤ 255) :
    Calls Try.prog 36 #[.int .u32 h, .int .u8 c] w fun e w' => e = .returned (.int .u32 (hBack h c)) ∧ w = w' := by
  have HB := Lib.hid (hBack_ref h c h1 h2)
  have xb := xor_bd h1 h2 (b := h / 32768) (by omega) (by omega)
  have x1 := xb.1
  have x2 := xb.2
  clear xb
  go_enter Try.func36, Try.ntmps36
  go_wp2_with (first | (go_at_call 46; refine (inverse_any _).mono ?_; rintro e w' ⟨rfl, rfl⟩) | go_in)
  go_ret
  exact ⟨ret1 HB.out, rfl⟩

set_option maxHeartbeats 1000000 in
theorem of_ok (k : Int) (a : Option Addr) (len cap : Nat) (zs : List Int) (w : World) (h1 : 0 ≤ k) (h2 : k < 8) (hz : ∀ z ∈ zs, 0 ≤ z ∧ z ≤ 255)
    (hc : Has .u8 w a zs) (hlen : zs.length = len) (hl : len ≤ 20000) :
    Calls Try.prog 28 #[.int .i64 k, .slice a len cap] w fun e w' => e = .returned (.tuple #[.int .u32 (hSteps (kStart k) zs), .int .i64 0]) ∧ Below w.heap.size w w' := by
  have HZ := Lib.hid hz
  have HC := Lib.hid hc
  have HL := Lib.hid hlen
  clear hz hc hlen
  have e1 : kE k = 0 := by simp [kE, (kOk_iff k).2 ⟨h1, h2⟩]
  have b := kStart_bd k
  have b1 := b.1
  have b2 := b.2
  clear b
  go_enter Try.func28, Try.ntmps28
  go_wp2_with (first | (go_at_call 27; refine (start_any _ _).mono ?_; rintro e w' ⟨rfl, rfl⟩) | (go_at_call 44; refine (steps_any _ _ _ _ zs _ b1 b2 HZ.out HC.out HL.out (by omega)).mono ?_; rintro e w' ⟨rfl, hb⟩) | go_in)
  go_ret2
  exact ⟨rfl, hb⟩

set_option maxHeartbeats 1000000 in
theorem of_kind (k : Int) (a : Option Addr) (len cap : Nat) (w : World) (h1 : kOk k = false) :
    Calls Try.prog 28 #[.int .i64 k, .slice a len cap] w fun e w' => e = .returned (.tuple #[.int .u32 0, .int .i64 2]) ∧ w = w' := by
  have e1 : kE k = 2 := by simp [kE, h1]
  go_enter Try.func28, Try.ntmps28
  go_wp2_with (first | (go_at_call 27; refine (start_any _ _).mono ?_; rintro e w' ⟨rfl, rfl⟩) | go_in)
  go_ret2
  exact ⟨rfl, rfl⟩

set_option maxHeartbeats 1000000 in
theorem of_many (k : Int) (a : Option Addr) (len cap : Nat) (w : World) (h1 : kOk k = true) (hl : 20000 < len) :
    Calls Try.prog 28 #[.int .i64 k, .slice a len cap] w fun e w' => e = .returned (.tuple #[.int .u32 0, .int .i64 4]) ∧ w = w' := by
  have e1 : kE k = 0 := by simp [kE, h1]
  go_enter Try.func28, Try.ntmps28
  go_wp2_with (first | (go_at_call 27; refine (start_any _ _).mono ?_; rintro e w' ⟨rfl, rfl⟩) | go_in)
  go_ret2
  exact ⟨rfl, rfl⟩

theorem all_snoc {P : Nat → Prop} {k : Nat} (h : ∀ j, j < k → P j) (hk : P k) : ∀ j, j < k + 1 → P j := fun j hj => by
  rcases Nat.lt_or_ge j k with c | c
  · exact h j c
  · have e : j = k := by omega
    rw [e]; exact hk
/-- Numbers of places: the powers of two up to 2^20. -/
def sizeB (s : Int) : Bool := (List.range 21).any fun k => decide (s = 2 ^ k)
theorem sizeB_iff (s : Int) : sizeB s = true ↔ ∃ k : Nat, k ≤ 20 ∧ s = 2 ^ k := by
  simp only [sizeB, List.any_eq_true, List.mem_range, decide_eq_true_eq]
  constructor
  · rintro ⟨k, hk, e⟩; exact ⟨k, by omega, e⟩
  · rintro ⟨k, hk, e⟩; exact ⟨k, by omega, e⟩
def placeV (h s : Int) : Int := if sizeB s then h % s else 0
def placeE (s : Int) : Int := if sizeB s then 0 else 2
theorem pow20 {k : Nat} (h : k ≤ 20) : (1 : Int) ≤ 2 ^ k ∧ (2 : Int) ^ k ≤ 1048576 := by
  have a : (2 : Nat) ^ k ≤ 2 ^ 20 := Nat.pow_le_pow_right (by omega) h
  have b : 0 < (2 : Nat) ^ k := Nat.pos_of_ne_zero (by simp)
  have c : ((2 ^ k : Nat) : Int) = 2 ^ k := by simp
  omega
theorem mask_i64 {h : Int} {k : Nat} (h1 : 0 ≤ h) (h2 : h ≤ 4294967295) (hk : k ≤ 20) : bits .and .i64 h (2 ^ k - 1) = h % 2 ^ k := by
  have := bits_mask .i64 63 (by decide) (fun n a b => by rw [IntKind.wrap_i64]; omega) k (by omega) h h1 (by omega)
  exact this

set_option maxHeartbeats 1000000 in
theorem place_any (h s : Int) (w : World) (h1 : 0 ≤ h) (h2 : h ≤ 4294967295) :
    Calls Try.prog 29 #[.int .u32 h, .int .i64 s] w fun e w' => e = .returned (.tuple #[.int .i64 (placeV h s), .int .i64 (placeE s)]) ∧ w = w' := by
  go_enter Try.func29, Try.ntmps29
  go_wp2_with fail
  go_loop [7] (fun i => ∃ k : Nat, k ≤ 21 ∧ i = .int .i64 k ∧ ∀ j, j < k → s ≠ 2 ^ j) (fun i => 21 - (intOf i).toNat)
  case atStart => exact ⟨0, by omega, rfl, by omega⟩
  case round =>
    obtain ⟨k, hk, rfl, hno⟩ := hrel
    have HN := Lib.hid hno
    clear hno
    by_cases hlt : k < 21
    · have p := pow20 (k := k) (by omega)
      have p1 := p.1
      have p2 := p.2
      clear p
      by_cases e : s = 2 ^ k
      · subst e
        have HM := Lib.hid (mask_i64 (k := k) h1 h2 (by omega))
        have HS : Hid (sizeB (2 ^ k) = true) := Lib.hid ((sizeB_iff _).2 ⟨k, by omega, rfl⟩)
        go_wp2
        go_ret2
        exact ⟨ret2 (by rw [placeV, if_pos HS.out]; exact HM.out) (by rw [placeE, if_pos HS.out]), rfl⟩
      · have e' : (s == 2 ^ k) = false := by simpa using e
        have HE := Lib.hid e
        clear e
        go_wp2
        go_round
        case rel => exact ⟨k + 1, by omega, by go_num, all_snoc HN.out HE.out⟩
        case measure => simp [intOf]; omega
    · have HS : Hid (¬ sizeB s = true) := Lib.hid (by rw [sizeB_iff]; rintro ⟨j, hj, e⟩; exact HN.out j (by omega) e)
      go_wp2
      go_ret2
      exact ⟨ret2 (by rw [placeV, if_neg HS.out]) (by rw [placeE, if_neg HS.out]), rfl⟩

set_option maxHeartbeats 1000000 in
theorem rsize_any (s : Int) (w : World) :
    Calls Try.prog 41 #[.int .i64 s] w fun e w' => e = .returned (.bool (sizeB s)) ∧ w = w' := by
  go_enter Try.func41, Try.ntmps41
  go_wp2_with fail
  go_loop [3] (fun i => ∃ k : Nat, k ≤ 21 ∧ i = .int .i64 (2 ^ k) ∧ ∀ j, j < k → s ≠ 2 ^ j) (fun i => 2097153 - (intOf i).toNat)
  case atStart => exact ⟨0, by omega, rfl, by omega⟩
  case round =>
    obtain ⟨k, hk, rfl, hno⟩ := hrel
    have HN := Lib.hid hno
    clear hno
    by_cases hlt : k < 21
    · have p := pow20 (k := k) (by omega)
      have p1 := p.1
      have p2 := p.2
      clear p
      by_cases e : s = 2 ^ k
      · subst e
        have HS : Hid (sizeB (2 ^ k) = true) := Lib.hid ((sizeB_iff _).2 ⟨k, by omega, rfl⟩)
        go_wp2
        go_ret
        exact ⟨retb HS.out.symm, rfl⟩
      · have e' : (2 ^ k == s) = false := by simpa using fun h => e h.symm
        have HE := Lib.hid e
        clear e
        go_wp2
        go_round
        case rel => exact ⟨k + 1, by omega, by rw [Int.pow_succ], all_snoc HN.out HE.out⟩
        case measure => simp [intOf]; omega
    · obtain rfl : k = 21 := by omega
      have HS : Hid (sizeB s = false) := Lib.hid (by rw [Bool.eq_false_iff, ne_eq, sizeB_iff]; rintro ⟨j, hj, e⟩; exact HN.out j (by omega) e)
      go_wp2
      go_ret
      exact ⟨retb HS.out.symm, rfl⟩
end Go.Proofs.Ytnikphjhcicgbab.hashW
