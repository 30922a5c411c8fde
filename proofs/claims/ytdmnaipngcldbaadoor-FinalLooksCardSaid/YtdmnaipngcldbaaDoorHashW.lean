/- What the functions of package hashes and of its reference return, by walks. -/
import Derived.Test.YtdmnaipngcldbaaDoorBase
import Derived.Test.YtdmnaipngcldbaaDoorHashPlain
import Derived.WalkKit
import Derived.Lib.Hide
import Derived.WalkSpells
import Derived.WalkLawsBesides
import Derived.OneCell
namespace Go.Proofs.YtdmnaipngcldbaaDoor.hashW
set_option maxRecDepth 100000
open Go.RowKit Go.Proofs.YtdmnaipngcldbaaDoor.base Go.Proofs.YtdmnaipngcldbaaDoor.hashP
set_option linter.unusedVariables false

set_option maxHeartbeats 400000 in
theorem rstep_any (h c : Int) (w : World) (h1 : 0 ≤ h) (h2 : h ≤ 4294967295) (c1 : 0 ≤ c) (c2 : c ≤ 255) :
    Calls Tryd.prog 45 #[.int .u32 h, .int .u8 c] w fun e w' => e = .returned (.int .u32 (hStep h c)) ∧ w = w' := by
  go_enter Tryd.func45, Tryd.ntmps45
  go_wp2
  go_ret
  exact ⟨rfl, rfl⟩

set_option maxHeartbeats 1000000 in
theorem steps_some (h : Int) (b off cap : Nat) (zs : List Int) (w : World) (h1 : 0 ≤ h) (h2 : h ≤ 4294967295) (hz : ∀ z ∈ zs, 0 ≤ z ∧ z ≤ 255)
    (hb : b < w.heap.size) (hc : ∀ i, i < zs.length → w.cell? ⟨b, off + i, none⟩ = some (.int .u8 (zs.getD i 0))) (hl : zs.length ≤ 9223372036854775807) :
    Calls Tryd.prog 43 #[.int .u32 h, .slice (some ⟨b, off, none⟩) zs.length cap] w fun e w' => e = .returned (.int .u32 (hSteps h zs)) ∧ Below w.heap.size w w' := by
  have HC := Lib.hid hc
  clear hc
  have HZ := Lib.hid hz
  clear hz
  go_enter Tryd.func43, Tryd.ntmps43
  go_wp2_with fail
  go_loopw [11] (fun i wr => ∃ k : Nat, k ≤ zs.length ∧ i = .int .i64 k ∧ wr.heap[w.heap.size]? = some (.cells #[.int .u32 (hSteps h (zs.take k))] 62 (0, 0)) ∧ Below w.heap.size w wr) (fun i _ => zs.length - (intOf i).toNat)
  case atStart => exact ⟨0, Nat.zero_le _, rfl, heap_alloc_new _ _, (Below.refl _ _).alloc (Nat.le_refl _) _⟩
  case round =>
    obtain ⟨k, hk, rfl, hblk, hbel⟩ := hrel
    have hcap := cell_of_one hblk
    have hfree := free_of_one hblk
    have Hblk := Lib.hid hblk
    clear hblk
    by_cases hlt : k < zs.length
    · have hcell : wr.cell? ⟨b, off + k, none⟩ = some (.int .u8 (zs.getD k 0)) := by rw [(bcell hbel).1 b _ hb]; exact HC.out k hlt
      have hbd := HZ.out (zs.getD k 0) (by rw [List.getD_eq_getElem?_getD, List.getElem?_eq_getElem hlt]; simp)
      have hsb := hSteps_bd (zs.take k) h1 h2 (fun z hz => HZ.out z (List.mem_of_mem_take hz))
      generalize hv : zs.getD k 0 = v at *
      generalize hs : hSteps h (zs.take k) = g at *
      have v1 := hbd.1
      have v2 := hbd.2
      have g1 := hsb.1
      have g2 := hsb.2
      have HV := Lib.hid hv
      have HS := Lib.hid hs
      clear hbd hsb hv hs
      go_wp2
      go_end0
      go_wp2
      go_roundw
      case rel =>
        refine ⟨k + 1, by omega, by go_num, ?_, hbel.setCell (Nat.le_refl _) _⟩
        rw [take_snoc 0 zs k hlt, hSteps_snoc, HV.out, HS.out]
        exact one_setCell Hblk.out
      case measure => simp [intOf]; omega
    · have : zs.take k = zs := List.take_of_length_le (by omega)
      have HT := Lib.hid this
      clear this
      go_wp2
      go_ret
      exact ⟨ret1 (by rw [HT.out]), hbel⟩

set_option maxHeartbeats 1000000 in
theorem steps_nil (h : Int) (a : Option Addr) (cap : Nat) (w : World) (h1 : 0 ≤ h) (h2 : h ≤ 4294967295) :
    Calls Tryd.prog 43 #[.int .u32 h, .slice a 0 cap] w fun e w' => e = .returned (.int .u32 h) ∧ Below w.heap.size w w' := by
  go_enter Tryd.func43, Tryd.ntmps43
  go_wp2_with fail
  go_loopw [11] (fun i wr => i = .int .i64 0 ∧ wr.heap[w.heap.size]? = some (.cells #[.int .u32 h] 62 (0, 0)) ∧ Below w.heap.size w wr) (fun i _ => 0)
  case atStart => exact ⟨rfl, heap_alloc_new _ _, (Below.refl _ _).alloc (Nat.le_refl _) _⟩
  case round =>
    obtain ⟨rfl, hblk, hbel⟩ := hrel
    have hcap := cell_of_one hblk
    go_wp2
    go_ret
    exact ⟨rfl, hbel⟩

theorem steps_any (h : Int) (a : Option Addr) (len cap : Nat) (zs : List Int) (w : World) (h1 : 0 ≤ h) (h2 : h ≤ 4294967295) (hz : ∀ z ∈ zs, 0 ≤ z ∧ z ≤ 255)
    (hc : Has .u8 w a zs) (hlen : zs.length = len) (hl : len ≤ 9223372036854775807) :
    Calls Tryd.prog 43 #[.int .u32 h, .slice a len cap] w fun e w' => e = .returned (.int .u32 (hSteps h zs)) ∧ Below w.heap.size w w' := by
  subst hlen
  rcases hc with rfl | ⟨b, off, rfl, hb, hc⟩
  · exact steps_nil h a cap w h1 h2
  · exact steps_some h b off cap zs w h1 h2 hz hb hc hl

def kOk (k : Int) : Bool := decide (0 ≤ k) && decide (k < 8)
def kStart (k : Int) : Int := if kOk k then (k + 1) * 2654435769 % 4294967296 else 0
def kE (k : Int) : Int := if kOk k then 0 else 2
theorem kOk_iff (k : Int) : kOk k = true ↔ 0 ≤ k ∧ k < 8 := by simp [kOk]
theorem kOk_no (k : Int) : kOk k = false ↔ k < 0 ∨ 8 ≤ k := by simp [kOk]; omega
theorem kStart_bd (k : Int) : 0 ≤ kStart k ∧ kStart k ≤ 4294967295 := by unfold kStart; split <;> omega
theorem kE_bd (k : Int) : 0 ≤ kE k ∧ kE k ≤ 2 := by unfold kE; split <;> omega

set_option maxHeartbeats 400000 in
theorem start_any (k : Int) (w : World) :
    Calls Tryd.prog 42 #[.int .i64 k] w fun e w' => e = .returned (.tuple #[.int .u32 (kStart k), .int .i64 (kE k)]) ∧ w = w' := by
  by_cases c1 : k < 0
  · have h : kOk k = false := (kOk_no k).2 (by omega)
    go_enter Tryd.func42, Tryd.ntmps42
    go_wp2
    go_ret2
    exact ⟨ret2 (by simp [kStart, h]) (by simp [kE, h]), rfl⟩
  · by_cases c2 : 8 ≤ k
    · have h : kOk k = false := (kOk_no k).2 (by omega)
      go_enter Tryd.func42, Tryd.ntmps42
      go_wp2
      go_ret2
      exact ⟨ret2 (by simp [kStart, h]) (by simp [kE, h]), rfl⟩
    · have h : kOk k = true := (kOk_iff k).2 (by omega)
      go_enter Tryd.func42, Tryd.ntmps42
      go_wp2
      go_ret2
      exact ⟨ret2 (by simp [kStart, h]) (by simp [kE, h]), rfl⟩

set_option maxHeartbeats 400000 in
theorem rbegin_any (k : Int) (w : World) (h1 : 0 ≤ k) (h2 : k < 8) :
    Calls Tryd.prog 44 #[.int .i64 k] w fun e w' => e = .returned (.int .u32 (kStart k)) ∧ w = w' := by
  have h : kOk k = true := (kOk_iff k).2 (by omega)
  go_enter Tryd.func44, Tryd.ntmps44
  go_wp2
  go_ret
  exact ⟨ret1 (by simp [kStart, h]), rfl⟩

/-- The powers that the reference goes through. -/
def invs : Nat → Int × Int
  | 0 => (1, 16777619)
  | k + 1 => ((invs k).1 * (invs k).2 % 4294967296, (invs k).2 * (invs k).2 % 4294967296)
theorem invs_bd : ∀ k, 0 ≤ (invs k).1 ∧ (invs k).1 ≤ 4294967295 ∧ 0 ≤ (invs k).2 ∧ (invs k).2 ≤ 4294967295
  | 0 => by decide
  | k + 1 => by simp only [invs]; omega
theorem invs_30 : (invs 30).1 = 899433627 := by decide +kernel

set_option maxHeartbeats 1000000 in
theorem of_ok (k : Int) (a : Option Addr) (len cap : Nat) (zs : List Int) (w : World) (h1 : 0 ≤ k) (h2 : k < 8) (hz : ∀ z ∈ zs, 0 ≤ z ∧ z ≤ 255)
    (hc : Has .u8 w a zs) (hlen : zs.length = len) (hl : len ≤ 20000) :
    Calls Tryd.prog 27 #[.int .i64 k, .slice a len cap] w fun e w' => e = .returned (.tuple #[.int .u32 (hSteps (kStart k) zs), .int .i64 0]) ∧ Below w.heap.size w w' := by
  have HZ := Lib.hid hz
  have HC := Lib.hid hc
  have HL := Lib.hid hlen
  clear hz hc hlen
  have e1 : kE k = 0 := by simp [kE, (kOk_iff k).2 ⟨h1, h2⟩]
  have b := kStart_bd k
  have b1 := b.1
  have b2 := b.2
  clear b
  go_enter Tryd.func27, Tryd.ntmps27
  go_wp2_with (first | (go_at_call 42; refine (start_any _ _).mono ?_; rintro e w' ⟨rfl, rfl⟩) | (go_at_call 43; refine (steps_any _ _ _ _ zs _ b1 b2 HZ.out HC.out HL.out (by omega)).mono ?_; rintro e w' ⟨rfl, hb⟩) | go_in)
  go_ret2
  exact ⟨rfl, hb⟩

set_option maxHeartbeats 1000000 in
theorem of_kind (k : Int) (a : Option Addr) (len cap : Nat) (w : World) (h1 : kOk k = false) :
    Calls Tryd.prog 27 #[.int .i64 k, .slice a len cap] w fun e w' => e = .returned (.tuple #[.int .u32 0, .int .i64 2]) ∧ w = w' := by
  have e1 : kE k = 2 := by simp [kE, h1]
  go_enter Tryd.func27, Tryd.ntmps27
  go_wp2_with (first | (go_at_call 42; refine (start_any _ _).mono ?_; rintro e w' ⟨rfl, rfl⟩) | go_in)
  go_ret2
  exact ⟨rfl, rfl⟩

set_option maxHeartbeats 1000000 in
theorem of_many (k : Int) (a : Option Addr) (len cap : Nat) (w : World) (h1 : kOk k = true) (hl : 20000 < len) :
    Calls Tryd.prog 27 #[.int .i64 k, .slice a len cap] w fun e w' => e = .returned (.tuple #[.int .u32 0, .int .i64 4]) ∧ w = w' := by
  have e1 : kE k = 0 := by simp [kE, h1]
  go_enter Tryd.func27, Tryd.ntmps27
  go_wp2_with (first | (go_at_call 42; refine (start_any _ _).mono ?_; rintro e w' ⟨rfl, rfl⟩) | go_in)
  go_ret2
  exact ⟨rfl, rfl⟩

theorem all_snoc {P : Nat → Prop} {k : Nat} (h : ∀ j, j < k → P j) (hk : P k) : ∀ j, j < k + 1 → P j := fun j hj => by
  rcases Nat.lt_or_ge j k with c | c
  · exact h j c
  · have e : j = k := by omega
    rw [e]; exact hk
/-- Numbers of places: the powers of two up to 2^20. -/
def sizeB (s : Int) : Bool := (List.range 21).any fun k => decide (s = 2 ^ k)
theorem sizeB_iff (s : Int) : sizeB s = true ↔ ∃ k : Nat, k ≤ 20 ∧ s = 2 ^ k := by
  simp only [sizeB, List.any_eq_true, List.mem_range, decide_eq_true_eq]
  constructor
  · rintro ⟨k, hk, e⟩; exact ⟨k, by omega, e⟩
  · rintro ⟨k, hk, e⟩; exact ⟨k, by omega, e⟩
def placeV (h s : Int) : Int := if sizeB s then h % s else 0
def placeE (s : Int) : Int := if sizeB s then 0 else 2
theorem pow20 {k : Nat} (h : k ≤ 20) : (1 : Int) ≤ 2 ^ k ∧ (2 : Int) ^ k ≤ 1048576 := by
  have a : (2 : Nat) ^ k ≤ 2 ^ 20 := Nat.pow_le_pow_right (by omega) h
  have b : 0 < (2 : Nat) ^ k := Nat.pos_of_ne_zero (by simp)
  have c : ((2 ^ k : Nat) : Int) = 2 ^ k := by simp
  omega
theorem mask_i64 {h : Int} {k : Nat} (h1 : 0 ≤ h) (h2 : h ≤ 4294967295) (hk : k ≤ 20) : bits .and .i64 h (2 ^ k - 1) = h % 2 ^ k := by
  have := bits_mask .i64 63 (by decide) (fun n a b => by rw [IntKind.wrap_i64]; omega) k (by omega) h h1 (by omega)
  exact this

set_option maxHeartbeats 1000000 in
theorem place_any (h s : Int) (w : World) (h1 : 0 ≤ h) (h2 : h ≤ 4294967295) :
    Calls Tryd.prog 28 #[.int .u32 h, .int .i64 s] w fun e w' => e = .returned (.tuple #[.int .i64 (placeV h s), .int .i64 (placeE s)]) ∧ w = w' := by
  go_enter Tryd.func28, Tryd.ntmps28
  go_wp2_with fail
  go_loop [7] (fun i => ∃ k : Nat, k ≤ 21 ∧ i = .int .i64 k ∧ ∀ j, j < k → s ≠ 2 ^ j) (fun i => 21 - (intOf i).toNat)
  case atStart => exact ⟨0, by omega, rfl, by omega⟩
  case round =>
    obtain ⟨k, hk, rfl, hno⟩ := hrel
    have HN := Lib.hid hno
    clear hno
    by_cases hlt : k < 21
    · have p := pow20 (k := k) (by omega)
      have p1 := p.1
      have p2 := p.2
      clear p
      by_cases e : s = 2 ^ k
      · subst e
        have HM := Lib.hid (mask_i64 (k := k) h1 h2 (by omega))
        have HS : Hid (sizeB (2 ^ k) = true) := Lib.hid ((sizeB_iff _).2 ⟨k, by omega, rfl⟩)
        go_wp2
        go_ret2
        exact ⟨ret2 (by rw [placeV, if_pos HS.out]; exact HM.out) (by rw [placeE, if_pos HS.out]), rfl⟩
      · have e' : (s == 2 ^ k) = false := by simpa using e
        have HE := Lib.hid e
        clear e
        go_wp2
        go_round
        case rel => exact ⟨k + 1, by omega, by go_num, all_snoc HN.out HE.out⟩
        case measure => simp [intOf]; omega
    · have HS : Hid (¬ sizeB s = true) := Lib.hid (by rw [sizeB_iff]; rintro ⟨j, hj, e⟩; exact HN.out j (by omega) e)
      go_wp2
      go_ret2
      exact ⟨ret2 (by rw [placeV, if_neg HS.out]) (by rw [placeE, if_neg HS.out]), rfl⟩

end Go.Proofs.YtdmnaipngcldbaaDoor.hashW
