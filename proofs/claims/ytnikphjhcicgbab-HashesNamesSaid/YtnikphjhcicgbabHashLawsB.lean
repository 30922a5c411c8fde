/- Statements of layer 6 (hashes) about strings of bytes, by walks. -/
import Derived.Test.YtnikphjhcicgbabHashLaws
import Derived.Test.YtnikphjhcicgbabMem8
namespace Go.Proofs.Ytnikphjhcicgbab.hashL
open Go.RowKit Go.Proofs.Ytnikphjhcicgbab.base Go.Proofs.Ytnikphjhcicgbab.hashP Go.Proofs.Ytnikphjhcicgbab.hashW
set_option linter.unusedVariables false

set_option maxHeartbeats 1000000 in
theorem rhash_some (k : Int) (b off cap : Nat) (zs : List Int) (w : World) (k1 : 0 ≤ k) (k2 : k < 8) (hz : ∀ z ∈ zs, 0 ≤ z ∧ z ≤ 255)
    (hb : b < w.heap.size) (hc : ∀ i, i < zs.length → w.cell? ⟨b, off + i, none⟩ = some (.int .u8 (zs.getD i 0))) (hl : zs.length ≤ 9223372036854775807) :
    Calls Try.prog 47 #[.int .i64 k, .slice (some ⟨b, off, none⟩) zs.length cap] w fun e w' => e = .returned (.int .u32 (hSteps (kStart k) zs)) ∧ w = w' := by
  have HC := Lib.hid hc
  clear hc
  have HZ := Lib.hid hz
  clear hz
  have sb := kStart_bd k
  have s1 := sb.1
  have s2 := sb.2
  clear sb
  go_enter Try.func47, Try.ntmps47
  go_wp2_with (first | (go_at_call 45; refine (rbegin_any _ _ k1 k2).mono ?_; rintro e w' ⟨rfl, rfl⟩))
  go_loop [5, 6] (fun h i => ∃ j : Nat, j ≤ zs.length ∧ i = .int .i64 j ∧ h = .int .u32 (hSteps (kStart k) (zs.take j))) (fun _ i => zs.length - (intOf i).toNat)
  case atStart => exact ⟨0, Nat.zero_le _, rfl, by simp [hSteps]⟩
  case round =>
    obtain ⟨j, hj, rfl, rfl⟩ := hrel
    by_cases hlt : j < zs.length
    · have hcell := HC.out j hlt
      have hbd := HZ.out (zs.getD j 0) (by rw [List.getD_eq_getElem?_getD, List.getElem?_eq_getElem hlt]; simp)
      have hsb := hSteps_bd (zs.take j) s1 s2 (fun z hz => HZ.out z (List.mem_of_mem_take hz))
      generalize hv : zs.getD j 0 = v at *
      generalize hs : hSteps (kStart k) (zs.take j) = g at *
      have v1 := hbd.1
      have v2 := hbd.2
      have g1 := hsb.1
      have g2 := hsb.2
      have HV := Lib.hid hv
      have HS := Lib.hid hs
      clear hbd hsb hv hs
      go_wp2_with (first | (go_at_call 34; refine (rstep_any _ _ _ g1 g2 v1 v2).mono ?_; rintro e w' ⟨rfl, rfl⟩))
      go_round
      case rel => exact ⟨j + 1, by omega, by go_num, by rw [take_snoc 0 zs j hlt, hSteps_snoc, HV.out, HS.out]⟩
      case measure => simp [intOf]; omega
    · have : zs.take j = zs := List.take_of_length_le (by omega)
      have HT := Lib.hid this
      clear this
      go_wp2
      go_ret
      exact ⟨ret1 (by rw [HT.out]), rfl⟩

set_option maxHeartbeats 1000000 in
theorem rhash_nil (k : Int) (A : Option Addr) (cap : Nat) (w : World) (k1 : 0 ≤ k) (k2 : k < 8) :
    Calls Try.prog 47 #[.int .i64 k, .slice A 0 cap] w fun e w' => e = .returned (.int .u32 (kStart k)) ∧ w = w' := by
  go_enter Try.func47, Try.ntmps47
  go_wp2_with (first | (go_at_call 45; refine (rbegin_any _ _ k1 k2).mono ?_; rintro e w' ⟨rfl, rfl⟩))
  go_loop [5, 6] (fun h i => i = .int .i64 0 ∧ h = .int .u32 (kStart k)) (fun _ i => 0)
  case atStart => exact ⟨rfl, rfl⟩
  case round =>
    obtain ⟨rfl, rfl⟩ := hrel
    go_wp2
    go_ret
    exact ⟨rfl, rfl⟩

theorem rhash_any (k : Int) (A : Option Addr) (len cap : Nat) (zs : List Int) (w : World) (k1 : 0 ≤ k) (k2 : k < 8) (hz : ∀ z ∈ zs, 0 ≤ z ∧ z ≤ 255)
    (hc : Has .u8 w A zs) (hlen : zs.length = len) (hl : len ≤ 9223372036854775807) :
    Calls Try.prog 47 #[.int .i64 k, .slice A len cap] w fun e w' => e = .returned (.int .u32 (hSteps (kStart k) zs)) ∧ w = w' := by
  subst hlen
  rcases hc with rfl | ⟨b, off, rfl, hb, hc⟩
  · exact rhash_nil k A cap w k1 k2
  · exact rhash_some k b off cap zs w k1 k2 hz hb hc hl

set_option maxHeartbeats 1000000 in
theorem rof_ok (k : Int) (a : Option Addr) (len cap : Nat) (zs : List Int) (w : World) (h1 : 0 ≤ k) (h2 : k < 8) (hz : ∀ z ∈ zs, 0 ≤ z ∧ z ≤ 255)
    (hc : Has .u8 w a zs) (hlen : zs.length = len) (hl : len ≤ 20000) :
    Calls Try.prog 38 #[.int .i64 k, .slice a len cap] w fun e w' => e = .returned (.tuple #[.int .u32 (hSteps (kStart k) zs), .int .i64 0]) ∧ w = w' := by
  have HZ := Lib.hid hz
  have HC := Lib.hid hc
  have HL := Lib.hid hlen
  clear hz hc hlen
  have e1 : kOk k = true := (kOk_iff k).2 ⟨h1, h2⟩
  go_enter Try.func38, Try.ntmps38
  go_wp2_with (first | (go_at_call 40; refine (rkind_any _ _).mono ?_; rintro e w' ⟨rfl, rfl⟩) | (go_at_call 47; refine (rhash_any _ _ _ _ zs _ h1 h2 HZ.out HC.out HL.out (by omega)).mono ?_; rintro e w' ⟨rfl, rfl⟩) | go_in)
  go_ret2
  exact ⟨rfl, rfl⟩

set_option maxHeartbeats 1000000 in
theorem rof_kind (k : Int) (a : Option Addr) (len cap : Nat) (w : World) (h1 : kOk k = false) :
    Calls Try.prog 38 #[.int .i64 k, .slice a len cap] w fun e w' => e = .returned (.tuple #[.int .u32 0, .int .i64 2]) ∧ w = w' := by
  go_enter Try.func38, Try.ntmps38
  go_wp2_with (first | (go_at_call 40; refine (rkind_any _ _).mono ?_; rintro e w' ⟨rfl, rfl⟩) | go_in)
  go_ret2
  exact ⟨rfl, rfl⟩

set_option maxHeartbeats 1000000 in
theorem rof_many (k : Int) (a : Option Addr) (len cap : Nat) (w : World) (h1 : kOk k = true) (hl : 20000 < len) :
    Calls Try.prog 38 #[.int .i64 k, .slice a len cap] w fun e w' => e = .returned (.tuple #[.int .u32 0, .int .i64 4]) ∧ w = w' := by
  go_enter Try.func38, Try.ntmps38
  go_wp2_with (first | (go_at_call 40; refine (rkind_any _ _).mono ?_; rintro e w' ⟨rfl, rfl⟩) | go_in)
  go_ret2
  exact ⟨rfl, rfl⟩

set_option maxHeartbeats 1000000 in
theorem of_main (kind : Int) (A : Option Addr) (cap : Nat) (zs : List Int) (h size : Int) (w : World) (h1 : 0 ≤ h) (h2 : h ≤ 4294967295) (hc : Has .u8 w A zs) (hl63 : zs.length ≤ 140737488355328) (hl : zs.length ≤ 2000) (k1 : 0 ≤ kind) (k2 : kind < 8) (hz : ∀ z ∈ zs, 0 ≤ z ∧ z ≤ 255) :
    Calls Try.prog 11 #[.int .i64 kind, .slice A zs.length cap, .int .u32 h, .int .i64 size] w fun e w' => e = .returned (.bool true) ∧ Below w.heap.size w w' := by
  have HC := Lib.hid hc
  clear hc
  have pe := placeE_bd size
  have pe1 := pe.1
  have pe2 := pe.2
  clear pe
  have HZ := Lib.hid hz
  clear hz
  go_enter Try.func11, Try.ntmps11
  go_wp2_with (first | (at_builtin; refine clone8 rfl _ _ rfl (some ⟨w.heap.size, 0, none⟩) rfl A _ _ zs rfl rfl (HC.out.below ((Below.refl _ _).alloc (Nat.le_refl _) _) (Nat.le_refl _)) (by omega) ?_; intro A1 c1 w1 hh1 hb1 ho1; have bb1 : Below w.heap.size w w1 := ((Below.refl _ _).alloc (Nat.le_refl _) _).trans (hb1.mono (by simp))) | (go_at_call 28; refine (of_ok _ _ _ _ zs _ k1 k2 HZ.out (HC.out.below bb1 (Nat.le_refl _)) rfl (by omega)).mono ?_; rintro e w' ⟨rfl, hb⟩; have cv1 := conv8 (c := cap) ((HC.out.below bb1 (Nat.le_refl _)).below hb (Nat.le_refl _)) rfl; have cv2 := conv8 (c := c1) (hh1.below hb (Nat.le_refl _)) rfl; have acc := bb1.trans (hb.mono bb1.size)) | (go_at_call 38; refine (rof_ok _ _ _ _ zs _ k1 k2 HZ.out (hh1.below hb (Nat.le_refl _)) rfl (by omega)).mono ?_; rintro e w' ⟨rfl, rfl⟩) | (go_at_call 29; refine (place_any _ _ _ h1 h2).mono ?_; rintro e w' ⟨rfl, rfl⟩) | (go_at_call 39; refine (rplace_any _ _ _ h1 h2).mono ?_; rintro e w' ⟨rfl, rfl⟩))
  go_ret
  exact ⟨rfl, acc⟩

set_option maxHeartbeats 1000000 in
theorem of_nokind (kind : Int) (A : Option Addr) (cap : Nat) (zs : List Int) (h size : Int) (w : World) (h1 : 0 ≤ h) (h2 : h ≤ 4294967295) (hc : Has .u8 w A zs) (hl63 : zs.length ≤ 140737488355328) (hl : zs.length ≤ 2000 ∨ ¬ zs.length ≤ 2000 ∧ 20000 < zs.length ∧ zs.length ≤ 20100) (hk : kOk kind = false) :
    Calls Try.prog 11 #[.int .i64 kind, .slice A zs.length cap, .int .u32 h, .int .i64 size] w fun e w' => e = .returned (.bool true) ∧ Below w.heap.size w w' := by
  have HC := Lib.hid hc
  clear hc
  have pe := placeE_bd size
  have pe1 := pe.1
  have pe2 := pe.2
  clear pe
  rcases hl with hl | ⟨hl0, hl, hl'⟩
  · have hl1 := hl
    go_enter Try.func11, Try.ntmps11
    go_wp2_with (first | (at_builtin; refine clone8 rfl _ _ rfl (some ⟨w.heap.size, 0, none⟩) rfl A _ _ zs rfl rfl (HC.out.below ((Below.refl _ _).alloc (Nat.le_refl _) _) (Nat.le_refl _)) (by omega) ?_; intro A1 c1 w1 hh1 hb1 ho1; have bb1 : Below w.heap.size w w1 := ((Below.refl _ _).alloc (Nat.le_refl _) _).trans (hb1.mono (by simp)); have cv1 := conv8 (c := cap) (HC.out.below bb1 (Nat.le_refl _)) rfl; have cv2 := conv8 (c := c1) hh1 rfl) | (go_at_call 28; refine (of_kind _ _ _ _ _ hk).mono ?_; rintro e w' ⟨rfl, rfl⟩) | (go_at_call 38; refine (rof_kind _ _ _ _ _ hk).mono ?_; rintro e w' ⟨rfl, rfl⟩) | (go_at_call 29; refine (place_any _ _ _ h1 h2).mono ?_; rintro e w' ⟨rfl, rfl⟩) | (go_at_call 39; refine (rplace_any _ _ _ h1 h2).mono ?_; rintro e w' ⟨rfl, rfl⟩))
    go_ret
    exact ⟨rfl, bb1⟩
  · have hl1 := hl
    go_enter Try.func11, Try.ntmps11
    go_wp2_with (first | (at_builtin; refine clone8 rfl _ _ rfl (some ⟨w.heap.size, 0, none⟩) rfl A _ _ zs rfl rfl (HC.out.below ((Below.refl _ _).alloc (Nat.le_refl _) _) (Nat.le_refl _)) (by omega) ?_; intro A1 c1 w1 hh1 hb1 ho1; have bb1 : Below w.heap.size w w1 := ((Below.refl _ _).alloc (Nat.le_refl _) _).trans (hb1.mono (by simp)); have cv1 := conv8 (c := cap) (HC.out.below bb1 (Nat.le_refl _)) rfl; have cv2 := conv8 (c := c1) hh1 rfl) | (go_at_call 28; refine (of_kind _ _ _ _ _ hk).mono ?_; rintro e w' ⟨rfl, rfl⟩) | (go_at_call 38; refine (rof_kind _ _ _ _ _ hk).mono ?_; rintro e w' ⟨rfl, rfl⟩) | (go_at_call 29; refine (place_any _ _ _ h1 h2).mono ?_; rintro e w' ⟨rfl, rfl⟩) | (go_at_call 39; refine (rplace_any _ _ _ h1 h2).mono ?_; rintro e w' ⟨rfl, rfl⟩))
    go_ret
    exact ⟨rfl, bb1⟩

set_option maxHeartbeats 1000000 in
theorem of_long (kind : Int) (A : Option Addr) (cap : Nat) (zs : List Int) (h size : Int) (w : World) (h1 : 0 ≤ h) (h2 : h ≤ 4294967295) (hc : Has .u8 w A zs) (hl63 : zs.length ≤ 140737488355328) (hl0 : ¬ zs.length ≤ 2000) (hl : 20000 < zs.length) (hl' : zs.length ≤ 20100) (hk : kOk kind = true) :
    Calls Try.prog 11 #[.int .i64 kind, .slice A zs.length cap, .int .u32 h, .int .i64 size] w fun e w' => e = .returned (.bool true) ∧ Below w.heap.size w w' := by
  have HC := Lib.hid hc
  clear hc
  have pe := placeE_bd size
  have pe1 := pe.1
  have pe2 := pe.2
  clear pe
  go_enter Try.func11, Try.ntmps11
  go_wp2_with (first | (at_builtin; refine clone8 rfl _ _ rfl (some ⟨w.heap.size, 0, none⟩) rfl A _ _ zs rfl rfl (HC.out.below ((Below.refl _ _).alloc (Nat.le_refl _) _) (Nat.le_refl _)) (by omega) ?_; intro A1 c1 w1 hh1 hb1 ho1; have bb1 : Below w.heap.size w w1 := ((Below.refl _ _).alloc (Nat.le_refl _) _).trans (hb1.mono (by simp)); have cv1 := conv8 (c := cap) (HC.out.below bb1 (Nat.le_refl _)) rfl; have cv2 := conv8 (c := c1) hh1 rfl) | (go_at_call 28; refine (of_many _ _ _ _ _ hk hl).mono ?_; rintro e w' ⟨rfl, rfl⟩) | (go_at_call 38; refine (rof_many _ _ _ _ _ hk hl).mono ?_; rintro e w' ⟨rfl, rfl⟩) | (go_at_call 29; refine (place_any _ _ _ h1 h2).mono ?_; rintro e w' ⟨rfl, rfl⟩) | (go_at_call 39; refine (rplace_any _ _ _ h1 h2).mono ?_; rintro e w' ⟨rfl, rfl⟩))
  go_ret
  exact ⟨rfl, bb1⟩

set_option maxHeartbeats 1000000 in
theorem of_out (kind : Int) (A : Option Addr) (cap : Nat) (zs : List Int) (h size : Int) (w : World) (h1 : 0 ≤ h) (h2 : h ≤ 4294967295) (hc : Has .u8 w A zs) (hl : ¬ zs.length ≤ 2000 ∧ zs.length ≤ 20000 ∨ ¬ zs.length ≤ 2000 ∧ 20000 < zs.length ∧ 20100 < zs.length) :
    Calls Try.prog 11 #[.int .i64 kind, .slice A zs.length cap, .int .u32 h, .int .i64 size] w fun e w' => e = .returned (.bool true) ∧ Below w.heap.size w w' := by
  have HC := Lib.hid hc
  clear hc
  have pe := placeE_bd size
  have pe1 := pe.1
  have pe2 := pe.2
  clear pe
  rcases hl with ⟨h3, h4⟩ | ⟨h3, h4, h5⟩
  · have h6 := h3
    go_enter Try.func11, Try.ntmps11
    go_wp2_with fail
    go_ret
    exact ⟨rfl, Below.refl _ _⟩
  · have h6 := h3
    go_enter Try.func11, Try.ntmps11
    go_wp2_with fail
    go_ret
    exact ⟨rfl, Below.refl _ _⟩

theorem wf8 {zs : List Int} (h : ∀ n ∈ zs, (Lit.int .u8 n).wf = true) : ∀ z ∈ zs, 0 ≤ z ∧ z ≤ 255 := fun z hz => bounds_u8 (h z hz)

theorem of_law (kind : Int) (A : Option Addr) (len cap : Nat) (z : List Int) (h size : Int) (w : World) (_ : -9223372036854775808 ≤ kind) (_ : kind ≤ 9223372036854775807) (hr : IsRow .u8 w A len cap z) (h1 : 0 ≤ h) (h2 : h ≤ 4294967295) (_ : -9223372036854775808 ≤ size) (_ : size ≤ 9223372036854775807) :
    Calls Try.prog 11 #[.int .i64 kind, .slice A len cap, .int .u32 h, .int .i64 size] w fun e w' => e = .returned (.bool true) ∧ Below w.heap.size w w' := by
  obtain ⟨hc, hlen, _, hw⟩ := has_of_row hr
  have hz := wf8 hw
  generalize hzs : z.take len = zs at *
  subst hlen
  by_cases c1 : 140737488355328 < zs.length
  · exact of_out kind A cap zs h size w h1 h2 hc (.inr ⟨by omega, by omega, by omega⟩)
  · by_cases c2 : zs.length ≤ 2000
    · cases hk : kOk kind
      · exact of_nokind kind A cap zs h size w h1 h2 hc (by omega) (.inl c2) hk
      · have := (kOk_iff kind).1 hk
        exact of_main kind A cap zs h size w h1 h2 hc (by omega) c2 this.1 this.2 hz
    · by_cases c3 : zs.length ≤ 20000
      · exact of_out kind A cap zs h size w h1 h2 hc (.inl ⟨c2, c3⟩)
      · by_cases c4 : zs.length ≤ 20100
        · cases hk : kOk kind
          · exact of_nokind kind A cap zs h size w h1 h2 hc (by omega) (.inr ⟨c2, by omega, c4⟩) hk
          · exact of_long kind A cap zs h size w h1 h2 hc (by omega) c2 (by omega) c4 hk
        · exact of_out kind A cap zs h size w h1 h2 hc (.inr ⟨c2, by omega, by omega⟩)
end Go.Proofs.Ytnikphjhcicgbab.hashL
