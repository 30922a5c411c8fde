/- Run of the reference of states, by a walk. -/
import Derived.Test.YtkpcopecndpfjaaStW3
import Derived.Test.YtkpcopecndpfjaaMem8
namespace Go.Proofs.Ytkpcopecndpfjaa.stW
open Go.RowKit Go.Proofs.Ytkpcopecndpfjaa.base Go.Proofs.Ytkpcopecndpfjaa.cntP Go.Proofs.Ytkpcopecndpfjaa.stP Go.Proofs.Ytkpcopecndpfjaa.cntW
set_option linter.unusedVariables false
set_option linter.unusedSimpArgs false
theorem sRun_bd (l : List Int) : ∀ {s : Int}, 0 ≤ s → s < 193 → (∀ z ∈ l, z = 0 ∨ z = 1) → 0 ≤ sRun s l ∧ sRun s l < 193 := by
  induction l with
  | nil => exact fun h1 h2 _ => ⟨h1, h2⟩
  | cons z l ih => exact fun h1 h2 hz => ih (sNext_bd h1 h2 (hz z (by simp))).1 (sNext_bd h1 h2 (hz z (by simp))).2 fun y hy => hz y (by simp [hy])
theorem sRun_next (s : Int) {zs : List Int} {k : Nat} (hk : k < zs.length) : sRun s (zs.take (k + 1)) = sNext (sRun s (zs.take k)) (zs.getD k 0) := by
  rw [take_snoc 0 zs k hk]; exact sRun_snoc _ _ _
set_option maxHeartbeats 1000000 in
theorem rRunS_yes (s : Int) (A : Option Addr) (cap : Nat) (zs : List Int) (w : World) (h1 : 0 ≤ s) (c1 : s < 193) (hz : ∀ z ∈ zs, 0 ≤ z ∧ z ≤ 255) (hr : Has .u8 w A zs) (hl : zs.length ≤ 20000) (hb : bitsB zs = true) :
    Calls Try.prog 39 #[.int .u8 s, .slice A zs.length cap] w fun e w' => e = .returned (.tuple #[.int .u8 (sRun s zs), .int .i64 0]) ∧ Below w.heap.size w w' := by
  have HZ := Lib.hid hz
  have HR := Lib.hid hr
  have HB := Lib.hid hb
  clear hz hr
  go_enter Try.func39, Try.ntmps39
  go_wp2_with (first | (go_at_call 40; refine (rState_any _ _).mono ?_; rintro e w' ⟨rfl, rfl⟩) | (go_at_call 27; refine (bits_any _ _ _ zs _ HZ.out HR.out rfl (by omega)).mono ?_; rintro e w' ⟨rfl, rfl⟩))
  clear hb
  go_loopw [0, 6] (fun t i wr => ∃ k : Nat, k ≤ zs.length ∧ i = .int .i64 k ∧ t = .int .u8 (sRun s (zs.take k)) ∧ Below w.heap.size w wr) (fun _ i _ => zs.length - (intOf i).toNat)
  case atStart => exact ⟨0, Nat.zero_le _, rfl, rfl, Below.refl _ _⟩
  case round =>
    obtain ⟨k, hk, rfl, rfl, hbel⟩ := hrel
    have HBL := Lib.hid hbel
    clear hbel
    have hall : ∀ z ∈ zs.take k, z = 0 ∨ z = 1 := fun z hm => by
      have := HZ.out z (List.mem_of_mem_take hm)
      have := (bitsB_iff zs).1 HB.out z (List.mem_of_mem_take hm)
      omega
    obtain ⟨t1, t2⟩ := sRun_bd (zs.take k) h1 c1 hall
    clear hall
    by_cases hlt : k < zs.length
    · obtain ⟨b, off, rfl, hB, hr⟩ := has_some HR.out (by omega)
      have hcell : wr.cell? ⟨b, off + k, none⟩ = some (.int .u8 (zs.getD k 0)) := by rw [(bcell HBL.out).1 b _ hB]; exact hr k hlt
      obtain ⟨⟨v1, v2⟩, hv⟩ := bit_in HZ.out HB.out hlt
      have HV := Lib.hid hv
      have HS := Lib.hid (sRun_next s hlt)
      clear hv hr
      generalize hv : zs.getD k 0 = v at *
      generalize hs : sRun s (zs.take k) = t at *
      have t3 : t ≤ 192 := by omega
      clear hv hs
      go_wp2_with (first | (go_at_call 48; refine (rThen_any _ _ _ t1 t3 HV.out).mono ?_; rintro e w' ⟨rfl, hb3⟩))
      go_roundw
      case rel => exact ⟨k + 1, by omega, by go_num, by rw [HS.out], by have := HBL.out; (repeat' (first | (with_reducible exact Below.refl _ _) | (with_reducible assumption) | (with_reducible refine below_drewN ?_ _) | (with_reducible refine below_new ?_ _) | (with_reducible refine Below.alloc ?_ ?_ _) | (with_reducible refine Below.drew ?_) | (with_reducible refine Below.setCell ?_ ?_ _) | (with_reducible apply below_on; (with_reducible assumption)) | (go_size; done) | (with_reducible apply size_of)))⟩
      case measure => simp [intOf]; omega
    · have HT : Hid (sRun s (zs.take k) = sRun s zs) := Lib.hid (by rw [List.take_of_length_le (by omega)])
      go_wp2
      go_ret2
      exact ⟨ret2 (by rw [HT.out]) rfl, HBL.out⟩
set_option maxHeartbeats 1000000 in
theorem rRunS_any (s : Int) (A : Option Addr) (len cap : Nat) (zs : List Int) (w : World) (h1 : 0 ≤ s) (h2 : s ≤ 255) (hz : ∀ z ∈ zs, 0 ≤ z ∧ z ≤ 255) (hr : Has .u8 w A zs) (hlen : zs.length = len) (hl : len ≤ 9223372036854775807) :
    Calls Try.prog 39 #[.int .u8 s, .slice A len cap] w fun e w' => e = .returned (.tuple #[.int .u8 (stR s zs), .int .i64 (stRE s zs)]) ∧ Below w.heap.size w w' := by
  subst hlen
  by_cases c1 : s < 193
  · by_cases c2 : 20000 < zs.length
    · have e1 : stR s zs = 0 ∧ stRE s zs = 4 := by unfold stR stRE; rw [if_pos c1, if_pos c1, if_pos c2, if_pos c2]; exact ⟨rfl, rfl⟩
      rw [e1.1, e1.2]
      clear e1 hr hz
      go_enter Try.func39, Try.ntmps39
      go_wp2_with (first | (go_at_call 40; refine (rState_any _ _).mono ?_; rintro e w' ⟨rfl, rfl⟩))
      go_ret2
      exact ⟨rfl, by (repeat' (first | (with_reducible exact Below.refl _ _) | (with_reducible assumption) | (with_reducible refine below_drewN ?_ _) | (with_reducible refine below_new ?_ _) | (with_reducible refine Below.alloc ?_ ?_ _) | (with_reducible refine Below.drew ?_) | (with_reducible refine Below.setCell ?_ ?_ _) | (with_reducible apply below_on; (with_reducible assumption)) | (go_size; done) | (with_reducible apply size_of)))⟩
    · cases hb : bitsB zs
      · have e1 : stR s zs = 0 ∧ stRE s zs = 2 := by unfold stR stRE; rw [if_pos c1, if_pos c1, if_neg c2, if_neg c2, hb]; exact ⟨rfl, rfl⟩
        rw [e1.1, e1.2]
        have HZ := Lib.hid hz
        have HR := Lib.hid hr
        clear e1 hr hz
        go_enter Try.func39, Try.ntmps39
        go_wp2_with (first | (go_at_call 40; refine (rState_any _ _).mono ?_; rintro e w' ⟨rfl, rfl⟩) | (go_at_call 27; refine (bits_any _ _ _ zs _ HZ.out HR.out rfl (by omega)).mono ?_; rintro e w' ⟨rfl, rfl⟩))
        go_ret2
        exact ⟨rfl, by (repeat' (first | (with_reducible exact Below.refl _ _) | (with_reducible assumption) | (with_reducible refine below_drewN ?_ _) | (with_reducible refine below_new ?_ _) | (with_reducible refine Below.alloc ?_ ?_ _) | (with_reducible refine Below.drew ?_) | (with_reducible refine Below.setCell ?_ ?_ _) | (with_reducible apply below_on; (with_reducible assumption)) | (go_size; done) | (with_reducible apply size_of)))⟩
      · have e1 : stR s zs = sRun s zs ∧ stRE s zs = 0 := by unfold stR stRE; rw [if_pos c1, if_pos c1, if_neg c2, if_neg c2, if_pos hb, if_pos hb]; exact ⟨rfl, rfl⟩
        rw [e1.1, e1.2]
        exact rRunS_yes s A cap zs w h1 c1 hz hr (by omega) hb
  · have e1 : stR s zs = 0 ∧ stRE s zs = 2 := by unfold stR stRE; rw [if_neg c1, if_neg c1]; exact ⟨rfl, rfl⟩
    have hd : decide (s < 193) = false := decide_eq_false c1
    rw [e1.1, e1.2]
    clear e1 hr hz
    go_enter Try.func39, Try.ntmps39
    go_wp2_with (first | (go_at_call 40; refine (rState_any _ _).mono ?_; rintro e w' ⟨rfl, rfl⟩))
    go_ret2
    exact ⟨rfl, by (repeat' (first | (with_reducible exact Below.refl _ _) | (with_reducible assumption) | (with_reducible refine below_drewN ?_ _) | (with_reducible refine below_new ?_ _) | (with_reducible refine Below.alloc ?_ ?_ _) | (with_reducible refine Below.drew ?_) | (with_reducible refine Below.setCell ?_ ?_ _) | (with_reducible apply below_on; (with_reducible assumption)) | (go_size; done) | (with_reducible apply size_of)))⟩
end Go.Proofs.Ytkpcopecndpfjaa.stW
