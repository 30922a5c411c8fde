/- The chapter's examples; EncoderSplits, by walks. -/
import Derived.Test.YtdnccnaihkajmaaEncR4
import Derived.BigRegion
namespace Go.Proofs.Ytdnccnaihkajmaa.encL
open Go.RowKit Go.Proofs.Ytdnccnaihkajmaa.base Go.Proofs.Ytdnccnaihkajmaa.encP Go.Proofs.Ytdnccnaihkajmaa.encW
set_option linter.unusedVariables false
set_option linter.unusedSimpArgs false

theorem hasB_litX {w : World} {e : TypeId} {zs : List Bool} {g : Nat} (hg : w.heap.size = g) : HasB (w.alloc (.cells (zs.map Value.bool).toArray e)) (some ⟨g, 0, none⟩) zs := by
  subst hg
  refine .inr ⟨w.heap.size, 0, rfl, by simp, fun i hi => ?_⟩
  have := (Lies.fresh w e (zs.map Value.bool)).cell i
  rw [Nat.zero_add, this, List.getElem?_map, List.getElem?_eq_getElem hi]
  simp [List.getD_eq_getElem?_getD, List.getElem?_eq_getElem hi]
theorem cvA {w x : World} {A : Option Addr} {zs : List Int} {n c : Nat} {s : ByteArray} (h : Has .u8 w A zs) (hb : Below w.heap.size w x) (hn : zs.length = n) (e : bstr zs = s) : (convert 23 9 (.slice A n c)).run Try.prog x = .ok (.string s) x := by
  have := conv8 (c := c) (h.below hb (Nat.le_refl _)) hn
  rwa [e] at this
theorem av : spV 0 4294967295 2048 = 2147483647 ∧ spE 0 4294967295 2048 = 0 ∧ spV 5 6 4095 = 5 ∧ spE 5 6 4095 = 0 ∧ rnE [2048] 1 = 0 ∧ rnV [2048] [true] = [0, 0, 0, 0] ∧ rnV [2048] [false] = [128, 0, 0, 0] := by decide +kernel
theorem bs0 : bstr [0, 0, 0, 0] = ⟨#[0, 0, 0, 0]⟩ ∧ bstr [128, 0, 0, 0] = ⟨#[128, 0, 0, 0]⟩ := by decide +kernel
set_option maxRecDepth 100000 in
set_option maxHeartbeats 4000000 in
theorem alive (w : World) : Calls Try.prog 22 #[] w fun e w' => e = .returned (.bool true) ∧ Below w.heap.size w w' := by
  have AV := Lib.hid av
  have BS := Lib.hid bs0
  have hmk : ∀ W : World, (Instr.makeSlice 23 (.int .i64 4) (.int .i64 4)).run Try.prog W = .ok (.slice (some ⟨W.heap.size, 0, none⟩) 4 4) (W.alloc (.cells #[.int .u8 0, .int .u8 0, .int .u8 0, .int .u8 0] 5)) := fun W => by kernel_rfl
  go_enter Try.func22, Try.ntmps22
  go_wp2_with fail
  refine (Split_any 0 4294967295 2048 _ (by omega) (by omega) (by omega) (by omega)).mono ?_
  rintro e w' ⟨rfl, rfl⟩
  rw [AV.out.1, AV.out.2.1]
  go_wp2_with fail
  refine (Run_any _ _ 1 _ 1 _ [2048] [true] _ ((has_lit (zs := [2048]) rfl (by decide)).below ((Below.refl _ _).alloc (Nat.le_refl _) _) (Nat.le_refl _)) rfl (by omega) (hasB_litX (zs := [true]) (by simp)) rfl (by omega)).mono ?_
  rintro e w1 ⟨A1, c1, rfl, hh1, hc1, hb1⟩
  rw [AV.out.2.2.2.2.2.1] at hh1 hc1
  rw [AV.out.2.2.2.2.2.1, AV.out.2.2.2.2.1]
  have H1 := Lib.hid hh1
  have W1 : Hid (Below w.heap.size w w1) := Lib.hid (by (repeat' (first | (with_reducible exact Below.refl _ _) | (with_reducible assumption) | (with_reducible refine below_drewN ?_ _) | (with_reducible refine below_new ?_ _) | (with_reducible refine Below.alloc ?_ ?_ _) | (with_reducible refine Below.drew ?_) | (with_reducible refine Below.setCell ?_ ?_ _) | (with_reducible apply below_at; (case k => (with_reducible assumption)); (case hB => omega)) | (with_reducible apply below_on; (with_reducible assumption)) | (go_size; done) | (with_reducible apply size_of))))
  clear hh1 hb1
  go_wp2_with fail
  refine (Run_any _ _ 1 _ 1 _ [2048] [false] _ ((has_lit (zs := [2048]) rfl (by decide)).below ((Below.refl _ _).alloc (Nat.le_refl _) _) (Nat.le_refl _)) rfl (by omega) (hasB_litX (zs := [false]) (by simp)) rfl (by omega)).mono ?_
  rintro e w2 ⟨A2, c2, rfl, hh2, hc2, hb2⟩
  rw [AV.out.2.2.2.2.2.2] at hh2 hc2
  rw [AV.out.2.2.2.2.2.2, AV.out.2.2.2.2.1]
  have H2 := Lib.hid hh2
  have H1' := Lib.hid ((H1.out.below ((((Below.refl _ _).alloc (Nat.le_refl _) _).alloc (by simp) _).trans (hb2.mono (by simp; omega))) (Nat.le_refl _)))
  have W2 : Hid (Below w.heap.size w w2) := Lib.hid (by have := W1.out; (repeat' (first | (with_reducible exact Below.refl _ _) | (with_reducible assumption) | (with_reducible refine below_drewN ?_ _) | (with_reducible refine below_new ?_ _) | (with_reducible refine Below.alloc ?_ ?_ _) | (with_reducible refine Below.drew ?_) | (with_reducible refine Below.setCell ?_ ?_ _) | (with_reducible apply below_at; (case k => (with_reducible assumption)); (case hB => omega)) | (with_reducible apply below_on; (with_reducible assumption)) | (go_size; done) | (with_reducible apply size_of))))
  clear hh2 hb2 H1 W1
  go_wp2_with fail
  refine (Split_any 5 6 4095 _ (by omega) (by omega) (by omega) (by omega)).mono ?_
  rintro e w' ⟨rfl, rfl⟩
  rw [AV.out.2.2.1, AV.out.2.2.2.1]
  go_wp2_with fail
  have hz : (convert 23 9 (.slice (some ⟨w2.heap.size, 0, none⟩) 4 4)).run Try.prog (w2.alloc (.cells #[.int .u8 0, .int .u8 0, .int .u8 0, .int .u8 0] 5)).drew = .ok (.string ⟨#[0, 0, 0, 0]⟩) (w2.alloc (.cells #[.int .u8 0, .int .u8 0, .int .u8 0, .int .u8 0] 5)).drew :=
    cvA (has_lit (w := w2) (zs := [0, 0, 0, 0]) rfl (by decide)) (Below.refl _ _).drew rfl BS.out.1
  have ho : (convert 23 9 (.slice (some ⟨w2.heap.size + 1, 0, none⟩) 4 4)).run Try.prog ((w2.alloc (.cells #[.int .u8 0, .int .u8 0, .int .u8 0, .int .u8 0] 5)).alloc (.cells #[.int .u8 128, .int .u8 0, .int .u8 0, .int .u8 0] 5)).drew = .ok (.string ⟨#[128, 0, 0, 0]⟩) ((w2.alloc (.cells #[.int .u8 0, .int .u8 0, .int .u8 0, .int .u8 0] 5)).alloc (.cells #[.int .u8 128, .int .u8 0, .int .u8 0, .int .u8 0] 5)).drew :=
    cvA (has_lit (w := w2.alloc (.cells #[.int .u8 0, .int .u8 0, .int .u8 0, .int .u8 0] 5)) (zs := [128, 0, 0, 0]) (by simp) (by decide)) (Below.refl _ _).drew rfl BS.out.2
  have a1 : (convert 23 9 (.slice A1 4 c1)).run Try.prog w2.drew = .ok (.string ⟨#[0, 0, 0, 0]⟩) w2.drew := cvA H1'.out (Below.refl _ _).drew rfl BS.out.1
  have a2 : (convert 23 9 (.slice A1 4 c1)).run Try.prog (w2.alloc (.cells #[.int .u8 0, .int .u8 0, .int .u8 0, .int .u8 0] 5)).drew = .ok (.string ⟨#[0, 0, 0, 0]⟩) (w2.alloc (.cells #[.int .u8 0, .int .u8 0, .int .u8 0, .int .u8 0] 5)).drew := cvA H1'.out (by (repeat' (first | (with_reducible exact Below.refl _ _) | (with_reducible assumption) | (with_reducible refine below_drewN ?_ _) | (with_reducible refine below_new ?_ _) | (with_reducible refine Below.alloc ?_ ?_ _) | (with_reducible refine Below.drew ?_) | (with_reducible refine Below.setCell ?_ ?_ _) | (with_reducible apply below_at; (case k => (with_reducible assumption)); (case hB => omega)) | (with_reducible apply below_on; (with_reducible assumption)) | (go_size; done) | (with_reducible apply size_of)))) rfl BS.out.1
  have a3 : (convert 23 9 (.slice A2 4 c2)).run Try.prog (w2.alloc (.cells #[.int .u8 0, .int .u8 0, .int .u8 0, .int .u8 0] 5)).drew = .ok (.string ⟨#[128, 0, 0, 0]⟩) (w2.alloc (.cells #[.int .u8 0, .int .u8 0, .int .u8 0, .int .u8 0] 5)).drew := cvA H2.out (by (repeat' (first | (with_reducible exact Below.refl _ _) | (with_reducible assumption) | (with_reducible refine below_drewN ?_ _) | (with_reducible refine below_new ?_ _) | (with_reducible refine Below.alloc ?_ ?_ _) | (with_reducible refine Below.drew ?_) | (with_reducible refine Below.setCell ?_ ?_ _) | (with_reducible apply below_at; (case k => (with_reducible assumption)); (case hB => omega)) | (with_reducible apply below_on; (with_reducible assumption)) | (go_size; done) | (with_reducible apply size_of)))) rfl BS.out.2
  have a4 : (convert 23 9 (.slice A2 4 c2)).run Try.prog ((w2.alloc (.cells #[.int .u8 0, .int .u8 0, .int .u8 0, .int .u8 0] 5)).alloc (.cells #[.int .u8 128, .int .u8 0, .int .u8 0, .int .u8 0] 5)).drew = .ok (.string ⟨#[128, 0, 0, 0]⟩) ((w2.alloc (.cells #[.int .u8 0, .int .u8 0, .int .u8 0, .int .u8 0] 5)).alloc (.cells #[.int .u8 128, .int .u8 0, .int .u8 0, .int .u8 0] 5)).drew := cvA H2.out (by (repeat' (first | (with_reducible exact Below.refl _ _) | (with_reducible assumption) | (with_reducible refine below_drewN ?_ _) | (with_reducible refine below_new ?_ _) | (with_reducible refine Below.alloc ?_ ?_ _) | (with_reducible refine Below.drew ?_) | (with_reducible refine Below.setCell ?_ ?_ _) | (with_reducible apply below_at; (case k => (with_reducible assumption)); (case hB => omega)) | (with_reducible apply below_on; (with_reducible assumption)) | (go_size; done) | (with_reducible apply size_of)))) rfl BS.out.2
  go_region
  all_goals
    go_wp2
    go_ret
    exact ⟨rfl, by have := W2.out; (repeat' (first | (with_reducible exact Below.refl _ _) | (with_reducible assumption) | (with_reducible refine below_drewN ?_ _) | (with_reducible refine below_new ?_ _) | (with_reducible refine Below.alloc ?_ ?_ _) | (with_reducible refine Below.drew ?_) | (with_reducible refine Below.setCell ?_ ?_ _) | (with_reducible apply below_at; (case k => (with_reducible assumption)); (case hB => omega)) | (with_reducible apply below_on; (with_reducible assumption)) | (go_size; done) | (with_reducible apply size_of)))⟩
end Go.Proofs.Ytdnccnaihkajmaa.encL
