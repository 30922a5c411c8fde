/- The rows of both, by walks. -/
import Derived.Test.YtdmnaipngcldbaaDoorFnW7
import Derived.Test.YtdmnaipngcldbaaDoorHashLawsB
namespace Go.Proofs.YtdmnaipngcldbaaDoor.fnP
set_option maxRecDepth 100000
open Go.Proofs.YtdmnaipngcldbaaDoor.hashP Go.Proofs.YtdmnaipngcldbaaDoor.hashW
def rowE (part : Int) : Int := if 1 ≤ part ∧ part ≤ 255 then 0 else 2
def rowV (part : Int) : Int := if 1 ≤ part ∧ part ≤ 255 then part else 0
def rowH (one two part : Int) : Int := hSteps (kStart 7) [two, one, part]
def rowW (one two part : Int) : Int := if 1 ≤ part ∧ part ≤ 255 then rowH one two part % 256 else 0
theorem row_ok {one two part : Int} (h : 1 ≤ part ∧ part ≤ 255) : rowE part = 0 ∧ rowV part = part ∧ rowW one two part = rowH one two part % 256 := by unfold rowE rowV rowW; rw [if_pos h, if_pos h, if_pos h]; exact ⟨rfl, rfl, rfl⟩
theorem row_no {one two part : Int} (h : ¬ (1 ≤ part ∧ part ≤ 255)) : rowE part = 2 ∧ rowV part = 0 ∧ rowW one two part = 0 := by unfold rowE rowV rowW; rw [if_neg h, if_neg h, if_neg h]; exact ⟨rfl, rfl, rfl⟩
theorem place256 (h : Int) : placeV h 256 = h % 256 ∧ placeE 256 = 0 := by
  have : sizeB 256 = true := by decide
  unfold placeV placeE
  rw [this]
  exact ⟨rfl, rfl⟩
end Go.Proofs.YtdmnaipngcldbaaDoor.fnP
namespace Go.Proofs.YtdmnaipngcldbaaDoor.fnW
set_option maxRecDepth 100000
open Go.RowKit Go.Proofs.YtdmnaipngcldbaaDoor.base Go.Proofs.YtdmnaipngcldbaaDoor.rfP Go.Proofs.YtdmnaipngcldbaaDoor.rfW Go.Proofs.YtdmnaipngcldbaaDoor.fnP Go.Proofs.YtdmnaipngcldbaaDoor.hashP Go.Proofs.YtdmnaipngcldbaaDoor.hashW
set_option linter.unusedVariables false
set_option linter.unusedSimpArgs false
theorem row3 {w : World} {a b c : Int} : Has .u8 (w.alloc (.cells #[.int .u8 a, .int .u8 b, .int .u8 c] 5)) (some ⟨w.heap.size, 0, none⟩) [a, b, c] := has_lit (zs := [a, b, c]) rfl (by simp [maxLen])
theorem in3 {a b c : Int} (ha : 0 ≤ a ∧ a ≤ 255) (hb : 0 ≤ b ∧ b ≤ 255) (hc : 0 ≤ c ∧ c ≤ 255) : ∀ z ∈ [a, b, c], 0 ≤ z ∧ z ≤ 255 := by
  intro z hz
  simp only [List.mem_cons, List.not_mem_nil, or_false] at hz
  rcases hz with rfl | rfl | rfl <;> assumption
theorem rowH_bd {one two part : Int} (ha : 0 ≤ one ∧ one ≤ 255) (hb : 0 ≤ two ∧ two ≤ 255) (hc : 0 ≤ part ∧ part ≤ 255) : 0 ≤ rowH one two part ∧ rowH one two part ≤ 4294967295 := hSteps_bd _ (kStart_bd 7).1 (kStart_bd 7).2 (in3 hb ha hc)
theorem ofRow {one two part : Int} (w : World) (g : Nat) (hg : w.heap.size = g) (ha : 0 ≤ one ∧ one ≤ 255) (hb : 0 ≤ two ∧ two ≤ 255) (hc : 0 ≤ part ∧ part ≤ 255) :
    Calls Tryd.prog 27 #[.int .i64 7, .slice (some ⟨g, 0, none⟩) 3 3] (w.alloc (.cells #[.int .u8 two, .int .u8 one, .int .u8 part] 5)) fun v w' => v = .returned (.tuple #[.int .u32 (rowH one two part), .int .i64 0]) ∧ Below w.heap.size w w' :=
  hg ▸ (of_ok 7 (some ⟨w.heap.size, 0, none⟩) 3 3 [two, one, part] _ (by decide) (by decide) (in3 hb ha hc) row3 rfl (by decide)).mono fun v w' ⟨h1, h2⟩ => ⟨h1, (below_al (Below.refl _ _) _).trans (h2.mono (by simp))⟩
theorem rhashRow {one two part : Int} (w : World) (g : Nat) (hg : w.heap.size = g) (ha : 0 ≤ one ∧ one ≤ 255) (hb : 0 ≤ two ∧ two ≤ 255) (hc : 0 ≤ part ∧ part ≤ 255) :
    Calls Tryd.prog 31 #[.int .i64 7, .slice (some ⟨g, 0, none⟩) 3 3] (w.alloc (.cells #[.int .u8 two, .int .u8 one, .int .u8 part] 5)) fun v w' => v = .returned (.int .u32 (rowH one two part)) ∧ Below w.heap.size w w' :=
  hg ▸ (hashL.rhash_any 7 (some ⟨w.heap.size, 0, none⟩) 3 3 [two, one, part] _ (by decide) (by decide) (in3 hb ha hc) row3 rfl (by decide)).mono fun v w' ⟨h1, h2⟩ => ⟨h1, h2 ▸ below_al (Below.refl _ _) _⟩
attribute [irreducible] rowH
set_option maxHeartbeats 800000 in
theorem Rows_any (one two part : Int) (w : World) (ha : 0 ≤ one ∧ one ≤ 255) (hb : 0 ≤ two ∧ two ≤ 255) :
    Calls Tryd.prog 12 #[.int .u8 one, .int .u8 two, .int .i64 part] w fun v w' => v = .returned (.tuple #[.agg #[.int .i64 (rowV part), .int .i64 (rowW one two part)], .int .i64 (rowE part)]) ∧ Below w.heap.size w w' := by
  have S0 : Hid (Lies (w.alloc (.cells #[.int .i64 0, .int .i64 0] 27)) w.heap.size 27 [.int .i64 0, .int .i64 0] ∧ Below w.heap.size w (w.alloc (.cells #[.int .i64 0, .int .i64 0] 27))) := Lib.hid ⟨Lies.fresh _ _ _, by (repeat' (first | (with_reducible exact Below.refl _ _) | (with_reducible assumption) | (with_reducible refine below_drewN ?_ _) | (with_reducible refine below_new ?_ _) | (with_reducible refine Below.alloc ?_ ?_ _) | (with_reducible refine Below.drew ?_) | (with_reducible refine Below.setCell ?_ ?_ _) | (with_reducible apply below_at; (case k => (with_reducible assumption)); (case hB => omega)) | (with_reducible apply below_on; (with_reducible assumption)) | (go_size; done) | (with_reducible apply size_of)))⟩
  by_cases hp : 1 ≤ part ∧ part ≤ 255
  · have HR := Lib.hid (row_ok (one := one) (two := two) hp)
    have HP := Lib.hid hp
    have HA := Lib.hid ha
    have HB := Lib.hid hb
    have HH := Lib.hid (rowH_bd ha hb (show 0 ≤ part ∧ part ≤ 255 by omega))
    obtain ⟨p1, p2⟩ := hp
    have q0 : decide (part < 1) = false := decide_eq_false (by omega)
    have q1 : decide (255 < part) = false := decide_eq_false (by omega)
    have q2 : IntKind.u8.wrap part = part := by rw [IntKind.wrap_u8]; omega
    clear ha hb
    go_enter Tryd.func12, Tryd.ntmps12
    go_wp2_with fail
    have hg : (w.alloc (.cells #[.int .i64 0, .int .i64 0] 27)).heap.size = w.heap.size + 1 := by simp
    generalize (w.alloc (.cells #[.int .i64 0, .int .i64 0] 27)) = w0 at *
    refine (ofRow w0 _ hg HA.out HB.out (by have := HP.out; omega)).mono ?_
    rintro v w1 ⟨rfl, b1⟩
    have S1 : Hid (Lies w1 w.heap.size 27 [.int .i64 0, .int .i64 0] ∧ Below w.heap.size w w1) := Lib.hid ⟨S0.out.1.past b1, below_bs S0.out.2 b1⟩
    clear b1 S0
    generalize rowH one two part = hh at *
    go_wp2_with fail
    refine (place_any hh 256 w1 HH.out.1 HH.out.2).mono ?_
    rintro v w2 ⟨rfl, rfl⟩
    rw [(place256 hh).1, (place256 hh).2]
    obtain ⟨z0, z1, f0, f1⟩ := S1.out.1.two
    go_wp2_with fail
    obtain ⟨t0, t1, -, -⟩ := (lies_set2 S1.out.1 (.int .i64 part) (.int .i64 (hh % 256))).two
    clear z0 z1 f0 f1
    refine bodyPost_ret (by simp [results, Tryd.results12, go_sem, t0, t1]; try rfl) rfl ?_
    exact ⟨by rw [HR.out.1, HR.out.2.1, HR.out.2.2], below_set2 S1.out.2 (Nat.le_refl _) _ _⟩
  · have HR := Lib.hid (row_no (one := one) (two := two) hp)
    by_cases c1 : part < 1
    · clear hp
      obtain ⟨z0, z1, f0, f1⟩ := S0.out.1.two
      go_enter Tryd.func12, Tryd.ntmps12
      go_wp2_with fail
      obtain ⟨t0, t1, -, -⟩ := (lies_set2 S0.out.1 (.int .i64 0) (.int .i64 0)).two
      clear z0 z1 f0 f1
      refine bodyPost_ret (by simp [results, Tryd.results12, go_sem, t0, t1]; try rfl) rfl ?_
      exact ⟨by rw [HR.out.1, HR.out.2.1, HR.out.2.2], S0.out.2⟩
    · have c2 : 255 < part := by omega
      have c3 : decide (part < 1) = false := decide_eq_false c1
      clear hp c1
      obtain ⟨z0, z1, f0, f1⟩ := S0.out.1.two
      go_enter Tryd.func12, Tryd.ntmps12
      go_wp2_with fail
      obtain ⟨t0, t1, -, -⟩ := (lies_set2 S0.out.1 (.int .i64 0) (.int .i64 0)).two
      clear z0 z1 f0 f1
      refine bodyPost_ret (by simp [results, Tryd.results12, go_sem, t0, t1]; try rfl) rfl ?_
      exact ⟨by rw [HR.out.1, HR.out.2.1, HR.out.2.2], S0.out.2⟩
set_option maxHeartbeats 800000 in
theorem rRows_any (one two part : Int) (w : World) (ha : 0 ≤ one ∧ one ≤ 255) (hb : 0 ≤ two ∧ two ≤ 255) :
    Calls Tryd.prog 13 #[.int .u8 one, .int .u8 two, .int .i64 part] w fun v w' => v = .returned (.tuple #[.agg #[.int .i64 (rowV part), .int .i64 (rowW one two part)], .int .i64 (rowE part)]) ∧ Below w.heap.size w w' := by
  have S0 : Hid (Lies (w.alloc (.cells #[.int .i64 0, .int .i64 0] 27)) w.heap.size 27 [.int .i64 0, .int .i64 0] ∧ Below w.heap.size w (w.alloc (.cells #[.int .i64 0, .int .i64 0] 27))) := Lib.hid ⟨Lies.fresh _ _ _, by (repeat' (first | (with_reducible exact Below.refl _ _) | (with_reducible assumption) | (with_reducible refine below_drewN ?_ _) | (with_reducible refine below_new ?_ _) | (with_reducible refine Below.alloc ?_ ?_ _) | (with_reducible refine Below.drew ?_) | (with_reducible refine Below.setCell ?_ ?_ _) | (with_reducible apply below_at; (case k => (with_reducible assumption)); (case hB => omega)) | (with_reducible apply below_on; (with_reducible assumption)) | (go_size; done) | (with_reducible apply size_of)))⟩
  by_cases hp : 1 ≤ part ∧ part ≤ 255
  · have HR := Lib.hid (row_ok (one := one) (two := two) hp)
    have HP := Lib.hid hp
    have HA := Lib.hid ha
    have HB := Lib.hid hb
    have HH := Lib.hid (rowH_bd ha hb (show 0 ≤ part ∧ part ≤ 255 by omega))
    obtain ⟨p1, p2⟩ := hp
    have q0 : decide (part < 1) = false := decide_eq_false (by omega)
    have q1 : decide (255 < part) = false := decide_eq_false (by omega)
    have q2 : IntKind.u8.wrap part = part := by rw [IntKind.wrap_u8]; omega
    clear ha hb
    go_enter Tryd.func13, Tryd.ntmps13
    go_wp2_with fail
    have hg : (w.alloc (.cells #[.int .i64 0, .int .i64 0] 27)).heap.size = w.heap.size + 1 := by simp
    generalize (w.alloc (.cells #[.int .i64 0, .int .i64 0] 27)) = w0 at *
    refine (rhashRow w0 _ hg HA.out HB.out (by have := HP.out; omega)).mono ?_
    rintro v w1 ⟨rfl, b1⟩
    have S1 : Hid (Lies w1 w.heap.size 27 [.int .i64 0, .int .i64 0] ∧ Below w.heap.size w w1) := Lib.hid ⟨S0.out.1.past b1, below_bs S0.out.2 b1⟩
    clear b1 S0
    generalize rowH one two part = hh at *
    have q3 : IntKind.u32.wrap (hh % 256) = hh % 256 := by rw [IntKind.wrap_u32]; omega
    obtain ⟨hh1, hh2⟩ := HH.out
    obtain ⟨z0, z1, f0, f1⟩ := S1.out.1.two
    go_wp2_with fail
    obtain ⟨t0, t1, -, -⟩ := (lies_set2 S1.out.1 (.int .i64 part) (.int .i64 (hh % 256))).two
    clear z0 z1 f0 f1
    refine bodyPost_ret (by simp [results, Tryd.results13, go_sem, t0, t1]; try rfl) rfl ?_
    exact ⟨by rw [HR.out.1, HR.out.2.1, HR.out.2.2], below_set2 S1.out.2 (Nat.le_refl _) _ _⟩
  · have HR := Lib.hid (row_no (one := one) (two := two) hp)
    by_cases c1 : part < 1
    · clear hp
      obtain ⟨z0, z1, f0, f1⟩ := S0.out.1.two
      go_enter Tryd.func13, Tryd.ntmps13
      go_wp2_with fail
      obtain ⟨t0, t1, -, -⟩ := (lies_set2 S0.out.1 (.int .i64 0) (.int .i64 0)).two
      clear z0 z1 f0 f1
      refine bodyPost_ret (by simp [results, Tryd.results13, go_sem, t0, t1]; try rfl) rfl ?_
      exact ⟨by rw [HR.out.1, HR.out.2.1, HR.out.2.2], S0.out.2⟩
    · have c2 : 255 < part := by omega
      have c3 : decide (part < 1) = false := decide_eq_false c1
      clear hp c1
      obtain ⟨z0, z1, f0, f1⟩ := S0.out.1.two
      go_enter Tryd.func13, Tryd.ntmps13
      go_wp2_with fail
      obtain ⟨t0, t1, -, -⟩ := (lies_set2 S0.out.1 (.int .i64 0) (.int .i64 0)).two
      clear z0 z1 f0 f1
      refine bodyPost_ret (by simp [results, Tryd.results13, go_sem, t0, t1]; try rfl) rfl ?_
      exact ⟨by rw [HR.out.1, HR.out.2.1, HR.out.2.2], S0.out.2⟩
end Go.Proofs.YtdmnaipngcldbaaDoor.fnW
