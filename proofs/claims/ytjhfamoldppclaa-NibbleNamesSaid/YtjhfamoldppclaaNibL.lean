/- The laws of nibble, by walks: the examples. -/
import Derived.Test.YtjhfamoldppclaaNibW8
import Derived.Test.YtjhfamoldppclaaNibBase
import Derived.Deep.RegionHeld3
import Derived.Deep.DeepCutAuto
namespace Go.Proofs.Ytjhfamoldppclaa.nibL
open Go.RowKit Go.Proofs.Ytjhfamoldppclaa.base Go.Proofs.Ytjhfamoldppclaa.nibP Go.Proofs.Ytjhfamoldppclaa.nibW
set_option linter.unusedVariables false
set_option linter.unusedSimpArgs false

theorem pagg_165 : pagg 165 = .agg #[.int .i64 1, .int .i64 3, .int .i64 6, .int .i64 13, .int .i64 1, .int .i64 2, .int .i64 5, .int .i64 10] := by kernel_rfl
set_option maxHeartbeats 1000000 in
theorem alive (w : World) : Calls Try.prog 24 #[] w fun e w' => e = .returned (.bool true) ∧ Below w.heap.size w w' := by
  have E1 : Hid (ofV [true, false, true, false, false] = 52 ∧ ofE [true, false, true, false, false] = 0 ∧ ndV 52 = 2 ∧ wE 52 = 0 ∧ scV 52 = true) := Lib.hid ⟨by kernel_rfl, by kernel_rfl, by kernel_rfl, by kernel_rfl, by kernel_rfl⟩
  go_enter Try.func24, Try.ntmps24
  go_wp2_with fail
  refine (Of_any _ 5 5 [true, false, true, false, false] _ (hasB_lit rfl (by decide)) rfl (by omega)).mono ?_
  rintro e w1 ⟨rfl, hb1⟩
  rw [E1.out.1, E1.out.2.1]
  have z1 : w.heap.size < w1.heap.size := by have := hb1.size; simp at this; omega
  have ac : Below w.heap.size w w1 := by (repeat' (first | (with_reducible exact Below.refl _ _) | (with_reducible assumption) | (with_reducible refine below_drewN ?_ _) | (with_reducible refine below_new ?_ _) | (with_reducible refine Below.alloc ?_ ?_ _) | (with_reducible refine Below.drew ?_) | (with_reducible refine Below.setCell ?_ ?_ _) | (with_reducible apply below_on; (with_reducible assumption)) | (go_size; done) | (with_reducible apply size_of)))
  clear hb1
  go_wp2_with fail
  refine (Node_any 52 _).mono ?_
  rintro e w2 ⟨rfl, hb2⟩
  rw [E1.out.2.2.1, E1.out.2.2.2.1]
  have K2 := Lib.hid (Lies.past (Lies.fresh w1 23 [.int .i64 52]) hb2)
  replace ac : Below w.heap.size w w2 := by (repeat' (first | (with_reducible exact Below.refl _ _) | (with_reducible assumption) | (with_reducible refine below_drewN ?_ _) | (with_reducible refine below_new ?_ _) | (with_reducible refine Below.alloc ?_ ?_ _) | (with_reducible refine Below.drew ?_) | (with_reducible refine Below.setCell ?_ ?_ _) | (with_reducible apply below_on; (with_reducible assumption)) | (go_size; done) | (with_reducible apply size_of)))
  obtain ⟨p0, f0⟩ := K2.out.one
  clear hb2
  go_wp2_with fail
  refine (Second_any 52 _).mono ?_
  rintro e w3 ⟨rfl, hb3⟩
  rw [E1.out.2.2.2.2, E1.out.2.2.2.1]
  have K3 := Lib.hid (K2.out.past hb3)
  replace ac : Below w.heap.size w w3 := by (repeat' (first | (with_reducible exact Below.refl _ _) | (with_reducible assumption) | (with_reducible refine below_drewN ?_ _) | (with_reducible refine below_new ?_ _) | (with_reducible refine Below.alloc ?_ ?_ _) | (with_reducible refine Below.drew ?_) | (with_reducible refine Below.setCell ?_ ?_ _) | (with_reducible apply below_on; (with_reducible assumption)) | (go_size; done) | (with_reducible apply size_of)))
  obtain ⟨p0, f0⟩ := K3.out.one
  clear hb3
  go_wp2_with fail
  refine (Path_any 165 _ (by omega)).mono ?_
  rintro e w4 ⟨rfl, hb4⟩
  rw [pagg_165]
  have K4 := Lib.hid (K3.out.past hb4)
  replace ac : Below w.heap.size w w4 := by (repeat' (first | (with_reducible exact Below.refl _ _) | (with_reducible assumption) | (with_reducible refine below_drewN ?_ _) | (with_reducible refine below_new ?_ _) | (with_reducible refine Below.alloc ?_ ?_ _) | (with_reducible refine Below.drew ?_) | (with_reducible refine Below.setCell ?_ ?_ _) | (with_reducible apply below_on; (with_reducible assumption)) | (go_size; done) | (with_reducible apply size_of)))
  obtain ⟨p0, f0⟩ := K4.out.one
  clear hb4
  have heq : ∀ w, (Op.equalIn 10000 50 (.agg #[.int .i64 1, .int .i64 3, .int .i64 6, .int .i64 13, .int .i64 1, .int .i64 2, .int .i64 5, .int .i64 10]) (.agg #[.int .i64 1, .int .i64 3, .int .i64 6, .int .i64 13, .int .i64 1, .int .i64 2, .int .i64 5, .int .i64 10])).run Try.prog w = .ok true w := fun _ => by kernel_rfl
  go_wp2
  go_ret
  exact ⟨rfl, ac⟩

/-- What a bool is compared to. -/
theorem part_of {p : Int} (h : wOk p = true) : ∃ n : Nat, p = n ∧ 1 ≤ n ∧ n < 256 := by
  have := (wOk_iff p).1 h
  exact ⟨p.toNat, by omega, by omega, by omega⟩
set_option maxHeartbeats 2000000 in
theorem node_bad (p q : Int) (w : World) (h : wOk p = false ∨ wOk q = false) : Calls Try.prog 5 #[.agg #[.int .i64 (p)], .agg #[.int .i64 (q)]] w fun e w' => e = .returned (.bool true) ∧ Below w.heap.size w w' := by
  cases hp : wOk p
  · have e1 : wE p = 8 := wE_no hp
    clear h hp
    go_enter Try.func5, Try.ntmps5
    go_wp2_with fail
    refine (alive _).mono ?_
    rintro e w1 ⟨rfl, hb1⟩
    obtain ⟨cl1, fr1⟩ := bcell hb1; have sz1 := hb1.size; (try simp at sz1); (try have sy1 : w.heap.size + 1 < (w1).heap.size := (by omega)); have sx1 : w.heap.size < (w1).heap.size := (by omega)
    go_wp2_with fail
    refine (rCheck_any p _).mono ?_
    rintro e w2 ⟨rfl, hb2⟩
    rw [e1]
    obtain ⟨cl2, fr2⟩ := bcell hb2; have sz2 := hb2.size; (try simp at sz2); (try have sy2 : w.heap.size + 1 < (w2).heap.size := (by omega)); have sx2 : w.heap.size < (w2).heap.size := (by omega)
    go_wp2
    go_ret
    exact ⟨rfl, by (repeat' (first | (with_reducible exact Below.refl _ _) | (with_reducible assumption) | (with_reducible refine below_drewN ?_ _) | (with_reducible refine below_new ?_ _) | (with_reducible refine Below.alloc ?_ ?_ _) | (with_reducible refine Below.drew ?_) | (with_reducible refine Below.setCell ?_ ?_ _) | (with_reducible apply below_on; (with_reducible assumption)) | (go_size; done) | (with_reducible apply size_of)))⟩
  · have e1 : wE p = 0 := wE_yes hp
    have e2 : wE q = 8 := wE_no (by rcases h with h | h <;> simp_all)
    clear h hp
    go_enter Try.func5, Try.ntmps5
    go_wp2_with fail
    refine (alive _).mono ?_
    rintro e w1 ⟨rfl, hb1⟩
    obtain ⟨cl1, fr1⟩ := bcell hb1; have sz1 := hb1.size; (try simp at sz1); (try have sy1 : w.heap.size + 1 < (w1).heap.size := (by omega)); have sx1 : w.heap.size < (w1).heap.size := (by omega)
    go_wp2_with fail
    refine (rCheck_any p _).mono ?_
    rintro e w2 ⟨rfl, hb2⟩
    rw [e1]
    obtain ⟨cl2, fr2⟩ := bcell hb2; have sz2 := hb2.size; (try simp at sz2); (try have sy2 : w.heap.size + 1 < (w2).heap.size := (by omega)); have sx2 : w.heap.size < (w2).heap.size := (by omega)
    go_wp2_with fail
    refine (rCheck_any q _).mono ?_
    rintro e w3 ⟨rfl, hb3⟩
    rw [e2]
    obtain ⟨cl3, fr3⟩ := bcell hb3; have sz3 := hb3.size; (try simp at sz3); (try have sy3 : w.heap.size + 1 < (w3).heap.size := (by omega)); have sx3 : w.heap.size < (w3).heap.size := (by omega)
    go_wp2
    go_ret
    exact ⟨rfl, by (repeat' (first | (with_reducible exact Below.refl _ _) | (with_reducible assumption) | (with_reducible refine below_drewN ?_ _) | (with_reducible refine below_new ?_ _) | (with_reducible refine Below.alloc ?_ ?_ _) | (with_reducible refine Below.drew ?_) | (with_reducible refine Below.setCell ?_ ?_ _) | (with_reducible apply below_on; (with_reducible assumption)) | (go_size; done) | (with_reducible apply size_of)))⟩
end Go.Proofs.Ytjhfamoldppclaa.nibL
