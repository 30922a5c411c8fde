/- CountsMakes, by a walk. -/
import Derived.Test.YtkpcopecndpfjaaCntL
import Derived.Deep.RegionHeld3
import Derived.Deep.DrawnRows
namespace Go.Proofs.Ytkpcopecndpfjaa.cntL
open Go.RowKit Go.Proofs.Ytkpcopecndpfjaa.base Go.Proofs.Ytkpcopecndpfjaa.cntP Go.Proofs.Ytkpcopecndpfjaa.cntW
set_option linter.unusedVariables false
set_option linter.unusedSimpArgs false
theorem cells_of {w : World} {g1 g2 g3 g4 g5 : Nat} {c1 c2 c3 c4 c5 : Cnt} (h1 : Lies w g1 23 [.int .i32 (c1).a, .int .i32 (c1).b, .int .u8 (c1).l]) (h2 : Lies w g2 23 [.int .i32 (c2).a, .int .i32 (c2).b, .int .u8 (c2).l]) (h3 : Lies w g3 23 [.int .i32 (c3).a, .int .i32 (c3).b, .int .u8 (c3).l]) (h4 : Lies w g4 23 [.int .i32 (c4).a, .int .i32 (c4).b, .int .u8 (c4).l]) (h5 : Lies w g5 23 [.int .i32 (c5).a, .int .i32 (c5).b, .int .u8 (c5).l]) :
    ((w).cell? ⟨g1, 0, none⟩ = some (.int .i32 (c1).a) ∧ (w).cell? ⟨g1, 1, none⟩ = some (.int .i32 (c1).b) ∧ (w).cell? ⟨g1, 2, none⟩ = some (.int .u8 (c1).l)) ∧ ((w).cell? ⟨g2, 0, none⟩ = some (.int .i32 (c2).a) ∧ (w).cell? ⟨g2, 1, none⟩ = some (.int .i32 (c2).b) ∧ (w).cell? ⟨g2, 2, none⟩ = some (.int .u8 (c2).l)) ∧ ((w).cell? ⟨g3, 0, none⟩ = some (.int .i32 (c3).a) ∧ (w).cell? ⟨g3, 1, none⟩ = some (.int .i32 (c3).b) ∧ (w).cell? ⟨g3, 2, none⟩ = some (.int .u8 (c3).l)) ∧ ((w).cell? ⟨g4, 0, none⟩ = some (.int .i32 (c4).a) ∧ (w).cell? ⟨g4, 1, none⟩ = some (.int .i32 (c4).b) ∧ (w).cell? ⟨g4, 2, none⟩ = some (.int .u8 (c4).l)) ∧ ((w).cell? ⟨g5, 0, none⟩ = some (.int .i32 (c5).a) ∧ (w).cell? ⟨g5, 1, none⟩ = some (.int .i32 (c5).b) ∧ (w).cell? ⟨g5, 2, none⟩ = some (.int .u8 (c5).l)) :=
  ⟨⟨h1.cell 0, h1.cell 1, h1.cell 2⟩, ⟨h2.cell 0, h2.cell 1, h2.cell 2⟩, ⟨h3.cell 0, h3.cell 1, h3.cell 2⟩, ⟨h4.cell 0, h4.cell 1, h4.cell 2⟩, h5.cell 0, h5.cell 1, h5.cell 2⟩
attribute [local go_sem ↓] Go.wp_at_zero Go.wp_at_succ
set_option maxHeartbeats 2000000 in
theorem makes (c : Cnt) (bit : Int) (w : World) (hc : CntIn c) (h1 : 0 ≤ bit) (h2 : bit ≤ 255) :
    Calls Try.prog 4 #[.agg #[.int .i32 (c).a, .int .i32 (c).b, .int .u8 (c).l], .int .u8 bit] w fun e w' => e = .returned (.bool true) ∧ Below w.heap.size w w' := by
  go_enter Try.func4, Try.ntmps4
  go_wp2_with fail
  refine (Next_any _ _ _ _ _ hc h1 h2).mono ?_
  rintro e w1 ⟨rfl, hb1⟩
  have A1 : Lies w1 w.heap.size 23 [.int .i32 (c).a, .int .i32 (c).b, .int .u8 (c).l] := Lies.past (Lies.fresh _ _ _) hb1
  obtain ⟨a0, a1, a2, f0, f1, f2⟩ := A1.three
  have la := A1.lt
  have HA1 := Lib.hid A1
  clear A1
  go_wp2_with fail
  refine (rNext_any _ _ _ _ _ hc h1 h2).mono ?_
  rintro e w2 ⟨rfl, hb2⟩
  have A2 : Lies w2 w.heap.size 23 [.int .i32 (c).a, .int .i32 (c).b, .int .u8 (c).l] := Lies.past (HA1.out.alloc _) hb2
  have HN1 := Lib.hid (Lies.past (Lies.fresh w1 23 _) hb2)
  obtain ⟨a0, a1, a2, f0, f1, f2⟩ := A2.three
  have la := A2.lt
  have HA2 := Lib.hid A2
  clear A2
  go_wp2_with fail
  refine (Total_any _ _ _ _ hc).mono ?_
  rintro e w3 ⟨rfl, hb3⟩
  have A3 : Lies w3 w.heap.size 23 [.int .i32 (c).a, .int .i32 (c).b, .int .u8 (c).l] := Lies.past (HA2.out.alloc _) hb3
  have HN2 := Lib.hid (Lies.past (Lies.fresh w2 23 _) hb3)
  have HN1 := Lib.hid ((HN1.out.alloc _).past hb3)
  obtain ⟨a0, a1, a2, f0, f1, f2⟩ := A3.three
  have la := A3.lt
  have HA3 := Lib.hid A3
  clear A3
  go_wp2_with fail
  refine (rTotal_any _ _ _ _ hc).mono ?_
  rintro e w4 ⟨rfl, hb4⟩
  have A4 : Lies w4 w.heap.size 23 [.int .i32 (c).a, .int .i32 (c).b, .int .u8 (c).l] := HA3.out.past hb4
  have HN2 := Lib.hid (HN2.out.past hb4)
  have HN1 := Lib.hid (HN1.out.past hb4)
  obtain ⟨a0, a1, a2, f0, f1, f2⟩ := A4.three
  have la := A4.lt
  have HA4 := Lib.hid A4
  clear A4
  go_wp2_with fail
  refine (Turn_any _ _ _ _ hc).mono ?_
  rintro e w5 ⟨rfl, hb5⟩
  have A5 : Lies w5 w.heap.size 23 [.int .i32 (c).a, .int .i32 (c).b, .int .u8 (c).l] := HA4.out.past hb5
  have HN2 := Lib.hid (HN2.out.past hb5)
  have HN1 := Lib.hid (HN1.out.past hb5)
  obtain ⟨a0, a1, a2, f0, f1, f2⟩ := A5.three
  have la := A5.lt
  have HA5 := Lib.hid A5
  clear A5
  go_wp2_with fail
  refine (rTurn_any _ _ _ _ hc).mono ?_
  rintro e w6 ⟨rfl, hb6⟩
  have HA := Lib.hid ((Lies.past (HA5.out.alloc _) hb6).alloc (.cells #[.int .i32 (trC c).a, .int .i32 (trC c).b, .int .u8 (trC c).l] 23)).drew
  have HN2 := Lib.hid ((((HN2.out.alloc _).past hb6).alloc (.cells #[.int .i32 (trC c).a, .int .i32 (trC c).b, .int .u8 (trC c).l] 23)).drew)
  have HN1 := Lib.hid ((((HN1.out.alloc _).past hb6).alloc (.cells #[.int .i32 (trC c).a, .int .i32 (trC c).b, .int .u8 (trC c).l] 23)).drew)
  have HT1 := Lib.hid (((Lies.past (Lies.fresh w5 23 _) hb6).alloc (.cells #[.int .i32 (trC c).a, .int .i32 (trC c).b, .int .u8 (trC c).l] 23)).drew)
  have HT2 := Lib.hid ((Lies.fresh w6 23 [.int .i32 (trC c).a, .int .i32 (trC c).b, .int .u8 (trC c).l]).drew)
  clear a0 a1 a2 f0 f1 f2 HA1 HA2 HA3 HA4 HA5
  go_wp2_with fail
  go_region_held3 (fun w' => ((w').cell? ⟨w.heap.size, 0, none⟩ = some (.int .i32 (c).a) ∧ (w').cell? ⟨w.heap.size, 1, none⟩ = some (.int .i32 (c).b) ∧ (w').cell? ⟨w.heap.size, 2, none⟩ = some (.int .u8 (c).l)) ∧ ((w').cell? ⟨w1.heap.size, 0, none⟩ = some (.int .i32 (nxC c bit).a) ∧ (w').cell? ⟨w1.heap.size, 1, none⟩ = some (.int .i32 (nxC c bit).b) ∧ (w').cell? ⟨w1.heap.size, 2, none⟩ = some (.int .u8 (nxC c bit).l)) ∧ ((w').cell? ⟨w2.heap.size, 0, none⟩ = some (.int .i32 (nxC c bit).a) ∧ (w').cell? ⟨w2.heap.size, 1, none⟩ = some (.int .i32 (nxC c bit).b) ∧ (w').cell? ⟨w2.heap.size, 2, none⟩ = some (.int .u8 (nxC c bit).l)) ∧ ((w').cell? ⟨w5.heap.size, 0, none⟩ = some (.int .i32 (trC c).a) ∧ (w').cell? ⟨w5.heap.size, 1, none⟩ = some (.int .i32 (trC c).b) ∧ (w').cell? ⟨w5.heap.size, 2, none⟩ = some (.int .u8 (trC c).l)) ∧ ((w').cell? ⟨w6.heap.size, 0, none⟩ = some (.int .i32 (trC c).a) ∧ (w').cell? ⟨w6.heap.size, 1, none⟩ = some (.int .i32 (trC c).b) ∧ (w').cell? ⟨w6.heap.size, 2, none⟩ = some (.int .u8 (trC c).l)))
    (first | exact cells_of HA.out HN1.out HN2.out HT1.out HT2.out | exact cells_of (HA.out.past hb7) (HN1.out.past hb7) (HN2.out.past hb7) (HT1.out.past hb7) (HT2.out.past hb7) | exact cells_of ((HA.out.past hb7).past hb8) ((HN1.out.past hb7).past hb8) ((HN2.out.past hb7).past hb8) ((HT1.out.past hb7).past hb8) ((HT2.out.past hb7).past hb8))
    (first | (go_at_call 20; refine (check_any ⟨_, _, _⟩ _ hc).mono ?_; rintro e w7 ⟨rfl, hb7⟩) | (go_at_call 25; refine (rcheck_any ⟨_, _, _⟩ _ hc).mono ?_; rintro e w8 ⟨rfl, hb8⟩))
  go_wp2
  go_ret
  exact ⟨rfl, by (repeat' (first | (with_reducible exact Below.refl _ _) | (with_reducible assumption) | (with_reducible refine below_drewN ?_ _) | (with_reducible refine below_new ?_ _) | (with_reducible refine Below.alloc ?_ ?_ _) | (with_reducible refine Below.drew ?_) | (with_reducible refine Below.setCell ?_ ?_ _) | (with_reducible apply below_on; (with_reducible assumption)) | (go_size; done) | (with_reducible apply size_of)))⟩
end Go.Proofs.Ytkpcopecndpfjaa.cntL
