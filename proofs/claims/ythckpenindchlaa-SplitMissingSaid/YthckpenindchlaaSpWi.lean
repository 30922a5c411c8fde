/- The reference's Within. -/
import Derived.Test.YthckpenindchlaaSpA
namespace Go.Proofs.Ythckpenindchlaa.spW
set_option maxRecDepth 100000
open Go.RowKit Go.Proofs.Ythckpenindchlaa.base Go.Proofs.Ythckpenindchlaa.mbW
set_option linter.unusedVariables false
set_option linter.unusedSimpArgs false
set_option maxRecDepth 100000
set_option maxHeartbeats 6400000 in
theorem Within_any (zs : List Int) (P : Option Addr) (m d : Nat) (p : Pc) (w : World) (hZ : ZsB w P m d zs) (hp : PcOk p) :
    Calls Try.prog 19 #[.slice P m d, .agg (pcE p).toArray] w fun e w' => e = .returned (.bool (decide (wiP zs p))) ∧ Below w.heap.size w w' := by
  have HZ := Lib.hid hZ
  have HZL := Lib.hid hZ.l
  have m9 : (m : Int) ≤ 9223372036854775807 := by have := hZ.c1; have := hZ.c2; omega
  clear hZ
  obtain ⟨pm, po, pr⟩ := p
  have HPO := Lib.hid hp
  clear hp
  show Calls Try.prog 19 #[.slice P m d, .agg #[.int .i64 pm, .int .i64 po, .int .i64 pr]] w _
  have B1 := Lib.hid (mb_new w (.cells #[.int .i64 pm, .int .i64 po, .int .i64 pr] 46))
  have L1 := Lib.hid (Lies.fresh w 46 [.int .i64 pm, .int .i64 po, .int .i64 pr])
  obtain ⟨x0, x1, x2, -, -, -⟩ := L1.out.three
  have ltg := L1.out.lt
  generalize hw1 : (w.alloc (.cells #[.int .i64 pm, .int .i64 po, .int .i64 pr] 46)) = w1 at *
  by_cases c1 : pm < 0
  · have HE : Hid (¬ wiP zs ⟨pm, po, pr⟩) := Lib.hid (fun h => by have := h.1; dsimp only at this; omega)
    have c1' : ¬ 0 ≤ pm := by omega
    rw [decide_eq_false HE.out]
    (go_enter Try.func19, Try.ntmps19; go_upto_region 1 with fail; go_quiet (fail); go_wp2_with fail; go_ret; exact ⟨rfl, by have := B1.out; (repeat' (first | (with_reducible exact Below.refl _ _) | (with_reducible assumption) | (with_reducible refine below_drewN ?_ _) | (with_reducible refine below_new ?_ _) | (with_reducible refine Below.alloc ?_ ?_ _) | (with_reducible refine Below.drew ?_) | (with_reducible refine Below.setCell ?_ ?_ _) | (with_reducible apply below_at; (case k => (with_reducible assumption)); (case hB => omega)) | (with_reducible apply below_on; (with_reducible assumption)) | (go_size; done) | (with_reducible apply size_of)))⟩)
  by_cases c2 : (m : Int) ≤ pm
  · have HE : Hid (¬ wiP zs ⟨pm, po, pr⟩) := Lib.hid (fun h => by have := h.2.1; rw [HZL.out] at this; dsimp only at this; omega)
    have c1' : 0 ≤ pm := by omega
    have c2' : ¬ pm < m := by omega
    rw [decide_eq_false HE.out]
    (go_enter Try.func19, Try.ntmps19; go_upto_region 1 with fail; go_quiet (fail); go_wp2_with fail; go_ret; exact ⟨rfl, by have := B1.out; (repeat' (first | (with_reducible exact Below.refl _ _) | (with_reducible assumption) | (with_reducible refine below_drewN ?_ _) | (with_reducible refine below_new ?_ _) | (with_reducible refine Below.alloc ?_ ?_ _) | (with_reducible refine Below.drew ?_) | (with_reducible refine Below.setCell ?_ ?_ _) | (with_reducible apply below_at; (case k => (with_reducible assumption)); (case hB => omega)) | (with_reducible apply below_on; (with_reducible assumption)) | (go_size; done) | (with_reducible apply size_of)))⟩)
  obtain ⟨i, rfl⟩ : ∃ i : Nat, pm = (i : Int) := ⟨pm.toNat, by omega⟩
  have hi : i < m := by omega
  have c1' : 0 ≤ (i : Int) := by omega
  have c2' : (i : Int) < m := by omega
  by_cases c3 : po < 0
  · have HE : Hid (¬ wiP zs ⟨i, po, pr⟩) := Lib.hid (fun h => by have := h.2.2.1; dsimp only at this; omega)
    have c3' : ¬ 0 ≤ po := by omega
    rw [decide_eq_false HE.out]
    (go_enter Try.func19, Try.ntmps19; go_upto_region 1 with fail; go_quiet (fail); go_wp2_with fail; go_ret; exact ⟨rfl, by have := B1.out; (repeat' (first | (with_reducible exact Below.refl _ _) | (with_reducible assumption) | (with_reducible refine below_drewN ?_ _) | (with_reducible refine below_new ?_ _) | (with_reducible refine Below.alloc ?_ ?_ _) | (with_reducible refine Below.drew ?_) | (with_reducible refine Below.setCell ?_ ?_ _) | (with_reducible apply below_at; (case k => (with_reducible assumption)); (case hB => omega)) | (with_reducible apply below_on; (with_reducible assumption)) | (go_size; done) | (with_reducible apply size_of)))⟩)
  have c3' : 0 ≤ po := by omega
  by_cases c4 : pr < 1
  · have HE : Hid (¬ wiP zs ⟨i, po, pr⟩) := Lib.hid (fun h => by have := h.2.2.2.1; dsimp only at this; omega)
    have c4' : ¬ 1 ≤ pr := by omega
    rw [decide_eq_false HE.out]
    (go_enter Try.func19, Try.ntmps19; go_upto_region 1 with fail; go_quiet (fail); go_wp2_with fail; go_ret; exact ⟨rfl, by have := B1.out; (repeat' (first | (with_reducible exact Below.refl _ _) | (with_reducible assumption) | (with_reducible refine below_drewN ?_ _) | (with_reducible refine below_new ?_ _) | (with_reducible refine Below.alloc ?_ ?_ _) | (with_reducible refine Below.drew ?_) | (with_reducible refine Below.setCell ?_ ?_ _) | (with_reducible apply below_at; (case k => (with_reducible assumption)); (case hB => omega)) | (with_reducible apply below_on; (with_reducible assumption)) | (go_size; done) | (with_reducible apply size_of)))⟩)
  have c4' : 1 ≤ pr := by omega
  obtain ⟨b2, off2, rfl, hb2, hc2⟩ := zsAt HZ.out hi
  have y0 := hc2 i hi _ B1.out
  have ltb : b2 < w1.heap.size := Nat.lt_of_lt_of_le hb2 B1.out.size
  have HI : Hid ((i : Int).toNat = i) := Lib.hid (by omega)
  have HZB := Lib.hid (zsZ HZ.out hi)
  have HWI : Hid (wiP zs ⟨i, po, pr⟩ ↔ pr ≤ zs.getD i 0 ∧ po ≤ zs.getD i 0 - pr) := Lib.hid (by
    unfold wiP
    dsimp only
    rw [HI.out, HZL.out]
    constructor
    · rintro ⟨_, _, _, _, h5, h6⟩; exact ⟨h5, h6⟩
    · rintro ⟨h5, h6⟩; exact ⟨by omega, by omega, by omega, by omega, h5, h6⟩)
  generalize zs.getD i 0 = z at *
  clear hi hb2 hc2 c1 c2
  by_cases c5 : z < pr
  · have HE : Hid (¬ wiP zs ⟨i, po, pr⟩) := Lib.hid (fun h => by have := (HWI.out.1 h).1; omega)
    have c5' : ¬ pr ≤ z := by omega
    rw [decide_eq_false HE.out]
    (go_enter Try.func19, Try.ntmps19; go_upto_region 1 with fail; go_quiet (fail); go_wp2_with fail; go_ret; exact ⟨rfl, by have := B1.out; (repeat' (first | (with_reducible exact Below.refl _ _) | (with_reducible assumption) | (with_reducible refine below_drewN ?_ _) | (with_reducible refine below_new ?_ _) | (with_reducible refine Below.alloc ?_ ?_ _) | (with_reducible refine Below.drew ?_) | (with_reducible refine Below.setCell ?_ ?_ _) | (with_reducible apply below_at; (case k => (with_reducible assumption)); (case hB => omega)) | (with_reducible apply below_on; (with_reducible assumption)) | (go_size; done) | (with_reducible apply size_of)))⟩)
  have c5' : pr ≤ z := by omega
  have hw : IntKind.i64.wrap (z - pr) = z - pr := by rw [IntKind.wrap_i64]; have := HZB.out; omega
  by_cases c6 : z - pr < po
  · have HE : Hid (¬ wiP zs ⟨i, po, pr⟩) := Lib.hid (fun h => by have := (HWI.out.1 h).2; omega)
    have c6' : ¬ po ≤ z - pr := by omega
    rw [decide_eq_false HE.out]
    (go_enter Try.func19, Try.ntmps19; go_upto_region 1 with fail; go_quiet (fail); go_wp2_with fail; go_ret; exact ⟨rfl, by have := B1.out; (repeat' (first | (with_reducible exact Below.refl _ _) | (with_reducible assumption) | (with_reducible refine below_drewN ?_ _) | (with_reducible refine below_new ?_ _) | (with_reducible refine Below.alloc ?_ ?_ _) | (with_reducible refine Below.drew ?_) | (with_reducible refine Below.setCell ?_ ?_ _) | (with_reducible apply below_at; (case k => (with_reducible assumption)); (case hB => omega)) | (with_reducible apply below_on; (with_reducible assumption)) | (go_size; done) | (with_reducible apply size_of)))⟩)
  have c6' : po ≤ z - pr := by omega
  have HE : Hid (wiP zs ⟨i, po, pr⟩) := Lib.hid (HWI.out.2 ⟨c5', c6'⟩)
  rw [decide_eq_true HE.out]
  (go_enter Try.func19, Try.ntmps19; go_upto_region 1 with fail; go_quiet (fail); go_wp2_with fail; go_ret; exact ⟨rfl, by have := B1.out; (repeat' (first | (with_reducible exact Below.refl _ _) | (with_reducible assumption) | (with_reducible refine below_drewN ?_ _) | (with_reducible refine below_new ?_ _) | (with_reducible refine Below.alloc ?_ ?_ _) | (with_reducible refine Below.drew ?_) | (with_reducible refine Below.setCell ?_ ?_ _) | (with_reducible apply below_at; (case k => (with_reducible assumption)); (case hB => omega)) | (with_reducible apply below_on; (with_reducible assumption)) | (go_size; done) | (with_reducible apply size_of)))⟩)
end Go.Proofs.Ythckpenindchlaa.spW
