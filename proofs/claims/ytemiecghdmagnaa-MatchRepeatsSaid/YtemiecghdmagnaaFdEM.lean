/- Several texts as one: FdE0, FdE1, FdE2, FdE3, FdE4, FdL2, FdW11, FdW12. -/
import Derived.Test.YtemiecghdmagnaaGN
import Derived.Test.YtemiecghdmagnaaGA
import Derived.BigQuiet
import Derived.Test.YtemiecghdmagnaaGP
import Derived.WalkMore
import Derived.Deep.LoopGhost
namespace Go.Proofs.Ytemiecghdmagnaa.fdW
set_option maxRecDepth 100000
open Go.RowKit Go.Proofs.Ytemiecghdmagnaa.base Go.Proofs.Ytemiecghdmagnaa.rgP Go.Proofs.Ytemiecghdmagnaa.fdP
set_option linter.unusedVariables false
set_option linter.unusedSimpArgs false
theorem thB_isB (r : Rg) {q : Int} (h : 0 ≤ q) : thB r q = isB r q := by unfold thB isB; rw [decide_eq_true h, Bool.true_and]
theorem thB_neg (r : Rg) {q : Int} (h : ¬ 0 ≤ q) : thB r q = false := by unfold thB; rw [decide_eq_false h, Bool.false_and]
set_option maxHeartbeats 1000000 in
theorem rThere_all (r : Rg) (A : Option Addr) (n c : Nat) (q : Int) (w : World) (q1 : q ≤ 9223372036854775807) (n0 : 0 ≤ r.n) (n1 : r.n ≤ 1073741824) (hn : n ≤ 8192) (he : r.b.length = n) :
    Calls Try.prog 59 #[.agg #[.int .i64 (r).l, .slice A n c, .int .i64 (r).n], .int .i64 q] w fun e w' => e = .returned (.bool (thB r q)) ∧ Below w.heap.size w w' := by
  by_cases h : 0 ≤ q
  · rw [thB_isB r h]
    exact rgW.rThere_any r A n c q w h q1 n0 n1 hn he
  · rw [thB_neg r h]
    clear he hn
    generalize r.l = l at *
    generalize r.n = m at *
    go_enter Try.func59, Try.ntmps59
    go_wp2
    go_ret
    exact ⟨rfl, by (repeat' (first | (with_reducible exact Below.refl _ _) | (with_reducible assumption) | (with_reducible refine below_drewN ?_ _) | (with_reducible refine below_new ?_ _) | (with_reducible refine Below.alloc ?_ ?_ _) | (with_reducible refine Below.drew ?_) | (with_reducible refine Below.setCell ?_ ?_ _) | (with_reducible apply below_at; (case k => (with_reducible assumption)); (case hB => omega)) | (with_reducible apply below_on; (with_reducible assumption)) | (go_size; done) | (with_reducible apply size_of)))⟩
theorem y3 {w : World} {g : Nat} {t : TypeId} {a b c : Value} (h : Lies w g t [a, b, c]) : w.cell? ⟨g, 0, none⟩ = some a ∧ w.cell? ⟨g, 1, none⟩ = some b ∧ w.cell? ⟨g, 2, none⟩ = some c := ⟨h.three.1, h.three.2.1, h.three.2.2.1⟩
theorem region_gen {P : Program} {id : Nat} {ops : Array Oper} {b : Bool} {Q : Exit → Act → World → Prop} {a : Act} {w : World} (hp : ∀ c a d v w, Q (.panic c) (Act.put a d v) w → Q (.panic c) a w)
    (h : ∀ Q' : Exit → Act → World → Prop, (∀ c a d v w, Q' (.panic c) (Act.put a d v) w → Q' (.panic c) a w) → (∀ a w, Q .normal a w → Q' .normal a w) → (Code.region id ops b).wp P Q' a w) : (Code.region id ops b).wp P Q a w := h Q hp (fun _ _ h => h)
end Go.Proofs.Ytemiecghdmagnaa.fdW

namespace Go.Proofs.Ytemiecghdmagnaa.fdW
set_option maxRecDepth 100000
open Go.RowKit Go.Proofs.Ytemiecghdmagnaa.base Go.Proofs.Ytemiecghdmagnaa.rgP Go.Proofs.Ytemiecghdmagnaa.fdP
set_option linter.unusedVariables false
set_option linter.unusedSimpArgs false
set_option maxHeartbeats 40000000 in
theorem rEqual_one (r : Rg) (A : Option Addr) (n c : Nat) (q i : Int) (w : World) (H : Hid (RgIn w A n c r)) (n0 : 0 ≤ r.n) (n1 : r.n ≤ 1073741824) (HBD : Hid (n ≤ 8192 ∧ r.b.length = n)) (HOK : Hid (rgOk r = true)) (q0 : 0 ≤ q) (q1 : q ≤ r.n) (i0 : 1 ≤ i) (i1 : i ≤ 100000) (t1 : thB r (q - i) = false) :
    Calls Try.prog 85 #[.agg #[.int .i64 (r).l, .slice A n c, .int .i64 (r).n], .int .i64 q, .int .i64 r.n, .int .i64 i] w fun e w' => e = .returned (.bool (eqB r q i)) ∧ Below w.heap.size w w' := by
  have LL : Hid (Lies (w.alloc (.cells #[.int .i64 r.l, .slice A n c, .int .i64 r.n] 26)) (w.heap.size) 26 [.int .i64 (r).l, .slice (A) (n) (c), .int .i64 (r).n]) := Lib.hid (Lies.fresh _ _ _)
  have hw1 : IntKind.i64.wrap (q - i) = q - i := by rw [IntKind.wrap_i64]; omega
  have hw2 : IntKind.i64.wrap (r.n - i) = r.n - i := by rw [IntKind.wrap_i64]; omega
  have hw3 : IntKind.i64.wrap (r.n - (q - i)) = r.n - (q - i) := by rw [IntKind.wrap_i64]; omega
  have hw4 : IntKind.i64.wrap (r.n - (r.n - i)) = r.n - (r.n - i) := by rw [IntKind.wrap_i64]; omega
  have HV : Hid (eqB r q i = false) := Lib.hid (by unfold eqB; rw [t1, Bool.false_and])
  have HT : Hid (thB r (q - i) = false ∧ True) := Lib.hid ⟨t1, trivial⟩
  clear t1
  go_enter Try.func85, Try.ntmps85
  go_wp2_with fail
  (have RD := grows_roads (S := fun x' => Below (w.alloc (.cells #[.int .i64 r.l, .slice A n c, .int .i64 r.n] 26)).heap.size (w.alloc (.cells #[.int .i64 r.l, .slice A n c, .int .i64 r.n] 26)) x') (fun a b h1 h2 => h2.trans (h1.mono h2.size))); refine region_ord _ Grows RD (Below.drew (Below.refl _ _)) (by kernel_rfl) ?_; intro ops Q' hops hPQ hN; (have HNS : Hid (Region.noSelect ops = true) := Lib.hid (by rw [hops]; kernel_rfl)); (have hsz : ops.size = 32 := (by rw [hops]; rfl)); have HOP := Lib.hid hops; have HPQ := Lib.hid hPQ; have HN := Lib.hid hN; rw [hsz]; clear hops hsz hPQ hN
  refine ord_take RD 0 (at_list (by rw [HOP.out]; rfl)) HNS.out HPQ.out (by rw [HOP.out]; kernel_rfl) (by rw [HOP.out]; kernel_rfl) (by rw [HOP.out]; rfl) (fun K hK => ?_); apply Exists.intro; refine ⟨fun W hSW => ?_, hK _ ?_⟩; (focus ((try dsimp only at hSW); (obtain ⟨y0, y1, y2⟩ := y3 (LL.out.past hSW)); go_simp; try with_reducible rfl)); clear hK K; (try simp only [Act.put, List.setIfInBounds_toArray, List.set_cons_zero, List.set_cons_succ])
  refine ord_take RD 1 (at_list (by rw [HOP.out]; rfl)) HNS.out HPQ.out (by rw [HOP.out]; kernel_rfl) (by rw [HOP.out]; kernel_rfl) (by rw [HOP.out]; rfl) (fun K hK => ?_); apply Exists.intro; refine ⟨fun W hSW => ?_, hK _ ?_⟩; (focus ((try dsimp only at hSW); go_simp; try with_reducible rfl)); clear hK K; (try simp only [Act.put, List.setIfInBounds_toArray, List.set_cons_zero, List.set_cons_succ])
  refine ord_take RD 2 (at_list (by rw [HOP.out]; rfl)) HNS.out HPQ.out (by rw [HOP.out]; kernel_rfl) (by rw [HOP.out]; kernel_rfl) (by rw [HOP.out]; rfl) (fun K hK => ?_); apply Exists.intro; refine ⟨fun W hSW => ?_, hK _ ?_⟩; (focus ((try dsimp only at hSW); go_simp; try with_reducible rfl)); clear hK K; (try simp only [Act.put, List.setIfInBounds_toArray, List.set_cons_zero, List.set_cons_succ])
  refine ord_take RD 3 (at_list (by rw [HOP.out]; rfl)) HNS.out HPQ.out (by rw [HOP.out]; kernel_rfl) (by rw [HOP.out]; kernel_rfl) (by rw [HOP.out]; rfl) (fun K hK => ?_); apply Exists.intro; refine ⟨fun W hSW => ?_, hK _ ?_⟩; (focus ((try dsimp only at hSW); go_simp; try with_reducible rfl)); clear hK K; (try simp only [Act.put, List.setIfInBounds_toArray, List.set_cons_zero, List.set_cons_succ])
  refine ord_take RD 4 (at_list (by rw [HOP.out]; rfl)) HNS.out HPQ.out (by rw [HOP.out]; kernel_rfl) (by rw [HOP.out]; kernel_rfl) (by rw [HOP.out]; rfl) (fun K hK => ?_); apply Exists.intro; refine ⟨fun W hSW => ?_, hK _ ?_⟩; (focus ((try dsimp only at hSW); go_simp; exact (by have := rThere_all r A n c (q - i) W (by omega) n0 n1 HBD.out.1 HBD.out.2; rw [HT.out.1] at this; exact this))); clear hK K; (try simp only [Act.put, List.setIfInBounds_toArray, List.set_cons_zero, List.set_cons_succ])
  refine ord_take RD 5 (at_list (by rw [HOP.out]; rfl)) HNS.out HPQ.out (by rw [HOP.out]; kernel_rfl) (by rw [HOP.out]; kernel_rfl) (by rw [HOP.out]; rfl) (fun K hK => ?_); apply Exists.intro; refine ⟨fun W hSW => ?_, hK _ ?_⟩; (focus ((try dsimp only at hSW); go_simp; try with_reducible rfl)); clear hK K; (try simp only [Act.put, List.setIfInBounds_toArray, List.set_cons_zero, List.set_cons_succ])
  refine ord_skip RD 6 (at_list (by rw [HOP.out]; rfl)) HNS.out HPQ.out (by rw [HOP.out]; kernel_rfl) (by rw [HOP.out]; kernel_rfl) (by rw [HOP.out]; rfl) ?_; (try simp only [Act.put, List.setIfInBounds_toArray, List.set_cons_zero, List.set_cons_succ])
  refine ord_skip RD 7 (at_list (by rw [HOP.out]; rfl)) HNS.out HPQ.out (by rw [HOP.out]; kernel_rfl) (by rw [HOP.out]; kernel_rfl) (by rw [HOP.out]; rfl) ?_; (try simp only [Act.put, List.setIfInBounds_toArray, List.set_cons_zero, List.set_cons_succ])
  refine ord_skip RD 8 (at_list (by rw [HOP.out]; rfl)) HNS.out HPQ.out (by rw [HOP.out]; kernel_rfl) (by rw [HOP.out]; kernel_rfl) (by rw [HOP.out]; rfl) ?_; (try simp only [Act.put, List.setIfInBounds_toArray, List.set_cons_zero, List.set_cons_succ])
  refine ord_skip RD 9 (at_list (by rw [HOP.out]; rfl)) HNS.out HPQ.out (by rw [HOP.out]; kernel_rfl) (by rw [HOP.out]; kernel_rfl) (by rw [HOP.out]; rfl) ?_; (try simp only [Act.put, List.setIfInBounds_toArray, List.set_cons_zero, List.set_cons_succ])
  refine ord_skip RD 10 (at_list (by rw [HOP.out]; rfl)) HNS.out HPQ.out (by rw [HOP.out]; kernel_rfl) (by rw [HOP.out]; kernel_rfl) (by rw [HOP.out]; rfl) ?_; (try simp only [Act.put, List.setIfInBounds_toArray, List.set_cons_zero, List.set_cons_succ])
  refine ord_take RD 11 (at_list (by rw [HOP.out]; rfl)) HNS.out HPQ.out (by rw [HOP.out]; kernel_rfl) (by rw [HOP.out]; kernel_rfl) (by rw [HOP.out]; rfl) (fun K hK => ?_); apply Exists.intro; refine ⟨fun W hSW => ?_, hK _ ?_⟩; (focus ((try dsimp only at hSW); go_simp; try with_reducible rfl)); clear hK K; (try simp only [Act.put, List.setIfInBounds_toArray, List.set_cons_zero, List.set_cons_succ])
  refine ord_take RD 12 (at_list (by rw [HOP.out]; rfl)) HNS.out HPQ.out (by rw [HOP.out]; kernel_rfl) (by rw [HOP.out]; kernel_rfl) (by rw [HOP.out]; rfl) (fun K hK => ?_); apply Exists.intro; refine ⟨fun W hSW => ?_, hK _ ?_⟩; (focus ((try dsimp only at hSW); go_simp; try with_reducible rfl)); clear hK K; (try simp only [Act.put, List.setIfInBounds_toArray, List.set_cons_zero, List.set_cons_succ])
  refine ord_skip RD 13 (at_list (by rw [HOP.out]; rfl)) HNS.out HPQ.out (by rw [HOP.out]; kernel_rfl) (by rw [HOP.out]; kernel_rfl) (by rw [HOP.out]; rfl) ?_; (try simp only [Act.put, List.setIfInBounds_toArray, List.set_cons_zero, List.set_cons_succ])
  refine ord_skip RD 14 (at_list (by rw [HOP.out]; rfl)) HNS.out HPQ.out (by rw [HOP.out]; kernel_rfl) (by rw [HOP.out]; kernel_rfl) (by rw [HOP.out]; rfl) ?_; (try simp only [Act.put, List.setIfInBounds_toArray, List.set_cons_zero, List.set_cons_succ])
  refine ord_skip RD 15 (at_list (by rw [HOP.out]; rfl)) HNS.out HPQ.out (by rw [HOP.out]; kernel_rfl) (by rw [HOP.out]; kernel_rfl) (by rw [HOP.out]; rfl) ?_; (try simp only [Act.put, List.setIfInBounds_toArray, List.set_cons_zero, List.set_cons_succ])
  refine ord_skip RD 16 (at_list (by rw [HOP.out]; rfl)) HNS.out HPQ.out (by rw [HOP.out]; kernel_rfl) (by rw [HOP.out]; kernel_rfl) (by rw [HOP.out]; rfl) ?_; (try simp only [Act.put, List.setIfInBounds_toArray, List.set_cons_zero, List.set_cons_succ])
  refine ord_skip RD 17 (at_list (by rw [HOP.out]; rfl)) HNS.out HPQ.out (by rw [HOP.out]; kernel_rfl) (by rw [HOP.out]; kernel_rfl) (by rw [HOP.out]; rfl) ?_; (try simp only [Act.put, List.setIfInBounds_toArray, List.set_cons_zero, List.set_cons_succ])
  refine ord_skip RD 18 (at_list (by rw [HOP.out]; rfl)) HNS.out HPQ.out (by rw [HOP.out]; kernel_rfl) (by rw [HOP.out]; kernel_rfl) (by rw [HOP.out]; rfl) ?_; (try simp only [Act.put, List.setIfInBounds_toArray, List.set_cons_zero, List.set_cons_succ])
  refine ord_skip RD 19 (at_list (by rw [HOP.out]; rfl)) HNS.out HPQ.out (by rw [HOP.out]; kernel_rfl) (by rw [HOP.out]; kernel_rfl) (by rw [HOP.out]; rfl) ?_; (try simp only [Act.put, List.setIfInBounds_toArray, List.set_cons_zero, List.set_cons_succ])
  refine ord_skip RD 20 (at_list (by rw [HOP.out]; rfl)) HNS.out HPQ.out (by rw [HOP.out]; kernel_rfl) (by rw [HOP.out]; kernel_rfl) (by rw [HOP.out]; rfl) ?_; (try simp only [Act.put, List.setIfInBounds_toArray, List.set_cons_zero, List.set_cons_succ])
  refine ord_skip RD 21 (at_list (by rw [HOP.out]; rfl)) HNS.out HPQ.out (by rw [HOP.out]; kernel_rfl) (by rw [HOP.out]; kernel_rfl) (by rw [HOP.out]; rfl) ?_; (try simp only [Act.put, List.setIfInBounds_toArray, List.set_cons_zero, List.set_cons_succ])
  refine ord_skip RD 22 (at_list (by rw [HOP.out]; rfl)) HNS.out HPQ.out (by rw [HOP.out]; kernel_rfl) (by rw [HOP.out]; kernel_rfl) (by rw [HOP.out]; rfl) ?_; (try simp only [Act.put, List.setIfInBounds_toArray, List.set_cons_zero, List.set_cons_succ])
  refine ord_skip RD 23 (at_list (by rw [HOP.out]; rfl)) HNS.out HPQ.out (by rw [HOP.out]; kernel_rfl) (by rw [HOP.out]; kernel_rfl) (by rw [HOP.out]; rfl) ?_; (try simp only [Act.put, List.setIfInBounds_toArray, List.set_cons_zero, List.set_cons_succ])
  refine ord_skip RD 24 (at_list (by rw [HOP.out]; rfl)) HNS.out HPQ.out (by rw [HOP.out]; kernel_rfl) (by rw [HOP.out]; kernel_rfl) (by rw [HOP.out]; rfl) ?_; (try simp only [Act.put, List.setIfInBounds_toArray, List.set_cons_zero, List.set_cons_succ])
  refine ord_skip RD 25 (at_list (by rw [HOP.out]; rfl)) HNS.out HPQ.out (by rw [HOP.out]; kernel_rfl) (by rw [HOP.out]; kernel_rfl) (by rw [HOP.out]; rfl) ?_; (try simp only [Act.put, List.setIfInBounds_toArray, List.set_cons_zero, List.set_cons_succ])
  refine ord_skip RD 26 (at_list (by rw [HOP.out]; rfl)) HNS.out HPQ.out (by rw [HOP.out]; kernel_rfl) (by rw [HOP.out]; kernel_rfl) (by rw [HOP.out]; rfl) ?_; (try simp only [Act.put, List.setIfInBounds_toArray, List.set_cons_zero, List.set_cons_succ])
  refine ord_skip RD 27 (at_list (by rw [HOP.out]; rfl)) HNS.out HPQ.out (by rw [HOP.out]; kernel_rfl) (by rw [HOP.out]; kernel_rfl) (by rw [HOP.out]; rfl) ?_; (try simp only [Act.put, List.setIfInBounds_toArray, List.set_cons_zero, List.set_cons_succ])
  refine ord_skip RD 28 (at_list (by rw [HOP.out]; rfl)) HNS.out HPQ.out (by rw [HOP.out]; kernel_rfl) (by rw [HOP.out]; kernel_rfl) (by rw [HOP.out]; rfl) ?_; (try simp only [Act.put, List.setIfInBounds_toArray, List.set_cons_zero, List.set_cons_succ])
  refine ord_skip RD 29 (at_list (by rw [HOP.out]; rfl)) HNS.out HPQ.out (by rw [HOP.out]; kernel_rfl) (by rw [HOP.out]; kernel_rfl) (by rw [HOP.out]; rfl) ?_; (try simp only [Act.put, List.setIfInBounds_toArray, List.set_cons_zero, List.set_cons_succ])
  refine ord_take RD 30 (at_list (by rw [HOP.out]; rfl)) HNS.out HPQ.out (by rw [HOP.out]; kernel_rfl) (by rw [HOP.out]; kernel_rfl) (by rw [HOP.out]; rfl) (fun K hK => ?_); apply Exists.intro; refine ⟨fun W hSW => ?_, hK _ ?_⟩; (focus ((try dsimp only at hSW); go_simp; try with_reducible rfl)); clear hK K; (try simp only [Act.put, List.setIfInBounds_toArray, List.set_cons_zero, List.set_cons_succ])
  refine ord_take RD 31 (at_list (by rw [HOP.out]; rfl)) HNS.out HPQ.out (by rw [HOP.out]; kernel_rfl) (by rw [HOP.out]; kernel_rfl) (by rw [HOP.out]; rfl) (fun K hK => ?_); apply Exists.intro; refine ⟨fun W hSW => ?_, hK _ ?_⟩; (focus ((try dsimp only at hSW); go_simp; try with_reducible rfl)); clear hK K; (try simp only [Act.put, List.setIfInBounds_toArray, List.set_cons_zero, List.set_cons_succ])
  refine ord_done (by rw [HOP.out]; kernel_rfl) (fun W3 hWW hSW => HN.out _ _ ?_); clear HOP HNS HPQ HN RD; (try dsimp only at hSW)
  have HB3 : Hid (Below w.heap.size w W3) := Lib.hid ((((Below.refl _ _).alloc (Nat.le_refl _) _).trans (hSW.mono (by simp))))
  clear hWW hSW
  go_wp2_with fail
  go_ret
  exact ⟨retb HV.out.symm, HB3.out⟩
end Go.Proofs.Ytemiecghdmagnaa.fdW

namespace Go.Proofs.Ytemiecghdmagnaa.fdW
set_option maxRecDepth 100000
open Go.RowKit Go.Proofs.Ytemiecghdmagnaa.base Go.Proofs.Ytemiecghdmagnaa.rgP Go.Proofs.Ytemiecghdmagnaa.fdP
set_option linter.unusedVariables false
set_option linter.unusedSimpArgs false
set_option maxHeartbeats 40000000 in
theorem rEqual_two (r : Rg) (A : Option Addr) (n c : Nat) (q i : Int) (w : World) (H : Hid (RgIn w A n c r)) (n0 : 0 ≤ r.n) (n1 : r.n ≤ 1073741824) (HBD : Hid (n ≤ 8192 ∧ r.b.length = n)) (HOK : Hid (rgOk r = true)) (q0 : 0 ≤ q) (q1 : q ≤ r.n) (i0 : 1 ≤ i) (i1 : i ≤ 100000) (t1 : thB r (q - i) = true) (t2 : thB r (r.n - i) = false) :
    Calls Try.prog 85 #[.agg #[.int .i64 (r).l, .slice A n c, .int .i64 (r).n], .int .i64 q, .int .i64 r.n, .int .i64 i] w fun e w' => e = .returned (.bool (eqB r q i)) ∧ Below w.heap.size w w' := by
  have LL : Hid (Lies (w.alloc (.cells #[.int .i64 r.l, .slice A n c, .int .i64 r.n] 26)) (w.heap.size) 26 [.int .i64 (r).l, .slice (A) (n) (c), .int .i64 (r).n]) := Lib.hid (Lies.fresh _ _ _)
  have hw1 : IntKind.i64.wrap (q - i) = q - i := by rw [IntKind.wrap_i64]; omega
  have hw2 : IntKind.i64.wrap (r.n - i) = r.n - i := by rw [IntKind.wrap_i64]; omega
  have hw3 : IntKind.i64.wrap (r.n - (q - i)) = r.n - (q - i) := by rw [IntKind.wrap_i64]; omega
  have hw4 : IntKind.i64.wrap (r.n - (r.n - i)) = r.n - (r.n - i) := by rw [IntKind.wrap_i64]; omega
  have HV : Hid (eqB r q i = false) := Lib.hid (by unfold eqB; rw [t2, Bool.false_and, Bool.and_false])
  have HT : Hid (thB r (q - i) = true ∧ thB r (r.n - i) = false) := Lib.hid ⟨t1, t2⟩
  clear t1 t2
  go_enter Try.func85, Try.ntmps85
  go_wp2_with fail
  (have RD := grows_roads (S := fun x' => Below (w.alloc (.cells #[.int .i64 r.l, .slice A n c, .int .i64 r.n] 26)).heap.size (w.alloc (.cells #[.int .i64 r.l, .slice A n c, .int .i64 r.n] 26)) x') (fun a b h1 h2 => h2.trans (h1.mono h2.size))); refine region_ord _ Grows RD (Below.drew (Below.refl _ _)) (by kernel_rfl) ?_; intro ops Q' hops hPQ hN; (have HNS : Hid (Region.noSelect ops = true) := Lib.hid (by rw [hops]; kernel_rfl)); (have hsz : ops.size = 32 := (by rw [hops]; rfl)); have HOP := Lib.hid hops; have HPQ := Lib.hid hPQ; have HN := Lib.hid hN; rw [hsz]; clear hops hsz hPQ hN
  refine ord_take RD 0 (at_list (by rw [HOP.out]; rfl)) HNS.out HPQ.out (by rw [HOP.out]; kernel_rfl) (by rw [HOP.out]; kernel_rfl) (by rw [HOP.out]; rfl) (fun K hK => ?_); apply Exists.intro; refine ⟨fun W hSW => ?_, hK _ ?_⟩; (focus ((try dsimp only at hSW); (obtain ⟨y0, y1, y2⟩ := y3 (LL.out.past hSW)); go_simp; try with_reducible rfl)); clear hK K; (try simp only [Act.put, List.setIfInBounds_toArray, List.set_cons_zero, List.set_cons_succ])
  refine ord_take RD 1 (at_list (by rw [HOP.out]; rfl)) HNS.out HPQ.out (by rw [HOP.out]; kernel_rfl) (by rw [HOP.out]; kernel_rfl) (by rw [HOP.out]; rfl) (fun K hK => ?_); apply Exists.intro; refine ⟨fun W hSW => ?_, hK _ ?_⟩; (focus ((try dsimp only at hSW); go_simp; try with_reducible rfl)); clear hK K; (try simp only [Act.put, List.setIfInBounds_toArray, List.set_cons_zero, List.set_cons_succ])
  refine ord_take RD 2 (at_list (by rw [HOP.out]; rfl)) HNS.out HPQ.out (by rw [HOP.out]; kernel_rfl) (by rw [HOP.out]; kernel_rfl) (by rw [HOP.out]; rfl) (fun K hK => ?_); apply Exists.intro; refine ⟨fun W hSW => ?_, hK _ ?_⟩; (focus ((try dsimp only at hSW); go_simp; try with_reducible rfl)); clear hK K; (try simp only [Act.put, List.setIfInBounds_toArray, List.set_cons_zero, List.set_cons_succ])
  refine ord_take RD 3 (at_list (by rw [HOP.out]; rfl)) HNS.out HPQ.out (by rw [HOP.out]; kernel_rfl) (by rw [HOP.out]; kernel_rfl) (by rw [HOP.out]; rfl) (fun K hK => ?_); apply Exists.intro; refine ⟨fun W hSW => ?_, hK _ ?_⟩; (focus ((try dsimp only at hSW); go_simp; try with_reducible rfl)); clear hK K; (try simp only [Act.put, List.setIfInBounds_toArray, List.set_cons_zero, List.set_cons_succ])
  refine ord_take RD 4 (at_list (by rw [HOP.out]; rfl)) HNS.out HPQ.out (by rw [HOP.out]; kernel_rfl) (by rw [HOP.out]; kernel_rfl) (by rw [HOP.out]; rfl) (fun K hK => ?_); apply Exists.intro; refine ⟨fun W hSW => ?_, hK _ ?_⟩; (focus ((try dsimp only at hSW); go_simp; exact (by have := rThere_all r A n c (q - i) W (by omega) n0 n1 HBD.out.1 HBD.out.2; rw [HT.out.1] at this; exact this))); clear hK K; (try simp only [Act.put, List.setIfInBounds_toArray, List.set_cons_zero, List.set_cons_succ])
  refine ord_take RD 5 (at_list (by rw [HOP.out]; rfl)) HNS.out HPQ.out (by rw [HOP.out]; kernel_rfl) (by rw [HOP.out]; kernel_rfl) (by rw [HOP.out]; rfl) (fun K hK => ?_); apply Exists.intro; refine ⟨fun W hSW => ?_, hK _ ?_⟩; (focus ((try dsimp only at hSW); go_simp; try with_reducible rfl)); clear hK K; (try simp only [Act.put, List.setIfInBounds_toArray, List.set_cons_zero, List.set_cons_succ])
  refine ord_take RD 6 (at_list (by rw [HOP.out]; rfl)) HNS.out HPQ.out (by rw [HOP.out]; kernel_rfl) (by rw [HOP.out]; kernel_rfl) (by rw [HOP.out]; rfl) (fun K hK => ?_); apply Exists.intro; refine ⟨fun W hSW => ?_, hK _ ?_⟩; (focus ((try dsimp only at hSW); (obtain ⟨y0, y1, y2⟩ := y3 (LL.out.past hSW)); go_simp; try with_reducible rfl)); clear hK K; (try simp only [Act.put, List.setIfInBounds_toArray, List.set_cons_zero, List.set_cons_succ])
  refine ord_take RD 7 (at_list (by rw [HOP.out]; rfl)) HNS.out HPQ.out (by rw [HOP.out]; kernel_rfl) (by rw [HOP.out]; kernel_rfl) (by rw [HOP.out]; rfl) (fun K hK => ?_); apply Exists.intro; refine ⟨fun W hSW => ?_, hK _ ?_⟩; (focus ((try dsimp only at hSW); go_simp; try with_reducible rfl)); clear hK K; (try simp only [Act.put, List.setIfInBounds_toArray, List.set_cons_zero, List.set_cons_succ])
  refine ord_take RD 8 (at_list (by rw [HOP.out]; rfl)) HNS.out HPQ.out (by rw [HOP.out]; kernel_rfl) (by rw [HOP.out]; kernel_rfl) (by rw [HOP.out]; rfl) (fun K hK => ?_); apply Exists.intro; refine ⟨fun W hSW => ?_, hK _ ?_⟩; (focus ((try dsimp only at hSW); go_simp; try with_reducible rfl)); clear hK K; (try simp only [Act.put, List.setIfInBounds_toArray, List.set_cons_zero, List.set_cons_succ])
  refine ord_take RD 9 (at_list (by rw [HOP.out]; rfl)) HNS.out HPQ.out (by rw [HOP.out]; kernel_rfl) (by rw [HOP.out]; kernel_rfl) (by rw [HOP.out]; rfl) (fun K hK => ?_); apply Exists.intro; refine ⟨fun W hSW => ?_, hK _ ?_⟩; (focus ((try dsimp only at hSW); go_simp; try with_reducible rfl)); clear hK K; (try simp only [Act.put, List.setIfInBounds_toArray, List.set_cons_zero, List.set_cons_succ])
  refine ord_take RD 10 (at_list (by rw [HOP.out]; rfl)) HNS.out HPQ.out (by rw [HOP.out]; kernel_rfl) (by rw [HOP.out]; kernel_rfl) (by rw [HOP.out]; rfl) (fun K hK => ?_); apply Exists.intro; refine ⟨fun W hSW => ?_, hK _ ?_⟩; (focus ((try dsimp only at hSW); go_simp; exact (by have := rThere_all r A n c (r.n - i) W (by omega) n0 n1 HBD.out.1 HBD.out.2; rw [HT.out.2] at this; exact this))); clear hK K; (try simp only [Act.put, List.setIfInBounds_toArray, List.set_cons_zero, List.set_cons_succ])
  refine ord_take RD 11 (at_list (by rw [HOP.out]; rfl)) HNS.out HPQ.out (by rw [HOP.out]; kernel_rfl) (by rw [HOP.out]; kernel_rfl) (by rw [HOP.out]; rfl) (fun K hK => ?_); apply Exists.intro; refine ⟨fun W hSW => ?_, hK _ ?_⟩; (focus ((try dsimp only at hSW); go_simp; try with_reducible rfl)); clear hK K; (try simp only [Act.put, List.setIfInBounds_toArray, List.set_cons_zero, List.set_cons_succ])
  refine ord_take RD 12 (at_list (by rw [HOP.out]; rfl)) HNS.out HPQ.out (by rw [HOP.out]; kernel_rfl) (by rw [HOP.out]; kernel_rfl) (by rw [HOP.out]; rfl) (fun K hK => ?_); apply Exists.intro; refine ⟨fun W hSW => ?_, hK _ ?_⟩; (focus ((try dsimp only at hSW); go_simp; try with_reducible rfl)); clear hK K; (try simp only [Act.put, List.setIfInBounds_toArray, List.set_cons_zero, List.set_cons_succ])
  refine ord_skip RD 13 (at_list (by rw [HOP.out]; rfl)) HNS.out HPQ.out (by rw [HOP.out]; kernel_rfl) (by rw [HOP.out]; kernel_rfl) (by rw [HOP.out]; rfl) ?_; (try simp only [Act.put, List.setIfInBounds_toArray, List.set_cons_zero, List.set_cons_succ])
  refine ord_skip RD 14 (at_list (by rw [HOP.out]; rfl)) HNS.out HPQ.out (by rw [HOP.out]; kernel_rfl) (by rw [HOP.out]; kernel_rfl) (by rw [HOP.out]; rfl) ?_; (try simp only [Act.put, List.setIfInBounds_toArray, List.set_cons_zero, List.set_cons_succ])
  refine ord_skip RD 15 (at_list (by rw [HOP.out]; rfl)) HNS.out HPQ.out (by rw [HOP.out]; kernel_rfl) (by rw [HOP.out]; kernel_rfl) (by rw [HOP.out]; rfl) ?_; (try simp only [Act.put, List.setIfInBounds_toArray, List.set_cons_zero, List.set_cons_succ])
  refine ord_skip RD 16 (at_list (by rw [HOP.out]; rfl)) HNS.out HPQ.out (by rw [HOP.out]; kernel_rfl) (by rw [HOP.out]; kernel_rfl) (by rw [HOP.out]; rfl) ?_; (try simp only [Act.put, List.setIfInBounds_toArray, List.set_cons_zero, List.set_cons_succ])
  refine ord_skip RD 17 (at_list (by rw [HOP.out]; rfl)) HNS.out HPQ.out (by rw [HOP.out]; kernel_rfl) (by rw [HOP.out]; kernel_rfl) (by rw [HOP.out]; rfl) ?_; (try simp only [Act.put, List.setIfInBounds_toArray, List.set_cons_zero, List.set_cons_succ])
  refine ord_skip RD 18 (at_list (by rw [HOP.out]; rfl)) HNS.out HPQ.out (by rw [HOP.out]; kernel_rfl) (by rw [HOP.out]; kernel_rfl) (by rw [HOP.out]; rfl) ?_; (try simp only [Act.put, List.setIfInBounds_toArray, List.set_cons_zero, List.set_cons_succ])
  refine ord_skip RD 19 (at_list (by rw [HOP.out]; rfl)) HNS.out HPQ.out (by rw [HOP.out]; kernel_rfl) (by rw [HOP.out]; kernel_rfl) (by rw [HOP.out]; rfl) ?_; (try simp only [Act.put, List.setIfInBounds_toArray, List.set_cons_zero, List.set_cons_succ])
  refine ord_skip RD 20 (at_list (by rw [HOP.out]; rfl)) HNS.out HPQ.out (by rw [HOP.out]; kernel_rfl) (by rw [HOP.out]; kernel_rfl) (by rw [HOP.out]; rfl) ?_; (try simp only [Act.put, List.setIfInBounds_toArray, List.set_cons_zero, List.set_cons_succ])
  refine ord_skip RD 21 (at_list (by rw [HOP.out]; rfl)) HNS.out HPQ.out (by rw [HOP.out]; kernel_rfl) (by rw [HOP.out]; kernel_rfl) (by rw [HOP.out]; rfl) ?_; (try simp only [Act.put, List.setIfInBounds_toArray, List.set_cons_zero, List.set_cons_succ])
  refine ord_skip RD 22 (at_list (by rw [HOP.out]; rfl)) HNS.out HPQ.out (by rw [HOP.out]; kernel_rfl) (by rw [HOP.out]; kernel_rfl) (by rw [HOP.out]; rfl) ?_; (try simp only [Act.put, List.setIfInBounds_toArray, List.set_cons_zero, List.set_cons_succ])
  refine ord_skip RD 23 (at_list (by rw [HOP.out]; rfl)) HNS.out HPQ.out (by rw [HOP.out]; kernel_rfl) (by rw [HOP.out]; kernel_rfl) (by rw [HOP.out]; rfl) ?_; (try simp only [Act.put, List.setIfInBounds_toArray, List.set_cons_zero, List.set_cons_succ])
  refine ord_skip RD 24 (at_list (by rw [HOP.out]; rfl)) HNS.out HPQ.out (by rw [HOP.out]; kernel_rfl) (by rw [HOP.out]; kernel_rfl) (by rw [HOP.out]; rfl) ?_; (try simp only [Act.put, List.setIfInBounds_toArray, List.set_cons_zero, List.set_cons_succ])
  refine ord_skip RD 25 (at_list (by rw [HOP.out]; rfl)) HNS.out HPQ.out (by rw [HOP.out]; kernel_rfl) (by rw [HOP.out]; kernel_rfl) (by rw [HOP.out]; rfl) ?_; (try simp only [Act.put, List.setIfInBounds_toArray, List.set_cons_zero, List.set_cons_succ])
  refine ord_skip RD 26 (at_list (by rw [HOP.out]; rfl)) HNS.out HPQ.out (by rw [HOP.out]; kernel_rfl) (by rw [HOP.out]; kernel_rfl) (by rw [HOP.out]; rfl) ?_; (try simp only [Act.put, List.setIfInBounds_toArray, List.set_cons_zero, List.set_cons_succ])
  refine ord_skip RD 27 (at_list (by rw [HOP.out]; rfl)) HNS.out HPQ.out (by rw [HOP.out]; kernel_rfl) (by rw [HOP.out]; kernel_rfl) (by rw [HOP.out]; rfl) ?_; (try simp only [Act.put, List.setIfInBounds_toArray, List.set_cons_zero, List.set_cons_succ])
  refine ord_skip RD 28 (at_list (by rw [HOP.out]; rfl)) HNS.out HPQ.out (by rw [HOP.out]; kernel_rfl) (by rw [HOP.out]; kernel_rfl) (by rw [HOP.out]; rfl) ?_; (try simp only [Act.put, List.setIfInBounds_toArray, List.set_cons_zero, List.set_cons_succ])
  refine ord_skip RD 29 (at_list (by rw [HOP.out]; rfl)) HNS.out HPQ.out (by rw [HOP.out]; kernel_rfl) (by rw [HOP.out]; kernel_rfl) (by rw [HOP.out]; rfl) ?_; (try simp only [Act.put, List.setIfInBounds_toArray, List.set_cons_zero, List.set_cons_succ])
  refine ord_take RD 30 (at_list (by rw [HOP.out]; rfl)) HNS.out HPQ.out (by rw [HOP.out]; kernel_rfl) (by rw [HOP.out]; kernel_rfl) (by rw [HOP.out]; rfl) (fun K hK => ?_); apply Exists.intro; refine ⟨fun W hSW => ?_, hK _ ?_⟩; (focus ((try dsimp only at hSW); go_simp; try with_reducible rfl)); clear hK K; (try simp only [Act.put, List.setIfInBounds_toArray, List.set_cons_zero, List.set_cons_succ])
  refine ord_take RD 31 (at_list (by rw [HOP.out]; rfl)) HNS.out HPQ.out (by rw [HOP.out]; kernel_rfl) (by rw [HOP.out]; kernel_rfl) (by rw [HOP.out]; rfl) (fun K hK => ?_); apply Exists.intro; refine ⟨fun W hSW => ?_, hK _ ?_⟩; (focus ((try dsimp only at hSW); go_simp; try with_reducible rfl)); clear hK K; (try simp only [Act.put, List.setIfInBounds_toArray, List.set_cons_zero, List.set_cons_succ])
  refine ord_done (by rw [HOP.out]; kernel_rfl) (fun W3 hWW hSW => HN.out _ _ ?_); clear HOP HNS HPQ HN RD; (try dsimp only at hSW)
  have HB3 : Hid (Below w.heap.size w W3) := Lib.hid ((((Below.refl _ _).alloc (Nat.le_refl _) _).trans (hSW.mono (by simp))))
  clear hWW hSW
  go_wp2_with fail
  go_ret
  exact ⟨retb HV.out.symm, HB3.out⟩
end Go.Proofs.Ytemiecghdmagnaa.fdW

namespace Go.Proofs.Ytemiecghdmagnaa.fdW
set_option maxRecDepth 100000
open Go.RowKit Go.Proofs.Ytemiecghdmagnaa.base Go.Proofs.Ytemiecghdmagnaa.rgP Go.Proofs.Ytemiecghdmagnaa.fdP
set_option linter.unusedVariables false
set_option linter.unusedSimpArgs false
set_option maxHeartbeats 40000000 in
theorem rEqual_three (r : Rg) (A : Option Addr) (n c : Nat) (q i : Int) (w : World) (H : Hid (RgIn w A n c r)) (n0 : 0 ≤ r.n) (n1 : r.n ≤ 1073741824) (HBD : Hid (n ≤ 8192 ∧ r.b.length = n)) (HOK : Hid (rgOk r = true)) (q0 : 0 ≤ q) (q1 : q ≤ r.n) (i0 : 1 ≤ i) (i1 : i ≤ 100000) (t1 : thB r (q - i) = true) (t2 : thB r (r.n - i) = true) :
    Calls Try.prog 85 #[.agg #[.int .i64 (r).l, .slice A n c, .int .i64 (r).n], .int .i64 q, .int .i64 r.n, .int .i64 i] w fun e w' => e = .returned (.bool (eqB r q i)) ∧ Below w.heap.size w w' := by
  have LL : Hid (Lies (w.alloc (.cells #[.int .i64 r.l, .slice A n c, .int .i64 r.n] 26)) (w.heap.size) 26 [.int .i64 (r).l, .slice (A) (n) (c), .int .i64 (r).n]) := Lib.hid (Lies.fresh _ _ _)
  have hw1 : IntKind.i64.wrap (q - i) = q - i := by rw [IntKind.wrap_i64]; omega
  have hw2 : IntKind.i64.wrap (r.n - i) = r.n - i := by rw [IntKind.wrap_i64]; omega
  have hw3 : IntKind.i64.wrap (r.n - (q - i)) = r.n - (q - i) := by rw [IntKind.wrap_i64]; omega
  have hw4 : IntKind.i64.wrap (r.n - (r.n - i)) = r.n - (r.n - i) := by rw [IntKind.wrap_i64]; omega
  have HV : Hid (eqB r q i = decide (ago r (r.n - (q - i)) = ago r i)) := Lib.hid (by unfold eqB; rw [t1, t2, Bool.true_and, Bool.true_and])
  have HT : Hid (thB r (q - i) = true ∧ thB r (r.n - i) = true) := Lib.hid ⟨t1, t2⟩
  obtain ⟨x, hx⟩ : ∃ x, ago r (r.n - (q - i)) = x := ⟨_, rfl⟩
  obtain ⟨y, hy⟩ : ∃ y, ago r i = y := ⟨_, rfl⟩
  have hy2 : ago r (r.n - (r.n - i)) = y := by rw [show r.n - (r.n - i) = i by omega]; exact hy
  have HX := Lib.hid (And.intro hx hy2)
  rw [hx, hy] at HV
  clear t1 t2 hx hy hy2
  by_cases hxy : x = y
  · subst hxy
    go_enter Try.func85, Try.ntmps85
    go_wp2_with fail
    go_region_held3 (fun x' => x'.cell? ⟨w.heap.size, 0, none⟩ = some (.int .i64 r.l) ∧ x'.cell? ⟨w.heap.size, 1, none⟩ = some (.slice A n c) ∧ x'.cell? ⟨w.heap.size, 2, none⟩ = some (.int .i64 r.n)) ((exact y3 (show Lies (_) (w.heap.size) 26 [.int .i64 (r).l, .slice (A) (n) (c), .int .i64 (r).n] from (by have := LL.out; (repeat' (first | (with_reducible assumption) | (with_reducible exact Lies.fresh _ _ _) | (with_reducible apply Lies.fresh_at; (first | (with_reducible rfl) | (simp; done))) | (with_reducible refine Lies.drew ?_) | (with_reducible refine Lies.drewN ?_ _) | (with_reducible refine Lies.alloc ?_ _) | (with_reducible apply Lies.past; case hb => (with_reducible assumption)) | (with_reducible apply Lies.keeps; (case k => (with_reducible assumption)); (case ht => decide)) | (with_reducible apply Lies.store3) | (with_reducible apply Lies.other; case hp => (first | omega | (simp; done) | (simp; omega))))))))) (first | (go_at_call 59; with_reducible refine (rThere_all r A n c (q - i) _ (by omega) n0 n1 HBD.out.1 HBD.out.2).mono ?_; rintro e x1 ⟨rfl, hx1⟩; rw [HT.out.1]) | (go_at_call 59; with_reducible refine (rThere_all r A n c (r.n - i) _ (by omega) n0 n1 HBD.out.1 HBD.out.2).mono ?_; rintro e x2 ⟨rfl, hx2⟩; rw [HT.out.2]) | (go_at_call 60; with_reducible refine (rgW.rAgo_any r A n c (r.n - (q - i)) _ (H.out.below (by (repeat' (first | (with_reducible exact Below.refl _ _) | (with_reducible assumption) | (with_reducible refine below_drewN ?_ _) | (with_reducible refine below_new ?_ _) | (with_reducible refine Below.alloc ?_ ?_ _) | (with_reducible refine Below.drew ?_) | (with_reducible refine Below.setCell ?_ ?_ _) | (with_reducible apply below_at; (case k => (with_reducible assumption)); (case hB => omega)) | (with_reducible apply below_on; (with_reducible assumption)) | (go_size; done) | (with_reducible apply size_of))))) HOK.out (by omega) (by omega)).mono ?_; rintro e x3 ⟨rfl, hx3⟩; rw [HX.out.1]) | (go_at_call 60; with_reducible refine (rgW.rAgo_any r A n c (r.n - (r.n - i)) _ (H.out.below (by (repeat' (first | (with_reducible exact Below.refl _ _) | (with_reducible assumption) | (with_reducible refine below_drewN ?_ _) | (with_reducible refine below_new ?_ _) | (with_reducible refine Below.alloc ?_ ?_ _) | (with_reducible refine Below.drew ?_) | (with_reducible refine Below.setCell ?_ ?_ _) | (with_reducible apply below_at; (case k => (with_reducible assumption)); (case hB => omega)) | (with_reducible apply below_on; (with_reducible assumption)) | (go_size; done) | (with_reducible apply size_of))))) HOK.out (by omega) (by omega)).mono ?_; rintro e x4 ⟨rfl, hx4⟩; rw [HX.out.2]))
    all_goals
      go_wp2_with fail
      go_ret
      exact ⟨retb (by rw [HV.out]; simp), by (repeat' (first | (with_reducible exact Below.refl _ _) | (with_reducible assumption) | (with_reducible refine below_drewN ?_ _) | (with_reducible refine below_new ?_ _) | (with_reducible refine Below.alloc ?_ ?_ _) | (with_reducible refine Below.drew ?_) | (with_reducible refine Below.setCell ?_ ?_ _) | (with_reducible apply below_at; (case k => (with_reducible assumption)); (case hB => omega)) | (with_reducible apply below_on; (with_reducible assumption)) | (go_size; done) | (with_reducible apply size_of)))⟩
  · have hne : (x == y) = false := by simpa using hxy
    go_enter Try.func85, Try.ntmps85
    go_wp2_with fail
    go_region_held3 (fun x' => x'.cell? ⟨w.heap.size, 0, none⟩ = some (.int .i64 r.l) ∧ x'.cell? ⟨w.heap.size, 1, none⟩ = some (.slice A n c) ∧ x'.cell? ⟨w.heap.size, 2, none⟩ = some (.int .i64 r.n)) ((exact y3 (show Lies (_) (w.heap.size) 26 [.int .i64 (r).l, .slice (A) (n) (c), .int .i64 (r).n] from (by have := LL.out; (repeat' (first | (with_reducible assumption) | (with_reducible exact Lies.fresh _ _ _) | (with_reducible apply Lies.fresh_at; (first | (with_reducible rfl) | (simp; done))) | (with_reducible refine Lies.drew ?_) | (with_reducible refine Lies.drewN ?_ _) | (with_reducible refine Lies.alloc ?_ _) | (with_reducible apply Lies.past; case hb => (with_reducible assumption)) | (with_reducible apply Lies.keeps; (case k => (with_reducible assumption)); (case ht => decide)) | (with_reducible apply Lies.store3) | (with_reducible apply Lies.other; case hp => (first | omega | (simp; done) | (simp; omega))))))))) (first | (go_at_call 59; with_reducible refine (rThere_all r A n c (q - i) _ (by omega) n0 n1 HBD.out.1 HBD.out.2).mono ?_; rintro e x1 ⟨rfl, hx1⟩; rw [HT.out.1]) | (go_at_call 59; with_reducible refine (rThere_all r A n c (r.n - i) _ (by omega) n0 n1 HBD.out.1 HBD.out.2).mono ?_; rintro e x2 ⟨rfl, hx2⟩; rw [HT.out.2]) | (go_at_call 60; with_reducible refine (rgW.rAgo_any r A n c (r.n - (q - i)) _ (H.out.below (by (repeat' (first | (with_reducible exact Below.refl _ _) | (with_reducible assumption) | (with_reducible refine below_drewN ?_ _) | (with_reducible refine below_new ?_ _) | (with_reducible refine Below.alloc ?_ ?_ _) | (with_reducible refine Below.drew ?_) | (with_reducible refine Below.setCell ?_ ?_ _) | (with_reducible apply below_at; (case k => (with_reducible assumption)); (case hB => omega)) | (with_reducible apply below_on; (with_reducible assumption)) | (go_size; done) | (with_reducible apply size_of))))) HOK.out (by omega) (by omega)).mono ?_; rintro e x3 ⟨rfl, hx3⟩; rw [HX.out.1]) | (go_at_call 60; with_reducible refine (rgW.rAgo_any r A n c (r.n - (r.n - i)) _ (H.out.below (by (repeat' (first | (with_reducible exact Below.refl _ _) | (with_reducible assumption) | (with_reducible refine below_drewN ?_ _) | (with_reducible refine below_new ?_ _) | (with_reducible refine Below.alloc ?_ ?_ _) | (with_reducible refine Below.drew ?_) | (with_reducible refine Below.setCell ?_ ?_ _) | (with_reducible apply below_at; (case k => (with_reducible assumption)); (case hB => omega)) | (with_reducible apply below_on; (with_reducible assumption)) | (go_size; done) | (with_reducible apply size_of))))) HOK.out (by omega) (by omega)).mono ?_; rintro e x4 ⟨rfl, hx4⟩; rw [HX.out.2]))
    all_goals
      go_wp2_with fail
      go_ret
      exact ⟨retb (by rw [HV.out]; simp [hxy]), by (repeat' (first | (with_reducible exact Below.refl _ _) | (with_reducible assumption) | (with_reducible refine below_drewN ?_ _) | (with_reducible refine below_new ?_ _) | (with_reducible refine Below.alloc ?_ ?_ _) | (with_reducible refine Below.drew ?_) | (with_reducible refine Below.setCell ?_ ?_ _) | (with_reducible apply below_at; (case k => (with_reducible assumption)); (case hB => omega)) | (with_reducible apply below_on; (with_reducible assumption)) | (go_size; done) | (with_reducible apply size_of)))⟩
end Go.Proofs.Ytemiecghdmagnaa.fdW

namespace Go.Proofs.Ytemiecghdmagnaa.fdW
set_option maxRecDepth 100000
open Go.RowKit Go.Proofs.Ytemiecghdmagnaa.base Go.Proofs.Ytemiecghdmagnaa.rgP Go.Proofs.Ytemiecghdmagnaa.fdP
set_option linter.unusedVariables false
set_option linter.unusedSimpArgs false

set_option maxHeartbeats 1000000 in
theorem same_any (l q N gone i : Int) (A B : Option Addr) (n c kk d b off G9 G4 G11 G3 : Nat) (ls : List Int) (p1 p2 : Nat) (w : World)
    (h9 : w.cell? ⟨G9, 0, none⟩ = some (.slice (some ⟨b, off, none⟩) kk d)) (h4 : w.cell? ⟨G4, 0, none⟩ = some (.int .i64 q)) (h11 : w.cell? ⟨G11, 0, none⟩ = some (.int .i64 gone)) (h3 : w.cell? ⟨G3, 2, none⟩ = some (.int .i64 N))
    (hc : ∀ j, j < kk → w.cell? ⟨b, off + j, none⟩ = some (.int .u8 (ls.getD j 0))) (g1 : q - gone - i = (p1 : Int)) (g2 : N - gone - i = (p2 : Int)) (hp1 : p1 < kk) (hp2 : p2 < kk)
    (q0 : 0 ≤ q) (q1 : q ≤ 1073741824) (n0 : 0 ≤ N) (n1 : N ≤ 1073741824) (o0 : 0 ≤ gone) (o1 : gone ≤ 1073741824) (i0 : 0 ≤ i) (i1 : i ≤ 100000) (hk : kk ≤ 8192) :
    Calls Try.prog 83 #[.int .i64 i, .pointer (some ⟨G9, 0, none⟩), .pointer (some ⟨G4, 0, none⟩), .pointer (some ⟨G11, 0, none⟩), .pointer (some ⟨G3, 0, none⟩)] w fun e w' => e = .returned (.bool (decide (ls.getD p1 0 = ls.getD p2 0))) ∧ ∃ m, w' = w.drewN m := by
  have c1 := hc p1 hp1
  have c2 := hc p2 hp2
  have a1 : (p1 : Int) < kk := by omega
  have a2 : (p2 : Int) < kk := by omega
  have a3 : (0 : Int) ≤ p1 := by omega
  have a4 : (0 : Int) ≤ p2 := by omega
  have a5 : (kk : Int) ≤ 8192 := by omega
  have hw1 : IntKind.i64.wrap (q - gone) = q - gone := by rw [IntKind.wrap_i64]; omega
  have hw2 : IntKind.i64.wrap (N - gone) = N - gone := by rw [IntKind.wrap_i64]; omega
  have hw3 : IntKind.i64.wrap (q - gone - i) = (p1 : Int) := by rw [IntKind.wrap_i64]; omega
  have hw4 : IntKind.i64.wrap (N - gone - i) = (p2 : Int) := by rw [IntKind.wrap_i64]; omega
  clear hc hp1 hp2 hk
  generalize ls.getD p1 0 = x at *
  generalize ls.getD p2 0 = y at *
  by_cases hxy : x = y
  · subst hxy
    go_enter Try.func83, Try.ntmps83
    go_wp2_with fail
    go_quiet (fail)
    go_wp2_with fail
    go_ret
    exact ⟨retb (by simp), _, rfl⟩
  · have hne : (x == y) = false := by simpa using hxy
    go_enter Try.func83, Try.ntmps83
    go_wp2_with fail
    go_quiet (fail)
    go_wp2_with fail
    go_ret
    exact ⟨retb (by simp [hxy]), _, rfl⟩
end Go.Proofs.Ytemiecghdmagnaa.fdW

namespace Go.Proofs.Ytemiecghdmagnaa.fdW
set_option maxRecDepth 100000
open Go.RowKit Go.Proofs.Ytemiecghdmagnaa.base Go.Proofs.Ytemiecghdmagnaa.rgP Go.Proofs.Ytemiecghdmagnaa.fdP
set_option linter.unusedVariables false
set_option linter.unusedSimpArgs false

theorem len_kinds {r : Rg} {q m : Int} (h : lenE r q m ≠ 0) : rgOk r = false ∧ lenE r q m = 8 ∨ rgOk r = true ∧ lenE r q m = 2 ∧ (q < 0 ∨ ¬ q < 0 ∧ r.n < q ∨ ¬ q < 0 ∧ ¬ r.n < q ∧ m < 0) := by
  unfold lenE at *
  cases hok : rgOk r
  · left; simp
  · right
    rw [hok] at h
    simp only [if_true] at h ⊢
    by_cases c : 0 ≤ q ∧ q ≤ r.n ∧ 0 ≤ m
    · rw [if_pos c] at h; exact absurd rfl h
    · rw [if_neg c]
      exact ⟨by trivial, by trivial, by omega⟩
set_option maxHeartbeats 2000000 in
theorem Length_bad (r : Rg) (A : Option Addr) (n c : Nat) (q m : Int) (w : World) (h : RgIn w A n c r) (hk : lenE r q m ≠ 0) :
    Calls Try.prog 67 #[.agg #[.int .i64 (r).l, .slice A n c, .int .i64 (r).n], .int .i64 q, .int .i64 m] w fun e w' => e = .returned (.tuple #[.int .i64 0, .int .i64 (lenE r q m)]) ∧ Below w.heap.size w w' := by
  have H := Lib.hid h
  rcases len_kinds hk with ⟨a1, a2⟩ | ⟨a1, a2, a3 | ⟨a3, a4⟩ | ⟨a3, a4, a5⟩⟩
  · have e1 := rgW.rgE_no a1
    rw [a2]; clear h hk a1 a2
    go_enter Try.func67, Try.ntmps67
    go_wp2_with fail
    go_step3
    go_wp2_with (first | (go_at_call 33; refine (rgW.Check_any r A n c _ (H.out.below (by (repeat' (first | (with_reducible exact Below.refl _ _) | (with_reducible assumption) | (with_reducible refine below_drewN ?_ _) | (with_reducible refine below_new ?_ _) | (with_reducible refine Below.alloc ?_ ?_ _) | (with_reducible refine Below.drew ?_) | (with_reducible refine Below.setCell ?_ ?_ _) | (with_reducible apply below_at; (case k => (with_reducible assumption)); (case hB => omega)) | (with_reducible apply below_on; (with_reducible assumption)) | (go_size; done) | (with_reducible apply size_of)))))).mono ?_; rintro e w1 ⟨rfl, hb1⟩; rw [e1]; have K1 : Lies (w1) (w.heap.size) 26 [.int .i64 (r).l, .slice (A) (n) (c), .int .i64 (r).n] := (by (repeat' (first | (with_reducible assumption) | (with_reducible exact Lies.fresh _ _ _) | (with_reducible apply Lies.fresh_at; (first | (with_reducible rfl) | (simp; done))) | (with_reducible refine Lies.drew ?_) | (with_reducible refine Lies.drewN ?_ _) | (with_reducible refine Lies.alloc ?_ _) | (with_reducible apply Lies.past; case hb => (with_reducible assumption)) | (with_reducible apply Lies.keeps; (case k => (with_reducible assumption)); (case ht => decide)) | (with_reducible apply Lies.store3) | (with_reducible apply Lies.other; case hp => (first | omega | (simp; done) | (simp; omega)))))); have N1 : Lies (w1) (w.heap.size + 1) 3 [.int .i64 q] := (by (repeat' (first | (with_reducible assumption) | (with_reducible exact Lies.fresh _ _ _) | (with_reducible apply Lies.fresh_at; (first | (with_reducible rfl) | (simp; done))) | (with_reducible refine Lies.drew ?_) | (with_reducible refine Lies.drewN ?_ _) | (with_reducible refine Lies.alloc ?_ _) | (with_reducible apply Lies.past; case hb => (with_reducible assumption)) | (with_reducible apply Lies.keeps; (case k => (with_reducible assumption)); (case ht => decide)) | (with_reducible apply Lies.store3) | (with_reducible apply Lies.other; case hp => (first | omega | (simp; done) | (simp; omega)))))); obtain ⟨p0, p1, p2, -, -, -⟩ := K1.three; obtain ⟨q0, -⟩ := N1.one; have HK1 := Lib.hid K1; have HN1 := Lib.hid N1; have HB1 := Lib.hid hb1; have lt1 := N1.lt; have lt0 := K1.lt))
    rw [Exit.noGoto_ret]
    go_ret2
    exact ⟨rfl, by have := HB1.out; (repeat' (first | (with_reducible exact Below.refl _ _) | (with_reducible assumption) | (with_reducible refine below_drewN ?_ _) | (with_reducible refine below_new ?_ _) | (with_reducible refine Below.alloc ?_ ?_ _) | (with_reducible refine Below.drew ?_) | (with_reducible refine Below.setCell ?_ ?_ _) | (with_reducible apply below_at; (case k => (with_reducible assumption)); (case hB => omega)) | (with_reducible apply below_on; (with_reducible assumption)) | (go_size; done) | (with_reducible apply size_of)))⟩
  all_goals
    have e1 := rgW.rgE_yes a1
    rw [a2]; clear h hk a1 a2
    go_enter Try.func67, Try.ntmps67
    go_wp2_with fail
    go_step3
    go_wp2_with (first | (go_at_call 33; refine (rgW.Check_any r A n c _ (H.out.below (by (repeat' (first | (with_reducible exact Below.refl _ _) | (with_reducible assumption) | (with_reducible refine below_drewN ?_ _) | (with_reducible refine below_new ?_ _) | (with_reducible refine Below.alloc ?_ ?_ _) | (with_reducible refine Below.drew ?_) | (with_reducible refine Below.setCell ?_ ?_ _) | (with_reducible apply below_at; (case k => (with_reducible assumption)); (case hB => omega)) | (with_reducible apply below_on; (with_reducible assumption)) | (go_size; done) | (with_reducible apply size_of)))))).mono ?_; rintro e w1 ⟨rfl, hb1⟩; rw [e1]; have K1 : Lies (w1) (w.heap.size) 26 [.int .i64 (r).l, .slice (A) (n) (c), .int .i64 (r).n] := (by (repeat' (first | (with_reducible assumption) | (with_reducible exact Lies.fresh _ _ _) | (with_reducible apply Lies.fresh_at; (first | (with_reducible rfl) | (simp; done))) | (with_reducible refine Lies.drew ?_) | (with_reducible refine Lies.drewN ?_ _) | (with_reducible refine Lies.alloc ?_ _) | (with_reducible apply Lies.past; case hb => (with_reducible assumption)) | (with_reducible apply Lies.keeps; (case k => (with_reducible assumption)); (case ht => decide)) | (with_reducible apply Lies.store3) | (with_reducible apply Lies.other; case hp => (first | omega | (simp; done) | (simp; omega)))))); have N1 : Lies (w1) (w.heap.size + 1) 3 [.int .i64 q] := (by (repeat' (first | (with_reducible assumption) | (with_reducible exact Lies.fresh _ _ _) | (with_reducible apply Lies.fresh_at; (first | (with_reducible rfl) | (simp; done))) | (with_reducible refine Lies.drew ?_) | (with_reducible refine Lies.drewN ?_ _) | (with_reducible refine Lies.alloc ?_ _) | (with_reducible apply Lies.past; case hb => (with_reducible assumption)) | (with_reducible apply Lies.keeps; (case k => (with_reducible assumption)); (case ht => decide)) | (with_reducible apply Lies.store3) | (with_reducible apply Lies.other; case hp => (first | omega | (simp; done) | (simp; omega)))))); obtain ⟨p0, p1, p2, -, -, -⟩ := K1.three; obtain ⟨q0, -⟩ := N1.one; have HK1 := Lib.hid K1; have HN1 := Lib.hid N1; have HB1 := Lib.hid hb1; have lt1 := N1.lt; have lt0 := K1.lt))
    rw [Exit.noGoto_ret]
    go_ret2
    exact ⟨rfl, by have := HB1.out; (repeat' (first | (with_reducible exact Below.refl _ _) | (with_reducible assumption) | (with_reducible refine below_drewN ?_ _) | (with_reducible refine below_new ?_ _) | (with_reducible refine Below.alloc ?_ ?_ _) | (with_reducible refine Below.drew ?_) | (with_reducible refine Below.setCell ?_ ?_ _) | (with_reducible apply below_at; (case k => (with_reducible assumption)); (case hB => omega)) | (with_reducible apply below_on; (with_reducible assumption)) | (go_size; done) | (with_reducible apply size_of)))⟩
/-- What the walk sees of a place: is the byte before gone? -/
theorem gone_no {r : Rg} {q i : Int} {kk : Nat} {gone : Int} (hk : (kk : Int) = min r.n (r.b.length : Int)) (hg : gone = r.n - kk) (q1 : q ≤ r.n) (h : q - i < gone) : eqB r q i = false := by
  have e : thB r (q - i) = false := by
    unfold thB
    by_cases c : 0 ≤ q - i
    · rw [decide_eq_false (p := r.n - (q - i) ≤ (r.b.length : Int)) (by omega)]; simp
    · rw [decide_eq_false c, Bool.false_and]
  unfold eqB; rw [e, Bool.false_and]
theorem gone_yes {r : Rg} {q i : Int} {kk p1 p2 : Nat} {gone : Int} (hk : (kk : Int) = min r.n (r.b.length : Int)) (hg : gone = r.n - kk) (n0 : 0 ≤ r.n) (q0 : 0 ≤ q) (q1 : q ≤ r.n) (i1 : 1 ≤ i) (h : gone ≤ q - i) (e1 : q - gone - i = (p1 : Int)) (e2 : r.n - gone - i = (p2 : Int)) : p1 < kk ∧ p2 < kk ∧ eqB r q i = decide ((lastL r kk).getD p1 0 = (lastL r kk).getD p2 0) := by
  have a1 : p1 < kk := by omega
  have a2 : p2 < kk := by omega
  refine ⟨a1, a2, ?_⟩
  have t1 : thB r (q - i) = true := by
    unfold thB; rw [decide_eq_true (p := 0 ≤ q - i) (by omega), decide_eq_true (p := q - i < r.n) (by omega), decide_eq_true (by omega)]; rfl
  have t2 : thB r (r.n - i) = true := by
    unfold thB; rw [decide_eq_true (p := 0 ≤ r.n - i) (by omega), decide_eq_true (p := r.n - i < r.n) (by omega), decide_eq_true (by omega)]; rfl
  have l1 := rgW.lastL_at r kk p1 a1
  have l2 := rgW.lastL_at r kk p2 a2
  rw [show (kk : Int) - (p1 : Int) = r.n - (q - i) by omega] at l1
  rw [show (kk : Int) - (p2 : Int) = i by omega] at l2
  unfold eqB; rw [t1, t2, Bool.true_and, Bool.true_and, l1, l2]
set_option maxHeartbeats 4000000 in
theorem Length_ok (r : Rg) (A : Option Addr) (n c : Nat) (q m : Int) (w : World) (h : RgIn w A n c r) (hk : lenE r q m = 0) (m9 : m ≤ 9223372036854775807) :
    Calls Try.prog 67 #[.agg #[.int .i64 (r).l, .slice A n c, .int .i64 (r).n], .int .i64 q, .int .i64 m] w fun e w' => e = .returned (.tuple #[.int .i64 (min (full r q : Int) m), .int .i64 0]) ∧ Below w.heap.size w w' := by
  have H := Lib.hid h
  obtain ⟨hok, d1, d2, d3⟩ := lenE_parts hk
  obtain ⟨a1, a2, n0, n1⟩ := rgW.ok_parts h hok
  have e1 := rgW.rgE_yes hok
  obtain ⟨kk, hkk⟩ : ∃ kk : Nat, (kk : Int) = min r.n (n : Int) := ⟨min r.n.toNat n, by omega⟩
  have hmin : min r.n (n : Int) = (kk : Int) := hkk.symm
  have hle : lastE r kk = 0 := by rw [lastE, if_pos hok, if_pos ⟨by omega, by have := h.e; omega⟩, if_neg (by omega)]
  have HLE := Lib.hid hle
  have HKK : Hid ((kk : Int) = min r.n (r.b.length : Int) ∧ kk ≤ 8192 ∧ (kk : Int) ≤ r.n) := Lib.hid ⟨by rw [h.e]; exact hkk, by omega, by omega⟩
  have HFU : Hid (∀ k : Nat, (∀ i : Nat, i < k → eqB r q ((i : Int) + 1) = true) → k ≤ full r q) := Lib.hid (fun k hh => full_at hok d2 hh)
  have HFL : Hid (full r q ≤ 8192) := Lib.hid (by have := full_le (n := q) hok d2; have := h.e; omega)
  have HFE : Hid (∀ k : Nat, k < full r q → eqB r q ((k : Int) + 1) = true) := Lib.hid (fun k hh => full_eq hh)
  have hk1 : (kk : Int) ≤ r.n := by omega
  have hk0 : (0 : Int) ≤ kk := by omega
  have g1 : ¬ q < 0 := by omega
  have g2 : ¬ r.n < q := by omega
  have g3 : ¬ m < 0 := by omega
  clear h hk hok a1 a2 hkk hle
  go_enter Try.func67, Try.ntmps67
  go_wp2_with fail
  go_step3
  go_wp2_with (first | (go_at_call 33; refine (rgW.Check_any r A n c _ (H.out.below (by (repeat' (first | (with_reducible exact Below.refl _ _) | (with_reducible assumption) | (with_reducible refine below_drewN ?_ _) | (with_reducible refine below_new ?_ _) | (with_reducible refine Below.alloc ?_ ?_ _) | (with_reducible refine Below.drew ?_) | (with_reducible refine Below.setCell ?_ ?_ _) | (with_reducible apply below_at; (case k => (with_reducible assumption)); (case hB => omega)) | (with_reducible apply below_on; (with_reducible assumption)) | (go_size; done) | (with_reducible apply size_of)))))).mono ?_; rintro e w1 ⟨rfl, hb1⟩; rw [e1]; have K1 : Lies (w1) (w.heap.size) 26 [.int .i64 (r).l, .slice (A) (n) (c), .int .i64 (r).n] := (by (repeat' (first | (with_reducible assumption) | (with_reducible exact Lies.fresh _ _ _) | (with_reducible apply Lies.fresh_at; (first | (with_reducible rfl) | (simp; done))) | (with_reducible refine Lies.drew ?_) | (with_reducible refine Lies.drewN ?_ _) | (with_reducible refine Lies.alloc ?_ _) | (with_reducible apply Lies.past; case hb => (with_reducible assumption)) | (with_reducible apply Lies.keeps; (case k => (with_reducible assumption)); (case ht => decide)) | (with_reducible apply Lies.store3) | (with_reducible apply Lies.other; case hp => (first | omega | (simp; done) | (simp; omega)))))); have N1 : Lies (w1) (w.heap.size + 1) 3 [.int .i64 q] := (by (repeat' (first | (with_reducible assumption) | (with_reducible exact Lies.fresh _ _ _) | (with_reducible apply Lies.fresh_at; (first | (with_reducible rfl) | (simp; done))) | (with_reducible refine Lies.drew ?_) | (with_reducible refine Lies.drewN ?_ _) | (with_reducible refine Lies.alloc ?_ _) | (with_reducible apply Lies.past; case hb => (with_reducible assumption)) | (with_reducible apply Lies.keeps; (case k => (with_reducible assumption)); (case ht => decide)) | (with_reducible apply Lies.store3) | (with_reducible apply Lies.other; case hp => (first | omega | (simp; done) | (simp; omega)))))); obtain ⟨p0, p1, p2, -, -, -⟩ := K1.three; obtain ⟨q0, -⟩ := N1.one; have HK1 := Lib.hid K1; have HN1 := Lib.hid N1; have HB1 := Lib.hid hb1; have lt1 := N1.lt; have lt0 := K1.lt) | (go_at_call 64; refine (rgW.Last_ok r A n c kk _ (H.out.below (by have := HB1.out; (repeat' (first | (with_reducible exact Below.refl _ _) | (with_reducible assumption) | (with_reducible refine below_drewN ?_ _) | (with_reducible refine below_new ?_ _) | (with_reducible refine Below.alloc ?_ ?_ _) | (with_reducible refine Below.drew ?_) | (with_reducible refine Below.setCell ?_ ?_ _) | (with_reducible apply below_at; (case k => (with_reducible assumption)); (case hB => omega)) | (with_reducible apply below_on; (with_reducible assumption)) | (go_size; done) | (with_reducible apply size_of))))) HLE.out).mono ?_; rintro e w2 ⟨B, d, rfl, -, -, hB, hb2⟩; have K2 : Lies (w2) (w.heap.size) 26 [.int .i64 (r).l, .slice (A) (n) (c), .int .i64 (r).n] := (by have := HK1.out; (repeat' (first | (with_reducible assumption) | (with_reducible exact Lies.fresh _ _ _) | (with_reducible apply Lies.fresh_at; (first | (with_reducible rfl) | (simp; done))) | (with_reducible refine Lies.drew ?_) | (with_reducible refine Lies.drewN ?_ _) | (with_reducible refine Lies.alloc ?_ _) | (with_reducible apply Lies.past; case hb => (with_reducible assumption)) | (with_reducible apply Lies.keeps; (case k => (with_reducible assumption)); (case ht => decide)) | (with_reducible apply Lies.store3) | (with_reducible apply Lies.other; case hp => (first | omega | (simp; done) | (simp; omega)))))); have N2 : Lies (w2) (w.heap.size + 1) 3 [.int .i64 q] := (by have := HN1.out; (repeat' (first | (with_reducible assumption) | (with_reducible exact Lies.fresh _ _ _) | (with_reducible apply Lies.fresh_at; (first | (with_reducible rfl) | (simp; done))) | (with_reducible refine Lies.drew ?_) | (with_reducible refine Lies.drewN ?_ _) | (with_reducible refine Lies.alloc ?_ _) | (with_reducible apply Lies.past; case hb => (with_reducible assumption)) | (with_reducible apply Lies.keeps; (case k => (with_reducible assumption)); (case ht => decide)) | (with_reducible apply Lies.store3) | (with_reducible apply Lies.other; case hp => (first | omega | (simp; done) | (simp; omega)))))); obtain ⟨p0', p1', p2', -, -, -⟩ := K2.three; obtain ⟨q0', -⟩ := N2.one; have HK2 := Lib.hid K2; have HN2 := Lib.hid N2; have HHB := Lib.hid hB; have HB2 := Lib.hid hb2; have lt2 := N2.lt; have lt3 := K2.lt))
  go_step3
  go_wp2_with fail
  have HX9 : Hid (Lies ((w2.alloc (.cells #[.slice B kk d] 24)).alloc (.cells #[.int .i64 (r.n - kk)] 3)) w2.heap.size 24 [.slice B kk d] ∧ Lies ((w2.alloc (.cells #[.slice B kk d] 24)).alloc (.cells #[.int .i64 (r.n - kk)] 3)) (w2.heap.size + 1) 3 [.int .i64 (r.n - kk)] ∧ (Lies ((w2.alloc (.cells #[.slice B kk d] 24)).alloc (.cells #[.int .i64 (r.n - kk)] 3)) (w.heap.size) 26 [.int .i64 (r).l, .slice (A) (n) (c), .int .i64 (r).n]) ∧ (Lies ((w2.alloc (.cells #[.slice B kk d] 24)).alloc (.cells #[.int .i64 (r.n - kk)] 3)) (w.heap.size + 1) 3 [.int .i64 q]) ∧ Has .u8 ((w2.alloc (.cells #[.slice B kk d] 24)).alloc (.cells #[.int .i64 (r.n - kk)] 3)) B (lastL r kk) ∧ Below w.heap.size w ((w2.alloc (.cells #[.slice B kk d] 24)).alloc (.cells #[.int .i64 (r.n - kk)] 3))) := Lib.hid ⟨by (repeat' (first | (with_reducible assumption) | (with_reducible exact Lies.fresh _ _ _) | (with_reducible apply Lies.fresh_at; (first | (with_reducible rfl) | (simp; done))) | (with_reducible refine Lies.drew ?_) | (with_reducible refine Lies.drewN ?_ _) | (with_reducible refine Lies.alloc ?_ _) | (with_reducible apply Lies.past; case hb => (with_reducible assumption)) | (with_reducible apply Lies.keeps; (case k => (with_reducible assumption)); (case ht => decide)) | (with_reducible apply Lies.store3) | (with_reducible apply Lies.other; case hp => (first | omega | (simp; done) | (simp; omega))))), by (repeat' (first | (with_reducible assumption) | (with_reducible exact Lies.fresh _ _ _) | (with_reducible apply Lies.fresh_at; (first | (with_reducible rfl) | (simp; done))) | (with_reducible refine Lies.drew ?_) | (with_reducible refine Lies.drewN ?_ _) | (with_reducible refine Lies.alloc ?_ _) | (with_reducible apply Lies.past; case hb => (with_reducible assumption)) | (with_reducible apply Lies.keeps; (case k => (with_reducible assumption)); (case ht => decide)) | (with_reducible apply Lies.store3) | (with_reducible apply Lies.other; case hp => (first | omega | (simp; done) | (simp; omega))))), by have := HK2.out; (repeat' (first | (with_reducible assumption) | (with_reducible exact Lies.fresh _ _ _) | (with_reducible apply Lies.fresh_at; (first | (with_reducible rfl) | (simp; done))) | (with_reducible refine Lies.drew ?_) | (with_reducible refine Lies.drewN ?_ _) | (with_reducible refine Lies.alloc ?_ _) | (with_reducible apply Lies.past; case hb => (with_reducible assumption)) | (with_reducible apply Lies.keeps; (case k => (with_reducible assumption)); (case ht => decide)) | (with_reducible apply Lies.store3) | (with_reducible apply Lies.other; case hp => (first | omega | (simp; done) | (simp; omega))))), by have := HN2.out; (repeat' (first | (with_reducible assumption) | (with_reducible exact Lies.fresh _ _ _) | (with_reducible apply Lies.fresh_at; (first | (with_reducible rfl) | (simp; done))) | (with_reducible refine Lies.drew ?_) | (with_reducible refine Lies.drewN ?_ _) | (with_reducible refine Lies.alloc ?_ _) | (with_reducible apply Lies.past; case hb => (with_reducible assumption)) | (with_reducible apply Lies.keeps; (case k => (with_reducible assumption)); (case ht => decide)) | (with_reducible apply Lies.store3) | (with_reducible apply Lies.other; case hp => (first | omega | (simp; done) | (simp; omega))))), HHB.out.below (by (repeat' (first | (with_reducible exact Below.refl _ _) | (with_reducible assumption) | (with_reducible refine below_drewN ?_ _) | (with_reducible refine below_new ?_ _) | (with_reducible refine Below.alloc ?_ ?_ _) | (with_reducible refine Below.drew ?_) | (with_reducible refine Below.setCell ?_ ?_ _) | (with_reducible apply below_at; (case k => (with_reducible assumption)); (case hB => omega)) | (with_reducible apply below_on; (with_reducible assumption)) | (go_size; done) | (with_reducible apply size_of)))) (Nat.le_refl _), by have := HB1.out; have := HB2.out; (repeat' (first | (with_reducible exact Below.refl _ _) | (with_reducible assumption) | (with_reducible refine below_drewN ?_ _) | (with_reducible refine below_new ?_ _) | (with_reducible refine Below.alloc ?_ ?_ _) | (with_reducible refine Below.drew ?_) | (with_reducible refine Below.setCell ?_ ?_ _) | (with_reducible apply below_at; (case k => (with_reducible assumption)); (case hB => omega)) | (with_reducible apply below_on; (with_reducible assumption)) | (go_size; done) | (with_reducible apply size_of)))⟩
  clear K1 N1 K2 N2 p0 p1 p2 q0 p0' p1' p2' q0' hb1 hb2 hB lt1 lt0 lt2 lt3
  go_loopw [53, 13] (fun i j wr => ∃ k : Nat, i = .int .i64 (k : Int) ∧ j = .int .i64 (k : Int) ∧ (k : Int) ≤ m ∧ (∀ i : Nat, i < k → eqB r q ((i : Int) + 1) = true) ∧ Lies wr w2.heap.size 24 [.slice B kk d] ∧ Lies wr (w2.heap.size + 1) 3 [.int .i64 (r.n - kk)] ∧ (Lies (wr) (w.heap.size) 26 [.int .i64 (r).l, .slice (A) (n) (c), .int .i64 (r).n]) ∧ (Lies (wr) (w.heap.size + 1) 3 [.int .i64 q]) ∧ Has .u8 wr B (lastL r kk) ∧ Below w.heap.size w wr) (fun i _ _ => 8300 - (intOf i).toNat)
  case atStart => exact ⟨0, rfl, rfl, d3, fun i hi => by omega, HX9.out⟩
  case round =>
    clear HX9
    obtain ⟨k, rfl, rfl, hkm, hall, T9, T11, T3, T4, hh, acc⟩ := hrel
    have H9 := Lib.hid T9
    have H11 := Lib.hid T11
    have H3 := Lib.hid T3
    have H4 := Lib.hid T4
    have HH := Lib.hid hh
    have HA := Lib.hid acc
    have HALL := Lib.hid hall
    have hkf := HFU.out k hall
    have hk8 : k ≤ 8192 := by have := HFL.out; omega
    have hk9 : (k : Int) ≤ 8192 := by omega
    have kz : (0 : Int) ≤ k := by omega
    obtain ⟨c9, -⟩ := T9.one
    obtain ⟨c11, -⟩ := T11.one
    obtain ⟨c4, -⟩ := T4.one
    obtain ⟨r0, r1, r2, -, -, -⟩ := T3.three
    by_cases hlt : (k : Int) < m
    · by_cases hgo : q - ((k : Int) + 1) < r.n - kk
      · have hno := gone_no HKK.out.1 rfl d2 hgo
        have HV : Hid (full r q = k) := Lib.hid (by
          rcases Nat.lt_or_ge k (full r q) with h1 | h1
          · rw [HFE.out k h1] at hno; cases hno
          · omega)
        have hgo2 : q - (k : Int) - 1 < r.n - kk := by omega
        clear T9 T11 T3 T4 hh acc hall hkf hk8 hno hgo
        go_wp2_with fail
        rw [Exit.noGoto_ret]
        go_ret2
        exact ⟨ret2 (by rw [HV.out]; omega) rfl, by have := HA.out; (repeat' (first | (with_reducible exact Below.refl _ _) | (with_reducible assumption) | (with_reducible refine below_drewN ?_ _) | (with_reducible refine below_new ?_ _) | (with_reducible refine Below.alloc ?_ ?_ _) | (with_reducible refine Below.drew ?_) | (with_reducible refine Below.setCell ?_ ?_ _) | (with_reducible apply below_at; (case k => (with_reducible assumption)); (case hB => omega)) | (with_reducible apply below_on; (with_reducible assumption)) | (go_size; done) | (with_reducible apply size_of)))⟩
      · obtain ⟨p1, hp1⟩ : ∃ p1 : Nat, q - (r.n - kk) - ((k : Int) + 1) = (p1 : Int) := ⟨(q - (r.n - kk) - ((k : Int) + 1)).toNat, by omega⟩
        obtain ⟨p2, hp2⟩ : ∃ p2 : Nat, r.n - (r.n - kk) - ((k : Int) + 1) = (p2 : Int) := ⟨(r.n - (r.n - kk) - ((k : Int) + 1)).toNat, by omega⟩
        obtain ⟨u1, u2, u3⟩ := gone_yes HKK.out.1 rfl n0 d1 d2 (by omega : 1 ≤ (k : Int) + 1) (by omega) hp1 hp2
        obtain ⟨b, off, rfl, hb, hc⟩ := has_some hh (by rw [rgW.lastL_len]; omega)
        have HC : Hid (∀ j, j < kk → _root_.Go.World.cell? _ ⟨b, off + j, none⟩ = some (.int .u8 ((lastL r kk).getD j 0))) := Lib.hid (fun j hj => hc j (by rw [rgW.lastL_len]; exact hj))
        have HP := Lib.hid (And.intro hp1 (And.intro hp2 (And.intro u1 u2)))
        have HEQ := Lib.hid u3
        obtain ⟨x, hx⟩ : ∃ x, decide ((lastL r kk).getD p1 0 = (lastL r kk).getD p2 0) = x := ⟨_, rfl⟩
        have HX := Lib.hid hx
        have hgo2 : ¬ q - (k : Int) - 1 < r.n - kk := by omega
        clear T9 T11 T3 T4 hh acc hall hkf hk8 hgo hp1 hp2 u1 u2 u3 hc hx
        cases x
        · have HV : Hid (full r q = k) := Lib.hid (by
            have hno : eqB r q ((k : Int) + 1) = false := by rw [HEQ.out, HX.out]
            have hkf := HFU.out k HALL.out
            rcases Nat.lt_or_ge k (full r q) with h1 | h1
            · rw [HFE.out k h1] at hno; cases hno
            · omega)
          go_wp2_with fail
          refine (same_any r.l q r.n (r.n - kk) ((k : Int) + 1) A none n c kk d b off w2.heap.size (w.heap.size + 1) (w2.heap.size + 1) w.heap.size (lastL r kk) p1 p2 _ c9 c4 c11 r2 HC.out HP.out.1 HP.out.2.1 HP.out.2.2.1 HP.out.2.2.2 d1 (by omega) n0 n1 (by omega) (by omega) (by omega) (by omega) HKK.out.2.1).mono ?_
          rintro e w4 ⟨rfl, m4, rfl⟩
          rw [HX.out]
          go_wp2_with fail
          rw [Exit.noGoto_ret]
          go_ret2
          exact ⟨ret2 (by rw [HV.out]; omega) rfl, by have := HA.out; (repeat' (first | (with_reducible exact Below.refl _ _) | (with_reducible assumption) | (with_reducible refine below_drewN ?_ _) | (with_reducible refine below_new ?_ _) | (with_reducible refine Below.alloc ?_ ?_ _) | (with_reducible refine Below.drew ?_) | (with_reducible refine Below.setCell ?_ ?_ _) | (with_reducible apply below_at; (case k => (with_reducible assumption)); (case hB => omega)) | (with_reducible apply below_on; (with_reducible assumption)) | (go_size; done) | (with_reducible apply size_of)))⟩
        · have HN : Hid (∀ i : Nat, i < k + 1 → eqB r q ((i : Int) + 1) = true) := Lib.hid (fun i hi => by
            rcases Nat.lt_or_ge i k with h1 | h1
            · exact HALL.out i h1
            · rw [show i = k by omega, HEQ.out, HX.out])
          go_wp2_with fail
          refine (same_any r.l q r.n (r.n - kk) ((k : Int) + 1) A none n c kk d b off w2.heap.size (w.heap.size + 1) (w2.heap.size + 1) w.heap.size (lastL r kk) p1 p2 _ c9 c4 c11 r2 HC.out HP.out.1 HP.out.2.1 HP.out.2.2.1 HP.out.2.2.2 d1 (by omega) n0 n1 (by omega) (by omega) (by omega) (by omega) HKK.out.2.1).mono ?_
          rintro e w4 ⟨rfl, m4, rfl⟩
          rw [HX.out]
          go_wp2_with fail
          go_roundw
          case rel => exact ⟨k + 1, by go_num, by go_num, by omega, HN.out, H9.out.drewN _, H11.out.drewN _, H3.out.drewN _, H4.out.drewN _, HH.out, by have := HA.out; (repeat' (first | (with_reducible exact Below.refl _ _) | (with_reducible assumption) | (with_reducible refine below_drewN ?_ _) | (with_reducible refine below_new ?_ _) | (with_reducible refine Below.alloc ?_ ?_ _) | (with_reducible refine Below.drew ?_) | (with_reducible refine Below.setCell ?_ ?_ _) | (with_reducible apply below_at; (case k => (with_reducible assumption)); (case hB => omega)) | (with_reducible apply below_on; (with_reducible assumption)) | (go_size; done) | (with_reducible apply size_of)))⟩
          case measure => simp [intOf]; omega
    · have HV : Hid ((full r q : Int) ≥ m) := Lib.hid (by omega)
      clear T9 T11 T3 T4 hh acc hall hkf hk8
      go_wp2_with fail
      go_ret2
      exact ⟨ret2 (by have := HV.out; omega) rfl, by have := HA.out; (repeat' (first | (with_reducible exact Below.refl _ _) | (with_reducible assumption) | (with_reducible refine below_drewN ?_ _) | (with_reducible refine below_new ?_ _) | (with_reducible refine Below.alloc ?_ ?_ _) | (with_reducible refine Below.drew ?_) | (with_reducible refine Below.setCell ?_ ?_ _) | (with_reducible apply below_at; (case k => (with_reducible assumption)); (case hB => omega)) | (with_reducible apply below_on; (with_reducible assumption)) | (go_size; done) | (with_reducible apply size_of)))⟩
end Go.Proofs.Ytemiecghdmagnaa.fdW

namespace Go.Proofs.Ytemiecghdmagnaa.fdL
set_option maxRecDepth 100000
open Go.RowKit Go.Proofs.Ytemiecghdmagnaa.base Go.Proofs.Ytemiecghdmagnaa.rgP Go.Proofs.Ytemiecghdmagnaa.fdP Go.Proofs.Ytemiecghdmagnaa.fdW Go.Proofs.Ytemiecghdmagnaa.hashW
set_option linter.unusedVariables false
set_option linter.unusedSimpArgs false

theorem full_val {r : Rg} {n : Int} {k : Nat} (hok : rgOk r = true) (h1 : n ≤ r.n) (h : ∀ i : Nat, i < k → eqB r n ((i : Int) + 1) = true) (hk : eqB r n ((k : Int) + 1) = false) : full r n = k := by
  have a := full_at hok h1 h
  rcases Nat.lt_or_ge k (full r n) with h2 | h2
  · rw [full_eq h2] at hk; cases hk
  · omega
theorem Length_any (r : Rg) (A : Option Addr) (n c : Nat) (q m : Int) (w : World) (h : RgIn w A n c r) (m9 : m ≤ 9223372036854775807) :
    Calls Try.prog 67 #[.agg #[.int .i64 (r).l, .slice A n c, .int .i64 (r).n], .int .i64 q, .int .i64 m] w fun e w' => e = .returned (.tuple #[.int .i64 (lenV r q m), .int .i64 (lenE r q m)]) ∧ Below w.heap.size w w' := by
  by_cases hk : lenE r q m = 0
  · refine (Length_ok r A n c q m w h hk m9).mono ?_
    rintro e w1 ⟨rfl, hb⟩
    exact ⟨by rw [lenV, if_pos hk, hk], hb⟩
  · refine (Length_bad r A n c q m w h hk).mono ?_
    rintro e w1 ⟨rfl, hb⟩
    exact ⟨by rw [lenV, if_neg hk], hb⟩
end Go.Proofs.Ytemiecghdmagnaa.fdL

namespace Go.Proofs.Ytemiecghdmagnaa.fdW
set_option maxRecDepth 100000
open Go.RowKit Go.Proofs.Ytemiecghdmagnaa.base Go.Proofs.Ytemiecghdmagnaa.rgP Go.Proofs.Ytemiecghdmagnaa.fdP
set_option linter.unusedVariables false
set_option linter.unusedSimpArgs false

theorem rEqual_any (r : Rg) (A : Option Addr) (n c : Nat) (q i : Int) (w : World) (h : RgIn w A n c r) (hok : rgOk r = true) (q0 : 0 ≤ q) (q1 : q ≤ r.n) (i0 : 1 ≤ i) (i1 : i ≤ 100000) :
    Calls Try.prog 85 #[.agg #[.int .i64 (r).l, .slice A n c, .int .i64 (r).n], .int .i64 q, .int .i64 r.n, .int .i64 i] w fun e w' => e = .returned (.bool (eqB r q i)) ∧ Below w.heap.size w w' := by
  obtain ⟨a1, a2, n0, n1⟩ := rgW.ok_parts h hok
  cases t1 : thB r (q - i)
  · exact rEqual_one r A n c q i w (Lib.hid h) n0 n1 (Lib.hid ⟨a2, h.e⟩) (Lib.hid hok) q0 q1 i0 i1 t1
  cases t2 : thB r (r.n - i)
  · exact rEqual_two r A n c q i w (Lib.hid h) n0 n1 (Lib.hid ⟨a2, h.e⟩) (Lib.hid hok) q0 q1 i0 i1 t1 t2
  · exact rEqual_three r A n c q i w (Lib.hid h) n0 n1 (Lib.hid ⟨a2, h.e⟩) (Lib.hid hok) q0 q1 i0 i1 t1 t2
set_option maxHeartbeats 4000000 in
theorem rMatch_ok (r : Rg) (A : Option Addr) (n c : Nat) (q m : Int) (w : World) (h : RgIn w A n c r) (hok : rgOk r = true) (q0 : 0 ≤ q) (q1 : q ≤ r.n) (m0 : 0 ≤ m) (m9 : m ≤ 9223372036854775807) :
    Calls Try.prog 73 #[.agg #[.int .i64 (r).l, .slice A n c, .int .i64 (r).n], .int .i64 q, .int .i64 m] w fun e w' => e = .returned (.int .i64 (min (full r q : Int) m)) ∧ Below w.heap.size w w' := by
  have H := Lib.hid h
  obtain ⟨a1, a2, n0, n1⟩ := rgW.ok_parts h hok
  have HFU : Hid (∀ k : Nat, (∀ i : Nat, i < k → eqB r q ((i : Int) + 1) = true) → k ≤ full r q) := Lib.hid (fun k hh => full_at hok q1 hh)
  have HFL : Hid (full r q ≤ 8192) := Lib.hid (by have := full_le (n := q) hok q1; have := h.e; omega)
  have HFE : Hid (∀ k : Nat, k < full r q → eqB r q ((k : Int) + 1) = true) := Lib.hid (fun k hh => full_eq hh)
  have HOK := Lib.hid hok
  have LL : Hid (Lies (w.alloc (.cells #[.int .i64 r.l, .slice A n c, .int .i64 r.n] 26)) (w.heap.size) 26 [.int .i64 (r).l, .slice (A) (n) (c), .int .i64 (r).n] ∧ Below w.heap.size w (w.alloc (.cells #[.int .i64 r.l, .slice A n c, .int .i64 r.n] 26))) := Lib.hid ⟨Lies.fresh _ _ _, by (repeat' (first | (with_reducible exact Below.refl _ _) | (with_reducible assumption) | (with_reducible refine below_drewN ?_ _) | (with_reducible refine below_new ?_ _) | (with_reducible refine Below.alloc ?_ ?_ _) | (with_reducible refine Below.drew ?_) | (with_reducible refine Below.setCell ?_ ?_ _) | (with_reducible apply below_at; (case k => (with_reducible assumption)); (case hB => omega)) | (with_reducible apply below_on; (with_reducible assumption)) | (go_size; done) | (with_reducible apply size_of)))⟩
  clear h hok a1 a2
  go_enter Try.func73, Try.ntmps73
  go_wp2_with fail
  go_loopw [7] (fun i wr => ∃ k : Nat, i = .int .i64 (k : Int) ∧ (k : Int) ≤ m ∧ (∀ i : Nat, i < k → eqB r q ((i : Int) + 1) = true) ∧ (Lies (wr) (w.heap.size) 26 [.int .i64 (r).l, .slice (A) (n) (c), .int .i64 (r).n]) ∧ Below w.heap.size w wr) (fun i _ => 8300 - (intOf i).toNat)
  case atStart => exact ⟨0, rfl, m0, fun i hi => by omega, LL.out.1, LL.out.2⟩
  case round =>
    clear LL
    obtain ⟨k, rfl, hkm, hall, T, acc⟩ := hrel
    have HK := Lib.hid T
    have HA := Lib.hid acc
    have HALL := Lib.hid hall
    have hkf := HFU.out k hall
    have hk8 : k ≤ 8192 := by have := HFL.out; omega
    have hk9 : (k : Int) ≤ 8192 := by omega
    have kz : (0 : Int) ≤ k := by omega
    obtain ⟨r0, r1, r2, -, -, -⟩ := T.three
    by_cases hlt : (k : Int) < m
    · obtain ⟨x, hx⟩ : ∃ x, eqB r q ((k : Int) + 1) = x := ⟨_, rfl⟩
      have HX := Lib.hid hx
      clear T acc hall hx
      cases x
      · have HV : Hid (full r q = k) := Lib.hid (by
          rcases Nat.lt_or_ge k (full r q) with h1 | h1
          · have := HFE.out k h1; rw [HX.out] at this; cases this
          · omega)
        clear hkf hk8
        go_wp2_with (first | (go_at_call 85; refine (rEqual_any r A n c q ((k : Int) + 1) _ (H.out.below (by have := HA.out; (repeat' (first | (with_reducible exact Below.refl _ _) | (with_reducible assumption) | (with_reducible refine below_drewN ?_ _) | (with_reducible refine below_new ?_ _) | (with_reducible refine Below.alloc ?_ ?_ _) | (with_reducible refine Below.drew ?_) | (with_reducible refine Below.setCell ?_ ?_ _) | (with_reducible apply below_at; (case k => (with_reducible assumption)); (case hB => omega)) | (with_reducible apply below_on; (with_reducible assumption)) | (go_size; done) | (with_reducible apply size_of))))) HOK.out q0 q1 (by omega) (by omega)).mono ?_; rintro e w2 ⟨rfl, hb2⟩; rw [HX.out]; have HK2 := Lib.hid (HK.out.past hb2); have HA2 := Lib.hid (HA.out.trans (hb2.mono HA.out.size))))
        go_ret
        exact ⟨ret1 (by rw [HV.out]; omega), by have := HA2.out; (repeat' (first | (with_reducible exact Below.refl _ _) | (with_reducible assumption) | (with_reducible refine below_drewN ?_ _) | (with_reducible refine below_new ?_ _) | (with_reducible refine Below.alloc ?_ ?_ _) | (with_reducible refine Below.drew ?_) | (with_reducible refine Below.setCell ?_ ?_ _) | (with_reducible apply below_at; (case k => (with_reducible assumption)); (case hB => omega)) | (with_reducible apply below_on; (with_reducible assumption)) | (go_size; done) | (with_reducible apply size_of)))⟩
      · have HN : Hid (∀ i : Nat, i < k + 1 → eqB r q ((i : Int) + 1) = true) := Lib.hid (fun i hi => by
          rcases Nat.lt_or_ge i k with h1 | h1
          · exact HALL.out i h1
          · rw [show i = k by omega, HX.out])
        clear hkf hk8
        go_wp2_with (first | (go_at_call 85; refine (rEqual_any r A n c q ((k : Int) + 1) _ (H.out.below (by have := HA.out; (repeat' (first | (with_reducible exact Below.refl _ _) | (with_reducible assumption) | (with_reducible refine below_drewN ?_ _) | (with_reducible refine below_new ?_ _) | (with_reducible refine Below.alloc ?_ ?_ _) | (with_reducible refine Below.drew ?_) | (with_reducible refine Below.setCell ?_ ?_ _) | (with_reducible apply below_at; (case k => (with_reducible assumption)); (case hB => omega)) | (with_reducible apply below_on; (with_reducible assumption)) | (go_size; done) | (with_reducible apply size_of))))) HOK.out q0 q1 (by omega) (by omega)).mono ?_; rintro e w2 ⟨rfl, hb2⟩; rw [HX.out]; have HK2 := Lib.hid (HK.out.past hb2); have HA2 := Lib.hid (HA.out.trans (hb2.mono HA.out.size))))
        go_roundw
        case rel => exact ⟨k + 1, by go_num, by omega, HN.out, HK2.out, HA2.out⟩
        case measure => simp [intOf]; omega
    · have HV : Hid ((full r q : Int) ≥ m) := Lib.hid (by omega)
      clear T acc hall hkf hk8
      go_wp2_with fail
      go_ret
      exact ⟨ret1 (by have := HV.out; omega), by have := HA.out; (repeat' (first | (with_reducible exact Below.refl _ _) | (with_reducible assumption) | (with_reducible refine below_drewN ?_ _) | (with_reducible refine below_new ?_ _) | (with_reducible refine Below.alloc ?_ ?_ _) | (with_reducible refine Below.drew ?_) | (with_reducible refine Below.setCell ?_ ?_ _) | (with_reducible apply below_at; (case k => (with_reducible assumption)); (case hB => omega)) | (with_reducible apply below_on; (with_reducible assumption)) | (go_size; done) | (with_reducible apply size_of)))⟩
end Go.Proofs.Ytemiecghdmagnaa.fdW
namespace Go.Proofs.Ytemiecghdmagnaa.fdL
set_option maxRecDepth 100000
open Go.RowKit Go.Proofs.Ytemiecghdmagnaa.base Go.Proofs.Ytemiecghdmagnaa.rgP Go.Proofs.Ytemiecghdmagnaa.fdP Go.Proofs.Ytemiecghdmagnaa.fdW
set_option linter.unusedVariables false
end Go.Proofs.Ytemiecghdmagnaa.fdL
