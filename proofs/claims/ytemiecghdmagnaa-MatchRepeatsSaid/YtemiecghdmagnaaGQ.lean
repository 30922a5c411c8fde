/- Several texts as one: MaW, MaW2. -/
import Derived.Test.YtemiecghdmagnaaMaPlain
import Derived.Test.YtemiecghdmagnaaGO
import Derived.Test.YtemiecghdmagnaaGP
namespace Go.Proofs.Ytemiecghdmagnaa.maW
set_option maxRecDepth 100000
open Go.RowKit Go.Proofs.Ytemiecghdmagnaa.base Go.Proofs.Ytemiecghdmagnaa.rgP Go.Proofs.Ytemiecghdmagnaa.fdP Go.Proofs.Ytemiecghdmagnaa.maP Go.Proofs.Ytemiecghdmagnaa.rgW
set_option linter.unusedVariables false
set_option linter.unusedSimpArgs false

theorem New_any (w : World) : Calls Try.prog 20 #[] w fun e w' => e = .returned (.agg #[.int .i64 (-1), .int .i64 0]) ∧ Below w.heap.size w w' := by
  go_enter Try.func20, Try.ntmps20
  go_wp2_with fail
  refine bodyPost_ret (by simp [results, Try.results20, go_sem, noM]; try rfl) rfl ?_
  exact ⟨rfl, by (repeat' (first | (with_reducible exact Below.refl _ _) | (with_reducible assumption) | (with_reducible refine below_drewN ?_ _) | (with_reducible refine below_new ?_ _) | (with_reducible refine Below.alloc ?_ ?_ _) | (with_reducible refine Below.drew ?_) | (with_reducible refine Below.setCell ?_ ?_ _) | (with_reducible apply below_at; (case k => (with_reducible assumption)); (case hB => omega)) | (with_reducible apply below_on; (with_reducible assumption)) | (go_size; done) | (with_reducible apply size_of)))⟩
theorem mtE_eq (a k : Int) : mtE ⟨a, k⟩ = if (a = -1 ∧ k = 0) ∨ (0 ≤ a ∧ a ≤ 1073741824 ∧ 1 ≤ k ∧ k ≤ 40) then 0 else 8 := by
  unfold mtE
  have := mtB_iff ⟨a, k⟩
  by_cases c : mtB ⟨a, k⟩ = true
  · rw [if_pos c, if_pos (this.1 c)]
  · rw [if_neg c, if_neg (fun h => c (this.2 h))]
theorem below_grow {w w' W : World} (h : Below w.heap.size w W) (h1 : Grows W w') : Below w.heap.size w w' := h.trans (h1.mono h.size)
set_option maxHeartbeats 1000000 in
theorem Check_any (m : Mt) (w : World) : Calls Try.prog 18 #[.agg #[.int .i64 (m).a, .int .i64 (m).k]] w fun e w' => e = .returned (.int .i64 (mtE m)) ∧ Below w.heap.size w w' := by
  obtain ⟨a, k⟩ := m
  have HV := Lib.hid (mtE_eq a k)
  by_cases c1 : a = -1
  · subst c1
    by_cases c2 : k = 0
    · subst c2
      go_enter Try.func18, Try.ntmps18
      go_wp2_with fail
      (have RD := grows_roads (S := fun x' => (Lies (x') (w.heap.size) 23 [.int .i64 (-1), .int .i64 0]) ∧ Below w.heap.size w x') (fun a b h1 h2 => ⟨h2.1.past h1, below_grow h2.2 h1⟩)); refine region_ord _ Grows RD (by refine ⟨Lies.fresh _ _ _, ?_⟩; (repeat' (first | (with_reducible exact Below.refl _ _) | (with_reducible assumption) | (with_reducible refine below_drewN ?_ _) | (with_reducible refine below_new ?_ _) | (with_reducible refine Below.alloc ?_ ?_ _) | (with_reducible refine Below.drew ?_) | (with_reducible refine Below.setCell ?_ ?_ _) | (with_reducible apply below_at; (case k => (with_reducible assumption)); (case hB => omega)) | (with_reducible apply below_on; (with_reducible assumption)) | (go_size; done) | (with_reducible apply size_of)))) (by kernel_rfl) ?_; intro ops Q' hops hPQ hN; (have HNS : Hid (Region.noSelect ops = true) := Lib.hid (by rw [hops]; kernel_rfl)); (have hsz : ops.size = 3 := (by rw [hops]; rfl)); have HOP := Lib.hid hops; have HPQ := Lib.hid hPQ; have HN := Lib.hid hN; rw [hsz]; clear hops hsz hPQ hN; refine ord_take RD 0 (at_list (by rw [HOP.out]; rfl)) HNS.out HPQ.out (by rw [HOP.out]; kernel_rfl) (by rw [HOP.out]; kernel_rfl) (by rw [HOP.out]; rfl) (fun K hK => ?_); apply Exists.intro; refine ⟨fun W hSW => ?_, hK _ ?_⟩; (focus ((try dsimp only at hSW); (obtain ⟨y0, y1, -, -⟩ := hSW.1.two); go_simp; try with_reducible rfl)); clear hK K; (try simp only [Act.put, List.setIfInBounds_toArray, List.set_cons_zero, List.set_cons_succ]); refine ord_take RD 1 (at_list (by rw [HOP.out]; rfl)) HNS.out HPQ.out (by rw [HOP.out]; kernel_rfl) (by rw [HOP.out]; kernel_rfl) (by rw [HOP.out]; rfl) (fun K hK => ?_); apply Exists.intro; refine ⟨fun W hSW => ?_, hK _ ?_⟩; (focus ((try dsimp only at hSW); go_simp; exact (New_any W))); clear hK K; (try simp only [Act.put, List.setIfInBounds_toArray, List.set_cons_zero, List.set_cons_succ]); refine ord_take RD 2 (at_list (by rw [HOP.out]; rfl)) HNS.out HPQ.out (by rw [HOP.out]; kernel_rfl) (by rw [HOP.out]; kernel_rfl) (by rw [HOP.out]; rfl) (fun K hK => ?_); apply Exists.intro; refine ⟨fun W hSW => ?_, hK _ ?_⟩; (focus ((try dsimp only at hSW); go_simp; try with_reducible rfl)); clear hK K; (try simp only [Act.put, List.setIfInBounds_toArray, List.set_cons_zero, List.set_cons_succ]); refine ord_done (by rw [HOP.out]; kernel_rfl) (fun W hWW hSW => HN.out _ _ ?_); clear HOP HNS HPQ HN RD; (try dsimp only at hSW); obtain ⟨hL, hB⟩ := hSW; clear hWW; obtain ⟨y0, y1, -, -⟩ := hL.two; have zl := hL.lt; have HB := Lib.hid hB; clear hL hB
      go_wp2_with fail
      go_ret
      exact ⟨by rw [HV.out]; rfl, by have := HB.out; (repeat' (first | (with_reducible exact Below.refl _ _) | (with_reducible assumption) | (with_reducible refine below_drewN ?_ _) | (with_reducible refine below_new ?_ _) | (with_reducible refine Below.alloc ?_ ?_ _) | (with_reducible refine Below.drew ?_) | (with_reducible refine Below.setCell ?_ ?_ _) | (with_reducible apply below_at; (case k => (with_reducible assumption)); (case hB => omega)) | (with_reducible apply below_on; (with_reducible assumption)) | (go_size; done) | (with_reducible apply size_of)))⟩
    · go_enter Try.func18, Try.ntmps18
      go_wp2_with fail
      (have RD := grows_roads (S := fun x' => (Lies (x') (w.heap.size) 23 [.int .i64 (-1), .int .i64 k]) ∧ Below w.heap.size w x') (fun a b h1 h2 => ⟨h2.1.past h1, below_grow h2.2 h1⟩)); refine region_ord _ Grows RD (by refine ⟨Lies.fresh _ _ _, ?_⟩; (repeat' (first | (with_reducible exact Below.refl _ _) | (with_reducible assumption) | (with_reducible refine below_drewN ?_ _) | (with_reducible refine below_new ?_ _) | (with_reducible refine Below.alloc ?_ ?_ _) | (with_reducible refine Below.drew ?_) | (with_reducible refine Below.setCell ?_ ?_ _) | (with_reducible apply below_at; (case k => (with_reducible assumption)); (case hB => omega)) | (with_reducible apply below_on; (with_reducible assumption)) | (go_size; done) | (with_reducible apply size_of)))) (by kernel_rfl) ?_; intro ops Q' hops hPQ hN; (have HNS : Hid (Region.noSelect ops = true) := Lib.hid (by rw [hops]; kernel_rfl)); (have hsz : ops.size = 3 := (by rw [hops]; rfl)); have HOP := Lib.hid hops; have HPQ := Lib.hid hPQ; have HN := Lib.hid hN; rw [hsz]; clear hops hsz hPQ hN; refine ord_take RD 0 (at_list (by rw [HOP.out]; rfl)) HNS.out HPQ.out (by rw [HOP.out]; kernel_rfl) (by rw [HOP.out]; kernel_rfl) (by rw [HOP.out]; rfl) (fun K hK => ?_); apply Exists.intro; refine ⟨fun W hSW => ?_, hK _ ?_⟩; (focus ((try dsimp only at hSW); (obtain ⟨y0, y1, -, -⟩ := hSW.1.two); go_simp; try with_reducible rfl)); clear hK K; (try simp only [Act.put, List.setIfInBounds_toArray, List.set_cons_zero, List.set_cons_succ]); refine ord_take RD 1 (at_list (by rw [HOP.out]; rfl)) HNS.out HPQ.out (by rw [HOP.out]; kernel_rfl) (by rw [HOP.out]; kernel_rfl) (by rw [HOP.out]; rfl) (fun K hK => ?_); apply Exists.intro; refine ⟨fun W hSW => ?_, hK _ ?_⟩; (focus ((try dsimp only at hSW); go_simp; exact (New_any W))); clear hK K; (try simp only [Act.put, List.setIfInBounds_toArray, List.set_cons_zero, List.set_cons_succ]); refine ord_take RD 2 (at_list (by rw [HOP.out]; rfl)) HNS.out HPQ.out (by rw [HOP.out]; kernel_rfl) (by rw [HOP.out]; kernel_rfl) (by rw [HOP.out]; rfl) (fun K hK => ?_); apply Exists.intro; refine ⟨fun W hSW => ?_, hK _ ?_⟩; (focus ((try dsimp only at hSW); go_simp; try with_reducible rfl)); clear hK K; (try simp only [Act.put, List.setIfInBounds_toArray, List.set_cons_zero, List.set_cons_succ]); refine ord_done (by rw [HOP.out]; kernel_rfl) (fun W hWW hSW => HN.out _ _ ?_); clear HOP HNS HPQ HN RD; (try dsimp only at hSW); obtain ⟨hL, hB⟩ := hSW; clear hWW; obtain ⟨y0, y1, -, -⟩ := hL.two; have zl := hL.lt; have HB := Lib.hid hB; clear hL hB
      go_wp2_with fail
      go_ret
      exact ⟨by rw [HV.out, if_neg (by omega)]; rfl, by have := HB.out; (repeat' (first | (with_reducible exact Below.refl _ _) | (with_reducible assumption) | (with_reducible refine below_drewN ?_ _) | (with_reducible refine below_new ?_ _) | (with_reducible refine Below.alloc ?_ ?_ _) | (with_reducible refine Below.drew ?_) | (with_reducible refine Below.setCell ?_ ?_ _) | (with_reducible apply below_at; (case k => (with_reducible assumption)); (case hB => omega)) | (with_reducible apply below_on; (with_reducible assumption)) | (go_size; done) | (with_reducible apply size_of)))⟩
  · go_enter Try.func18, Try.ntmps18
    go_wp2_with fail
    (have RD := grows_roads (S := fun x' => (Lies (x') (w.heap.size) 23 [.int .i64 a, .int .i64 k]) ∧ Below w.heap.size w x') (fun a b h1 h2 => ⟨h2.1.past h1, below_grow h2.2 h1⟩)); refine region_ord _ Grows RD (by refine ⟨Lies.fresh _ _ _, ?_⟩; (repeat' (first | (with_reducible exact Below.refl _ _) | (with_reducible assumption) | (with_reducible refine below_drewN ?_ _) | (with_reducible refine below_new ?_ _) | (with_reducible refine Below.alloc ?_ ?_ _) | (with_reducible refine Below.drew ?_) | (with_reducible refine Below.setCell ?_ ?_ _) | (with_reducible apply below_at; (case k => (with_reducible assumption)); (case hB => omega)) | (with_reducible apply below_on; (with_reducible assumption)) | (go_size; done) | (with_reducible apply size_of)))) (by kernel_rfl) ?_; intro ops Q' hops hPQ hN; (have HNS : Hid (Region.noSelect ops = true) := Lib.hid (by rw [hops]; kernel_rfl)); (have hsz : ops.size = 3 := (by rw [hops]; rfl)); have HOP := Lib.hid hops; have HPQ := Lib.hid hPQ; have HN := Lib.hid hN; rw [hsz]; clear hops hsz hPQ hN; refine ord_take RD 0 (at_list (by rw [HOP.out]; rfl)) HNS.out HPQ.out (by rw [HOP.out]; kernel_rfl) (by rw [HOP.out]; kernel_rfl) (by rw [HOP.out]; rfl) (fun K hK => ?_); apply Exists.intro; refine ⟨fun W hSW => ?_, hK _ ?_⟩; (focus ((try dsimp only at hSW); (obtain ⟨y0, y1, -, -⟩ := hSW.1.two); go_simp; try with_reducible rfl)); clear hK K; (try simp only [Act.put, List.setIfInBounds_toArray, List.set_cons_zero, List.set_cons_succ]); refine ord_take RD 1 (at_list (by rw [HOP.out]; rfl)) HNS.out HPQ.out (by rw [HOP.out]; kernel_rfl) (by rw [HOP.out]; kernel_rfl) (by rw [HOP.out]; rfl) (fun K hK => ?_); apply Exists.intro; refine ⟨fun W hSW => ?_, hK _ ?_⟩; (focus ((try dsimp only at hSW); go_simp; exact (New_any W))); clear hK K; (try simp only [Act.put, List.setIfInBounds_toArray, List.set_cons_zero, List.set_cons_succ]); refine ord_take RD 2 (at_list (by rw [HOP.out]; rfl)) HNS.out HPQ.out (by rw [HOP.out]; kernel_rfl) (by rw [HOP.out]; kernel_rfl) (by rw [HOP.out]; rfl) (fun K hK => ?_); apply Exists.intro; refine ⟨fun W hSW => ?_, hK _ ?_⟩; (focus ((try dsimp only at hSW); go_simp; try with_reducible rfl)); clear hK K; (try simp only [Act.put, List.setIfInBounds_toArray, List.set_cons_zero, List.set_cons_succ]); refine ord_done (by rw [HOP.out]; kernel_rfl) (fun W hWW hSW => HN.out _ _ ?_); clear HOP HNS HPQ HN RD; (try dsimp only at hSW); obtain ⟨hL, hB⟩ := hSW; clear hWW; obtain ⟨y0, y1, -, -⟩ := hL.two; have zl := hL.lt; have HB := Lib.hid hB; clear hL hB
    by_cases d1 : 0 ≤ a
    · by_cases d2 : a ≤ 1073741824
      · by_cases d3 : 1 ≤ k
        · by_cases d4 : k ≤ 40
          all_goals
            go_wp2_with fail
            go_ret
            exact ⟨by rw [HV.out]; first | (rw [if_neg (by omega)]; rfl) | (rw [if_pos (by omega)]; rfl), by have := HB.out; (repeat' (first | (with_reducible exact Below.refl _ _) | (with_reducible assumption) | (with_reducible refine below_drewN ?_ _) | (with_reducible refine below_new ?_ _) | (with_reducible refine Below.alloc ?_ ?_ _) | (with_reducible refine Below.drew ?_) | (with_reducible refine Below.setCell ?_ ?_ _) | (with_reducible apply below_at; (case k => (with_reducible assumption)); (case hB => omega)) | (with_reducible apply below_on; (with_reducible assumption)) | (go_size; done) | (with_reducible apply size_of)))⟩
        · go_wp2_with fail
          go_ret
          exact ⟨by rw [HV.out]; first | (rw [if_neg (by omega)]; rfl) | (rw [if_pos (by omega)]; rfl), by have := HB.out; (repeat' (first | (with_reducible exact Below.refl _ _) | (with_reducible assumption) | (with_reducible refine below_drewN ?_ _) | (with_reducible refine below_new ?_ _) | (with_reducible refine Below.alloc ?_ ?_ _) | (with_reducible refine Below.drew ?_) | (with_reducible refine Below.setCell ?_ ?_ _) | (with_reducible apply below_at; (case k => (with_reducible assumption)); (case hB => omega)) | (with_reducible apply below_on; (with_reducible assumption)) | (go_size; done) | (with_reducible apply size_of)))⟩
      · go_wp2_with fail
        go_ret
        exact ⟨by rw [HV.out]; first | (rw [if_neg (by omega)]; rfl) | (rw [if_pos (by omega)]; rfl), by have := HB.out; (repeat' (first | (with_reducible exact Below.refl _ _) | (with_reducible assumption) | (with_reducible refine below_drewN ?_ _) | (with_reducible refine below_new ?_ _) | (with_reducible refine Below.alloc ?_ ?_ _) | (with_reducible refine Below.drew ?_) | (with_reducible refine Below.setCell ?_ ?_ _) | (with_reducible apply below_at; (case k => (with_reducible assumption)); (case hB => omega)) | (with_reducible apply below_on; (with_reducible assumption)) | (go_size; done) | (with_reducible apply size_of)))⟩
    · go_wp2_with fail
      go_ret
      exact ⟨by rw [HV.out]; first | (rw [if_neg (by omega)]; rfl) | (rw [if_pos (by omega)]; rfl), by have := HB.out; (repeat' (first | (with_reducible exact Below.refl _ _) | (with_reducible assumption) | (with_reducible refine below_drewN ?_ _) | (with_reducible refine below_new ?_ _) | (with_reducible refine Below.alloc ?_ ?_ _) | (with_reducible refine Below.drew ?_) | (with_reducible refine Below.setCell ?_ ?_ _) | (with_reducible apply below_at; (case k => (with_reducible assumption)); (case hB => omega)) | (with_reducible apply below_on; (with_reducible assumption)) | (go_size; done) | (with_reducible apply size_of)))⟩
theorem rCheck_any (m : Mt) (w : World) : Calls Try.prog 19 #[.agg #[.int .i64 (m).a, .int .i64 (m).k]] w fun e w' => e = .returned (.int .i64 (mtE m)) ∧ Below w.heap.size w w' := by
  obtain ⟨a, k⟩ := m
  have HV := Lib.hid (mtE_eq a k)
  by_cases c1 : a = -1
  · subst c1
    by_cases c2 : k = 0
    · subst c2
      go_enter Try.func19, Try.ntmps19
      go_wp2_with fail
      go_ret
      exact ⟨by rw [HV.out]; rfl, by (repeat' (first | (with_reducible exact Below.refl _ _) | (with_reducible assumption) | (with_reducible refine below_drewN ?_ _) | (with_reducible refine below_new ?_ _) | (with_reducible refine Below.alloc ?_ ?_ _) | (with_reducible refine Below.drew ?_) | (with_reducible refine Below.setCell ?_ ?_ _) | (with_reducible apply below_at; (case k => (with_reducible assumption)); (case hB => omega)) | (with_reducible apply below_on; (with_reducible assumption)) | (go_size; done) | (with_reducible apply size_of)))⟩
    · go_enter Try.func19, Try.ntmps19
      go_wp2_with fail
      go_ret
      exact ⟨by rw [HV.out, if_neg (by omega)]; rfl, by (repeat' (first | (with_reducible exact Below.refl _ _) | (with_reducible assumption) | (with_reducible refine below_drewN ?_ _) | (with_reducible refine below_new ?_ _) | (with_reducible refine Below.alloc ?_ ?_ _) | (with_reducible refine Below.drew ?_) | (with_reducible refine Below.setCell ?_ ?_ _) | (with_reducible apply below_at; (case k => (with_reducible assumption)); (case hB => omega)) | (with_reducible apply below_on; (with_reducible assumption)) | (go_size; done) | (with_reducible apply size_of)))⟩
  · by_cases d1 : 0 ≤ a
    · by_cases d2 : a ≤ 1073741824
      · by_cases d3 : 1 ≤ k
        · by_cases d4 : k ≤ 40
          all_goals
            go_enter Try.func19, Try.ntmps19
            go_wp2_with fail
            go_ret
            exact ⟨by rw [HV.out]; first | (rw [if_neg (by omega)]; rfl) | (rw [if_pos (by omega)]; rfl), by (repeat' (first | (with_reducible exact Below.refl _ _) | (with_reducible assumption) | (with_reducible refine below_drewN ?_ _) | (with_reducible refine below_new ?_ _) | (with_reducible refine Below.alloc ?_ ?_ _) | (with_reducible refine Below.drew ?_) | (with_reducible refine Below.setCell ?_ ?_ _) | (with_reducible apply below_at; (case k => (with_reducible assumption)); (case hB => omega)) | (with_reducible apply below_on; (with_reducible assumption)) | (go_size; done) | (with_reducible apply size_of)))⟩
        · go_enter Try.func19, Try.ntmps19
          go_wp2_with fail
          go_ret
          exact ⟨by rw [HV.out]; first | (rw [if_neg (by omega)]; rfl) | (rw [if_pos (by omega)]; rfl), by (repeat' (first | (with_reducible exact Below.refl _ _) | (with_reducible assumption) | (with_reducible refine below_drewN ?_ _) | (with_reducible refine below_new ?_ _) | (with_reducible refine Below.alloc ?_ ?_ _) | (with_reducible refine Below.drew ?_) | (with_reducible refine Below.setCell ?_ ?_ _) | (with_reducible apply below_at; (case k => (with_reducible assumption)); (case hB => omega)) | (with_reducible apply below_on; (with_reducible assumption)) | (go_size; done) | (with_reducible apply size_of)))⟩
      · go_enter Try.func19, Try.ntmps19
        go_wp2_with fail
        go_ret
        exact ⟨by rw [HV.out]; first | (rw [if_neg (by omega)]; rfl) | (rw [if_pos (by omega)]; rfl), by (repeat' (first | (with_reducible exact Below.refl _ _) | (with_reducible assumption) | (with_reducible refine below_drewN ?_ _) | (with_reducible refine below_new ?_ _) | (with_reducible refine Below.alloc ?_ ?_ _) | (with_reducible refine Below.drew ?_) | (with_reducible refine Below.setCell ?_ ?_ _) | (with_reducible apply below_at; (case k => (with_reducible assumption)); (case hB => omega)) | (with_reducible apply below_on; (with_reducible assumption)) | (go_size; done) | (with_reducible apply size_of)))⟩
    · go_enter Try.func19, Try.ntmps19
      go_wp2_with fail
      go_ret
      exact ⟨by rw [HV.out]; first | (rw [if_neg (by omega)]; rfl) | (rw [if_pos (by omega)]; rfl), by (repeat' (first | (with_reducible exact Below.refl _ _) | (with_reducible assumption) | (with_reducible refine below_drewN ?_ _) | (with_reducible refine below_new ?_ _) | (with_reducible refine Below.alloc ?_ ?_ _) | (with_reducible refine Below.drew ?_) | (with_reducible refine Below.setCell ?_ ?_ _) | (with_reducible apply below_at; (case k => (with_reducible assumption)); (case hB => omega)) | (with_reducible apply below_on; (with_reducible assumption)) | (go_size; done) | (with_reducible apply size_of)))⟩
end Go.Proofs.Ytemiecghdmagnaa.maW

namespace Go.Proofs.Ytemiecghdmagnaa.maW
set_option maxRecDepth 100000
open Go.RowKit Go.Proofs.Ytemiecghdmagnaa.base Go.Proofs.Ytemiecghdmagnaa.rgP Go.Proofs.Ytemiecghdmagnaa.fdP Go.Proofs.Ytemiecghdmagnaa.maP Go.Proofs.Ytemiecghdmagnaa.rgW
set_option linter.unusedVariables false
set_option linter.unusedSimpArgs false

theorem ex_no {m : Mt} {r : Rg} (h : exE m r = 8) : exB m r = false ∧ exV m r = 0 := by
  have e : exB m r = false := by rw [exB, if_neg (by omega)]
  exact ⟨e, by rw [exV, if_neg (by rw [e]; decide)]⟩
/-- Where a ring and a match lie. -/
def Two (w W : World) (m : Mt) (r : Rg) (A : Option Addr) (n c : Nat) : Prop := (Lies (W) (w.heap.size) 23 [.int .i64 (m).a, .int .i64 (m).k]) ∧ (Lies (W) (w.heap.size + 1) 26 [.int .i64 (r).l, .slice (A) (n) (c), .int .i64 (r).n]) ∧ RgIn W A n c r ∧ Below w.heap.size w W
theorem Two.past {w W W' : World} {m : Mt} {r : Rg} {A : Option Addr} {n c : Nat} (h : Two w W m r A n c) (hb : Below W.heap.size W W') : Two w W' m r A n c := ⟨h.1.past hb, h.2.1.past hb, h.2.2.1.below hb, h.2.2.2.trans (hb.mono h.2.2.2.size)⟩
theorem two_start (w : World) (m : Mt) (r : Rg) (A : Option Addr) (n c : Nat) (h : RgIn w A n c r) : Two w ((w.alloc (.cells #[.int .i64 m.a, .int .i64 m.k] 23)).alloc (.cells #[.int .i64 r.l, .slice A n c, .int .i64 r.n] 26)) m r A n c := by
  refine ⟨(Lies.fresh _ _ _).alloc _, Lies.fresh_at (by simp), h.below (by (repeat' (first | (with_reducible exact Below.refl _ _) | (with_reducible assumption) | (with_reducible refine below_drewN ?_ _) | (with_reducible refine below_new ?_ _) | (with_reducible refine Below.alloc ?_ ?_ _) | (with_reducible refine Below.drew ?_) | (with_reducible refine Below.setCell ?_ ?_ _) | (with_reducible apply below_at; (case k => (with_reducible assumption)); (case hB => omega)) | (with_reducible apply below_on; (with_reducible assumption)) | (go_size; done) | (with_reducible apply size_of)))), by (repeat' (first | (with_reducible exact Below.refl _ _) | (with_reducible assumption) | (with_reducible refine below_drewN ?_ _) | (with_reducible refine below_new ?_ _) | (with_reducible refine Below.alloc ?_ ?_ _) | (with_reducible refine Below.drew ?_) | (with_reducible refine Below.setCell ?_ ?_ _) | (with_reducible apply below_at; (case k => (with_reducible assumption)); (case hB => omega)) | (with_reducible apply below_on; (with_reducible assumption)) | (go_size; done) | (with_reducible apply size_of)))⟩
set_option maxHeartbeats 1000000 in
theorem Expect_any (m : Mt) (r : Rg) (A : Option Addr) (n c : Nat) (w : World) (h : RgIn w A n c r) :
    Calls Try.prog 12 #[.agg #[.int .i64 (m).a, .int .i64 (m).k], .agg #[.int .i64 (r).l, .slice A n c, .int .i64 (r).n]] w fun e w' => e = .returned (.tuple #[.int .u8 (exV m r), .bool (exB m r), .int .i64 (exE m r)]) ∧ Below w.heap.size w w' := by
  have T0 := Lib.hid (two_start w m r A n c h)
  clear h
  cases hm : mtB m
  · have HE : Hid (mtE m = 8 ∧ exE m r = 8 ∧ exB m r = false ∧ exV m r = 0) := Lib.hid (by
      have e : exE m r = 8 := by rw [exE, hm]; rfl
      exact ⟨mtE_no hm, e, ex_no e⟩)
    clear hm
    go_enter Try.func12, Try.ntmps12
    go_wp2_with fail
    refine (Check_any m _).mono ?_
    rintro e w1 ⟨rfl, hb1⟩
    rw [HE.out.1]
    have T1 := Lib.hid (T0.out.past hb1)
    clear hb1
    go_wp2_with fail
    go_ret3
    exact ⟨by rw [HE.out.2.1, HE.out.2.2.1, HE.out.2.2.2]; rfl, by have := T1.out.2.2.2; (repeat' (first | (with_reducible exact Below.refl _ _) | (with_reducible assumption) | (with_reducible refine below_drewN ?_ _) | (with_reducible refine below_new ?_ _) | (with_reducible refine Below.alloc ?_ ?_ _) | (with_reducible refine Below.drew ?_) | (with_reducible refine Below.setCell ?_ ?_ _) | (with_reducible apply below_at; (case k => (with_reducible assumption)); (case hB => omega)) | (with_reducible apply below_on; (with_reducible assumption)) | (go_size; done) | (with_reducible apply size_of)))⟩
  cases hr : rgOk r
  · have HE : Hid (mtE m = 0 ∧ rgE r = 8 ∧ exE m r = 8 ∧ exB m r = false ∧ exV m r = 0) := Lib.hid (by
      have e : exE m r = 8 := by rw [exE, hm, rgE, hr]; rfl
      exact ⟨mtE_yes hm, by rw [rgE, hr]; rfl, e, ex_no e⟩)
    clear hm hr
    go_enter Try.func12, Try.ntmps12
    go_wp2_with fail
    refine (Check_any m _).mono ?_
    rintro e w1 ⟨rfl, hb1⟩
    rw [HE.out.1]
    have T1 := Lib.hid (T0.out.past hb1)
    obtain ⟨m0, m1, -, -⟩ := T1.out.1.two; obtain ⟨x0, x1, x2, -, -, -⟩ := T1.out.2.1.three; have zl := T1.out.1.lt; have zl2 := T1.out.2.1.lt
    clear hb1
    go_wp2_with fail
    refine (rgW.Check_any r A n c _ T1.out.2.2.1).mono ?_
    rintro e w2 ⟨rfl, hb2⟩
    rw [HE.out.2.1]
    have T2 := Lib.hid (T1.out.past hb2)
    clear hb2
    go_wp2_with fail
    go_ret3
    exact ⟨by rw [HE.out.2.2.1, HE.out.2.2.2.1, HE.out.2.2.2.2]; rfl, by have := T2.out.2.2.2; (repeat' (first | (with_reducible exact Below.refl _ _) | (with_reducible assumption) | (with_reducible refine below_drewN ?_ _) | (with_reducible refine below_new ?_ _) | (with_reducible refine Below.alloc ?_ ?_ _) | (with_reducible refine Below.drew ?_) | (with_reducible refine Below.setCell ?_ ?_ _) | (with_reducible apply below_at; (case k => (with_reducible assumption)); (case hB => omega)) | (with_reducible apply below_on; (with_reducible assumption)) | (go_size; done) | (with_reducible apply size_of)))⟩
  have HE : Hid (mtE m = 0 ∧ rgE r = 0 ∧ exE m r = 0) := Lib.hid ⟨mtE_yes hm, by rw [rgE, hr]; rfl, exE_yes hm hr⟩
  by_cases ha : m.a = -1
  · have HV : Hid (exB m r = false ∧ exV m r = 0) := Lib.hid (by
      have e : exB m r = false := by rw [exB, if_pos HE.out.2.2, ha]; rfl
      exact ⟨e, by rw [exV, e]; rfl⟩)
    have HAA := Lib.hid ha
    clear hm hr ha
    go_enter Try.func12, Try.ntmps12
    go_wp2_with fail
    refine (Check_any m _).mono ?_
    rintro e w1 ⟨rfl, hb1⟩
    rw [HE.out.1]
    have T1 := Lib.hid (T0.out.past hb1)
    obtain ⟨m0, m1, -, -⟩ := T1.out.1.two; obtain ⟨x0, x1, x2, -, -, -⟩ := T1.out.2.1.three; have zl := T1.out.1.lt; have zl2 := T1.out.2.1.lt
    clear hb1
    go_wp2_with fail
    refine (rgW.Check_any r A n c _ T1.out.2.2.1).mono ?_
    rintro e w2 ⟨rfl, hb2⟩
    rw [HE.out.2.1]
    have T2 := Lib.hid (T1.out.past hb2)
    clear hb2 m0 m1 x0 x1 x2 zl zl2
    obtain ⟨m0, m1, -, -⟩ := T2.out.1.two; obtain ⟨x0, x1, x2, -, -, -⟩ := T2.out.2.1.three; have zl := T2.out.1.lt; have zl2 := T2.out.2.1.lt
    have ha := HAA.out
    go_wp2_with fail
    go_ret3
    exact ⟨by rw [HE.out.2.2, HV.out.1, HV.out.2]; rfl, by have := T2.out.2.2.2; (repeat' (first | (with_reducible exact Below.refl _ _) | (with_reducible assumption) | (with_reducible refine below_drewN ?_ _) | (with_reducible refine below_new ?_ _) | (with_reducible refine Below.alloc ?_ ?_ _) | (with_reducible refine Below.drew ?_) | (with_reducible refine Below.setCell ?_ ?_ _) | (with_reducible apply below_at; (case k => (with_reducible assumption)); (case hB => omega)) | (with_reducible apply below_on; (with_reducible assumption)) | (go_size; done) | (with_reducible apply size_of)))⟩
  · have hb := (mtB_iff m).1 hm
    have a0 : 0 ≤ m.a := by omega
    have a1 : m.a ≤ 1073741824 := by omega
    have HV : Hid (atE r m.a = exE m r ∧ atB r m.a = exB m r ∧ atV r m.a = exV m r) := Lib.hid (by
      have e : atE r m.a = 0 := by rw [atE, if_pos hr, if_pos a0]
      have e2 : atB r m.a = exB m r := by rw [atB, if_pos e, exB, if_pos HE.out.2.2, decide_eq_true a0]; rfl
      refine ⟨by rw [e, HE.out.2.2], e2, ?_⟩
      rw [atB, if_pos e] at e2
      rw [atV, if_pos e, exV, e2])
    clear hm hr hb
    go_enter Try.func12, Try.ntmps12
    go_wp2_with fail
    refine (Check_any m _).mono ?_
    rintro e w1 ⟨rfl, hb1⟩
    rw [HE.out.1]
    have T1 := Lib.hid (T0.out.past hb1)
    obtain ⟨m0, m1, -, -⟩ := T1.out.1.two; obtain ⟨x0, x1, x2, -, -, -⟩ := T1.out.2.1.three; have zl := T1.out.1.lt; have zl2 := T1.out.2.1.lt
    clear hb1
    go_wp2_with fail
    refine (rgW.Check_any r A n c _ T1.out.2.2.1).mono ?_
    rintro e w2 ⟨rfl, hb2⟩
    rw [HE.out.2.1]
    have T2 := Lib.hid (T1.out.past hb2)
    clear hb2 m0 m1 x0 x1 x2 zl zl2
    obtain ⟨m0, m1, -, -⟩ := T2.out.1.two; obtain ⟨x0, x1, x2, -, -, -⟩ := T2.out.2.1.three; have zl := T2.out.1.lt; have zl2 := T2.out.2.1.lt
    go_wp2_with fail
    refine (rgW.At_any r A n c m.a _ T2.out.2.2.1 (by omega) (by omega)).mono ?_
    rintro e w3 ⟨rfl, hb3⟩
    have T3 := Lib.hid (T2.out.past hb3)
    clear hb3 m0 m1 x0 x1 x2 zl zl2
    go_wp2_with fail
    go_ret3
    exact ⟨by rw [HV.out.1, HV.out.2.1, HV.out.2.2]; rfl, by have := T3.out.2.2.2; (repeat' (first | (with_reducible exact Below.refl _ _) | (with_reducible assumption) | (with_reducible refine below_drewN ?_ _) | (with_reducible refine below_new ?_ _) | (with_reducible refine Below.alloc ?_ ?_ _) | (with_reducible refine Below.drew ?_) | (with_reducible refine Below.setCell ?_ ?_ _) | (with_reducible apply below_at; (case k => (with_reducible assumption)); (case hB => omega)) | (with_reducible apply below_on; (with_reducible assumption)) | (go_size; done) | (with_reducible apply size_of)))⟩
set_option maxHeartbeats 1000000 in
theorem rExpected_any (m : Mt) (r : Rg) (A : Option Addr) (n c : Nat) (w : World) (h : RgIn w A n c r) (he : exE m r = 0) :
    Calls Try.prog 34 #[.agg #[.int .i64 (m).a, .int .i64 (m).k], .agg #[.int .i64 (r).l, .slice A n c, .int .i64 (r).n]] w fun e w' => e = .returned (.tuple #[.int .u8 (exV m r), .bool (exB m r)]) ∧ Below w.heap.size w w' := by
  have T0 := Lib.hid (two_start w m r A n c h)
  obtain ⟨hm, hr⟩ := exE_parts he
  have HE := Lib.hid he
  have hb := (mtB_iff m).1 hm
  obtain ⟨a1, a2, a3, a4⟩ := rgW.ok_parts h hr
  have HOK := Lib.hid hr
  have hlen := h.e
  by_cases ha : m.a < 0
  · have HV : Hid (exB m r = false ∧ exV m r = 0) := Lib.hid (by
      have e : exB m r = false := by rw [exB, if_pos he, decide_eq_false (by omega)]; rfl
      exact ⟨e, by rw [exV, e]; rfl⟩)
    clear hm hr h he hb a1 a2 a3 a4 hlen
    go_enter Try.func34, Try.ntmps34
    go_wp2_with fail
    go_ret2
    exact ⟨by rw [HV.out.1, HV.out.2]; rfl, by (repeat' (first | (with_reducible exact Below.refl _ _) | (with_reducible assumption) | (with_reducible refine below_drewN ?_ _) | (with_reducible refine below_new ?_ _) | (with_reducible refine Below.alloc ?_ ?_ _) | (with_reducible refine Below.drew ?_) | (with_reducible refine Below.setCell ?_ ?_ _) | (with_reducible apply below_at; (case k => (with_reducible assumption)); (case hB => omega)) | (with_reducible apply below_on; (with_reducible assumption)) | (go_size; done) | (with_reducible apply size_of)))⟩
  · have m0' : 0 ≤ m.a := by omega
    have m1' : m.a ≤ 1073741824 := by omega
    have HT := Lib.hid (fun W => rgW.rThere_any r A n c m.a W m0' (by omega) (by omega) (by omega) (by omega) hlen)
    have HA := Lib.hid (fun W hW => rgW.rAgo_any r A n c (r.n - m.a) W hW hr)
    cases hB : isB r m.a
    · have HV : Hid (exB m r = false ∧ exV m r = 0) := Lib.hid (by
        have e : exB m r = false := by rw [exB, if_pos he, hB, Bool.and_false]
        exact ⟨e, by rw [exV, e]; rfl⟩)
      have HB := Lib.hid hB
      clear hm hr h he hb a1 a2 a3 a4 hlen hB
      obtain ⟨m0, m1, -, -⟩ := T0.out.1.two; obtain ⟨x0, x1, x2, -, -, -⟩ := T0.out.2.1.three; have zl := T0.out.1.lt; have zl2 := T0.out.2.1.lt
      go_enter Try.func34, Try.ntmps34
      go_wp2_with fail
      refine (HT.out _).mono ?_
      rintro e w1 ⟨rfl, hb1⟩
      rw [HB.out]
      have T1 := Lib.hid (T0.out.past hb1)
      clear hb1 m0 m1 x0 x1 x2 zl zl2
      go_wp2_with fail
      go_ret2
      exact ⟨by rw [HV.out.1, HV.out.2]; rfl, by have := T1.out.2.2.2; (repeat' (first | (with_reducible exact Below.refl _ _) | (with_reducible assumption) | (with_reducible refine below_drewN ?_ _) | (with_reducible refine below_new ?_ _) | (with_reducible refine Below.alloc ?_ ?_ _) | (with_reducible refine Below.drew ?_) | (with_reducible refine Below.setCell ?_ ?_ _) | (with_reducible apply below_at; (case k => (with_reducible assumption)); (case hB => omega)) | (with_reducible apply below_on; (with_reducible assumption)) | (go_size; done) | (with_reducible apply size_of)))⟩
    · have HV : Hid (exB m r = true ∧ exV m r = ago r (r.n - m.a)) := Lib.hid (by
        have e : exB m r = true := by rw [exB, if_pos he, hB, decide_eq_true m0']; rfl
        exact ⟨e, by rw [exV, e]; rfl⟩)
      have hB' := hB
      unfold isB at hB'
      rw [Bool.and_eq_true] at hB'
      have n1 := of_decide_eq_true hB'.1
      have HB := Lib.hid hB
      clear hm hr h he hb hlen hB hB'
      obtain ⟨m0, m1, -, -⟩ := T0.out.1.two; obtain ⟨x0, x1, x2, -, -, -⟩ := T0.out.2.1.three; have zl := T0.out.1.lt; have zl2 := T0.out.2.1.lt
      go_enter Try.func34, Try.ntmps34
      go_wp2_with fail
      refine (HT.out _).mono ?_
      rintro e w1 ⟨rfl, hb1⟩
      rw [HB.out]
      have T1 := Lib.hid (T0.out.past hb1)
      clear hb1 m0 m1 x0 x1 x2 zl zl2
      obtain ⟨m0, m1, -, -⟩ := T1.out.1.two; obtain ⟨x0, x1, x2, -, -, -⟩ := T1.out.2.1.three; have zl := T1.out.1.lt; have zl2 := T1.out.2.1.lt
      go_wp2_with fail
      refine (HA.out _ T1.out.2.2.1 (by omega) (by omega)).mono ?_
      rintro e w2 ⟨rfl, hb2⟩
      have T2 := Lib.hid (T1.out.past hb2)
      clear hb2 m0 m1 x0 x1 x2 zl zl2
      go_wp2_with fail
      go_ret2
      exact ⟨by rw [HV.out.1, HV.out.2]; rfl, by have := T2.out.2.2.2; (repeat' (first | (with_reducible exact Below.refl _ _) | (with_reducible assumption) | (with_reducible refine below_drewN ?_ _) | (with_reducible refine below_new ?_ _) | (with_reducible refine Below.alloc ?_ ?_ _) | (with_reducible refine Below.drew ?_) | (with_reducible refine Below.setCell ?_ ?_ _) | (with_reducible apply below_at; (case k => (with_reducible assumption)); (case hB => omega)) | (with_reducible apply below_on; (with_reducible assumption)) | (go_size; done) | (with_reducible apply size_of)))⟩
end Go.Proofs.Ytemiecghdmagnaa.maW
