/- The reference's Parse, by a walk. -/
import Derived.Test.YteofindkccndjaaDoorHdW6
namespace Go.Proofs.YteofindkccndjaaDoor.hdP
set_option maxRecDepth 100000
def smK (x : Hd) (k : Nat) : Hd := ⟨x.mo, x.me, x.of, x.ra, x.le, x.s.take k ++ List.replicate (20 - k) 0⟩
theorem smK_20 {x : Hd} (h : x.s.length = 20) : smK x 20 = x := by
  unfold smK; rw [List.take_of_length_le (by omega)]; simp
theorem smK_bd {x : Hd} (h : Bd x) (k : Nat) (hk : k ≤ 20) : Bd (smK x k) := ⟨h.mo, h.me, h.of, h.ra, h.le, by simp [smK, h.n]; omega, by
  intro z hz
  rcases List.mem_append.1 hz with c | c
  · exact h.s z (List.mem_of_mem_take c)
  · rw [(List.mem_replicate.1 c).2]; omega⟩
theorem smK_set {x : Hd} (h : x.s.length = 20) (k : Nat) (hk : k < 20) (z : Int) (hz : z = x.s.getD k 0) : (smK x k).s.set k z = (smK x (k + 1)).s := by
  subst hz
  have e : 20 - k = (19 - k) + 1 := by omega
  have e2 : 20 - (k + 1) = 19 - k := by omega
  have e3 : (x.s.take k).length = k := by rw [List.length_take]; omega
  simp only [smK]
  rw [e2, base.take_snoc 0 x.s k (by omega), e, List.replicate_succ, List.set_append_right _ _ (by omega), e3, Nat.sub_self, List.set_cons_zero]
  simp
end Go.Proofs.YteofindkccndjaaDoor.hdP
namespace Go.Proofs.YteofindkccndjaaDoor.hdW
set_option maxRecDepth 100000
open Go.RowKit Go.Proofs.YteofindkccndjaaDoor.base Go.Proofs.YteofindkccndjaaDoor.hdP
set_option linter.unusedVariables false
set_option linter.unusedSimpArgs false
theorem HdAt.sets {w : World} {g : Nat} {h : Hd} (k : HdAt w g h) (i : Nat) (z : Int) {h' : Hd} (e : h' = ⟨h.mo, h.me, h.of, h.ra, h.le, h.s.set i z⟩) : HdAt (w.setCell ⟨g, 5 + i, none⟩ (.int .u8 z)) g h' := by
  subst e
  have := Lies.set k (5 + i) (.int .u8 z)
  rw [show (hl h).set (5 + i) (.int .u8 z) = hl ⟨h.mo, h.me, h.of, h.ra, h.le, h.s.set i z⟩ by rw [Nat.add_comm]; simp [hl, sv, List.map_set]] at this
  exact this
set_option maxRecDepth 100000 in
set_option maxHeartbeats 1600000 in
theorem rParse (b : List Int) (A : Option Addr) (n d : Nat) (w : World) (hA : Has .u8 w A b) (hl : b.length = n) (hd : n ≤ d) (hm : n ≤ 9223372036854775807) (hb : ∀ z ∈ b, 0 ≤ z ∧ z ≤ 255) :
    Calls Tryd.prog 12 #[.slice A n d] w fun e w' => e = .returned (.tuple #[.agg (hv (paV b)), .int .i64 (paE b)]) ∧ Below w.heap.size w w' := by
  have n9 : (n : Int) ≤ 9223372036854775807 := by omega
  have zv := zv_nul
  have bn := bld_nul
  have HZ := Lib.hid (hdAt_new w nul)
  have HA := Lib.hid hA
  have HL := Lib.hid hl
  have HB := Lib.hid hb
  have B0 : Hid (Below w.heap.size w (w.alloc (.cells (hv nul) 25))) := Lib.hid (by (repeat' (first | (with_reducible exact Below.refl _ _) | (with_reducible assumption) | (with_reducible refine below_drewN ?_ _) | (with_reducible refine below_new ?_ _) | (with_reducible refine Below.alloc ?_ ?_ _) | (with_reducible refine Below.drew ?_) | (with_reducible refine Below.setCell ?_ ?_ _) | (with_reducible apply below_at; (case k => (with_reducible assumption)); (case hB => omega)) | (with_reducible apply below_on; (with_reducible assumption)) | (go_size; done) | (with_reducible apply size_of))))
  by_cases c : n = 28
  · subst c
    have HD : Hid (28 ≤ d) := Lib.hid hd
    have d28 : (28 : Int) ≤ d := by omega
    clear hA hl hd hm hb n9
    go_enter Tryd.func12, Tryd.ntmps12
    go_upto_region 3 with fail
    generalize (w.alloc (.cells (hv nul) 25)) = wr at *
    have acc := B0.out
    obtain ⟨bb, off, rfl, hbb, hcc⟩ := in_at HA.out acc (show 8 < b.length by rw [HL.out]; omega)
    have HBL : Hid (bb < wr.heap.size) := Lib.hid (by have := acc.size; omega)
    obtain ⟨x, hx⟩ : ∃ x, of_ b = x := ⟨_, rfl⟩
    have HBX : Hid (Bd x) := Lib.hid (by rw [← hx]; exact of_bd HL.out HB.out)
    have HPV : Hid (paV b = (if Ok x then x else nul) ∧ paE b = (if Ok x then 0 else 12)) := Lib.hid (by
      rw [← hx]
      by_cases k : Ok (of_ b)
      · have t : paB b := ⟨HL.out, k⟩
        exact ⟨by rw [paV, if_pos t, if_pos k], by rw [paE, if_pos t, if_pos k]⟩
      · have t : ¬ paB b := fun h => k h.2
        exact ⟨by rw [paV, if_neg t, if_neg k], by rw [paE, if_neg t, if_neg k]⟩)
    have HC : Hid (∀ W, Below wr.heap.size wr W → ∀ j, j < 28 → W.cell? ⟨bb, off + j, none⟩ = some (.int .u8 (b.getD j 0))) := Lib.hid (fun W hW j hj => by
      rw [hW.cell (p := ⟨bb, off + j, none⟩) HBL.out]; exact hcc j (by rw [HL.out]; exact hj))
    have HXS : Hid (x.s = b.drop 8) := Lib.hid (by rw [← hx]; rfl)
    have x0 : x.mo = b.getD 0 0 := by rw [← hx]; rfl
    have x1 : x.me = b.getD 1 0 := by rw [← hx]; rfl
    have x2 : x.of = 256 * b.getD 2 0 + b.getD 3 0 := by rw [← hx]; rfl
    have x3 : x.ra = 256 * b.getD 4 0 + b.getD 5 0 := by rw [← hx]; rfl
    have x4 : x.le = 256 * b.getD 6 0 + b.getD 7 0 := by rw [← hx]; rfl
    have gb := shW.getD_bd HB.out
    have g0 := gb 0
    have g1 := gb 1
    have g2 := gb 2
    have g3 := gb 3
    have g4 := gb 4
    have g5 := gb 5
    have g6 := gb 6
    have g7 := gb 7
    have HGB := Lib.hid gb
    have c1 : IntKind.i64.wrap x.me = x.me := IntWalk.i64_in _ (by omega)
    have c2 : IntKind.i64.wrap (b.getD 2 0) = b.getD 2 0 := IntWalk.i64_in _ (by omega)
    have c3 : IntKind.i64.wrap (b.getD 3 0) = b.getD 3 0 := IntWalk.i64_in _ (by omega)
    have c4 : IntKind.i64.wrap (b.getD 4 0) = b.getD 4 0 := IntWalk.i64_in _ (by omega)
    have c5 : IntKind.i64.wrap (b.getD 5 0) = b.getD 5 0 := IntWalk.i64_in _ (by omega)
    have c6 : IntKind.i64.wrap (b.getD 6 0) = b.getD 6 0 := IntWalk.i64_in _ (by omega)
    have c7 : IntKind.i64.wrap (b.getD 7 0) = b.getD 7 0 := IntWalk.i64_in _ (by omega)
    have s2 : IntKind.i64.wrap (b.getD 2 0 * 256) = b.getD 2 0 * 256 := IntWalk.i64_in _ (by omega)
    have s4 : IntKind.i64.wrap (b.getD 4 0 * 256) = b.getD 4 0 * 256 := IntWalk.i64_in _ (by omega)
    have s6 : IntKind.i64.wrap (b.getD 6 0 * 256) = b.getD 6 0 * 256 := IntWalk.i64_in _ (by omega)
    have u2 : IntKind.i64.wrap (b.getD 2 0 * 256 + b.getD 3 0) = x.of := by rw [IntWalk.i64_in _ (by omega)]; omega
    have u4 : IntKind.i64.wrap (b.getD 4 0 * 256 + b.getD 5 0) = x.ra := by rw [IntWalk.i64_in _ (by omega)]; omega
    have u6 : IntKind.i64.wrap (b.getD 6 0 * 256 + b.getD 7 0) = x.le := by rw [IntWalk.i64_in _ (by omega)]; omega
    rw [x1] at c1
    have HX0 := Lib.hid x0
    have HX1 := Lib.hid x1
    have Z0 : Hid (∀ W, Below wr.heap.size wr W → W.cell? ⟨bb, off, none⟩ = some (.int .u8 (b.getD 0 0))) := Lib.hid (fun W hW => HC.out W hW 0 (by omega))
    have Z1 : Hid (∀ W, Below wr.heap.size wr W → W.cell? ⟨bb, off + 1, none⟩ = some (.int .u8 (b.getD 1 0))) := Lib.hid (fun W hW => HC.out W hW 1 (by omega))
    have Z2 : Hid (∀ W, Below wr.heap.size wr W → W.cell? ⟨bb, off + 2, none⟩ = some (.int .u8 (b.getD 2 0))) := Lib.hid (fun W hW => HC.out W hW 2 (by omega))
    have Z3 : Hid (∀ W, Below wr.heap.size wr W → W.cell? ⟨bb, off + 3, none⟩ = some (.int .u8 (b.getD 3 0))) := Lib.hid (fun W hW => HC.out W hW 3 (by omega))
    have Z4 : Hid (∀ W, Below wr.heap.size wr W → W.cell? ⟨bb, off + 4, none⟩ = some (.int .u8 (b.getD 4 0))) := Lib.hid (fun W hW => HC.out W hW 4 (by omega))
    have Z5 : Hid (∀ W, Below wr.heap.size wr W → W.cell? ⟨bb, off + 5, none⟩ = some (.int .u8 (b.getD 5 0))) := Lib.hid (fun W hW => HC.out W hW 5 (by omega))
    have Z6 : Hid (∀ W, Below wr.heap.size wr W → W.cell? ⟨bb, off + 6, none⟩ = some (.int .u8 (b.getD 6 0))) := Lib.hid (fun W hW => HC.out W hW 6 (by omega))
    have Z7 : Hid (∀ W, Below wr.heap.size wr W → W.cell? ⟨bb, off + 7, none⟩ = some (.int .u8 (b.getD 7 0))) := Lib.hid (fun W hW => HC.out W hW 7 (by omega))
    generalize b.getD 0 0 = y0 at *
    generalize b.getD 1 0 = y1 at *
    generalize b.getD 2 0 = y2 at *
    generalize b.getD 3 0 = y3 at *
    generalize b.getD 4 0 = y4 at *
    generalize b.getD 5 0 = y5 at *
    generalize b.getD 6 0 = y6 at *
    generalize b.getD 7 0 = y7 at *
    have ez : (⟨x.mo, x.me, x.of, x.ra, x.le, List.replicate 20 0⟩ : Hd) = smK x 0 := rfl
    clear acc hcc hbb hx x0 x1 x2 x3 x4 zv gb
    (have RD := grows_roads (S := fun x' => Below wr.heap.size wr x') (fun a b h1 h2 => below_bs h2 h1)); refine region_ordT 39 _ Grows RD (Below.drew (Below.refl wr.heap.size wr)) (by kernel_rfl) (by decide) ?_; intro ops Q' hops hPQ hN; (have HNS : Hid (Region.noSelect ops = true ∧ Region.sinkB .any ops 39 = true ∧ Region.chainB .any ops 39 = true ∧ 39 < ops.size) := Lib.hid (by rw [hops]; exact ⟨by kernel_rfl, by kernel_rfl, by kernel_rfl, by decide⟩)); (have hsz : ops.size = 40 := (by rw [hops]; rfl)); have HOP := Lib.hid hops; have HPQ := Lib.hid hPQ; have HN := Lib.hid hN; rw [hsz]; clear hops hsz hPQ hN
    refine ordT_take RD 0 (at_list (by rw [HOP.out]; rfl)) HNS.out HPQ.out (by rw [HOP.out]; kernel_rfl) (by rw [HOP.out]; kernel_rfl) (by rw [HOP.out]; rfl) (fun K hK => ?_); apply Exists.intro; refine ⟨fun W hSW => ?_, hK _ ?_⟩; (focus ((try dsimp only at hSW); go_simp; try with_reducible rfl)); clear hK K; (try simp only [Act.put, List.setIfInBounds_toArray, List.set_cons_zero, List.set_cons_succ])
    refine ordT_take RD 1 (at_list (by rw [HOP.out]; rfl)) HNS.out HPQ.out (by rw [HOP.out]; kernel_rfl) (by rw [HOP.out]; kernel_rfl) (by rw [HOP.out]; rfl) (fun K hK => ?_); apply Exists.intro; refine ⟨fun W hSW => ?_, hK _ ?_⟩; (focus ((try dsimp only at hSW); go_simp; try with_reducible rfl)); clear hK K; (try simp only [Act.put, List.setIfInBounds_toArray, List.set_cons_zero, List.set_cons_succ])
    refine ordT_take RD 2 (at_list (by rw [HOP.out]; rfl)) HNS.out HPQ.out (by rw [HOP.out]; kernel_rfl) (by rw [HOP.out]; kernel_rfl) (by rw [HOP.out]; rfl) (fun K hK => ?_); apply Exists.intro; refine ⟨fun W hSW => ?_, hK _ ?_⟩; (focus ((try dsimp only at hSW); (have z := Z0.out W hSW); go_simp; try with_reducible rfl)); clear hK K; (try simp only [Act.put, List.setIfInBounds_toArray, List.set_cons_zero, List.set_cons_succ])
    refine ordT_take RD 3 (at_list (by rw [HOP.out]; rfl)) HNS.out HPQ.out (by rw [HOP.out]; kernel_rfl) (by rw [HOP.out]; kernel_rfl) (by rw [HOP.out]; rfl) (fun K hK => ?_); apply Exists.intro; refine ⟨fun W hSW => ?_, hK _ ?_⟩; (focus ((try dsimp only at hSW); go_simp; try with_reducible rfl)); clear hK K; (try simp only [Act.put, List.setIfInBounds_toArray, List.set_cons_zero, List.set_cons_succ])
    refine ordT_take RD 4 (at_list (by rw [HOP.out]; rfl)) HNS.out HPQ.out (by rw [HOP.out]; kernel_rfl) (by rw [HOP.out]; kernel_rfl) (by rw [HOP.out]; rfl) (fun K hK => ?_); apply Exists.intro; refine ⟨fun W hSW => ?_, hK _ ?_⟩; (focus ((try dsimp only at hSW); go_simp; try with_reducible rfl)); clear hK K; (try simp only [Act.put, List.setIfInBounds_toArray, List.set_cons_zero, List.set_cons_succ])
    refine ordT_take RD 5 (at_list (by rw [HOP.out]; rfl)) HNS.out HPQ.out (by rw [HOP.out]; kernel_rfl) (by rw [HOP.out]; kernel_rfl) (by rw [HOP.out]; rfl) (fun K hK => ?_); apply Exists.intro; refine ⟨fun W hSW => ?_, hK _ ?_⟩; (focus ((try dsimp only at hSW); (have z := Z1.out W hSW); go_simp; try with_reducible rfl)); clear hK K; (try simp only [Act.put, List.setIfInBounds_toArray, List.set_cons_zero, List.set_cons_succ])
    refine ordT_take RD 6 (at_list (by rw [HOP.out]; rfl)) HNS.out HPQ.out (by rw [HOP.out]; kernel_rfl) (by rw [HOP.out]; kernel_rfl) (by rw [HOP.out]; rfl) (fun K hK => ?_); apply Exists.intro; refine ⟨fun W hSW => ?_, hK _ ?_⟩; (focus ((try dsimp only at hSW); go_simp; try with_reducible rfl)); clear hK K; (try simp only [Act.put, List.setIfInBounds_toArray, List.set_cons_zero, List.set_cons_succ])
    refine ordT_take RD 7 (at_list (by rw [HOP.out]; rfl)) HNS.out HPQ.out (by rw [HOP.out]; kernel_rfl) (by rw [HOP.out]; kernel_rfl) (by rw [HOP.out]; rfl) (fun K hK => ?_); apply Exists.intro; refine ⟨fun W hSW => ?_, hK _ ?_⟩; (focus ((try dsimp only at hSW); go_simp; try with_reducible rfl)); clear hK K; (try simp only [Act.put, List.setIfInBounds_toArray, List.set_cons_zero, List.set_cons_succ])
    refine ordT_take RD 8 (at_list (by rw [HOP.out]; rfl)) HNS.out HPQ.out (by rw [HOP.out]; kernel_rfl) (by rw [HOP.out]; kernel_rfl) (by rw [HOP.out]; rfl) (fun K hK => ?_); apply Exists.intro; refine ⟨fun W hSW => ?_, hK _ ?_⟩; (focus ((try dsimp only at hSW); go_simp; try with_reducible rfl)); clear hK K; (try simp only [Act.put, List.setIfInBounds_toArray, List.set_cons_zero, List.set_cons_succ])
    refine ordT_take RD 9 (at_list (by rw [HOP.out]; rfl)) HNS.out HPQ.out (by rw [HOP.out]; kernel_rfl) (by rw [HOP.out]; kernel_rfl) (by rw [HOP.out]; rfl) (fun K hK => ?_); apply Exists.intro; refine ⟨fun W hSW => ?_, hK _ ?_⟩; (focus ((try dsimp only at hSW); (have z := Z2.out W hSW); go_simp; try with_reducible rfl)); clear hK K; (try simp only [Act.put, List.setIfInBounds_toArray, List.set_cons_zero, List.set_cons_succ])
    refine ordT_take RD 10 (at_list (by rw [HOP.out]; rfl)) HNS.out HPQ.out (by rw [HOP.out]; kernel_rfl) (by rw [HOP.out]; kernel_rfl) (by rw [HOP.out]; rfl) (fun K hK => ?_); apply Exists.intro; refine ⟨fun W hSW => ?_, hK _ ?_⟩; (focus ((try dsimp only at hSW); go_simp; try with_reducible rfl)); clear hK K; (try simp only [Act.put, List.setIfInBounds_toArray, List.set_cons_zero, List.set_cons_succ])
    refine ordT_take RD 11 (at_list (by rw [HOP.out]; rfl)) HNS.out HPQ.out (by rw [HOP.out]; kernel_rfl) (by rw [HOP.out]; kernel_rfl) (by rw [HOP.out]; rfl) (fun K hK => ?_); apply Exists.intro; refine ⟨fun W hSW => ?_, hK _ ?_⟩; (focus ((try dsimp only at hSW); go_simp; try with_reducible rfl)); clear hK K; (try simp only [Act.put, List.setIfInBounds_toArray, List.set_cons_zero, List.set_cons_succ])
    refine ordT_take RD 12 (at_list (by rw [HOP.out]; rfl)) HNS.out HPQ.out (by rw [HOP.out]; kernel_rfl) (by rw [HOP.out]; kernel_rfl) (by rw [HOP.out]; rfl) (fun K hK => ?_); apply Exists.intro; refine ⟨fun W hSW => ?_, hK _ ?_⟩; (focus ((try dsimp only at hSW); go_simp; try with_reducible rfl)); clear hK K; (try simp only [Act.put, List.setIfInBounds_toArray, List.set_cons_zero, List.set_cons_succ])
    refine ordT_take RD 13 (at_list (by rw [HOP.out]; rfl)) HNS.out HPQ.out (by rw [HOP.out]; kernel_rfl) (by rw [HOP.out]; kernel_rfl) (by rw [HOP.out]; rfl) (fun K hK => ?_); apply Exists.intro; refine ⟨fun W hSW => ?_, hK _ ?_⟩; (focus ((try dsimp only at hSW); go_simp; try with_reducible rfl)); clear hK K; (try simp only [Act.put, List.setIfInBounds_toArray, List.set_cons_zero, List.set_cons_succ])
    refine ordT_take RD 14 (at_list (by rw [HOP.out]; rfl)) HNS.out HPQ.out (by rw [HOP.out]; kernel_rfl) (by rw [HOP.out]; kernel_rfl) (by rw [HOP.out]; rfl) (fun K hK => ?_); apply Exists.intro; refine ⟨fun W hSW => ?_, hK _ ?_⟩; (focus ((try dsimp only at hSW); (have z := Z3.out W hSW); go_simp; try with_reducible rfl)); clear hK K; (try simp only [Act.put, List.setIfInBounds_toArray, List.set_cons_zero, List.set_cons_succ])
    refine ordT_take RD 15 (at_list (by rw [HOP.out]; rfl)) HNS.out HPQ.out (by rw [HOP.out]; kernel_rfl) (by rw [HOP.out]; kernel_rfl) (by rw [HOP.out]; rfl) (fun K hK => ?_); apply Exists.intro; refine ⟨fun W hSW => ?_, hK _ ?_⟩; (focus ((try dsimp only at hSW); go_simp; try with_reducible rfl)); clear hK K; (try simp only [Act.put, List.setIfInBounds_toArray, List.set_cons_zero, List.set_cons_succ])
    refine ordT_take RD 16 (at_list (by rw [HOP.out]; rfl)) HNS.out HPQ.out (by rw [HOP.out]; kernel_rfl) (by rw [HOP.out]; kernel_rfl) (by rw [HOP.out]; rfl) (fun K hK => ?_); apply Exists.intro; refine ⟨fun W hSW => ?_, hK _ ?_⟩; (focus ((try dsimp only at hSW); go_simp; try with_reducible rfl)); clear hK K; (try simp only [Act.put, List.setIfInBounds_toArray, List.set_cons_zero, List.set_cons_succ])
    refine ordT_take RD 17 (at_list (by rw [HOP.out]; rfl)) HNS.out HPQ.out (by rw [HOP.out]; kernel_rfl) (by rw [HOP.out]; kernel_rfl) (by rw [HOP.out]; rfl) (fun K hK => ?_); apply Exists.intro; refine ⟨fun W hSW => ?_, hK _ ?_⟩; (focus ((try dsimp only at hSW); go_simp; try with_reducible rfl)); clear hK K; (try simp only [Act.put, List.setIfInBounds_toArray, List.set_cons_zero, List.set_cons_succ])
    refine ordT_take RD 18 (at_list (by rw [HOP.out]; rfl)) HNS.out HPQ.out (by rw [HOP.out]; kernel_rfl) (by rw [HOP.out]; kernel_rfl) (by rw [HOP.out]; rfl) (fun K hK => ?_); apply Exists.intro; refine ⟨fun W hSW => ?_, hK _ ?_⟩; (focus ((try dsimp only at hSW); go_simp; try with_reducible rfl)); clear hK K; (try simp only [Act.put, List.setIfInBounds_toArray, List.set_cons_zero, List.set_cons_succ])
    refine ordT_take RD 19 (at_list (by rw [HOP.out]; rfl)) HNS.out HPQ.out (by rw [HOP.out]; kernel_rfl) (by rw [HOP.out]; kernel_rfl) (by rw [HOP.out]; rfl) (fun K hK => ?_); apply Exists.intro; refine ⟨fun W hSW => ?_, hK _ ?_⟩; (focus ((try dsimp only at hSW); (have z := Z4.out W hSW); go_simp; try with_reducible rfl)); clear hK K; (try simp only [Act.put, List.setIfInBounds_toArray, List.set_cons_zero, List.set_cons_succ])
    refine ordT_take RD 20 (at_list (by rw [HOP.out]; rfl)) HNS.out HPQ.out (by rw [HOP.out]; kernel_rfl) (by rw [HOP.out]; kernel_rfl) (by rw [HOP.out]; rfl) (fun K hK => ?_); apply Exists.intro; refine ⟨fun W hSW => ?_, hK _ ?_⟩; (focus ((try dsimp only at hSW); go_simp; try with_reducible rfl)); clear hK K; (try simp only [Act.put, List.setIfInBounds_toArray, List.set_cons_zero, List.set_cons_succ])
    refine ordT_take RD 21 (at_list (by rw [HOP.out]; rfl)) HNS.out HPQ.out (by rw [HOP.out]; kernel_rfl) (by rw [HOP.out]; kernel_rfl) (by rw [HOP.out]; rfl) (fun K hK => ?_); apply Exists.intro; refine ⟨fun W hSW => ?_, hK _ ?_⟩; (focus ((try dsimp only at hSW); go_simp; try with_reducible rfl)); clear hK K; (try simp only [Act.put, List.setIfInBounds_toArray, List.set_cons_zero, List.set_cons_succ])
    refine ordT_take RD 22 (at_list (by rw [HOP.out]; rfl)) HNS.out HPQ.out (by rw [HOP.out]; kernel_rfl) (by rw [HOP.out]; kernel_rfl) (by rw [HOP.out]; rfl) (fun K hK => ?_); apply Exists.intro; refine ⟨fun W hSW => ?_, hK _ ?_⟩; (focus ((try dsimp only at hSW); go_simp; try with_reducible rfl)); clear hK K; (try simp only [Act.put, List.setIfInBounds_toArray, List.set_cons_zero, List.set_cons_succ])
    refine ordT_take RD 23 (at_list (by rw [HOP.out]; rfl)) HNS.out HPQ.out (by rw [HOP.out]; kernel_rfl) (by rw [HOP.out]; kernel_rfl) (by rw [HOP.out]; rfl) (fun K hK => ?_); apply Exists.intro; refine ⟨fun W hSW => ?_, hK _ ?_⟩; (focus ((try dsimp only at hSW); go_simp; try with_reducible rfl)); clear hK K; (try simp only [Act.put, List.setIfInBounds_toArray, List.set_cons_zero, List.set_cons_succ])
    refine ordT_take RD 24 (at_list (by rw [HOP.out]; rfl)) HNS.out HPQ.out (by rw [HOP.out]; kernel_rfl) (by rw [HOP.out]; kernel_rfl) (by rw [HOP.out]; rfl) (fun K hK => ?_); apply Exists.intro; refine ⟨fun W hSW => ?_, hK _ ?_⟩; (focus ((try dsimp only at hSW); (have z := Z5.out W hSW); go_simp; try with_reducible rfl)); clear hK K; (try simp only [Act.put, List.setIfInBounds_toArray, List.set_cons_zero, List.set_cons_succ])
    refine ordT_take RD 25 (at_list (by rw [HOP.out]; rfl)) HNS.out HPQ.out (by rw [HOP.out]; kernel_rfl) (by rw [HOP.out]; kernel_rfl) (by rw [HOP.out]; rfl) (fun K hK => ?_); apply Exists.intro; refine ⟨fun W hSW => ?_, hK _ ?_⟩; (focus ((try dsimp only at hSW); go_simp; try with_reducible rfl)); clear hK K; (try simp only [Act.put, List.setIfInBounds_toArray, List.set_cons_zero, List.set_cons_succ])
    refine ordT_take RD 26 (at_list (by rw [HOP.out]; rfl)) HNS.out HPQ.out (by rw [HOP.out]; kernel_rfl) (by rw [HOP.out]; kernel_rfl) (by rw [HOP.out]; rfl) (fun K hK => ?_); apply Exists.intro; refine ⟨fun W hSW => ?_, hK _ ?_⟩; (focus ((try dsimp only at hSW); go_simp; try with_reducible rfl)); clear hK K; (try simp only [Act.put, List.setIfInBounds_toArray, List.set_cons_zero, List.set_cons_succ])
    refine ordT_take RD 27 (at_list (by rw [HOP.out]; rfl)) HNS.out HPQ.out (by rw [HOP.out]; kernel_rfl) (by rw [HOP.out]; kernel_rfl) (by rw [HOP.out]; rfl) (fun K hK => ?_); apply Exists.intro; refine ⟨fun W hSW => ?_, hK _ ?_⟩; (focus ((try dsimp only at hSW); go_simp; try with_reducible rfl)); clear hK K; (try simp only [Act.put, List.setIfInBounds_toArray, List.set_cons_zero, List.set_cons_succ])
    refine ordT_take RD 28 (at_list (by rw [HOP.out]; rfl)) HNS.out HPQ.out (by rw [HOP.out]; kernel_rfl) (by rw [HOP.out]; kernel_rfl) (by rw [HOP.out]; rfl) (fun K hK => ?_); apply Exists.intro; refine ⟨fun W hSW => ?_, hK _ ?_⟩; (focus ((try dsimp only at hSW); go_simp; try with_reducible rfl)); clear hK K; (try simp only [Act.put, List.setIfInBounds_toArray, List.set_cons_zero, List.set_cons_succ])
    refine ordT_take RD 29 (at_list (by rw [HOP.out]; rfl)) HNS.out HPQ.out (by rw [HOP.out]; kernel_rfl) (by rw [HOP.out]; kernel_rfl) (by rw [HOP.out]; rfl) (fun K hK => ?_); apply Exists.intro; refine ⟨fun W hSW => ?_, hK _ ?_⟩; (focus ((try dsimp only at hSW); (have z := Z6.out W hSW); go_simp; try with_reducible rfl)); clear hK K; (try simp only [Act.put, List.setIfInBounds_toArray, List.set_cons_zero, List.set_cons_succ])
    refine ordT_take RD 30 (at_list (by rw [HOP.out]; rfl)) HNS.out HPQ.out (by rw [HOP.out]; kernel_rfl) (by rw [HOP.out]; kernel_rfl) (by rw [HOP.out]; rfl) (fun K hK => ?_); apply Exists.intro; refine ⟨fun W hSW => ?_, hK _ ?_⟩; (focus ((try dsimp only at hSW); go_simp; try with_reducible rfl)); clear hK K; (try simp only [Act.put, List.setIfInBounds_toArray, List.set_cons_zero, List.set_cons_succ])
    refine ordT_take RD 31 (at_list (by rw [HOP.out]; rfl)) HNS.out HPQ.out (by rw [HOP.out]; kernel_rfl) (by rw [HOP.out]; kernel_rfl) (by rw [HOP.out]; rfl) (fun K hK => ?_); apply Exists.intro; refine ⟨fun W hSW => ?_, hK _ ?_⟩; (focus ((try dsimp only at hSW); go_simp; try with_reducible rfl)); clear hK K; (try simp only [Act.put, List.setIfInBounds_toArray, List.set_cons_zero, List.set_cons_succ])
    refine ordT_take RD 32 (at_list (by rw [HOP.out]; rfl)) HNS.out HPQ.out (by rw [HOP.out]; kernel_rfl) (by rw [HOP.out]; kernel_rfl) (by rw [HOP.out]; rfl) (fun K hK => ?_); apply Exists.intro; refine ⟨fun W hSW => ?_, hK _ ?_⟩; (focus ((try dsimp only at hSW); go_simp; try with_reducible rfl)); clear hK K; (try simp only [Act.put, List.setIfInBounds_toArray, List.set_cons_zero, List.set_cons_succ])
    refine ordT_take RD 33 (at_list (by rw [HOP.out]; rfl)) HNS.out HPQ.out (by rw [HOP.out]; kernel_rfl) (by rw [HOP.out]; kernel_rfl) (by rw [HOP.out]; rfl) (fun K hK => ?_); apply Exists.intro; refine ⟨fun W hSW => ?_, hK _ ?_⟩; (focus ((try dsimp only at hSW); go_simp; try with_reducible rfl)); clear hK K; (try simp only [Act.put, List.setIfInBounds_toArray, List.set_cons_zero, List.set_cons_succ])
    refine ordT_take RD 34 (at_list (by rw [HOP.out]; rfl)) HNS.out HPQ.out (by rw [HOP.out]; kernel_rfl) (by rw [HOP.out]; kernel_rfl) (by rw [HOP.out]; rfl) (fun K hK => ?_); apply Exists.intro; refine ⟨fun W hSW => ?_, hK _ ?_⟩; (focus ((try dsimp only at hSW); (have z := Z7.out W hSW); go_simp; try with_reducible rfl)); clear hK K; (try simp only [Act.put, List.setIfInBounds_toArray, List.set_cons_zero, List.set_cons_succ])
    refine ordT_take RD 35 (at_list (by rw [HOP.out]; rfl)) HNS.out HPQ.out (by rw [HOP.out]; kernel_rfl) (by rw [HOP.out]; kernel_rfl) (by rw [HOP.out]; rfl) (fun K hK => ?_); apply Exists.intro; refine ⟨fun W hSW => ?_, hK _ ?_⟩; (focus ((try dsimp only at hSW); go_simp; try with_reducible rfl)); clear hK K; (try simp only [Act.put, List.setIfInBounds_toArray, List.set_cons_zero, List.set_cons_succ])
    refine ordT_take RD 36 (at_list (by rw [HOP.out]; rfl)) HNS.out HPQ.out (by rw [HOP.out]; kernel_rfl) (by rw [HOP.out]; kernel_rfl) (by rw [HOP.out]; rfl) (fun K hK => ?_); apply Exists.intro; refine ⟨fun W hSW => ?_, hK _ ?_⟩; (focus ((try dsimp only at hSW); go_simp; try with_reducible rfl)); clear hK K; (try simp only [Act.put, List.setIfInBounds_toArray, List.set_cons_zero, List.set_cons_succ])
    refine ordT_take RD 37 (at_list (by rw [HOP.out]; rfl)) HNS.out HPQ.out (by rw [HOP.out]; kernel_rfl) (by rw [HOP.out]; kernel_rfl) (by rw [HOP.out]; rfl) (fun K hK => ?_); apply Exists.intro; refine ⟨fun W hSW => ?_, hK _ ?_⟩; (focus ((try dsimp only at hSW); exact (quiet_build _ _ rfl (by rw [Array.toList_map]; rw [← HX0.out, ← HX1.out]; exact built_five x.mo x.me x.of x.ra x.le)))); clear hK K; (try simp only [Act.put, List.setIfInBounds_toArray, List.set_cons_zero, List.set_cons_succ])
    rw [ez]
    have zv := zv_nul
    refine ordT_one RD 38 (by rw [HOP.out]; kernel_rfl) (at_list (by rw [HOP.out]; rfl)) (by rw [HOP.out]; rfl) (fun W0 hWW hSW K hK => ?_); (try dsimp only at hSW)
    go_simp
    have GA := (Below.refl W0.heap.size W0).alloc (Nat.le_refl _) (.cells (hv nul) 25)
    refine hK _ _ (RD.keep GA hSW) ?_
    have HN0 := Lib.hid (hdAt_new W0 nul)
    have HG0 : Hid (w.heap.size < W0.heap.size) := Lib.hid (HZ.out.past hSW).lt
    have HG1 : Hid (wr.heap.size ≤ W0.heap.size) := Lib.hid hSW.size
    clear hSW hWW GA
    clear hK K; (try simp only [Act.put, List.setIfInBounds_toArray, List.set_cons_zero, List.set_cons_succ])
    generalize (W0.alloc (.cells (hv nul) 25)) = w4 at *
    generalize W0.heap.size = gx at *
    refine ordT_end (by rw [HOP.out]; kernel_rfl) (fun W1 hWW hSW => ?_); rw [HOP.out]; simp only [List.drop_succ_cons, List.drop_zero]; have hN := HN.out; clear HOP HNS HPQ HN RD; (try dsimp only at hSW)
    have HN : Hid (∀ (a : Act) (w : World), _ → Q' Exit.normal a w) := Lib.hid hN
    have B1 := Lib.hid hSW
    have HZ1 := Lib.hid (HZ.out.past hSW)
    have HN1 := Lib.hid (HN0.out.past hWW)
    clear hN hWW hSW HN0
    clear Z0 Z1 Z2 Z3 Z4 Z5 Z6 Z7 g0 g1 g2 g3 g4 g5 g6 g7 c1 c2 c3 c4 c5 c6 c7 s2 s4 s6 u2 u4 u6 HX0 HX1
    go_wp2_with (show wpList _ _ _ ({ dst := none, op := Op.store 25 _ _, type := _, pos := _, after := _, guard := none } :: _) _ _; go_must (refine wp_st (g := gx) (h := smK x 0) rfl _ _ rfl (HN1.out) (nul_bd) (smK_bd HBX.out 0 (by omega)) rfl rfl ?_); intro w9 hR9 hb9 hz9)
    have HR9 := Lib.hid hR9
    have B9 := Lib.hid (B1.out.trans (hb9.mono HG1.out))
    have HZ9 := Lib.hid (HZ1.out.below hb9 HG0.out)
    clear hR9 hb9 hz9 HN1 HZ1 B1
    refine HN.out _ _ ?_
    go_wp2_with fail
    go_loopw [5] (fun iv wq => ∃ k : Nat, k ≤ 20 ∧ iv = .int .i64 k ∧ HdAt wq gx (smK x k) ∧ HdAt wq w.heap.size nul ∧ Below wr.heap.size wr wq) (fun iv _ => 20 - (intOf iv).toNat)
    case atStart => exact ⟨0, by omega, rfl, HR9.out, HZ9.out, B9.out⟩
    case round =>
      clear HR9 B9 HZ9
      rename_i wq
      obtain ⟨k, hk, rfl, R, Z, acc⟩ := hrel
      have HR := Lib.hid R
      have HZ := Lib.hid Z
      have HACC := Lib.hid acc
      by_cases hlt : k < 20
      · have HLT := Lib.hid hlt
        have k1 : (k : Int) < 20 := by omega
        obtain ⟨q, hq⟩ : ∃ q, 8 + k = q := ⟨_, rfl⟩
        have hc := HC.out _ acc q (by omega)
        have q9 : (q : Int) < 28 := by omega
        have j1 : IntKind.i64.wrap (8 + (k : Int)) = (q : Int) := by
          rw [show 8 + (k : Int) = (q : Int) by omega]; exact IntWalk.i64_in _ (by omega)
        have hs : (smK x k).s.length = 20 := (smK_bd HBX.out k (by omega)).n
        have HST : Hid (smK x (k + 1) = ⟨(smK x k).mo, (smK x k).me, (smK x k).of, (smK x k).ra, (smK x k).le, (smK x k).s.set k (b.getD q 0)⟩) := Lib.hid (by
          rw [smK_set HBX.out.n k hlt (b.getD q 0) (by rw [HXS.out, ← hq]; simp [List.getD_eq_getElem?_getD, List.getElem?_drop])]; rfl)
        have pc := Lies.cell R (5 + k)
        have e5 : (hl (smK x k))[5 + k]? = some (.int .u8 ((smK x k).s.getD k 0)) := by
          rw [Nat.add_comm]
          show (sv (smK x k).s)[k]? = _
          rw [sv, List.getElem?_map, List.getD_eq_getElem?_getD, List.getElem?_eq_getElem (by omega)]; rfl
        rw [e5] at pc
        have pf := Lies.free R (5 + k)
        generalize b.getD q 0 = y at *
        clear hk R Z acc hlt hq e5 hs
        go_wp2_with fail
        refine ⟨⟨k + 1, by have := HLT.out; omega, by go_num, HR.out.sets k y HST.out, Lies.other HZ.out (by have := HG0.out; simp; omega) _, Below.setCell HACC.out (p := ⟨gx, 5 + k, none⟩) HG1.out _⟩, by simp [intOf]; have := HLT.out; omega⟩
      · obtain rfl : k = 20 := by omega
        have HR1 : Hid (HdAt _ gx x) := Lib.hid (by rw [← smK_20 HBX.out.n]; exact R)
        clear hk R Z acc hlt HR
        have HBD := HBX
        go_wp2_with (show wpList _ _ _ ({ dst := _, op := Op.load 25 _, type := _, pos := _, after := _, guard := _ } :: _) _ _; go_must (refine wp_ld (by rfl) _ rfl (HR1.out) HBD.out rfl ?_))
        refine (rCheck x _ HBX.out).mono ?_
        rintro e w10 ⟨rfl, b10⟩
        have HR10 := Lib.hid (HR1.out.past b10)
        have B10 := Lib.hid (below_bs B0.out (below_bs HACC.out b10))
        have HZ10 := Lib.hid (HZ.out.past b10)
        clear b10
        by_cases k : Ok x
        · have HPW : Hid (paV b = x ∧ paE b = 0) := Lib.hid (by rw [HPV.out.1, HPV.out.2, if_pos k, if_pos k]; exact ⟨rfl, rfl⟩)
          rw [hdE_yes k]
          clear k
          go_wp2_with (first | (show wpList _ _ _ ({ dst := _, op := Op.load 25 _, type := _, pos := _, after := _, guard := _ } :: _) _ _; go_must (refine wp_ld (by rfl) _ rfl (HR10.out) HBD.out rfl ?_)) | (show wpList _ _ _ ({ dst := none, op := Op.store 25 _ _, type := _, pos := _, after := _, guard := none } :: _) _ _; go_must (refine wp_st (g := w.heap.size) (h := x) rfl _ _ rfl (HZ10.out) (nul_bd) (HBX.out) rfl rfl ?_); intro w11 hR11 hb11 hz11))
          refine bodyPost_ret (ret_hd (by exact Tryd.results12) _ _ _ (HBX.out) rfl (hR11)) rfl ?_
          exact ⟨by rw [HPW.out.1, HPW.out.2]; rfl, B10.out.trans hb11⟩
        · have HPW : Hid (paV b = nul ∧ paE b = 12) := Lib.hid (by rw [HPV.out.1, HPV.out.2, if_neg k, if_neg k]; exact ⟨rfl, rfl⟩)
          rw [hdE_no k]
          clear k
          go_wp2_with (first | (show wpList _ _ _ ({ dst := none, op := Op.store 25 _ _, type := _, pos := _, after := _, guard := none } :: _) _ _; go_must (refine wp_st (g := w.heap.size) (h := nul) rfl _ _ rfl (HZ10.out) (nul_bd) (nul_bd) rfl rfl ?_); intro w11 hR11 hb11 hz11))
          refine bodyPost_ret (ret_hd (by exact Tryd.results12) _ _ _ (nul_bd) rfl (hR11)) rfl ?_
          exact ⟨by rw [HPW.out.1, HPW.out.2]; rfl, B10.out.trans hb11⟩
  · have HV : Hid (paV b = nul ∧ paE b = 12) := Lib.hid (by
      have : ¬ paB b := fun h => c (by rw [← HL.out]; exact h.1)
      exact ⟨if_neg this, if_neg this⟩)
    have c' : ¬ (n : Int) = 28 := by omega
    clear hA hl hd hm hb c
    go_enter Tryd.func12, Tryd.ntmps12
    go_wp2_with (show wpList _ _ _ ({ dst := none, op := Op.store 25 _ _, type := _, pos := _, after := _, guard := none } :: _) _ _; go_must (refine wp_st (g := w.heap.size) (h := nul) rfl _ _ rfl (HZ.out) (nul_bd) (nul_bd) rfl rfl ?_); intro w9 hR9 hb9 hz9)
    refine bodyPost_ret (ret_hd (by exact Tryd.results12) _ _ _ (nul_bd) rfl (hR9)) rfl ?_
    exact ⟨by rw [HV.out.1, HV.out.2]; rfl, B0.out.trans hb9⟩
end Go.Proofs.YteofindkccndjaaDoor.hdW
