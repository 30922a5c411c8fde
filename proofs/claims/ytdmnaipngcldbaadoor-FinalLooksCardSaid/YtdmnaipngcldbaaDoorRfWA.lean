/- New refiners, by walks. -/
import Derived.Test.YtdmnaipngcldbaaDoorRfW9
import Derived.Test.YtdmnaipngcldbaaDoorClone32
import Derived.Test.YtdmnaipngcldbaaDoorOrd
namespace Go.Proofs.YtdmnaipngcldbaaDoor.rfP
set_option maxRecDepth 100000
open Go.Proofs.YtdmnaipngcldbaaDoor.base
/-- The first rows are new ones. -/
def FullTo (rs : List RY) (k : Nat) : Prop := ∀ i, i < k → (rs.getD i ry0).b = sqRow
theorem full_zero (rs : List RY) : FullTo rs 0 := fun _ h => absurd h (Nat.not_lt_zero _)
theorem full_set {rs : List RY} {k : Nat} (h : FullTo rs k) (hk : k < rs.length) (A : Option Addr) (n c : Nat) : FullTo (rs.set k ⟨A, n, c, sqRow⟩) (k + 1) := fun i hi => by
  by_cases e : k = i
  · subst e; rw [gd_set_eq hk]
  · rw [gd_set_ne e]; exact h i (by omega)
theorem full_snoc {rs : List RY} (h : FullTo rs rs.length) (A : Option Addr) (n c : Nat) : FullTo (rs ++ [⟨A, n, c, sqRow⟩]) (rs.length + 1) := fun i hi => by
  by_cases e : i < rs.length
  · rw [gd_snoc_lt e]; exact h i e
  · obtain rfl : i = rs.length := by omega
    rw [gd_snoc_eq]
theorem full_all {rs : List RY} {m : Nat} (hl : rs.length = m) (h : FullTo rs m) : numsY rs = List.replicate m sqRow := by
  subst hl
  apply List.ext_getElem
  · simp [numsY]
  · intro i h1 h2
    have hi : i < rs.length := by simpa [numsY] using h1
    have := h i hi
    rw [List.getD_eq_getElem?_getD, List.getElem?_eq_getElem hi] at this
    simp [numsY]
    exact this
theorem new_ok {m : Nat} (h1 : 1 ≤ m) (h2 : m ≤ 256) : rfB (List.replicate m sqRow) = true := by
  rw [rfB_iff]
  refine ⟨by simpa using h1, by simpa using h2, fun z hz => ?_⟩
  rw [(List.mem_replicate.1 hz).2]
  exact (rowB_iff _).1 sqRow_ok
end Go.Proofs.YtdmnaipngcldbaaDoor.rfP
namespace Go.Proofs.YtdmnaipngcldbaaDoor.rfW
set_option maxRecDepth 100000
open Go.RowKit Go.Proofs.YtdmnaipngcldbaaDoor.base Go.Proofs.YtdmnaipngcldbaaDoor.rfP Go.Proofs.YtdmnaipngcldbaaDoor.sqP Go.Proofs.YtdmnaipngcldbaaDoor.sqW
set_option linter.unusedVariables false
set_option linter.unusedSimpArgs false
set_option maxHeartbeats 400000 in
theorem New_bad (n : Int) (w : World) (h : n < 1 ∨ 256 < n) :
    Calls Tryd.prog 35 #[.int .i64 n] w fun e w' => e = .returned (.tuple #[.agg #[.slice none 0 0], .int .i64 2]) ∧ Below w.heap.size w w' := by
  by_cases c1 : n < 1
  · clear h
    go_enter Tryd.func35, Tryd.ntmps35
    go_wp2
    refine bodyPost_ret (by simp [results, Tryd.results35, go_sem, ]; try rfl) rfl ?_
    exact ⟨rfl, by (repeat' (first | (with_reducible exact Below.refl _ _) | (with_reducible assumption) | (with_reducible refine below_drewN ?_ _) | (with_reducible refine below_new ?_ _) | (with_reducible refine Below.alloc ?_ ?_ _) | (with_reducible refine Below.drew ?_) | (with_reducible refine Below.setCell ?_ ?_ _) | (with_reducible apply below_at; (case k => (with_reducible assumption)); (case hB => omega)) | (with_reducible apply below_on; (with_reducible assumption)) | (go_size; done) | (with_reducible apply size_of)))⟩
  · have c2 : 256 < n := by omega
    have c3 : decide (n < 1) = false := decide_eq_false c1
    have c4 : 0 ≤ n := by omega
    clear h c1
    go_enter Tryd.func35, Tryd.ntmps35
    go_wp2
    refine bodyPost_ret (by simp [results, Tryd.results35, go_sem, ]; try rfl) rfl ?_
    exact ⟨rfl, by (repeat' (first | (with_reducible exact Below.refl _ _) | (with_reducible assumption) | (with_reducible refine below_drewN ?_ _) | (with_reducible refine below_new ?_ _) | (with_reducible refine Below.alloc ?_ ?_ _) | (with_reducible refine Below.drew ?_) | (with_reducible refine Below.setCell ?_ ?_ _) | (with_reducible apply below_at; (case k => (with_reducible assumption)); (case hB => omega)) | (with_reducible apply below_on; (with_reducible assumption)) | (go_size; done) | (with_reducible apply size_of)))⟩
set_option maxHeartbeats 800000 in
theorem New_ok (m : Nat) (w : World) (hT : Tab w) (h1 : 1 ≤ m) (h2 : m ≤ 256) :
    Calls Tryd.prog 35 #[.int .i64 m] w fun e w' => ∃ g rs, e = .returned (.tuple #[.agg #[.slice (some ⟨g, 0, none⟩) m m], .int .i64 0]) ∧ OwnR w' w.heap.size (.slice (some ⟨g, 0, none⟩) m m) rs ∧ rs.length = m ∧ numsY rs = List.replicate m sqRow ∧ Below w.heap.size w w' := by
  have HT := Lib.hid hT
  have HM := Lib.hid (And.intro h1 h2)
  have i1 : ¬ (m : Int) < 1 := by omega
  have i2 : (m : Int) ≤ 256 := by omega
  have i3 : 1 ≤ (m : Int) := by omega
  clear hT h1 h2
  go_enter Tryd.func35, Tryd.ntmps35
  go_wp2_with (at_make; refine makeRY rfl _ _ rfl .i64 .i64 m rfl rfl (by have := HM.out; omega) w.heap.size (by simp) ?_; intro w1 ho1 hb1; rw [World.size_alloc] at ho1; have HO1 := Lib.hid ho1; have HB1 := Lib.hid hb1; clear ho1 hb1)
  have HX : Hid (OwnR (w1.alloc (.cells #[.slice (some ⟨w.heap.size + 1, 0, none⟩) m m] 24)) w.heap.size (.slice (some ⟨w.heap.size + 1, 0, none⟩) m m) (List.replicate m ry0) ∧ Lies (w1.alloc (.cells #[.slice (some ⟨w.heap.size + 1, 0, none⟩) m m] 24)) w1.heap.size 24 [.slice (some ⟨w.heap.size + 1, 0, none⟩) m m] ∧ Lies (w1.alloc (.cells #[.slice (some ⟨w.heap.size + 1, 0, none⟩) m m] 24)) w.heap.size 24 [.slice none 0 0] ∧ Below w.heap.size w (w1.alloc (.cells #[.slice (some ⟨w.heap.size + 1, 0, none⟩) m m] 24)) ∧ w.heap.size < w1.heap.size) := Lib.hid (by
    have b0 : Below w.heap.size w w1 := ((Below.refl _ _).alloc (Nat.le_refl _) _).trans (HB1.out.mono (by simp))
    have hs := HB1.out.size
    rw [World.size_alloc] at hs
    exact ⟨HO1.out.alloc _, Lies.fresh _ _ _, ((Lies.fresh w 24 [.slice none 0 0]).past HB1.out).alloc _, b0.alloc b0.size _, by omega⟩)
  clear HO1 HB1
  generalize hW0 : w1.alloc (.cells #[.slice (some ⟨w.heap.size + 1, 0, none⟩) m m] 24) = W0 at *
  generalize w1.heap.size = g4 at *
  generalize w.heap.size + 1 = gr at *
  clear hW0
  refine (newRow_any W0 (HT.out.below HX.out.2.2.2.1)).mono ?_
  rintro e w2 ⟨rfl, ho2, hb2⟩
  have HO2 := Lib.hid ho2
  have HX2 : Hid (OwnR w2 w.heap.size (.slice (some ⟨gr, 0, none⟩) m m) (List.replicate m ry0) ∧ Lies w2 g4 24 [.slice (some ⟨gr, 0, none⟩) m m] ∧ Lies w2 w.heap.size 24 [.slice none 0 0] ∧ Below w.heap.size w w2) := Lib.hid ⟨HX.out.1.past hb2, HX.out.2.1.past hb2, HX.out.2.2.1.past hb2, HX.out.2.2.2.1.trans (hb2.mono HX.out.2.2.2.1.size)⟩
  have HS := Lib.hid HX.out.2.2.2.2
  obtain ⟨gf, hgf⟩ : ∃ gf, W0.heap.size = gf := ⟨_, rfl⟩
  have HGF : Hid (w.heap.size ≤ gf) := Lib.hid (by rw [← hgf]; exact HX.out.2.2.2.1.size)
  rw [hgf] at HO2 ⊢
  clear ho2 hb2 HX hgf
  have y1 : w2.cell? ⟨g4, 0, none⟩ = some (.slice (some ⟨gr, 0, none⟩) m m) := HX2.out.2.1.cell 0
  go_wp2_with fail
  clear y1
  go_loopw [21] (fun iv wr => ∃ (k : Nat) (rs : List RY), k ≤ m ∧ iv = .int .i64 k ∧ rs.length = m ∧ FullTo rs k ∧ OwnR wr w.heap.size (.slice (some ⟨gr, 0, none⟩) m m) rs ∧ Lies wr g4 24 [.slice (some ⟨gr, 0, none⟩) m m] ∧ Lies wr w.heap.size 24 [.slice none 0 0] ∧ OwnI wr gf 21 .i32 (.slice (some ⟨gf, 0, none⟩) 33 33) sqRow ∧ Below w.heap.size w wr) (fun iv _ => m - (intOf iv).toNat)
  case atStart => exact ⟨0, List.replicate m ry0, by omega, rfl, List.length_replicate .., full_zero _, HX2.out.1, HX2.out.2.1, HX2.out.2.2.1, HO2.out, HX2.out.2.2.2⟩
  case round =>
    obtain ⟨k, rs, hk, rfl, hl, hf, hor, hl4, hl0, hof, hb⟩ := hrel
    have HL := Lib.hid (And.intro hl hf)
    have HR := Lib.hid (And.intro hor (And.intro hl4 (And.intro hl0 (And.intro hof hb))))
    clear hl hf hor hl4 hl0 hof hb
    by_cases hlt : k < m
    · have HLT := Lib.hid hlt
      have k1 : (k : Int) < m := by omega
      have k0 : 0 ≤ (k : Int) := by omega
      clear hlt hk
      go_upto_region 8 with fail
      (have RD := grows_roads (S := fun x' => OwnR x' w.heap.size (.slice (some ⟨gr, 0, none⟩) m m) rs ∧ Lies x' g4 24 [.slice (some ⟨gr, 0, none⟩) m m] ∧ Lies x' w.heap.size 24 [.slice none 0 0] ∧ OwnI x' gf 21 .i32 (.slice (some ⟨gf, 0, none⟩) 33 33) sqRow ∧ Below w.heap.size w x') (fun a b h1 h2 => ⟨h2.1.past h1, h2.2.1.past h1, h2.2.2.1.past h1, h2.2.2.2.1.below h1 (Nat.le_refl _), h2.2.2.2.2.trans (h1.mono h2.2.2.2.2.size)⟩)); refine region_ordT 5 _ Grows RD (by have d0 := Below.drew (Below.refl wr.heap.size wr); exact ⟨HR.out.1.past d0, HR.out.2.1.past d0, HR.out.2.2.1.past d0, HR.out.2.2.2.1.below d0 (Nat.le_refl _), HR.out.2.2.2.2.trans (d0.mono HR.out.2.2.2.2.size)⟩) (by kernel_rfl) (by decide) ?_; intro ops Q' hops hPQ hN; (have HNS : Hid (Region.noSelect ops = true ∧ Region.sinkB .any ops 5 = true ∧ Region.chainB .any ops 5 = true ∧ 5 < ops.size) := Lib.hid (by rw [hops]; exact ⟨by kernel_rfl, by kernel_rfl, by kernel_rfl, by decide⟩)); (have hsz : ops.size = 7 := (by rw [hops]; rfl)); have HOP := Lib.hid hops; have HPQ := Lib.hid hPQ; have HN := Lib.hid hN; rw [hsz]; clear hops hsz hPQ hN
      refine ordT_take RD 0 (at_list (by rw [HOP.out]; rfl)) HNS.out HPQ.out (by rw [HOP.out]; kernel_rfl) (by rw [HOP.out]; kernel_rfl) (by rw [HOP.out]; rfl) (fun K hK => ?_); apply Exists.intro; refine ⟨fun W hSW => ?_, hK _ ?_⟩; (focus ((try dsimp only at hSW); go_simp; try with_reducible rfl)); clear hK K; (try simp only [Act.put, List.setIfInBounds_toArray, List.set_cons_zero, List.set_cons_succ])
      refine ordT_take RD 1 (at_list (by rw [HOP.out]; rfl)) HNS.out HPQ.out (by rw [HOP.out]; kernel_rfl) (by rw [HOP.out]; kernel_rfl) (by rw [HOP.out]; rfl) (fun K hK => ?_); apply Exists.intro; refine ⟨fun W hSW => ?_, hK _ ?_⟩; (focus ((try dsimp only at hSW); (obtain ⟨z1, z2⟩ := hSW.2.1.one); go_simp; try with_reducible rfl)); clear hK K; (try simp only [Act.put, List.setIfInBounds_toArray, List.set_cons_zero, List.set_cons_succ])
      refine ordT_take RD 2 (at_list (by rw [HOP.out]; rfl)) HNS.out HPQ.out (by rw [HOP.out]; kernel_rfl) (by rw [HOP.out]; kernel_rfl) (by rw [HOP.out]; rfl) (fun K hK => ?_); apply Exists.intro; refine ⟨fun W hSW => ?_, hK _ ?_⟩; (focus ((try dsimp only at hSW); go_simp; try with_reducible rfl)); clear hK K; (try simp only [Act.put, List.setIfInBounds_toArray, List.set_cons_zero, List.set_cons_succ])
      refine ordT_take RD 3 (at_list (by rw [HOP.out]; rfl)) HNS.out HPQ.out (by rw [HOP.out]; kernel_rfl) (by rw [HOP.out]; kernel_rfl) (by rw [HOP.out]; rfl) (fun K hK => ?_); apply Exists.intro; refine ⟨fun W hSW => ?_, hK _ ?_⟩; (focus ((try dsimp only at hSW); go_simp; try with_reducible rfl)); clear hK K; (try simp only [Act.put, List.setIfInBounds_toArray, List.set_cons_zero, List.set_cons_succ])
      refine ordT_one RD 4 (by rw [HOP.out]; kernel_rfl) (at_list (by rw [HOP.out]; rfl)) (by rw [HOP.out]; rfl) (fun W1 hWW hSW K hK => ?_); (try dsimp only at hSW)
      go_simp
      refine (Clone32 hSW.2.2.2.1.has sqRow_len (Nat.le_refl _) (by decide) (by decide)).mono ?_
      rintro e w3 ⟨gc, cc, rfl, oc, bc⟩
      refine hK _ _ ⟨hSW.1.past bc, hSW.2.1.past bc, hSW.2.2.1.past bc, hSW.2.2.2.1.below bc (Nat.le_refl _), hSW.2.2.2.2.trans (bc.mono hSW.2.2.2.2.size)⟩ ?_
      have HOC := Lib.hid (oneR_of oc sqRow_bd)
      have HZ1 := Lib.hid (And.intro hSW.1 hSW.2.2.2.2.size)
      clear oc bc hSW hWW
      clear hK K; (try simp only [Act.put, List.setIfInBounds_toArray, List.set_cons_zero, List.set_cons_succ])
      refine ordT_end (by rw [HOP.out]; kernel_rfl) (fun W3 hWW hSW => ?_); rw [HOP.out]; simp only [List.drop_succ_cons, List.drop_zero]; have hN := HN.out; clear HOP HNS HPQ HN RD; (try dsimp only at hSW)
      have HN := Lib.hid hSW
      have HAP : Hid (OneR W3 w.heap.size ⟨some ⟨gc, 0, none⟩, 33, cc, sqRow⟩ ∧ ∀ j, j < rs.length → j ≠ k → RApart (rs.getD j ry0) ⟨some ⟨gc, 0, none⟩, 33, cc, sqRow⟩ ∧ RApart ⟨some ⟨gc, 0, none⟩, 33, cc, sqRow⟩ (rs.getD j ry0)) := Lib.hid ⟨(HOC.out.below hWW (Nat.le_refl _)).mono HZ1.out.2, fun j hj _ => apart_new (HZ1.out.1.one j hj) HOC.out (Nat.le_refl _)⟩
      have f1 : W3.cell? ⟨gr, k, none⟩ = some (.slice (rs.getD k ry0).A (rs.getD k ry0).n (rs.getD k ry0).c) := HN.out.1.cell k (by rw [HL.out.1]; exact HLT.out)
      have f2 : W3.frozen? ⟨gr, k, none⟩ = false := HN.out.1.frozen k
      clear hSW hWW HOC HZ1
      go_wp2_with fail
      have n1 := HN.out.1.ne HN.out.2.1 (by decide)
      have n2 := HN.out.1.ne HN.out.2.2.1 (by decide)
      exact ⟨⟨k + 1, rs.set k ⟨some ⟨gc, 0, none⟩, 33, cc, sqRow⟩, by have := HLT.out; omega, by go_num, by rw [List.length_set]; exact HL.out.1, full_set HL.out.2 (by rw [HL.out.1]; exact HLT.out) _ _ _, HN.out.1.put k ⟨some ⟨gc, 0, none⟩, 33, cc, sqRow⟩ HAP.out.1 HAP.out.2, HN.out.2.1.other n1 _, HN.out.2.2.1.other n2 _, owni_set HN.out.2.2.2.1 (HN.out.1.ne_own HN.out.2.2.2.1) _, HN.out.2.2.2.2.setCell (HN.out.1.base).1 _⟩, by simp [intOf]; have := HLT.out; omega⟩
    · obtain rfl : k = m := by omega
      clear hlt hk
      have y1 : wr.cell? ⟨g4, 0, none⟩ = some (.slice (some ⟨gr, 0, none⟩) k k) := HR.out.2.1.cell 0
      have y2 : wr.cell? ⟨w.heap.size, 0, none⟩ = some (.slice none 0 0) := HR.out.2.2.1.cell 0
      have y3 : wr.frozen? ⟨w.heap.size, 0, none⟩ = false := HR.out.2.2.1.free 0
      have n2 := HR.out.1.ne HR.out.2.2.1 (by decide)
      go_wp2_with fail
      have K := HR.out.2.2.1.set 0 (.slice (some ⟨gr, 0, none⟩) k k)
      have k1 : (wr.setCell ⟨w.heap.size, 0, none⟩ (.slice (some ⟨gr, 0, none⟩) k k)).cell? ⟨w.heap.size, 0, none⟩ = some (.slice (some ⟨gr, 0, none⟩) k k) := K.cell 0
      refine bodyPost_ret (by simp [results, Tryd.results35, go_sem, k1]; try rfl) rfl ?_
      exact ⟨gr, rs, rfl, HR.out.1.other HR.out.2.2.1 (by decide) (by decide) 0 _, HL.out.1, full_all HL.out.1 HL.out.2, HR.out.2.2.2.2.setCell (Nat.le_refl _) _⟩
end Go.Proofs.YtdmnaipngcldbaaDoor.rfW
