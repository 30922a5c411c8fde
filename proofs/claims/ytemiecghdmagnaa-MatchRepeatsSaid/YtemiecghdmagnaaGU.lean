/- Several texts as one: MaW5, MaW6. -/
import Derived.Test.YtemiecghdmagnaaGT
import Derived.Test.YtemiecghdmagnaaGL
import Derived.Test.YtemiecghdmagnaaCxW2
import Derived.Test.YtemiecghdmagnaaGP
import Derived.Test.YtemiecghdmagnaaGN
import Derived.Test.YtemiecghdmagnaaGW
namespace Go.Proofs.Ytemiecghdmagnaa.maW
set_option maxRecDepth 100000
open Go.RowKit Go.Proofs.Ytemiecghdmagnaa.base Go.Proofs.Ytemiecghdmagnaa.rgP Go.Proofs.Ytemiecghdmagnaa.fdP Go.Proofs.Ytemiecghdmagnaa.maP Go.Proofs.Ytemiecghdmagnaa.rgW Go.Proofs.Ytemiecghdmagnaa.rgL Go.Proofs.Ytemiecghdmagnaa.hashP Go.Proofs.Ytemiecghdmagnaa.hashW Go.Proofs.Ytemiecghdmagnaa.cxP Go.Proofs.Ytemiecghdmagnaa.cxW
set_option linter.unusedVariables false
set_option linter.unusedSimpArgs false
theorem four_cells {w : World} {G g j : Nat} {a0 a1 a2 v : Value} {t : TypeId} (h : Lies w G t [a0, a1, a2]) (hc : w.cell? ⟨g, j, none⟩ = some v) (hf : w.frozen? ⟨g, j, none⟩ = false) : w.cell? ⟨G, 1, none⟩ = some a1 ∧ w.cell? ⟨G, 2, none⟩ = some a2 ∧ w.cell? ⟨g, j, none⟩ = some (cellOr w g j) ∧ w.frozen? ⟨g, j, none⟩ = false := ⟨h.three.2.1, h.three.2.2.1, cellOr_of hc, hf⟩
set_option maxHeartbeats 4000000 in
theorem rWith_ok (r : Rg) (A : Option Addr) (n c : Nat) (x : Int) (w : World) (h : RgIn w A n c r) (hok : rgOk r = true) (hn : r.n < 1073741824) (x0 : 0 ≤ x) (x1 : x ≤ 255) :
    Calls Try.prog 70 #[.agg #[.int .i64 (r).l, .slice A n c, .int .i64 (r).n], .int .u8 x] w fun e w' => ∃ A' c', e = .returned (.agg #[.int .i64 (putR r [x]).l, .slice A' n c', .int .i64 (putR r [x]).n]) ∧ RgIn w' A' n c' (putR r [x]) ∧ OwnZ w' w.heap.size (.slice A' n c') (putR r [x]).b ∧ Below w.heap.size w w' := by
  have H := Lib.hid h
  have HPE : Hid (putE r [x] = 0) := Lib.hid (by rw [putE, if_pos hok, if_neg (by simp), if_neg (by simp; omega)])
  obtain ⟨a1, a2, a3, a4⟩ := ok_parts h hok
  have HNE : Hid (r.b ≠ []) := Lib.hid (fun e => by have := h.e; rw [e] at this; simp at this; omega)
  obtain ⟨t, ht⟩ : ∃ t : Nat, r.n = t := ⟨r.n.toNat, by omega⟩
  obtain ⟨j, hj⟩ : ∃ j, t % n = j := ⟨_, rfl⟩
  have hjn : j < n := by rw [← hj]; exact Nat.mod_lt _ (by omega)
  have htm : Int.tmod (t : Int) (n : Int) = (j : Int) := by rw [← hj]; exact (Int.ofNat_tmod t n).symm
  have HT := Lib.hid ht
  have HJN := Lib.hid hjn
  have HX := Lib.hid (And.intro x0 x1)
  have HPB : Hid ((putR r [x]).b = r.b.set j x ∧ (putR r [x]).n = (t : Int) + 1 ∧ (putR r [x]).l = r.l) := Lib.hid ⟨by show r.b.set (r.n.toNat % r.b.length) x = _; rw [ht, h.e, Int.toNat_natCast, hj], by show r.n + 1 = _; rw [ht], rfl⟩
  have t1 : (t : Int) ≤ 1073741824 := by omega
  have t0 : 0 ≤ (t : Int) := by omega
  have n1 : (n : Int) ≤ 8192 := by omega
  have n3 : ¬ ((n : Int) = 0) := by omega
  have n4 : ((n : Int) == 0) = false := by simpa using n3
  have j1 : (j : Int) < n := by omega
  have n5 : ¬ n = 0 := by omega
  have n6 : (n == 0) = false := by simpa using n5
  have j2 : 0 ≤ (j : Int) := by omega
  have hw : IntKind.i64.wrap (Int.tmod (t : Int) (n : Int)) = (j : Int) := by rw [htm, IntKind.wrap_i64]; omega
  have HN83 : Hid (n ≤ 8300) := Lib.hid (by omega)
  clear h hok hn x0 x1 a1 a2 a3 a4 hj hjn hw ht
  go_enter Try.func70, Try.ntmps70
  go_wp2_with fail
  refine (Twin_any r A n c _ (H.out.below (by (repeat' (first | (with_reducible exact Below.refl _ _) | (with_reducible assumption) | (with_reducible refine below_drewN ?_ _) | (with_reducible refine below_new ?_ _) | (with_reducible refine Below.alloc ?_ ?_ _) | (with_reducible refine Below.drew ?_) | (with_reducible refine Below.setCell ?_ ?_ _) | (with_reducible apply below_at; (case k => (with_reducible assumption)); (case hB => omega)) | (with_reducible apply below_on; (with_reducible assumption)) | (go_size; done) | (with_reducible apply size_of))))).h H.out.e HN83.out).mono ?_
  rintro e w2 ⟨A2, c2, rfl, ho2, hb2⟩
  obtain ⟨g, rfl, gB, gl, O2⟩ := OwnZ.head ho2 HNE.out
  rw [HT.out]
  have HZ2 : Hid (Lies (w2) (w.heap.size + 1) 26 [.int .i64 0, .slice none 0 0, .int .i64 0]) := Lib.hid ((Lies.fresh_at (by simp)).past hb2)
  have HO2 := Lib.hid O2
  have HB2 : Hid (Below w.heap.size w w2) := Lib.hid (by (repeat' (first | (with_reducible exact Below.refl _ _) | (with_reducible assumption) | (with_reducible refine below_drewN ?_ _) | (with_reducible refine below_new ?_ _) | (with_reducible refine Below.alloc ?_ ?_ _) | (with_reducible refine Below.drew ?_) | (with_reducible refine Below.setCell ?_ ?_ _) | (with_reducible apply below_at; (case k => (with_reducible assumption)); (case hB => omega)) | (with_reducible apply below_on; (with_reducible assumption)) | (go_size; done) | (with_reducible apply size_of))))
  have HGB : Hid (w.heap.size + 2 ≤ g ∧ g < w2.heap.size) := Lib.hid ⟨by have := gB; simp at this; omega, gl⟩
  clear ho2 O2 hb2 gB gl
  go_upto_region 2 with fail
  obtain ⟨G, hG⟩ : ∃ G, w2.heap.size = G := ⟨_, rfl⟩
  have HG := Lib.hid hG
  have HK3 : Hid (Lies (w2.alloc (.cells #[.int .i64 r.l, .slice (some ⟨g, 0, none⟩) n c2, .int .i64 (t : Int)] 26)) G 26 [.int .i64 r.l, .slice (some ⟨g, 0, none⟩) n c2, .int .i64 (t : Int)]) := Lib.hid (by rw [← hG]; exact Lies.fresh _ _ _)
  have HO3 := Lib.hid (own_alloc HO2.out (.cells #[.int .i64 r.l, .slice (some ⟨g, 0, none⟩) n c2, .int .i64 (t : Int)] 26))
  have HZ3 := Lib.hid (HZ2.out.alloc (.cells #[.int .i64 r.l, .slice (some ⟨g, 0, none⟩) n c2, .int .i64 (t : Int)] 26))
  have HW3 := Lib.hid (HB2.out.alloc HB2.out.size (.cells #[.int .i64 r.l, .slice (some ⟨g, 0, none⟩) n c2, .int .i64 (t : Int)] 26))
  rw [hG]
  generalize hwr : w2.alloc (.cells #[.int .i64 r.l, .slice (some ⟨g, 0, none⟩) n c2, .int .i64 (t : Int)] 26) = wr at *
  have hcj := HO3.out.cell j (by rw [H.out.e]; exact HJN.out)
  have hfj := HO3.out.frozen j
  generalize r.b.getD j 0 = y at hcj
  have HX5 := Lib.hid (And.intro hcj hfj)
  have hgG : g ≠ G := by have := HGB.out; omega
  have HGG := Lib.hid hgG
  have HJL : Hid (j < (r.b.set j x).length) := Lib.hid (by rw [List.length_set, H.out.e]; exact HJN.out)
  clear hG hwr hcj hfj hgG
  (have RD := grows_roads (S := fun x' => Lies x' G 26 [.int .i64 r.l, .slice (some ⟨g, 0, none⟩) n c2, .int .i64 (t : Int)] ∧ Below wr.heap.size wr x') (fun a b h1 h2 => ⟨h2.1.past h1, h2.2.trans (h1.mono h2.2.size)⟩)); refine region_ordT 10 _ Grows RD (⟨HK3.out.drew, Below.drew (Below.refl _ _)⟩) (by kernel_rfl) (by decide) ?_; intro ops Q' hops hPQ hN; (have HNS : Hid (Region.noSelect ops = true ∧ Region.sinkB .any ops 10 = true ∧ Region.chainB .any ops 10 = true ∧ 10 < ops.size) := Lib.hid (by rw [hops]; exact ⟨by kernel_rfl, by kernel_rfl, by kernel_rfl, by decide⟩)); (have hsz : ops.size = 11 := (by rw [hops]; rfl)); have HOP := Lib.hid hops; have HPQ := Lib.hid hPQ; have HN := Lib.hid hN; rw [hsz]; clear hops hsz hPQ hN
  refine ordT_take RD 0 (at_list (by rw [HOP.out]; rfl)) HNS.out HPQ.out (by rw [HOP.out]; kernel_rfl) (by rw [HOP.out]; kernel_rfl) (by rw [HOP.out]; rfl) (fun K hK => ?_); apply Exists.intro; refine ⟨fun W hSW => ?_, hK _ ?_⟩; (focus ((try dsimp only at hSW); go_simp; try with_reducible rfl)); clear hK K; (try simp only [Act.put, List.setIfInBounds_toArray, List.set_cons_zero, List.set_cons_succ])
  refine ordT_take RD 1 (at_list (by rw [HOP.out]; rfl)) HNS.out HPQ.out (by rw [HOP.out]; kernel_rfl) (by rw [HOP.out]; kernel_rfl) (by rw [HOP.out]; rfl) (fun K hK => ?_); apply Exists.intro; refine ⟨fun W hSW => ?_, hK _ ?_⟩; (focus ((try dsimp only at hSW); (obtain ⟨y0, y1, y2, -, -, -⟩ := hSW.1.three); go_simp; try with_reducible rfl)); clear hK K; (try simp only [Act.put, List.setIfInBounds_toArray, List.set_cons_zero, List.set_cons_succ])
  refine ordT_take RD 2 (at_list (by rw [HOP.out]; rfl)) HNS.out HPQ.out (by rw [HOP.out]; kernel_rfl) (by rw [HOP.out]; kernel_rfl) (by rw [HOP.out]; rfl) (fun K hK => ?_); apply Exists.intro; refine ⟨fun W hSW => ?_, hK _ ?_⟩; (focus ((try dsimp only at hSW); go_simp; try with_reducible rfl)); clear hK K; (try simp only [Act.put, List.setIfInBounds_toArray, List.set_cons_zero, List.set_cons_succ])
  refine ordT_take RD 3 (at_list (by rw [HOP.out]; rfl)) HNS.out HPQ.out (by rw [HOP.out]; kernel_rfl) (by rw [HOP.out]; kernel_rfl) (by rw [HOP.out]; rfl) (fun K hK => ?_); apply Exists.intro; refine ⟨fun W hSW => ?_, hK _ ?_⟩; (focus ((try dsimp only at hSW); (obtain ⟨y0, y1, y2, -, -, -⟩ := hSW.1.three); go_simp; try with_reducible rfl)); clear hK K; (try simp only [Act.put, List.setIfInBounds_toArray, List.set_cons_zero, List.set_cons_succ])
  refine ordT_take RD 4 (at_list (by rw [HOP.out]; rfl)) HNS.out HPQ.out (by rw [HOP.out]; kernel_rfl) (by rw [HOP.out]; kernel_rfl) (by rw [HOP.out]; rfl) (fun K hK => ?_); apply Exists.intro; refine ⟨fun W hSW => ?_, hK _ ?_⟩; (focus ((try dsimp only at hSW); go_simp; try with_reducible rfl)); clear hK K; (try simp only [Act.put, List.setIfInBounds_toArray, List.set_cons_zero, List.set_cons_succ])
  refine ordT_take RD 5 (at_list (by rw [HOP.out]; rfl)) HNS.out HPQ.out (by rw [HOP.out]; kernel_rfl) (by rw [HOP.out]; kernel_rfl) (by rw [HOP.out]; rfl) (fun K hK => ?_); apply Exists.intro; refine ⟨fun W hSW => ?_, hK _ ?_⟩; (focus ((try dsimp only at hSW); (obtain ⟨y0, y1, y2, -, -, -⟩ := hSW.1.three); go_simp; try with_reducible rfl)); clear hK K; (try simp only [Act.put, List.setIfInBounds_toArray, List.set_cons_zero, List.set_cons_succ])
  refine ordT_take RD 6 (at_list (by rw [HOP.out]; rfl)) HNS.out HPQ.out (by rw [HOP.out]; kernel_rfl) (by rw [HOP.out]; kernel_rfl) (by rw [HOP.out]; rfl) (fun K hK => ?_); apply Exists.intro; refine ⟨fun W hSW => ?_, hK _ ?_⟩; (focus ((try dsimp only at hSW); go_simp; try with_reducible rfl)); clear hK K; (try simp only [Act.put, List.setIfInBounds_toArray, List.set_cons_zero, List.set_cons_succ])
  refine ordT_take RD 7 (at_list (by rw [HOP.out]; rfl)) HNS.out HPQ.out (by rw [HOP.out]; kernel_rfl) (by rw [HOP.out]; kernel_rfl) (by rw [HOP.out]; rfl) (fun K hK => ?_); apply Exists.intro; refine ⟨fun W hSW => ?_, hK _ ?_⟩; (focus ((try dsimp only at hSW); go_simp; try with_reducible rfl)); clear hK K; (try simp only [Act.put, List.setIfInBounds_toArray, List.set_cons_zero, List.set_cons_succ])
  refine ordT_take RD 8 (at_list (by rw [HOP.out]; rfl)) HNS.out HPQ.out (by rw [HOP.out]; kernel_rfl) (by rw [HOP.out]; kernel_rfl) (by rw [HOP.out]; rfl) (fun K hK => ?_); apply Exists.intro; refine ⟨fun W hSW => ?_, hK _ ?_⟩; (focus ((try dsimp only at hSW); go_simp; try with_reducible rfl)); clear hK K; (try simp only [Act.put, List.setIfInBounds_toArray, List.set_cons_zero, List.set_cons_succ])
  refine ordT_take RD 9 (at_list (by rw [HOP.out]; rfl)) HNS.out HPQ.out (by rw [HOP.out]; kernel_rfl) (by rw [HOP.out]; kernel_rfl) (by rw [HOP.out]; rfl) (fun K hK => ?_); apply Exists.intro; refine ⟨fun W hSW => ?_, hK _ ?_⟩; (focus ((try dsimp only at hSW); go_simp; try with_reducible rfl)); clear hK K; (try simp only [Act.put, List.setIfInBounds_toArray, List.set_cons_zero, List.set_cons_succ])
  refine ordT_end (by rw [HOP.out]; kernel_rfl) (fun W3 hWW hSW => ?_); rw [HOP.out]; simp only [List.drop_succ_cons, List.drop_zero]; have hN := HN.out; clear HOP HNS HPQ HN RD; (try dsimp only at hSW)
  have HK5 := Lib.hid (hSW.1.other (p := ⟨g, j, none⟩) HGG.out (.int .u8 x))
  have HO4 := Lib.hid (HO3.out.below hSW.2 (Nat.le_refl _))
  have HZ4 := Lib.hid (HZ3.out.past hSW.2)
  have HW4 := Lib.hid (HW3.out.trans (hSW.2.mono HW3.out.size))
  have hcj := HO4.out.cell j (by rw [H.out.e]; exact HJN.out)
  have hfj := HO4.out.frozen j
  generalize r.b.getD j 0 = y2 at hcj
  have zl : g < W3.heap.size := by have := HGB.out; have := hSW.2.size; have := HW3.out.size; have := HO4.out.base_le; omega
  clear hSW hWW
  obtain ⟨s3, s4, s5, v3, v4, v5⟩ := HK5.out.three
  have HK6 := Lib.hid (HK5.out.set 2 (.int .i64 ((t : Int) + 1)))
  have HZ5 := (HZ4.out.other (p := ⟨g, j, none⟩) (by have := HGB.out; show g ≠ w.heap.size + 1; omega) (.int .u8 x))
  have HZ6 := HZ5.other (p := ⟨G, 2, none⟩) (by have := HGB.out; have := HG.out; show G ≠ w.heap.size + 1; omega) (.int .i64 ((t : Int) + 1))
  have HO6 := Lib.hid (own_set (HO4.out.store j x) (own_ne (HO4.out.store j x) HK5.out (by decide)) (.int .i64 ((t : Int) + 1)) (p := ⟨G, 2, none⟩))
  obtain ⟨q0, q1, q2, -, -, -⟩ := HK6.out.three
  obtain ⟨z0, z1, z2, u0, u1, u2⟩ := HZ6.three
  have HZ7 := Lib.hid (HZ6.store3 (a := .int .i64 r.l) (b := .slice (some ⟨g, 0, none⟩) n c2) (c := .int .i64 ((t : Int) + 1)))
  have HO7 := Lib.hid (own_store3 HO6.out HZ6 (by decide) (a := .int .i64 r.l) (b := .slice (some ⟨g, 0, none⟩) n c2) (c := .int .i64 ((t : Int) + 1)))
  go_wp2_with fail
  clear s3 s4 s5 v3 v4 v5 q0 q1 q2 z0 z1 z2 u0 u1 u2 hcj hfj HZ5 HZ6
  obtain ⟨e0, e1, e2, -, -, -⟩ := HZ7.out.three
  refine bodyPost_ret (by simp [results, Try.results70, go_sem, e0, e1, e2]; try rfl) rfl ?_
  refine ⟨some ⟨g, 0, none⟩, c2, by rw [HPB.out.2.1, HPB.out.2.2], put_in H.out rfl (by intro z hz; simp at hz; subst hz; exact HX.out) HPE.out (B := w.heap.size) ?_, .inl ?_, ?_⟩
  · rw [HPB.out.1]
    exact HO7.out.mono (by simp; omega)
  · rw [HPB.out.1]
    exact HO7.out.mono (by simp; omega)
  · have := HW4.out
    have := HGB.out
    have := HG.out
    have q5 : w.heap.size ≤ g := by omega
    have q6 : w.heap.size ≤ G := by omega
    (repeat' (first | (with_reducible exact Below.refl _ _) | (with_reducible assumption) | (with_reducible refine below_drewN ?_ _) | (with_reducible refine below_new ?_ _) | (with_reducible refine Below.alloc ?_ ?_ _) | (with_reducible refine Below.drew ?_) | (with_reducible refine Below.setCell ?_ ?_ _) | (with_reducible apply below_at; (case k => (with_reducible assumption)); (case hB => omega)) | (with_reducible apply below_on; (with_reducible assumption)) | (go_size; done) | (with_reducible apply size_of)))
end Go.Proofs.Ytemiecghdmagnaa.maW

namespace Go.Proofs.Ytemiecghdmagnaa.maW
set_option maxRecDepth 100000
open Go.RowKit Go.Proofs.Ytemiecghdmagnaa.base Go.Proofs.Ytemiecghdmagnaa.rgP Go.Proofs.Ytemiecghdmagnaa.fdP Go.Proofs.Ytemiecghdmagnaa.maP Go.Proofs.Ytemiecghdmagnaa.rgW Go.Proofs.Ytemiecghdmagnaa.rgL Go.Proofs.Ytemiecghdmagnaa.hashP Go.Proofs.Ytemiecghdmagnaa.hashW Go.Proofs.Ytemiecghdmagnaa.cxP Go.Proofs.Ytemiecghdmagnaa.fdW
set_option linter.unusedVariables false
set_option linter.unusedSimpArgs false
theorem E_ok {r : Rg} (h : rgOk r = true) : rgE r = 0 := by simp [rgE, h]
theorem last_bd {r : Rg} (h : ∀ z ∈ r.b, 0 ≤ z ∧ z ≤ 255) (k : Nat) : ∀ z ∈ lastL r k, 0 ≤ z ∧ z ≤ 255 := by
  intro z hz
  simp only [lastL, List.mem_map] at hz
  obtain ⟨i, _, rfl⟩ := hz
  exact maP.ago_bd h _
theorem last_zeros4 (r : Rg) (m : Nat) (hm : m ≤ 4) (h : m = 4 ∨ r.n = m) : List.replicate (4 - m) 0 ++ lastL r m = lastL r 4 := by
  refine getD_ext (by simp [last_len]; omega) fun i hi => ?_
  have hi : i < 4 := by simp [last_len] at hi; omega
  rw [last_at r 4 i hi]
  by_cases c : i < 4 - m
  · rw [List.getD_eq_getElem?_getD, List.getElem?_append_left (by simpa using c), List.getElem?_replicate, if_pos c]
    have : r.n < ((4 : Nat) : Int) - i := by rcases h with h | h <;> omega
    rw [ago, if_pos this]
    rfl
  · rw [List.getD_eq_getElem?_getD, List.getElem?_append_right (by simp; omega), ← List.getD_eq_getElem?_getD, last_at r m _ (by simp; omega)]
    congr 1
    simp
    omega
set_option maxHeartbeats 2000000 in
theorem lastHash_ok (r : Rg) (A : Option Addr) (n c : Nat) (w : World) (h : RgIn w A n c r) (hok : rgOk r = true) :
    Calls Try.prog 42 #[.agg #[.int .i64 (r).l, .slice A n c, .int .i64 (r).n]] w fun e w' => e = .returned (.tuple #[.int .u32 (keyH r), .int .i64 0]) ∧ Below w.heap.size w w' := by
  have H := Lib.hid h
  obtain ⟨a1, a2, a3, a4⟩ := rgW.ok_parts h hok
  obtain ⟨m, hm⟩ : ∃ m : Nat, min r.n 4 = (m : Int) := ⟨(min r.n 4).toNat, by omega⟩
  have HM : Hid (m ≤ 4 ∧ (m = 4 ∨ r.n = m) ∧ (m : Int) ≤ r.n) := Lib.hid (by omega)
  have hsz : 64 ≤ r.b.length := by have := (rgOk_iff r).1 hok; rw [this.1.2.1]; exact (sz_bd this.1.1).1
  have HLE : Hid (lastE r m = 0) := Lib.hid (by unfold lastE; rw [if_pos hok, if_pos ⟨by omega, by have := HM.out; omega⟩, if_neg (by have := HM.out; omega)])
  have HBD := Lib.hid (last_bd h.b 4)
  have HKH : Hid (hSteps (kStart 6) (lastL r 4) = keyH r) := Lib.hid rfl
  have LL : Hid (Lies (w.alloc (.cells #[.int .i64 r.l, .slice A n c, .int .i64 r.n] 26)) (w.heap.size) 26 [.int .i64 (r).l, .slice (A) (n) (c), .int .i64 (r).n]) := Lib.hid (Lies.fresh _ _ _)
  have B0 : Hid (Below w.heap.size w (w.alloc (.cells #[.int .i64 r.l, .slice A n c, .int .i64 r.n] 26))) := Lib.hid (by (repeat' (first | (with_reducible exact Below.refl _ _) | (with_reducible assumption) | (with_reducible refine below_drewN ?_ _) | (with_reducible refine below_new ?_ _) | (with_reducible refine Below.alloc ?_ ?_ _) | (with_reducible refine Below.drew ?_) | (with_reducible refine Below.setCell ?_ ?_ _) | (with_reducible apply below_at; (case k => (with_reducible assumption)); (case hB => omega)) | (with_reducible apply below_on; (with_reducible assumption)) | (go_size; done) | (with_reducible apply size_of))))
  clear h hok a1 a2 hsz
  go_enter Try.func42, Try.ntmps42
  go_wp2_with fail
  refine (rgW.Last_ok r A n c m _ (H.out.below B0.out) HLE.out).mono ?_
  rintro e w2 ⟨A2, c2, rfl, hc2, hc3, has2, hb2⟩
  have HH2 := Lib.hid has2
  have HC2 := Lib.hid (And.intro hc2 hc3)
  have HB2 := Lib.hid (B0.out.trans (hb2.mono B0.out.size))
  have m1 : 4 - (m : Int) = ((4 - m : Nat) : Int) := by have := HM.out; omega
  obtain ⟨q, hq⟩ : ∃ q, 4 - m = q := ⟨_, rfl⟩
  rw [hq] at m1
  have HQ : Hid (q + m = 4) := Lib.hid (by have := HM.out; omega)
  have HLL := Lib.hid (last_zeros4 r m HM.out.1 HM.out.2.1)
  rw [hq] at HLL
  have m9 : (m : Int) ≤ 4 := by have := HM.out; omega
  clear hc2 hc3 has2 hb2 hq hm
  go_wp2_with (first | (at_make; refine make8 (by rfl) _ _ rfl .i64 .i64 q rfl rfl (by have := HQ.out; omega) w.heap.size HB2.out.size ?_; intro w3 own3 hb3; have HO3 := Lib.hid own3; have HH3 := Lib.hid (HH2.out.below hb3 (Nat.le_refl _)); have HB3 := Lib.hid (HB2.out.trans (hb3.mono HB2.out.size)); clear own3 hb3) | (at_builtin; refine app8 rfl _ _ rfl w.heap.size _ _ rfl HO3.out A2 m c2 (lastL r m) rfl (cxP.last_len r m) HH3.out 4 (by rw [List.length_replicate]; exact HQ.out) (by omega) HB3.out.size ?_; intro A4 c4 w4 ho4 hg4 hb4; rw [HLL.out] at ho4; have HO4 := Lib.hid ho4; have HB4 := Lib.hid (HB3.out.trans hb4); clear ho4 hg4 hb4) | (go_at_call 65; refine (of_ok 6 A4 4 c4 (lastL r 4) _ (by omega) (by omega) HBD.out HO4.out.has (cxP.last_len r 4) (by omega)).mono ?_; rintro e w5 ⟨rfl, hb5⟩; rw [HKH.out]; have HB5 := Lib.hid (HB4.out.trans (hb5.mono HB4.out.size)); clear hb5))
  go_ret2
  exact ⟨rfl, HB5.out⟩
def lookX (r : Rg) (f : Fnd) (x : Int) : Mt :=
  if findV f x < 0 ∨ r.n < findV f x then noM
  else if min (full r (findV f x) : Int) 40 < 3 then noM
  else ⟨findV f x, min (full r (findV f x) : Int) 40⟩
theorem lookX_key (r : Rg) (f : Fnd) : lookX r f (keyH r) = lookM r f := rfl
/-- A ring, a finder and a match lie. -/
def Rfm (w W : World) (r : Rg) (A : Option Addr) (n c : Nat) (f : Fnd) (B : Option Addr) (m d : Nat) : Prop := (Lies (W) (w.heap.size) 26 [.int .i64 (r).l, .slice (A) (n) (c), .int .i64 (r).n]) ∧ (Lies (W) (w.heap.size + 1) 29 [.int .i64 (f).l, .slice (B) (m) (d)]) ∧ Lies W (w.heap.size + 2) 23 [.int .i64 0, .int .i64 0] ∧ RgIn W A n c r ∧ FdIn W B m d f ∧ Below w.heap.size w W
theorem Rfm.past {w W W' : World} {r : Rg} {A : Option Addr} {n c : Nat} {f : Fnd} {B : Option Addr} {m d : Nat} (h : Rfm w W r A n c f B m d) (hb : Below W.heap.size W W') : Rfm w W' r A n c f B m d := ⟨h.1.past hb, h.2.1.past hb, h.2.2.1.past hb, h.2.2.2.1.below hb, h.2.2.2.2.1.below hb, h.2.2.2.2.2.trans (hb.mono h.2.2.2.2.2.size)⟩
theorem rfm_start (w : World) (r : Rg) (A : Option Addr) (n c : Nat) (f : Fnd) (B : Option Addr) (m d : Nat) (h : RgIn w A n c r) (h2 : FdIn w B m d f) : Rfm w (((w.alloc (.cells #[.int .i64 r.l, .slice A n c, .int .i64 r.n] 26)).alloc (.cells #[.int .i64 f.l, .slice B m d] 29)).alloc (.cells #[.int .i64 0, .int .i64 0] 23)) r A n c f B m d :=
  ⟨((Lies.fresh _ _ _).alloc _).alloc _, (Lies.fresh_at (by simp)).alloc _, Lies.fresh_at (by simp), h.below (by (repeat' (first | (with_reducible exact Below.refl _ _) | (with_reducible assumption) | (with_reducible refine below_drewN ?_ _) | (with_reducible refine below_new ?_ _) | (with_reducible refine Below.alloc ?_ ?_ _) | (with_reducible refine Below.drew ?_) | (with_reducible refine Below.setCell ?_ ?_ _) | (with_reducible apply below_at; (case k => (with_reducible assumption)); (case hB => omega)) | (with_reducible apply below_on; (with_reducible assumption)) | (go_size; done) | (with_reducible apply size_of)))), h2.below (by (repeat' (first | (with_reducible exact Below.refl _ _) | (with_reducible assumption) | (with_reducible refine below_drewN ?_ _) | (with_reducible refine below_new ?_ _) | (with_reducible refine Below.alloc ?_ ?_ _) | (with_reducible refine Below.drew ?_) | (with_reducible refine Below.setCell ?_ ?_ _) | (with_reducible apply below_at; (case k => (with_reducible assumption)); (case hB => omega)) | (with_reducible apply below_on; (with_reducible assumption)) | (go_size; done) | (with_reducible apply size_of)))), by (repeat' (first | (with_reducible exact Below.refl _ _) | (with_reducible assumption) | (with_reducible refine below_drewN ?_ _) | (with_reducible refine below_new ?_ _) | (with_reducible refine Below.alloc ?_ ?_ _) | (with_reducible refine Below.drew ?_) | (with_reducible refine Below.setCell ?_ ?_ _) | (with_reducible apply below_at; (case k => (with_reducible assumption)); (case hB => omega)) | (with_reducible apply below_on; (with_reducible assumption)) | (go_size; done) | (with_reducible apply size_of)))⟩
set_option maxHeartbeats 2000000 in
theorem look_ok (r : Rg) (A : Option Addr) (n c : Nat) (f : Fnd) (B : Option Addr) (m d : Nat) (x : Int) (w : World) (h : RgIn w A n c r) (hf : FdIn w B m d f) (hok : rgOk r = true) (fok : fdOk f = true) (x0 : 0 ≤ x) (x1 : x ≤ 4294967295) :
    Calls Try.prog 43 #[.agg #[.int .i64 (r).l, .slice A n c, .int .i64 (r).n], .agg #[.int .i64 (f).l, .slice B m d], .int .u32 x] w fun e w' => e = .returned (.tuple #[.agg #[.int .i64 (lookX r f x).a, .int .i64 (lookX r f x).k], .int .i64 0]) ∧ Below w.heap.size w w' := by
  have T0 := Lib.hid (rfm_start w r A n c f B m d h hf)
  have HX := Lib.hid (And.intro x0 x1)
  have HE : Hid (fdE f = 0) := Lib.hid (fdE_yes fok)
  obtain ⟨a1, a2, a3, a4⟩ := rgW.ok_parts h hok
  obtain ⟨q, hq⟩ : ∃ q, findV f x = q := ⟨_, rfl⟩
  have HQ := Lib.hid hq
  have HLK : Hid (lookX r f x = if q < 0 ∨ r.n < q then noM else if min (full r q : Int) 40 < 3 then noM else ⟨q, min (full r q : Int) 40⟩) := Lib.hid (by unfold lookX; rw [hq])
  have HOK := Lib.hid hok
  clear h hf fok x0 x1 a1 a2 hq hok
  by_cases q0 : q < 0
  · have HL : Hid (lookX r f x = noM) := Lib.hid (by rw [HLK.out, if_pos (.inl q0)])
    obtain ⟨x0, x1, x2, -, -, -⟩ := T0.out.1.three; obtain ⟨v0, v1, -, -⟩ := T0.out.2.1.two; obtain ⟨z0, z1, u0, u1⟩ := T0.out.2.2.1.two; have zl := T0.out.1.lt; have zl2 := T0.out.2.1.lt; have zl3 := T0.out.2.2.1.lt
    go_enter Try.func43, Try.ntmps43
    go_wp2_with fail
    refine (fdW.Find_any f B m d x _ T0.out.2.2.2.2.1 HX.out.1 HX.out.2).mono ?_
    rintro e w1 ⟨rfl, hb1⟩
    rw [HE.out, HQ.out]
    have T1 := Lib.hid (T0.out.past hb1)
    clear hb1
    clear x0 x1 x2 v0 v1 z0 z1 u0 u1 zl zl2 zl3
    obtain ⟨x0, x1, x2, -, -, -⟩ := T1.out.1.three; obtain ⟨v0, v1, -, -⟩ := T1.out.2.1.two; obtain ⟨z0, z1, u0, u1⟩ := T1.out.2.2.1.two; have zl := T1.out.1.lt; have zl2 := T1.out.2.1.lt; have zl3 := T1.out.2.2.1.lt
    go_wp2_with fail
    refine (New_any _).mono ?_
    rintro e w2 ⟨rfl, hb2⟩
    have T2 := Lib.hid (T1.out.past hb2)
    clear hb2
    clear x0 x1 x2 v0 v1 z0 z1 u0 u1 zl zl2 zl3
    obtain ⟨x0, x1, x2, -, -, -⟩ := T2.out.1.three; obtain ⟨v0, v1, -, -⟩ := T2.out.2.1.two; obtain ⟨z0, z1, u0, u1⟩ := T2.out.2.2.1.two; have zl := T2.out.1.lt; have zl2 := T2.out.2.1.lt; have zl3 := T2.out.2.2.1.lt
    have HS2 := Lib.hid (lies_store2 T2.out.2.2.1 (a := .int .i64 (-1)) (b := .int .i64 0))
    go_wp2_with fail
    clear x0 x1 x2 v0 v1 z0 z1 u0 u1 zl zl2 zl3
    obtain ⟨t0, t1, -, -⟩ := HS2.out.two
    refine bodyPost_ret (by simp [results, Try.results43, go_sem, t0, t1]; try rfl) rfl ?_
    exact ⟨by rw [HL.out]; rfl, by have := T2.out.2.2.2.2.2; (repeat' (first | (with_reducible exact Below.refl _ _) | (with_reducible assumption) | (with_reducible refine below_drewN ?_ _) | (with_reducible refine below_new ?_ _) | (with_reducible refine Below.alloc ?_ ?_ _) | (with_reducible refine Below.drew ?_) | (with_reducible refine Below.setCell ?_ ?_ _) | (with_reducible apply below_at; (case k => (with_reducible assumption)); (case hB => omega)) | (with_reducible apply below_on; (with_reducible assumption)) | (go_size; done) | (with_reducible apply size_of)))⟩
  by_cases q1 : r.n < q
  · have HL : Hid (lookX r f x = noM) := Lib.hid (by rw [HLK.out, if_pos (.inr q1)])
    obtain ⟨x0, x1, x2, -, -, -⟩ := T0.out.1.three; obtain ⟨v0, v1, -, -⟩ := T0.out.2.1.two; obtain ⟨z0, z1, u0, u1⟩ := T0.out.2.2.1.two; have zl := T0.out.1.lt; have zl2 := T0.out.2.1.lt; have zl3 := T0.out.2.2.1.lt
    go_enter Try.func43, Try.ntmps43
    go_wp2_with fail
    refine (fdW.Find_any f B m d x _ T0.out.2.2.2.2.1 HX.out.1 HX.out.2).mono ?_
    rintro e w1 ⟨rfl, hb1⟩
    rw [HE.out, HQ.out]
    have T1 := Lib.hid (T0.out.past hb1)
    clear hb1
    clear x0 x1 x2 v0 v1 z0 z1 u0 u1 zl zl2 zl3
    obtain ⟨x0, x1, x2, -, -, -⟩ := T1.out.1.three; obtain ⟨v0, v1, -, -⟩ := T1.out.2.1.two; obtain ⟨z0, z1, u0, u1⟩ := T1.out.2.2.1.two; have zl := T1.out.1.lt; have zl2 := T1.out.2.1.lt; have zl3 := T1.out.2.2.1.lt
    go_wp2_with fail
    refine (New_any _).mono ?_
    rintro e w2 ⟨rfl, hb2⟩
    have T2 := Lib.hid (T1.out.past hb2)
    clear hb2
    clear x0 x1 x2 v0 v1 z0 z1 u0 u1 zl zl2 zl3
    obtain ⟨x0, x1, x2, -, -, -⟩ := T2.out.1.three; obtain ⟨v0, v1, -, -⟩ := T2.out.2.1.two; obtain ⟨z0, z1, u0, u1⟩ := T2.out.2.2.1.two; have zl := T2.out.1.lt; have zl2 := T2.out.2.1.lt; have zl3 := T2.out.2.2.1.lt
    have HS2 := Lib.hid (lies_store2 T2.out.2.2.1 (a := .int .i64 (-1)) (b := .int .i64 0))
    go_wp2_with fail
    clear x0 x1 x2 v0 v1 z0 z1 u0 u1 zl zl2 zl3
    obtain ⟨t0, t1, -, -⟩ := HS2.out.two
    refine bodyPost_ret (by simp [results, Try.results43, go_sem, t0, t1]; try rfl) rfl ?_
    exact ⟨by rw [HL.out]; rfl, by have := T2.out.2.2.2.2.2; (repeat' (first | (with_reducible exact Below.refl _ _) | (with_reducible assumption) | (with_reducible refine below_drewN ?_ _) | (with_reducible refine below_new ?_ _) | (with_reducible refine Below.alloc ?_ ?_ _) | (with_reducible refine Below.drew ?_) | (with_reducible refine Below.setCell ?_ ?_ _) | (with_reducible apply below_at; (case k => (with_reducible assumption)); (case hB => omega)) | (with_reducible apply below_on; (with_reducible assumption)) | (go_size; done) | (with_reducible apply size_of)))⟩
  have HLE : Hid (lenE r q 40 = 0) := Lib.hid (by unfold lenE; rw [if_pos HOK.out, if_pos (by omega)])
  obtain ⟨k, hk⟩ : ∃ k, min (full r q : Int) 40 = k := ⟨_, rfl⟩
  have HMN := Lib.hid hk
  rw [hk] at HLK
  have k9 : k ≤ 40 := by omega
  clear hk
  by_cases k3 : k < 3
  · have HL : Hid (lookX r f x = noM) := Lib.hid (by rw [HLK.out, if_neg (by omega), if_pos k3])
    obtain ⟨x0, x1, x2, -, -, -⟩ := T0.out.1.three; obtain ⟨v0, v1, -, -⟩ := T0.out.2.1.two; obtain ⟨z0, z1, u0, u1⟩ := T0.out.2.2.1.two; have zl := T0.out.1.lt; have zl2 := T0.out.2.1.lt; have zl3 := T0.out.2.2.1.lt
    go_enter Try.func43, Try.ntmps43
    go_wp2_with fail
    refine (fdW.Find_any f B m d x _ T0.out.2.2.2.2.1 HX.out.1 HX.out.2).mono ?_
    rintro e w1 ⟨rfl, hb1⟩
    rw [HE.out, HQ.out]
    have T1 := Lib.hid (T0.out.past hb1)
    clear hb1
    clear x0 x1 x2 v0 v1 z0 z1 u0 u1 zl zl2 zl3
    obtain ⟨x0, x1, x2, -, -, -⟩ := T1.out.1.three; obtain ⟨v0, v1, -, -⟩ := T1.out.2.1.two; obtain ⟨z0, z1, u0, u1⟩ := T1.out.2.2.1.two; have zl := T1.out.1.lt; have zl2 := T1.out.2.1.lt; have zl3 := T1.out.2.2.1.lt
    go_wp2_with fail
    refine (fdW.Length_ok r A n c q 40 _ T1.out.2.2.2.1 HLE.out (by omega)).mono ?_
    rintro e w4 ⟨rfl, hb4⟩
    rw [HMN.out]
    have T4 := Lib.hid (T1.out.past hb4)
    clear hb4
    clear x0 x1 x2 v0 v1 z0 z1 u0 u1 zl zl2 zl3
    obtain ⟨x0, x1, x2, -, -, -⟩ := T4.out.1.three; obtain ⟨v0, v1, -, -⟩ := T4.out.2.1.two; obtain ⟨z0, z1, u0, u1⟩ := T4.out.2.2.1.two; have zl := T4.out.1.lt; have zl2 := T4.out.2.1.lt; have zl3 := T4.out.2.2.1.lt
    go_wp2_with fail
    refine (New_any _).mono ?_
    rintro e w2 ⟨rfl, hb2⟩
    have T2 := Lib.hid (T4.out.past hb2)
    clear hb2
    clear x0 x1 x2 v0 v1 z0 z1 u0 u1 zl zl2 zl3
    obtain ⟨x0, x1, x2, -, -, -⟩ := T2.out.1.three; obtain ⟨v0, v1, -, -⟩ := T2.out.2.1.two; obtain ⟨z0, z1, u0, u1⟩ := T2.out.2.2.1.two; have zl := T2.out.1.lt; have zl2 := T2.out.2.1.lt; have zl3 := T2.out.2.2.1.lt
    have HS2 := Lib.hid (lies_store2 T2.out.2.2.1 (a := .int .i64 (-1)) (b := .int .i64 0))
    go_wp2_with fail
    clear x0 x1 x2 v0 v1 z0 z1 u0 u1 zl zl2 zl3
    obtain ⟨t0, t1, -, -⟩ := HS2.out.two
    refine bodyPost_ret (by simp [results, Try.results43, go_sem, t0, t1]; try rfl) rfl ?_
    exact ⟨by rw [HL.out]; rfl, by have := T2.out.2.2.2.2.2; (repeat' (first | (with_reducible exact Below.refl _ _) | (with_reducible assumption) | (with_reducible refine below_drewN ?_ _) | (with_reducible refine below_new ?_ _) | (with_reducible refine Below.alloc ?_ ?_ _) | (with_reducible refine Below.drew ?_) | (with_reducible refine Below.setCell ?_ ?_ _) | (with_reducible apply below_at; (case k => (with_reducible assumption)); (case hB => omega)) | (with_reducible apply below_on; (with_reducible assumption)) | (go_size; done) | (with_reducible apply size_of)))⟩
  · have HL : Hid (lookX r f x = ⟨q, k⟩) := Lib.hid (by rw [HLK.out, if_neg (by omega), if_neg k3])
    obtain ⟨x0, x1, x2, -, -, -⟩ := T0.out.1.three; obtain ⟨v0, v1, -, -⟩ := T0.out.2.1.two; obtain ⟨z0, z1, u0, u1⟩ := T0.out.2.2.1.two; have zl := T0.out.1.lt; have zl2 := T0.out.2.1.lt; have zl3 := T0.out.2.2.1.lt
    go_enter Try.func43, Try.ntmps43
    go_wp2_with fail
    refine (fdW.Find_any f B m d x _ T0.out.2.2.2.2.1 HX.out.1 HX.out.2).mono ?_
    rintro e w1 ⟨rfl, hb1⟩
    rw [HE.out, HQ.out]
    have T1 := Lib.hid (T0.out.past hb1)
    clear hb1
    clear x0 x1 x2 v0 v1 z0 z1 u0 u1 zl zl2 zl3
    obtain ⟨x0, x1, x2, -, -, -⟩ := T1.out.1.three; obtain ⟨v0, v1, -, -⟩ := T1.out.2.1.two; obtain ⟨z0, z1, u0, u1⟩ := T1.out.2.2.1.two; have zl := T1.out.1.lt; have zl2 := T1.out.2.1.lt; have zl3 := T1.out.2.2.1.lt
    go_wp2_with fail
    refine (fdW.Length_ok r A n c q 40 _ T1.out.2.2.2.1 HLE.out (by omega)).mono ?_
    rintro e w4 ⟨rfl, hb4⟩
    rw [HMN.out]
    have T4 := Lib.hid (T1.out.past hb4)
    clear hb4
    clear x0 x1 x2 v0 v1 z0 z1 u0 u1 zl zl2 zl3
    obtain ⟨x0, x1, x2, -, -, -⟩ := T4.out.1.three; obtain ⟨v0, v1, -, -⟩ := T4.out.2.1.two; obtain ⟨z0, z1, u0, u1⟩ := T4.out.2.2.1.two; have zl := T4.out.1.lt; have zl2 := T4.out.2.1.lt; have zl3 := T4.out.2.2.1.lt
    have HS2 := Lib.hid (lies_store2 T4.out.2.2.1 (a := .int .i64 q) (b := .int .i64 k))
    go_wp2_with fail
    clear x0 x1 x2 v0 v1 z0 z1 u0 u1 zl zl2 zl3
    obtain ⟨t0, t1, -, -⟩ := HS2.out.two
    refine bodyPost_ret (by simp [results, Try.results43, go_sem, t0, t1]; try rfl) rfl ?_
    exact ⟨by rw [HL.out], by have := T4.out.2.2.2.2.2; (repeat' (first | (with_reducible exact Below.refl _ _) | (with_reducible assumption) | (with_reducible refine below_drewN ?_ _) | (with_reducible refine below_new ?_ _) | (with_reducible refine Below.alloc ?_ ?_ _) | (with_reducible refine Below.drew ?_) | (with_reducible refine Below.setCell ?_ ?_ _) | (with_reducible apply below_at; (case k => (with_reducible assumption)); (case hB => omega)) | (with_reducible apply below_on; (with_reducible assumption)) | (go_size; done) | (with_reducible apply size_of)))⟩
end Go.Proofs.Ytemiecghdmagnaa.maW
