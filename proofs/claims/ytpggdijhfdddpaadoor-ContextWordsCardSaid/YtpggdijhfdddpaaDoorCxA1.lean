/- The statement's after, by a walk. -/
import Derived.Test.YtpggdijhfdddpaaDoorCxW5
import Derived.Test.YtpggdijhfdddpaaDoorCxPl2
namespace Go.Proofs.YtpggdijhfdddpaaDoor.cxW
open Go.RowKit Go.Proofs.YtpggdijhfdddpaaDoor.base Go.Proofs.YtpggdijhfdddpaaDoor.rgP Go.Proofs.YtpggdijhfdddpaaDoor.cxP Go.Proofs.YtpggdijhfdddpaaDoor.hashP Go.Proofs.YtpggdijhfdddpaaDoor.hashW
set_option linter.unusedVariables false
set_option linter.unusedSimpArgs false
theorem ownz_grow {w w' : World} {B : Nat} {v : Value} {zs : List Int} (h : OwnZ w B v zs) (hb : Below w.heap.size w w') : OwnZ w' B v zs := h.past hb
theorem rg_own {w w' : World} {A : Option Addr} {n c B : Nat} {r : Rg} (h : RgIn w A n c r) (o : OwnZ w' B (.slice A n c) r.b) : RgIn w' A n c r := ⟨h.l1, h.l2, h.n1, h.n2, o.has, h.e, h.c1, h.c2, h.b⟩
set_option maxHeartbeats 1500000 in
theorem after_ok (l : Int) (B : Option Addr) (m d : Nat) (bs : List Int) (w : World) (hl : lvB l = true) (hB : Has .u8 w B bs) (hm : bs.length = m) (m7 : m ≤ 700) (hbb : ∀ z ∈ bs, 0 ≤ z ∧ z ≤ 255) :
    Calls Tryd.prog 20 #[.int .i64 l, .slice B m d] w fun e w' => ∃ A n c, e = .returned (.tuple #[.agg #[.int .i64 (putR (newR l) bs).l, .slice A n c, .int .i64 (putR (newR l) bs).n], .bool true]) ∧ RgIn w' A n c (putR (newR l) bs) ∧ OwnZ w' w.heap.size (.slice A n c) (putR (newR l) bs).b ∧ Below w.heap.size w w' := by
  obtain ⟨e1, e2, e3, e4, e5⟩ := cxP.put_new hl bs (by omega)
  obtain ⟨r0, hr0⟩ : ∃ r, newR l = r := ⟨_, rfl⟩
  have e6 : putV (newR l) bs = putR (newR l) bs := by unfold putV; rw [if_pos e2]
  rw [hr0] at e2 e3 e4 e5 e6
  obtain ⟨r1, hr1⟩ : ∃ r, putR r0 bs = r := ⟨_, rfl⟩
  rw [hr1] at e3 e4 e5 e6
  have HR0 := Lib.hid hr0
  have HR1 := Lib.hid e6
  have HP := Lib.hid (And.intro e1 e2)
  have HOK := Lib.hid e3
  have HH := Lib.hid hB
  have HL := Lib.hid hm
  have HBB := Lib.hid hbb
  rw [hr0, hr1]
  clear e1 e2 e3 e4 e5 e6 hr0 hr1 hl hB hm hbb
  go_enter Tryd.func20, Tryd.ntmps20
  go_wp2_with fail
  refine (rgL.New_any l _).mono ?_
  rintro e w1 ⟨A0, n0, c0, rfl, i0, -, hb1⟩
  rw [HR0.out] at i0 ⊢
  rw [HP.out.1]
  have I0 := Lib.hid i0
  have a1 : Below w.heap.size w w1 := by (repeat' (first | (with_reducible exact Below.refl _ _) | (with_reducible assumption) | (with_reducible refine below_drewN ?_ _) | (with_reducible refine below_new ?_ _) | (with_reducible refine Below.alloc ?_ ?_ _) | (with_reducible refine Below.drew ?_) | (with_reducible refine Below.setCell ?_ ?_ _) | (with_reducible apply below_at; (case k => (with_reducible assumption)); (case hB => omega)) | (with_reducible apply below_on; (with_reducible assumption)) | (go_size; done) | (with_reducible apply size_of)))
  clear i0
  go_wp2_with fail
  refine (rgL.Put_any r0 A0 B n0 c0 m d bs _ (I0.out.below (by (repeat' (first | (with_reducible exact Below.refl _ _) | (with_reducible assumption) | (with_reducible refine below_drewN ?_ _) | (with_reducible refine below_new ?_ _) | (with_reducible refine Below.alloc ?_ ?_ _) | (with_reducible refine Below.drew ?_) | (with_reducible refine Below.setCell ?_ ?_ _) | (with_reducible apply below_at; (case k => (with_reducible assumption)); (case hB => omega)) | (with_reducible apply below_on; (with_reducible assumption)) | (go_size; done) | (with_reducible apply size_of))))) (HH.out.below (by (repeat' (first | (with_reducible exact Below.refl _ _) | (with_reducible assumption) | (with_reducible refine below_drewN ?_ _) | (with_reducible refine below_new ?_ _) | (with_reducible refine Below.alloc ?_ ?_ _) | (with_reducible refine Below.drew ?_) | (with_reducible refine Below.setCell ?_ ?_ _) | (with_reducible apply below_at; (case k => (with_reducible assumption)); (case hB => omega)) | (with_reducible apply below_on; (with_reducible assumption)) | (go_size; done) | (with_reducible apply size_of)))) (Nat.le_refl _)) HL.out (by omega) HBB.out).mono ?_
  rintro e w2 ⟨A1, n1, c1, rfl, i1, o1, hb2⟩
  rw [HR1.out] at i1 o1 ⊢
  rw [HP.out.2]
  have I1 := Lib.hid i1
  have HZ1 := Lib.hid hb1.size
  have a2 : Below w.heap.size w w2 := by (repeat' (first | (with_reducible exact Below.refl _ _) | (with_reducible assumption) | (with_reducible refine below_drewN ?_ _) | (with_reducible refine below_new ?_ _) | (with_reducible refine Below.alloc ?_ ?_ _) | (with_reducible refine Below.drew ?_) | (with_reducible refine Below.setCell ?_ ?_ _) | (with_reducible apply below_at; (case k => (with_reducible assumption)); (case hB => omega)) | (with_reducible apply below_on; (with_reducible assumption)) | (go_size; done) | (with_reducible apply size_of)))
  have HZ : Hid (Lies (w2) (w.heap.size) 24 [.int .i64 0, .slice none 0 0, .int .i64 0]) := Lib.hid ((((Lies.fresh w 24 [.int .i64 0, .slice none 0 0, .int .i64 0]).past hb1).alloc _).past hb2)
  have HS : Hid (w.heap.size < w1.heap.size ∧ w1.heap.size < w2.heap.size) := Lib.hid ⟨by have := hb1.size; simp at this; omega, by have := hb2.size; simp at this; omega⟩
  have HO1 : Hid (OwnZ w2 w1.heap.size (.slice A1 n1 c1) r1.b) := Lib.hid (o1.mono (by simp))
  clear i1 o1 hb1 hb2
  have HA2 := Lib.hid a2
  clear a1 a2
  go_wp2_with fail
  (have RD := grows_roads (S := fun x' => (Lies (x') (w2.heap.size) 24 [.int .i64 (r1).l, .slice (A1) (n1) (c1), .int .i64 (r1).n]) ∧ (∃ a b c, Lies x' w.heap.size 24 [a, b, c]) ∧ OwnZ x' w1.heap.size (.slice A1 n1 c1) r1.b ∧ Below w.heap.size w x') (fun a b h1 h2 => ⟨h2.1.past h1, (let ⟨x, y, z, h⟩ := h2.2.1; ⟨x, y, z, h.past h1⟩), ownz_grow h2.2.2.1 h1, h2.2.2.2.trans (h1.mono h2.2.2.2.size)⟩)); refine region_ord _ Grows RD (by refine ⟨Lies.fresh _ _ _, ⟨_, _, _, HZ.out.alloc _⟩, ownz_grow HO1.out (Below.drew (grows_alloc _ _)), ?_⟩; have := HA2.out; (repeat' (first | (with_reducible exact Below.refl _ _) | (with_reducible assumption) | (with_reducible refine below_drewN ?_ _) | (with_reducible refine below_new ?_ _) | (with_reducible refine Below.alloc ?_ ?_ _) | (with_reducible refine Below.drew ?_) | (with_reducible refine Below.setCell ?_ ?_ _) | (with_reducible apply below_at; (case k => (with_reducible assumption)); (case hB => omega)) | (with_reducible apply below_on; (with_reducible assumption)) | (go_size; done) | (with_reducible apply size_of)))) (by kernel_rfl) ?_; intro ops Q' hops hPQ hN; (have HNS : Hid (Region.noSelect ops = true) := Lib.hid (by rw [hops]; kernel_rfl)); (have hsz : ops.size = 14 := (by rw [hops]; rfl)); have HOP := Lib.hid hops; have HPQ := Lib.hid hPQ; have HN := Lib.hid hN; rw [hsz]; clear hops hsz hPQ hN
  refine ord_take RD 0 (at_list (by rw [HOP.out]; rfl)) HNS.out HPQ.out (by rw [HOP.out]; kernel_rfl) (by rw [HOP.out]; kernel_rfl) (by rw [HOP.out]; rfl) (fun K hK => ?_); apply Exists.intro; refine ⟨fun W hSW => ?_, hK _ ?_⟩; (focus ((try dsimp only at hSW); (obtain ⟨y0, y1, y2, -, -, -⟩ := hSW.1.three); go_simp; try with_reducible rfl)); clear hK K; (try simp only [Act.put, List.setIfInBounds_toArray, List.set_cons_zero, List.set_cons_succ])
  refine ord_take RD 1 (at_list (by rw [HOP.out]; rfl)) HNS.out HPQ.out (by rw [HOP.out]; kernel_rfl) (by rw [HOP.out]; kernel_rfl) (by rw [HOP.out]; rfl) (fun K hK => ?_); apply Exists.intro; refine ⟨fun W hSW => ?_, hK _ ?_⟩; (focus ((try dsimp only at hSW); go_simp; try with_reducible rfl)); clear hK K; (try simp only [Act.put, List.setIfInBounds_toArray, List.set_cons_zero, List.set_cons_succ])
  refine ord_take RD 2 (at_list (by rw [HOP.out]; rfl)) HNS.out HPQ.out (by rw [HOP.out]; kernel_rfl) (by rw [HOP.out]; kernel_rfl) (by rw [HOP.out]; rfl) (fun K hK => ?_); apply Exists.intro; refine ⟨fun W hSW => ?_, hK _ ?_⟩; (focus ((try dsimp only at hSW); go_simp; try with_reducible rfl)); clear hK K; (try simp only [Act.put, List.setIfInBounds_toArray, List.set_cons_zero, List.set_cons_succ])
  refine ord_take RD 3 (at_list (by rw [HOP.out]; rfl)) HNS.out HPQ.out (by rw [HOP.out]; kernel_rfl) (by rw [HOP.out]; kernel_rfl) (by rw [HOP.out]; rfl) (fun K hK => ?_); apply Exists.intro; refine ⟨fun W hSW => ?_, hK _ ?_⟩; (focus ((try dsimp only at hSW); go_simp; try with_reducible rfl)); clear hK K; (try simp only [Act.put, List.setIfInBounds_toArray, List.set_cons_zero, List.set_cons_succ])
  refine ord_take RD 4 (at_list (by rw [HOP.out]; rfl)) HNS.out HPQ.out (by rw [HOP.out]; kernel_rfl) (by rw [HOP.out]; kernel_rfl) (by rw [HOP.out]; rfl) (fun K hK => ?_); apply Exists.intro; refine ⟨fun W hSW => ?_, hK _ ?_⟩; (focus ((try dsimp only at hSW); go_simp; try with_reducible rfl)); clear hK K; (try simp only [Act.put, List.setIfInBounds_toArray, List.set_cons_zero, List.set_cons_succ])
  refine ord_take RD 5 (at_list (by rw [HOP.out]; rfl)) HNS.out HPQ.out (by rw [HOP.out]; kernel_rfl) (by rw [HOP.out]; kernel_rfl) (by rw [HOP.out]; rfl) (fun K hK => ?_); apply Exists.intro; refine ⟨fun W hSW => ?_, hK _ ?_⟩; (focus ((try dsimp only at hSW); go_simp; try with_reducible rfl)); clear hK K; (try simp only [Act.put, List.setIfInBounds_toArray, List.set_cons_zero, List.set_cons_succ])
  refine ord_take RD 6 (at_list (by rw [HOP.out]; rfl)) HNS.out HPQ.out (by rw [HOP.out]; kernel_rfl) (by rw [HOP.out]; kernel_rfl) (by rw [HOP.out]; rfl) (fun K hK => ?_); apply Exists.intro; refine ⟨fun W hSW => ?_, hK _ ?_⟩; (focus ((try dsimp only at hSW); go_simp; try with_reducible rfl)); clear hK K; (try simp only [Act.put, List.setIfInBounds_toArray, List.set_cons_zero, List.set_cons_succ])
  refine ord_take RD 7 (at_list (by rw [HOP.out]; rfl)) HNS.out HPQ.out (by rw [HOP.out]; kernel_rfl) (by rw [HOP.out]; kernel_rfl) (by rw [HOP.out]; rfl) (fun K hK => ?_); apply Exists.intro; refine ⟨fun W hSW => ?_, hK _ ?_⟩; (focus ((try dsimp only at hSW); go_simp; try with_reducible rfl)); clear hK K; (try simp only [Act.put, List.setIfInBounds_toArray, List.set_cons_zero, List.set_cons_succ])
  refine ord_take RD 8 (at_list (by rw [HOP.out]; rfl)) HNS.out HPQ.out (by rw [HOP.out]; kernel_rfl) (by rw [HOP.out]; kernel_rfl) (by rw [HOP.out]; rfl) (fun K hK => ?_); apply Exists.intro; refine ⟨fun W hSW => ?_, hK _ ?_⟩; (focus ((try dsimp only at hSW); (obtain ⟨y0, y1, y2, -, -, -⟩ := hSW.1.three); go_simp; try with_reducible rfl)); clear hK K; (try simp only [Act.put, List.setIfInBounds_toArray, List.set_cons_zero, List.set_cons_succ])
  refine ord_take RD 9 (at_list (by rw [HOP.out]; rfl)) HNS.out HPQ.out (by rw [HOP.out]; kernel_rfl) (by rw [HOP.out]; kernel_rfl) (by rw [HOP.out]; rfl) (fun K hK => ?_); apply Exists.intro; refine ⟨fun W hSW => ?_, hK _ ?_⟩; (focus ((try dsimp only at hSW); go_simp; exact (rgW.rCheck_any r1 A1 n1 c1 W (rg_own I1.out hSW.2.2.1)))); clear hK K; (try simp only [Act.put, List.setIfInBounds_toArray, List.set_cons_zero, List.set_cons_succ])
  refine ord_take RD 10 (at_list (by rw [HOP.out]; rfl)) HNS.out HPQ.out (by rw [HOP.out]; kernel_rfl) (by rw [HOP.out]; kernel_rfl) (by rw [HOP.out]; rfl) (fun K hK => ?_); apply Exists.intro; refine ⟨fun W hSW => ?_, hK _ ?_⟩; (focus ((try dsimp only at hSW); go_simp; try with_reducible rfl)); clear hK K; (try simp only [Act.put, List.setIfInBounds_toArray, List.set_cons_zero, List.set_cons_succ])
  refine ord_take RD 11 (at_list (by rw [HOP.out]; rfl)) HNS.out HPQ.out (by rw [HOP.out]; kernel_rfl) (by rw [HOP.out]; kernel_rfl) (by rw [HOP.out]; rfl) (fun K hK => ?_); apply Exists.intro; refine ⟨fun W hSW => ?_, hK _ ?_⟩; (focus ((try dsimp only at hSW); go_simp; try with_reducible rfl)); clear hK K; (try simp only [Act.put, List.setIfInBounds_toArray, List.set_cons_zero, List.set_cons_succ])
  refine ord_one RD 12 (by rw [HOP.out]; kernel_rfl) (at_list (by rw [HOP.out]; rfl)) (by rw [HOP.out]; rfl) (fun W3 hWW hSW K hK => ?_); (try dsimp only at hSW)
  obtain ⟨K1, ⟨a0, b0, c0', K2⟩, own, acc⟩ := hSW
  obtain ⟨z0, z1, z2, f0, f1, f2⟩ := K2.three
  have zl := K2.lt
  have HKK := Lib.hid (And.intro K1 (And.intro K2 (And.intro own acc)))
  clear K1 K2 own acc
  go_simp
  refine hK _ _ ⟨HKK.out.1.other (by have := HS.out; show w.heap.size ≠ w2.heap.size; omega) _ |>.other (by have := HS.out; show w.heap.size ≠ w2.heap.size; omega) _ |>.other (by have := HS.out; show w.heap.size ≠ w2.heap.size; omega) _, ⟨_, _, _, HKK.out.2.1.store3⟩, OwnZ.store3 HKK.out.2.2.1 HKK.out.2.1 (by decide), by have := HKK.out.2.2.2; (repeat' (first | (with_reducible exact Below.refl _ _) | (with_reducible assumption) | (with_reducible refine below_drewN ?_ _) | (with_reducible refine below_new ?_ _) | (with_reducible refine Below.alloc ?_ ?_ _) | (with_reducible refine Below.drew ?_) | (with_reducible refine Below.setCell ?_ ?_ _) | (with_reducible apply below_at; (case k => (with_reducible assumption)); (case hB => omega)) | (with_reducible apply below_on; (with_reducible assumption)) | (go_size; done) | (with_reducible apply size_of)))⟩ ?_
  have HLR := Lib.hid (HKK.out.2.1.store3 (a := .int .i64 r1.l) (b := .slice A1 n1 c1) (c := .int .i64 r1.n))
  clear HKK z0 z1 z2 f0 f1 f2 zl
  clear hK K; (try simp only [Act.put, List.setIfInBounds_toArray, List.set_cons_zero, List.set_cons_succ])
  refine ord_take RD 13 (at_list (by rw [HOP.out]; rfl)) HNS.out HPQ.out (by rw [HOP.out]; kernel_rfl) (by rw [HOP.out]; kernel_rfl) (by rw [HOP.out]; rfl) (fun K hK => ?_); apply Exists.intro; refine ⟨fun W hSW => ?_, hK _ ?_⟩; (focus ((try dsimp only at hSW); go_simp; try with_reducible rfl)); clear hK K; (try simp only [Act.put, List.setIfInBounds_toArray, List.set_cons_zero, List.set_cons_succ])
  refine ord_done (by rw [HOP.out]; kernel_rfl) (fun W4 hWW hSW => HN.out _ _ ?_); clear HOP HNS HPQ HN RD; (try dsimp only at hSW)
  have HV : Hid (rgOk r1 = true ∧ rgE r1 = 0) := Lib.hid ⟨HOK.out, E_ok HOK.out⟩
  have HW := Lib.hid hSW.2.2
  obtain ⟨x0, x1, x2, -, -, -⟩ := (HLR.out.past hWW).three
  clear hSW hWW HLR
  go_wp2_with fail
  refine bodyPost_ret (by simp [results, Tryd.results20, go_sem, x0, x1, x2]; try rfl) rfl ?_
  exact ⟨A1, n1, c1, by rw [HV.out.2]; rfl, rg_own I1.out HW.out.1, HW.out.1.mono (Nat.le_of_lt HS.out.1), HW.out.2⟩
end Go.Proofs.YtpggdijhfdddpaaDoor.cxW
