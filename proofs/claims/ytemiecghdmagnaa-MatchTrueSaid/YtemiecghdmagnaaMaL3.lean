/- MatchTrue, by a walk. -/
import Derived.Test.YtemiecghdmagnaaMaWF
namespace Go.Proofs.Ytemiecghdmagnaa.maW
set_option maxRecDepth 100000
open Go.RowKit Go.Proofs.Ytemiecghdmagnaa.base Go.Proofs.Ytemiecghdmagnaa.rgP Go.Proofs.Ytemiecghdmagnaa.fdP Go.Proofs.Ytemiecghdmagnaa.maP Go.Proofs.Ytemiecghdmagnaa.rgW Go.Proofs.Ytemiecghdmagnaa.rgL Go.Proofs.Ytemiecghdmagnaa.hashP Go.Proofs.Ytemiecghdmagnaa.hashW Go.Proofs.Ytemiecghdmagnaa.cxP Go.Proofs.Ytemiecghdmagnaa.fdW
set_option linter.unusedVariables false
set_option linter.unusedSimpArgs false
/-- The three boxes and their rows. -/
structure Src (w W : World) (sm sr sf : Nat) (m : Mt) (r : Rg) (A : Option Addr) (n c : Nat) (f : Fnd) (B : Option Addr) (q d : Nat) : Prop where
  lm : Lies (W) (sm) 23 [.int .i64 (m).a, .int .i64 (m).k]
  lr : Lies (W) (sr) 26 [.int .i64 (r).l, .slice (A) (n) (c), .int .i64 (r).n]
  lf : Lies (W) (sf) 29 [.int .i64 (f).l, .slice (B) (q) (d)]
  o : OwnZ W w.heap.size (.slice A n c) r.b
  v : OwnV W w.heap.size (.slice B q d) f.s
  i1 : RgIn W A n c r
  i2 : FdIn W B q d f
  hb : Below w.heap.size w W
theorem Src.past {w W W' : World} {sm sr sf : Nat} {m : Mt} {r : Rg} {A : Option Addr} {n c : Nat} {f : Fnd} {B : Option Addr} {q d : Nat} (h : Src w W sm sr sf m r A n c f B q d) (hb : Below W.heap.size W W') : Src w W' sm sr sf m r A n c f B q d :=
  ⟨h.lm.past hb, h.lr.past hb, h.lf.past hb, h.o.past hb, h.v.past hb, h.i1.below hb, h.i2.below hb, h.hb.trans (hb.mono h.hb.size)⟩
set_option maxHeartbeats 4000000 in
theorem true_law (l : Int) (D : Option Addr) (bn bc : Nat) (z : List Int) (w : World) (l1 : -9223372036854775808 ≤ l) (l2 : l ≤ 9223372036854775807) (hrow : IsRow .u8 w D bn bc z) :
    Calls Try.prog 5 #[.int .i64 l, .slice D bn bc] w fun e w' => e = .returned (.bool true) ∧ Below w.heap.size w w' := by
  obtain ⟨hD, hbn, hmx, hbb'⟩ := has_of_row hrow
  have hcp := row_caps hrow
  generalize z.take bn = bs at *
  have hbb : ∀ z ∈ bs, 0 ≤ z ∧ z ≤ 255 := fun z h => bounds_u8 (hbb' z h)
  have bn9 : (bn : Int) ≤ 9223372036854775807 := by unfold maxLen at hcp; omega
  clear hbb' hrow hmx hcp
  by_cases a1 : l < 0
  · clear hD hbn hbb
    go_enter Try.func5, Try.ntmps5
    go_wp2_with (go_at_call 26; refine (alive _).mono ?_; rintro e wz ⟨rfl, hbz⟩)
    go_ret
    exact ⟨rfl, by (repeat' (first | (with_reducible exact Below.refl _ _) | (with_reducible assumption) | (with_reducible refine below_drewN ?_ _) | (with_reducible refine below_new ?_ _) | (with_reducible refine Below.alloc ?_ ?_ _) | (with_reducible refine Below.drew ?_) | (with_reducible refine Below.setCell ?_ ?_ _) | (with_reducible apply below_at; (case k => (with_reducible assumption)); (case hB => omega)) | (with_reducible apply below_on; (with_reducible assumption)) | (go_size; done) | (with_reducible apply size_of)))⟩
  by_cases a2 : 2 < l
  · clear hD hbn hbb
    go_enter Try.func5, Try.ntmps5
    go_wp2_with (go_at_call 26; refine (alive _).mono ?_; rintro e wz ⟨rfl, hbz⟩)
    go_ret
    exact ⟨rfl, by (repeat' (first | (with_reducible exact Below.refl _ _) | (with_reducible assumption) | (with_reducible refine below_drewN ?_ _) | (with_reducible refine below_new ?_ _) | (with_reducible refine Below.alloc ?_ ?_ _) | (with_reducible refine Below.drew ?_) | (with_reducible refine Below.setCell ?_ ?_ _) | (with_reducible apply below_at; (case k => (with_reducible assumption)); (case hB => omega)) | (with_reducible apply below_on; (with_reducible assumption)) | (go_size; done) | (with_reducible apply size_of)))⟩
  by_cases a3 : (100 : Int) < bn
  · clear hD hbn hbb
    go_enter Try.func5, Try.ntmps5
    go_wp2_with (go_at_call 26; refine (alive _).mono ?_; rintro e wz ⟨rfl, hbz⟩)
    go_ret
    exact ⟨rfl, by (repeat' (first | (with_reducible exact Below.refl _ _) | (with_reducible assumption) | (with_reducible refine below_drewN ?_ _) | (with_reducible refine below_new ?_ _) | (with_reducible refine Below.alloc ?_ ?_ _) | (with_reducible refine Below.drew ?_) | (with_reducible refine Below.setCell ?_ ?_ _) | (with_reducible apply below_at; (case k => (with_reducible assumption)); (case hB => omega)) | (with_reducible apply below_on; (with_reducible assumption)) | (go_size; done) | (with_reducible apply size_of)))⟩
  have hl : lvB l = true := (lvB_iff l).2 (by omega)
  have HL := Lib.hid hl
  have HD := Lib.hid hD
  have HBN := Lib.hid hbn
  have H7 : Hid (bn ≤ 100) := Lib.hid (by omega)
  have HBB := Lib.hid hbb
  have HE : Hid (newE l = 0 ∧ newF l = ⟨l, List.replicate (szOf l) (-1)⟩) := Lib.hid ⟨by unfold newE; rw [if_pos hl], by unfold newF; rw [if_pos hl]⟩
  clear hl hD hbn hbb
  go_enter Try.func5, Try.ntmps5
  go_wp2_with fail
  refine (alive _).mono ?_
  rintro e wz ⟨rfl, hbz⟩
  have HWZ := Lib.hid hbz
  clear hbz
  go_wp2_with fail
  refine (rgL.New_any l _).mono ?_
  rintro e w1 ⟨A0, n0, c0, rfl, i0, o0, hb1⟩
  rw [HE.out.1]
  have HW1 := Lib.hid (HWZ.out.trans (hb1.mono HWZ.out.size))
  have HR1 := Lib.hid (And.intro i0 (o0.mono HWZ.out.size))
  clear i0 o0 hb1
  go_wp2_with fail
  refine (fdW.New_ok l _ HL.out).mono ?_
  rintro e w2 ⟨g2, rfl, o2, hb2⟩
  have HW2 : Hid (Below w.heap.size w w2 ∧ (Lies (w2) (w1.heap.size) 26 [.int .i64 (newR l).l, .slice (A0) (n0) (c0), .int .i64 (newR l).n])) := Lib.hid ⟨(HW1.out.alloc HW1.out.size _).trans (hb2.mono ((HW1.out.alloc HW1.out.size _).size)), (Lies.fresh _ _ _).past hb2⟩
  have HR2 := Lib.hid (And.intro ((HR1.out.1.below (grows_alloc _ _)).below hb2) (And.intro ((HR1.out.2.alloc _).past hb2) (And.intro (fdL.new_in HL.out o2) (show OwnV w2 w.heap.size (.slice (some ⟨g2, 0, none⟩) (szOf l) (szOf l)) (List.replicate (szOf l) (-1)) from .inl (o2.mono (HW1.out.alloc HW1.out.size _).size)))))
  clear o2 hb2
  go_wp2_with fail
  refine (New_any _).mono ?_
  rintro e w3 ⟨rfl, hb3⟩
  have HM3 : Hid (Src w (w3.alloc (.cells #[.int .i64 (-1), .int .i64 0] 23)) w3.heap.size w1.heap.size w2.heap.size noM (newR l) A0 n0 c0 (newF l) (some ⟨g2, 0, none⟩) (szOf l) (szOf l)) := Lib.hid (by
    have hb2' := HW2.out.1
    have hz2 : Below w2.heap.size w2 (w3.alloc (.cells #[.int .i64 (-1), .int .i64 0] 23)) := by (repeat' (first | (with_reducible exact Below.refl _ _) | (with_reducible assumption) | (with_reducible refine below_drewN ?_ _) | (with_reducible refine below_new ?_ _) | (with_reducible refine Below.alloc ?_ ?_ _) | (with_reducible refine Below.drew ?_) | (with_reducible refine Below.setCell ?_ ?_ _) | (with_reducible apply below_at; (case k => (with_reducible assumption)); (case hB => omega)) | (with_reducible apply below_on; (with_reducible assumption)) | (go_size; done) | (with_reducible apply size_of)))
    refine ⟨Lies.fresh _ _ _, HW2.out.2.past hz2, ?_, HR2.out.2.1.past hz2, ?_, HR2.out.1.below hz2, HR2.out.2.2.1.below hz2, hb2'.trans (hz2.mono hb2'.size)⟩
    · have h0 := ((Lies.fresh w2 29 [.int .i64 l, .slice (some ⟨g2, 0, none⟩) (szOf l) (szOf l)]).past hb3).alloc (.cells #[.int .i64 (-1), .int .i64 0] 23)
      rw [HE.out.2]
      exact h0
    · rw [HE.out.2]
      exact HR2.out.2.2.2.past hz2)
  have HGE : Hid (w.heap.size ≤ w3.heap.size ∧ w.heap.size ≤ w1.heap.size ∧ w.heap.size ≤ w2.heap.size) := Lib.hid ⟨Nat.le_trans HW2.out.1.size (by have := hb3.size; simp at this; omega), HW1.out.size, HW2.out.1.size⟩
  clear hb3 HW1 HW2 HR1 HR2 HWZ
  go_wp2_with fail
  generalize hw4 : w3.alloc (.cells #[.int .i64 (-1), .int .i64 0] 23) = w4 at *
  generalize w3.heap.size = gM at *
  generalize w1.heap.size = gR at *
  generalize w2.heap.size = gF at *
  clear hw4
  go_loopw [11] (fun i wr => ∃ (k : Nat) (A : Option Addr) (n c : Nat) (B : Option Addr) (q d : Nat), k ≤ bn ∧ i = .int .i64 k ∧ Src w wr gM gR gF (came3 l (bs.take k)).m (came3 l (bs.take k)).r A n c (came3 l (bs.take k)).f B q d) (fun i _ => bn - (intOf i).toNat)
  case atStart => exact ⟨0, A0, n0, c0, _, _, _, by omega, rfl, HM3.out⟩
  case round =>
    obtain ⟨k, A, n, c, B, q, d, hk, rfl, M⟩ := hrel
    by_cases hlt : k < bn
    · obtain ⟨x, hx⟩ : ∃ x, bs.getD k 0 = x := ⟨_, rfl⟩
      obtain ⟨s, hs⟩ : ∃ s, came3 l (bs.take k) = s := ⟨_, rfl⟩
      obtain ⟨s2, hs2⟩ : ∃ s2, came3 l (bs.take (k + 1)) = s2 := ⟨_, rfl⟩
      have hs2' : step3 s x = s2 := by rw [← hs2, take_snoc 0 bs k (by rw [HBN.out]; exact hlt), came_snoc, hs, hx]
      have htr := came_true HL.out k (bs.take k) (by rw [List.length_take, HBN.out]; omega) (by have := H7.out; omega)
      have htr2 := came_true HL.out (k + 1) (bs.take (k + 1)) (by rw [List.length_take, HBN.out]; omega) (by have := H7.out; omega)
      have htk : (bs.take k).length < 700 := by rw [List.length_take]; have := H7.out; omega
      have htl : (bs.take (k + 1)).length = k + 1 := by rw [List.length_take, HBN.out]; omega
      rw [hs] at htr M
      rw [hs2] at htr2
      have hst := step_all HL.out (bs.take k) x htk htr
      rw [hs2'] at hst
      have hpn := put_new HL.out (bs.take (k + 1)) (by rw [htl]; have := H7.out; omega)
      have HST : Hid (byM s.m s.r s.f x = s2.m ∧ byR s.m s.r s.f x = s2.r ∧ byF s.m s.r s.f x = s2.f ∧ byE s.m s.r s.f = 0) := Lib.hid ⟨hst.2.1, hst.2.2.1, hst.2.2.2, hst.1⟩
      have HCK : Hid (mtE s2.m = 0 ∧ rgE s2.r = 0 ∧ s2.r.n = (k : Int) + 1) := Lib.hid ⟨mtE_yes htr2.m.1, by rw [rgE, htr2.r, hpn.2.2.1]; rfl, by rw [htr2.r, hpn.2.2.2.1, htl]; omega⟩
      have HMT : Hid (s2.m.a ≤ k ∧ -1 ≤ s2.m.a ∧ s2.m.k ≤ 40 ∧ (0 ≤ s2.m.a → s2.m.k ≤ s2.m.a ∧ 3 ≤ s2.m.k) ∧ (s2.m.a < 0 → s2.m.k = 0)) := Lib.hid (by
        have h1 := htr2.m
        have h2 := (mtB_iff s2.m).1 h1.1
        have h3 := h1.2.1
        rw [htl] at h3
        exact ⟨by omega, by omega, by omega, h1.2.2.1, by omega⟩)
      have HAT : Hid (∀ j : Nat, 1 ≤ j → (j : Int) ≤ s2.m.k → 0 ≤ s2.m.a → atE s2.r (s2.m.a - j) = 0 ∧ (atB s2.r (s2.m.a - j) = true → atV s2.r (s2.m.a - j) = bs.getD (k + 1 - j) 0)) := Lib.hid (fun j j1 j2 a0 => by
        have h1 := htr2.m
        have hk1 := (h1.2.2.1 a0).1
        have h3 := h1.2.2.2 a0 j j1 j2
        have e0 : atE s2.r (s2.m.a - j) = 0 := by rw [atE, htr2.r, if_pos hpn.2.2.1, if_pos (by omega)]
        refine ⟨e0, fun hb => ?_⟩
        rw [atB, if_pos e0] at hb
        rw [atV, if_pos e0, if_pos hb]
        unfold isB at hb
        rw [Bool.and_eq_true, htr2.r, hpn.2.2.2.1, hpn.2.2.2.2] at hb
        have b1 := of_decide_eq_true hb.1
        have b2 := of_decide_eq_true hb.2
        rw [htr2.r, hpn.2.2.2.1, ago_at HL.out (bs.take (k + 1)) (s2.m.a - j) (by omega) b1 b2, h3, htl, List.getD_eq_getElem?_getD, List.getD_eq_getElem?_getD, List.getElem?_take_of_lt (by omega)])
      have HS2 := Lib.hid hs2
      have HXB : Hid (0 ≤ x ∧ x ≤ 255) := Lib.hid (by rw [← hx]; exact at_bd HBB.out k)
      have HM := Lib.hid M
      obtain ⟨db, doff, rfl, hdb, hdc⟩ := has_some HD.out (by rw [HBN.out]; omega)
      have HDC : Hid (∀ W, Below w.heap.size w W → W.cell? ⟨db, doff + k, none⟩ = some (.int .u8 x)) := Lib.hid (fun W hW => by rw [(bcell hW).1 db _ hdb, ← hx]; exact hdc k (by rw [HBN.out]; exact hlt))
      have HDJ : Hid (∀ j W, j < bn → Below w.heap.size w W → W.cell? ⟨db, doff + j, none⟩ = some (.int .u8 (bs.getD j 0))) := Lib.hid (fun j W hj hW => by rw [(bcell hW).1 db _ hdb]; exact hdc j (by rw [HBN.out]; exact hj))
      have HDB := Lib.hid hdb
      have k1 : (k : Int) < bn := by omega
      have k0 : 0 ≤ (k : Int) := by omega
      have k9 : (bn : Int) ≤ 100 := by have := H7.out; omega
      have HLT := Lib.hid hlt
      clear hx hs hs2 hs2' htr htr2 htk hst M hdb hdc hk hlt hpn htl
      go_wp2_with fail
      have HLE : Hid (∀ W, (Src w W gM gR gF s.m s.r A n c s.f B q d) ∧ wr.heap.size ≤ W.heap.size → wr.heap.size ≤ W.heap.size) := Lib.hid (fun W h => h.2)
      (have RD := grows_roads (S := fun x' => (Src w x' gM gR gF s.m s.r A n c s.f B q d) ∧ wr.heap.size ≤ x'.heap.size) (fun a b h1 h2 => ⟨h2.1.past h1, Nat.le_trans h2.2 h1.size⟩)); refine region_ord _ Grows RD (⟨HM.out.past (Below.drew (Below.refl _ _)), Nat.le_refl _⟩) (by kernel_rfl) ?_; intro ops Q' hops hPQ hN; (have HNS : Hid (Region.noSelect ops = true) := Lib.hid (by rw [hops]; kernel_rfl)); (have hsz : ops.size = 20 := (by rw [hops]; rfl)); have HOP := Lib.hid hops; have HPQ := Lib.hid hPQ; have HN := Lib.hid hN; rw [hsz]; clear hops hsz hPQ hN
      refine ord_take RD 0 (at_list (by rw [HOP.out]; rfl)) HNS.out HPQ.out (by rw [HOP.out]; kernel_rfl) (by rw [HOP.out]; kernel_rfl) (by rw [HOP.out]; rfl) (fun K hK => ?_); apply Exists.intro; refine ⟨fun W hSW => ?_, hK _ ?_⟩; (focus ((try dsimp only at hSW); (obtain ⟨y0, y1, -, -⟩ := hSW.1.lm.two); go_simp; try with_reducible rfl)); clear hK K; (try simp only [Act.put, List.setIfInBounds_toArray, List.set_cons_zero, List.set_cons_succ])
      refine ord_take RD 1 (at_list (by rw [HOP.out]; rfl)) HNS.out HPQ.out (by rw [HOP.out]; kernel_rfl) (by rw [HOP.out]; kernel_rfl) (by rw [HOP.out]; rfl) (fun K hK => ?_); apply Exists.intro; refine ⟨fun W hSW => ?_, hK _ ?_⟩; (focus ((try dsimp only at hSW); (obtain ⟨y0, y1, y2, -, -, -⟩ := hSW.1.lr.three); go_simp; try with_reducible rfl)); clear hK K; (try simp only [Act.put, List.setIfInBounds_toArray, List.set_cons_zero, List.set_cons_succ])
      refine ord_take RD 2 (at_list (by rw [HOP.out]; rfl)) HNS.out HPQ.out (by rw [HOP.out]; kernel_rfl) (by rw [HOP.out]; kernel_rfl) (by rw [HOP.out]; rfl) (fun K hK => ?_); apply Exists.intro; refine ⟨fun W hSW => ?_, hK _ ?_⟩; (focus ((try dsimp only at hSW); (obtain ⟨y0, y1, -, -⟩ := hSW.1.lf.two); go_simp; try with_reducible rfl)); clear hK K; (try simp only [Act.put, List.setIfInBounds_toArray, List.set_cons_zero, List.set_cons_succ])
      refine ord_take RD 3 (at_list (by rw [HOP.out]; rfl)) HNS.out HPQ.out (by rw [HOP.out]; kernel_rfl) (by rw [HOP.out]; kernel_rfl) (by rw [HOP.out]; rfl) (fun K hK => ?_); apply Exists.intro; refine ⟨fun W hSW => ?_, hK _ ?_⟩; (focus ((try dsimp only at hSW); go_simp; try with_reducible rfl)); clear hK K; (try simp only [Act.put, List.setIfInBounds_toArray, List.set_cons_zero, List.set_cons_succ])
      refine ord_take RD 4 (at_list (by rw [HOP.out]; rfl)) HNS.out HPQ.out (by rw [HOP.out]; kernel_rfl) (by rw [HOP.out]; kernel_rfl) (by rw [HOP.out]; rfl) (fun K hK => ?_); apply Exists.intro; refine ⟨fun W hSW => ?_, hK _ ?_⟩; (focus ((try dsimp only at hSW); go_simp; try with_reducible rfl)); clear hK K; (try simp only [Act.put, List.setIfInBounds_toArray, List.set_cons_zero, List.set_cons_succ])
      refine ord_take RD 5 (at_list (by rw [HOP.out]; rfl)) HNS.out HPQ.out (by rw [HOP.out]; kernel_rfl) (by rw [HOP.out]; kernel_rfl) (by rw [HOP.out]; rfl) (fun K hK => ?_); apply Exists.intro; refine ⟨fun W hSW => ?_, hK _ ?_⟩; (focus ((try dsimp only at hSW); go_simp; try with_reducible rfl)); clear hK K; (try simp only [Act.put, List.setIfInBounds_toArray, List.set_cons_zero, List.set_cons_succ])
      refine ord_take RD 6 (at_list (by rw [HOP.out]; rfl)) HNS.out HPQ.out (by rw [HOP.out]; kernel_rfl) (by rw [HOP.out]; kernel_rfl) (by rw [HOP.out]; rfl) (fun K hK => ?_); apply Exists.intro; refine ⟨fun W hSW => ?_, hK _ ?_⟩; (focus ((try dsimp only at hSW); (have y0 := HDC.out _ hSW.1.hb; have y1 : db < W.heap.size := (Nat.lt_of_lt_of_le HDB.out hSW.1.hb.size)); go_simp; try with_reducible rfl)); clear hK K; (try simp only [Act.put, List.setIfInBounds_toArray, List.set_cons_zero, List.set_cons_succ])
      apply mid9 (C := fun A1 n1 c1 A2 n2 c2 xX xY xZ W => ((Src w W gM gR gF s.m s.r A n c s.f B q d) ∧ wr.heap.size ≤ W.heap.size) ∧ Cal w W s2.r A1 n1 c1 s2.f A2 n2 c2 ∧ (Lies W xX 23 [.int .i64 0, .int .i64 0] ∧ wr.heap.size ≤ xX) ∧ (Lies W xY 26 [.int .i64 0, .slice none 0 0, .int .i64 0] ∧ wr.heap.size ≤ xY) ∧ (Lies W xZ 29 [.int .i64 0, .slice none 0 0] ∧ wr.heap.size ≤ xZ))
      ·   intro HREST
          refine ord_four RD 7 13 14 15 (by rw [HOP.out]; kernel_rfl) (at_list (by rw [HOP.out]; rfl)) (at_list (by rw [HOP.out]; rfl)) (at_list (by rw [HOP.out]; rfl)) (at_list (by rw [HOP.out]; rfl)) (by rw [HOP.out]; rfl) (by rw [HOP.out]; rfl) (by rw [HOP.out]; rfl) (by rw [HOP.out]; rfl) ?_ ?_ ?_ ?_
          · intro Wn hWW hSW K hK
            (try dsimp only at hSW)
            have HS := Lib.hid hSW
            clear hSW hWW
            go_simp
            refine (Byte_any s.m s.r A n c s.f B q d x _ HS.out.1.i1 HS.out.1.i2 HXB.out.1 HXB.out.2).mono ?_
            rintro e0 Wc ⟨A1, n1, c1, A2, n2, c2, rfl, i1, o1, i2, o2, hb⟩
            simp only [HST.out.1, HST.out.2.1, HST.out.2.2.1, HST.out.2.2.2] at i1 o1 i2 o2 ⊢
            refine hK _ _ ⟨HS.out.1.past hb, Nat.le_trans HS.out.2 hb.size⟩ ?_
            have HCAL := Lib.hid (cal_mk i1 (o1.mono HS.out.1.hb.size) i2 (o2.mono HS.out.1.hb.size))
            replace HS := Lib.hid (And.intro (HS.out.1.past hb) (Nat.le_trans HS.out.2 hb.size))
            clear i1 o1 i2 o2 hb
            clear hK K; (try simp only [Act.put, List.setIfInBounds_toArray, List.set_cons_zero, List.set_cons_succ])
            refine ord_take RD 8 (at_list (by rw [HOP.out]; rfl)) HNS.out HPQ.out (by rw [HOP.out]; kernel_rfl) (by rw [HOP.out]; kernel_rfl) (by rw [HOP.out]; rfl) (fun K hK => ?_); apply Exists.intro; refine ⟨fun W hSW => ?_, hK _ ?_⟩; (focus ((try dsimp only at hSW); go_simp; try with_reducible rfl)); clear hK K; (try simp only [Act.put, List.setIfInBounds_toArray, List.set_cons_zero, List.set_cons_succ])
            refine ord_take RD 9 (at_list (by rw [HOP.out]; rfl)) HNS.out HPQ.out (by rw [HOP.out]; kernel_rfl) (by rw [HOP.out]; kernel_rfl) (by rw [HOP.out]; rfl) (fun K hK => ?_); apply Exists.intro; refine ⟨fun W hSW => ?_, hK _ ?_⟩; (focus ((try dsimp only at hSW); go_simp; try with_reducible rfl)); clear hK K; (try simp only [Act.put, List.setIfInBounds_toArray, List.set_cons_zero, List.set_cons_succ])
            refine ord_take RD 10 (at_list (by rw [HOP.out]; rfl)) HNS.out HPQ.out (by rw [HOP.out]; kernel_rfl) (by rw [HOP.out]; kernel_rfl) (by rw [HOP.out]; rfl) (fun K hK => ?_); apply Exists.intro; refine ⟨fun W hSW => ?_, hK _ ?_⟩; (focus ((try dsimp only at hSW); go_simp; try with_reducible rfl)); clear hK K; (try simp only [Act.put, List.setIfInBounds_toArray, List.set_cons_zero, List.set_cons_succ])
            refine ord_take RD 11 (at_list (by rw [HOP.out]; rfl)) HNS.out HPQ.out (by rw [HOP.out]; kernel_rfl) (by rw [HOP.out]; kernel_rfl) (by rw [HOP.out]; rfl) (fun K hK => ?_); apply Exists.intro; refine ⟨fun W hSW => ?_, hK _ ?_⟩; (focus ((try dsimp only at hSW); go_simp; try with_reducible rfl)); clear hK K; (try simp only [Act.put, List.setIfInBounds_toArray, List.set_cons_zero, List.set_cons_succ])
            refine ord_take RD 12 (at_list (by rw [HOP.out]; rfl)) HNS.out HPQ.out (by rw [HOP.out]; kernel_rfl) (by rw [HOP.out]; kernel_rfl) (by rw [HOP.out]; rfl) (fun K hK => ?_); apply Exists.intro; refine ⟨fun W hSW => ?_, hK _ ?_⟩; (focus ((try dsimp only at hSW); go_simp; try with_reducible rfl)); clear hK K; (try simp only [Act.put, List.setIfInBounds_toArray, List.set_cons_zero, List.set_cons_succ])
            refine ord_three RD 13 14 15 (by rw [HOP.out]; kernel_rfl) (at_list (by rw [HOP.out]; rfl)) (at_list (by rw [HOP.out]; rfl)) (at_list (by rw [HOP.out]; rfl)) (by rw [HOP.out]; rfl) (by rw [HOP.out]; rfl) (by rw [HOP.out]; rfl) ?_ ?_ ?_
            · intro Wn hWW hSW K hK
              (try dsimp only at hSW)
              replace HCAL := Lib.hid (cal_past HCAL.out hWW)
              have HS := Lib.hid hSW
              have HX := Lib.hid (And.intro (Lies.fresh Wn 23 [.int .i64 0, .int .i64 0]) (HLE.out _ hSW))
              clear hSW hWW
              go_simp
              refine hK _ _ ⟨HS.out.1.past (grows_alloc _ _), Nat.le_trans HS.out.2 (grows_alloc _ _).size⟩ ?_
              replace HCAL := Lib.hid (cal_past HCAL.out (grows_alloc _ (.cells #[.int .i64 0, .int .i64 0] 23)))
              replace HS := Lib.hid (And.intro (HS.out.1.past (grows_alloc _ (.cells #[.int .i64 0, .int .i64 0] 23))) (Nat.le_trans HS.out.2 (grows_alloc _ (.cells #[.int .i64 0, .int .i64 0] 23)).size))
              clear hK K; (try simp only [Act.put, List.setIfInBounds_toArray, List.set_cons_zero, List.set_cons_succ])
              generalize Wn.heap.size = xX at *
              refine ord_two RD 14 15 (by rw [HOP.out]; kernel_rfl) (at_list (by rw [HOP.out]; rfl)) (at_list (by rw [HOP.out]; rfl)) (by rw [HOP.out]; rfl) (by rw [HOP.out]; rfl) ?_ ?_
              · intro Wn hWW hSW K hK
                (try dsimp only at hSW)
                replace HCAL := Lib.hid (cal_past HCAL.out hWW)
                replace HX := Lib.hid (And.intro (HX.out.1.past hWW) HX.out.2)
                have HS := Lib.hid hSW
                have HY := Lib.hid (And.intro (Lies.fresh Wn 26 [.int .i64 0, .slice none 0 0, .int .i64 0]) (HLE.out _ hSW))
                clear hSW hWW
                go_simp
                refine hK _ _ ⟨HS.out.1.past (grows_alloc _ _), Nat.le_trans HS.out.2 (grows_alloc _ _).size⟩ ?_
                replace HCAL := Lib.hid (cal_past HCAL.out (grows_alloc _ (.cells #[.int .i64 0, .slice none 0 0, .int .i64 0] 26)))
                replace HX := Lib.hid (And.intro (HX.out.1.past (grows_alloc _ (.cells #[.int .i64 0, .slice none 0 0, .int .i64 0] 26))) HX.out.2)
                replace HS := Lib.hid (And.intro (HS.out.1.past (grows_alloc _ (.cells #[.int .i64 0, .slice none 0 0, .int .i64 0] 26))) (Nat.le_trans HS.out.2 (grows_alloc _ (.cells #[.int .i64 0, .slice none 0 0, .int .i64 0] 26)).size))
                clear hK K; (try simp only [Act.put, List.setIfInBounds_toArray, List.set_cons_zero, List.set_cons_succ])
                generalize Wn.heap.size = xY at *
                refine ord_one RD 15 (by rw [HOP.out]; kernel_rfl) (at_list (by rw [HOP.out]; rfl)) (by rw [HOP.out]; rfl) ?_
                · intro Wn hWW hSW K hK
                  (try dsimp only at hSW)
                  replace HCAL := Lib.hid (cal_past HCAL.out hWW)
                  replace HX := Lib.hid (And.intro (HX.out.1.past hWW) HX.out.2)
                  replace HY := Lib.hid (And.intro (HY.out.1.past hWW) HY.out.2)
                  have HS := Lib.hid hSW
                  have HZ := Lib.hid (And.intro (Lies.fresh Wn 29 [.int .i64 0, .slice none 0 0]) (HLE.out _ hSW))
                  clear hSW hWW
                  go_simp
                  refine hK _ _ ⟨HS.out.1.past (grows_alloc _ _), Nat.le_trans HS.out.2 (grows_alloc _ _).size⟩ ?_
                  replace HCAL := Lib.hid (cal_past HCAL.out (grows_alloc _ (.cells #[.int .i64 0, .slice none 0 0] 29)))
                  replace HX := Lib.hid (And.intro (HX.out.1.past (grows_alloc _ (.cells #[.int .i64 0, .slice none 0 0] 29))) HX.out.2)
                  replace HY := Lib.hid (And.intro (HY.out.1.past (grows_alloc _ (.cells #[.int .i64 0, .slice none 0 0] 29))) HY.out.2)
                  replace HS := Lib.hid (And.intro (HS.out.1.past (grows_alloc _ (.cells #[.int .i64 0, .slice none 0 0] 29))) (Nat.le_trans HS.out.2 (grows_alloc _ (.cells #[.int .i64 0, .slice none 0 0] 29)).size))
                  clear hK K; (try simp only [Act.put, List.setIfInBounds_toArray, List.set_cons_zero, List.set_cons_succ])
                  generalize Wn.heap.size = xZ at *
                  exact HREST A1 n1 c1 A2 n2 c2 xX xY xZ _ ⟨HS.out, HCAL.out, HX.out, HY.out, HZ.out⟩
              · intro Wn hWW hSW K hK
                (try dsimp only at hSW)
                replace HCAL := Lib.hid (cal_past HCAL.out hWW)
                replace HX := Lib.hid (And.intro (HX.out.1.past hWW) HX.out.2)
                have HS := Lib.hid hSW
                have HZ := Lib.hid (And.intro (Lies.fresh Wn 29 [.int .i64 0, .slice none 0 0]) (HLE.out _ hSW))
                clear hSW hWW
                go_simp
                refine hK _ _ ⟨HS.out.1.past (grows_alloc _ _), Nat.le_trans HS.out.2 (grows_alloc _ _).size⟩ ?_
                replace HCAL := Lib.hid (cal_past HCAL.out (grows_alloc _ (.cells #[.int .i64 0, .slice none 0 0] 29)))
                replace HX := Lib.hid (And.intro (HX.out.1.past (grows_alloc _ (.cells #[.int .i64 0, .slice none 0 0] 29))) HX.out.2)
                replace HS := Lib.hid (And.intro (HS.out.1.past (grows_alloc _ (.cells #[.int .i64 0, .slice none 0 0] 29))) (Nat.le_trans HS.out.2 (grows_alloc _ (.cells #[.int .i64 0, .slice none 0 0] 29)).size))
                clear hK K; (try simp only [Act.put, List.setIfInBounds_toArray, List.set_cons_zero, List.set_cons_succ])
                generalize Wn.heap.size = xZ at *
                refine ord_one RD 14 (by rw [HOP.out]; kernel_rfl) (at_list (by rw [HOP.out]; rfl)) (by rw [HOP.out]; rfl) ?_
                · intro Wn hWW hSW K hK
                  (try dsimp only at hSW)
                  replace HCAL := Lib.hid (cal_past HCAL.out hWW)
                  replace HX := Lib.hid (And.intro (HX.out.1.past hWW) HX.out.2)
                  replace HZ := Lib.hid (And.intro (HZ.out.1.past hWW) HZ.out.2)
                  have HS := Lib.hid hSW
                  have HY := Lib.hid (And.intro (Lies.fresh Wn 26 [.int .i64 0, .slice none 0 0, .int .i64 0]) (HLE.out _ hSW))
                  clear hSW hWW
                  go_simp
                  refine hK _ _ ⟨HS.out.1.past (grows_alloc _ _), Nat.le_trans HS.out.2 (grows_alloc _ _).size⟩ ?_
                  replace HCAL := Lib.hid (cal_past HCAL.out (grows_alloc _ (.cells #[.int .i64 0, .slice none 0 0, .int .i64 0] 26)))
                  replace HX := Lib.hid (And.intro (HX.out.1.past (grows_alloc _ (.cells #[.int .i64 0, .slice none 0 0, .int .i64 0] 26))) HX.out.2)
                  replace HZ := Lib.hid (And.intro (HZ.out.1.past (grows_alloc _ (.cells #[.int .i64 0, .slice none 0 0, .int .i64 0] 26))) HZ.out.2)
                  replace HS := Lib.hid (And.intro (HS.out.1.past (grows_alloc _ (.cells #[.int .i64 0, .slice none 0 0, .int .i64 0] 26))) (Nat.le_trans HS.out.2 (grows_alloc _ (.cells #[.int .i64 0, .slice none 0 0, .int .i64 0] 26)).size))
                  clear hK K; (try simp only [Act.put, List.setIfInBounds_toArray, List.set_cons_zero, List.set_cons_succ])
                  generalize Wn.heap.size = xY at *
                  exact ord_at (by kernel_rfl) (HREST A1 n1 c1 A2 n2 c2 xX xY xZ _ ⟨HS.out, HCAL.out, HX.out, HY.out, HZ.out⟩)
            · intro Wn hWW hSW K hK
              (try dsimp only at hSW)
              replace HCAL := Lib.hid (cal_past HCAL.out hWW)
              have HS := Lib.hid hSW
              have HY := Lib.hid (And.intro (Lies.fresh Wn 26 [.int .i64 0, .slice none 0 0, .int .i64 0]) (HLE.out _ hSW))
              clear hSW hWW
              go_simp
              refine hK _ _ ⟨HS.out.1.past (grows_alloc _ _), Nat.le_trans HS.out.2 (grows_alloc _ _).size⟩ ?_
              replace HCAL := Lib.hid (cal_past HCAL.out (grows_alloc _ (.cells #[.int .i64 0, .slice none 0 0, .int .i64 0] 26)))
              replace HS := Lib.hid (And.intro (HS.out.1.past (grows_alloc _ (.cells #[.int .i64 0, .slice none 0 0, .int .i64 0] 26))) (Nat.le_trans HS.out.2 (grows_alloc _ (.cells #[.int .i64 0, .slice none 0 0, .int .i64 0] 26)).size))
              clear hK K; (try simp only [Act.put, List.setIfInBounds_toArray, List.set_cons_zero, List.set_cons_succ])
              generalize Wn.heap.size = xY at *
              refine ord_two RD 13 15 (by rw [HOP.out]; kernel_rfl) (at_list (by rw [HOP.out]; rfl)) (at_list (by rw [HOP.out]; rfl)) (by rw [HOP.out]; rfl) (by rw [HOP.out]; rfl) ?_ ?_
              · intro Wn hWW hSW K hK
                (try dsimp only at hSW)
                replace HCAL := Lib.hid (cal_past HCAL.out hWW)
                replace HY := Lib.hid (And.intro (HY.out.1.past hWW) HY.out.2)
                have HS := Lib.hid hSW
                have HX := Lib.hid (And.intro (Lies.fresh Wn 23 [.int .i64 0, .int .i64 0]) (HLE.out _ hSW))
                clear hSW hWW
                go_simp
                refine hK _ _ ⟨HS.out.1.past (grows_alloc _ _), Nat.le_trans HS.out.2 (grows_alloc _ _).size⟩ ?_
                replace HCAL := Lib.hid (cal_past HCAL.out (grows_alloc _ (.cells #[.int .i64 0, .int .i64 0] 23)))
                replace HY := Lib.hid (And.intro (HY.out.1.past (grows_alloc _ (.cells #[.int .i64 0, .int .i64 0] 23))) HY.out.2)
                replace HS := Lib.hid (And.intro (HS.out.1.past (grows_alloc _ (.cells #[.int .i64 0, .int .i64 0] 23))) (Nat.le_trans HS.out.2 (grows_alloc _ (.cells #[.int .i64 0, .int .i64 0] 23)).size))
                clear hK K; (try simp only [Act.put, List.setIfInBounds_toArray, List.set_cons_zero, List.set_cons_succ])
                generalize Wn.heap.size = xX at *
                refine ord_one RD 15 (by rw [HOP.out]; kernel_rfl) (at_list (by rw [HOP.out]; rfl)) (by rw [HOP.out]; rfl) ?_
                · intro Wn hWW hSW K hK
                  (try dsimp only at hSW)
                  replace HCAL := Lib.hid (cal_past HCAL.out hWW)
                  replace HY := Lib.hid (And.intro (HY.out.1.past hWW) HY.out.2)
                  replace HX := Lib.hid (And.intro (HX.out.1.past hWW) HX.out.2)
                  have HS := Lib.hid hSW
                  have HZ := Lib.hid (And.intro (Lies.fresh Wn 29 [.int .i64 0, .slice none 0 0]) (HLE.out _ hSW))
                  clear hSW hWW
                  go_simp
                  refine hK _ _ ⟨HS.out.1.past (grows_alloc _ _), Nat.le_trans HS.out.2 (grows_alloc _ _).size⟩ ?_
                  replace HCAL := Lib.hid (cal_past HCAL.out (grows_alloc _ (.cells #[.int .i64 0, .slice none 0 0] 29)))
                  replace HY := Lib.hid (And.intro (HY.out.1.past (grows_alloc _ (.cells #[.int .i64 0, .slice none 0 0] 29))) HY.out.2)
                  replace HX := Lib.hid (And.intro (HX.out.1.past (grows_alloc _ (.cells #[.int .i64 0, .slice none 0 0] 29))) HX.out.2)
                  replace HS := Lib.hid (And.intro (HS.out.1.past (grows_alloc _ (.cells #[.int .i64 0, .slice none 0 0] 29))) (Nat.le_trans HS.out.2 (grows_alloc _ (.cells #[.int .i64 0, .slice none 0 0] 29)).size))
                  clear hK K; (try simp only [Act.put, List.setIfInBounds_toArray, List.set_cons_zero, List.set_cons_succ])
                  generalize Wn.heap.size = xZ at *
                  exact ord_at (by kernel_rfl) (HREST A1 n1 c1 A2 n2 c2 xX xY xZ _ ⟨HS.out, HCAL.out, HX.out, HY.out, HZ.out⟩)
              · intro Wn hWW hSW K hK
                (try dsimp only at hSW)
                replace HCAL := Lib.hid (cal_past HCAL.out hWW)
                replace HY := Lib.hid (And.intro (HY.out.1.past hWW) HY.out.2)
                have HS := Lib.hid hSW
                have HZ := Lib.hid (And.intro (Lies.fresh Wn 29 [.int .i64 0, .slice none 0 0]) (HLE.out _ hSW))
                clear hSW hWW
                go_simp
                refine hK _ _ ⟨HS.out.1.past (grows_alloc _ _), Nat.le_trans HS.out.2 (grows_alloc _ _).size⟩ ?_
                replace HCAL := Lib.hid (cal_past HCAL.out (grows_alloc _ (.cells #[.int .i64 0, .slice none 0 0] 29)))
                replace HY := Lib.hid (And.intro (HY.out.1.past (grows_alloc _ (.cells #[.int .i64 0, .slice none 0 0] 29))) HY.out.2)
                replace HS := Lib.hid (And.intro (HS.out.1.past (grows_alloc _ (.cells #[.int .i64 0, .slice none 0 0] 29))) (Nat.le_trans HS.out.2 (grows_alloc _ (.cells #[.int .i64 0, .slice none 0 0] 29)).size))
                clear hK K; (try simp only [Act.put, List.setIfInBounds_toArray, List.set_cons_zero, List.set_cons_succ])
                generalize Wn.heap.size = xZ at *
                refine ord_one RD 13 (by rw [HOP.out]; kernel_rfl) (at_list (by rw [HOP.out]; rfl)) (by rw [HOP.out]; rfl) ?_
                · intro Wn hWW hSW K hK
                  (try dsimp only at hSW)
                  replace HCAL := Lib.hid (cal_past HCAL.out hWW)
                  replace HY := Lib.hid (And.intro (HY.out.1.past hWW) HY.out.2)
                  replace HZ := Lib.hid (And.intro (HZ.out.1.past hWW) HZ.out.2)
                  have HS := Lib.hid hSW
                  have HX := Lib.hid (And.intro (Lies.fresh Wn 23 [.int .i64 0, .int .i64 0]) (HLE.out _ hSW))
                  clear hSW hWW
                  go_simp
                  refine hK _ _ ⟨HS.out.1.past (grows_alloc _ _), Nat.le_trans HS.out.2 (grows_alloc _ _).size⟩ ?_
                  replace HCAL := Lib.hid (cal_past HCAL.out (grows_alloc _ (.cells #[.int .i64 0, .int .i64 0] 23)))
                  replace HY := Lib.hid (And.intro (HY.out.1.past (grows_alloc _ (.cells #[.int .i64 0, .int .i64 0] 23))) HY.out.2)
                  replace HZ := Lib.hid (And.intro (HZ.out.1.past (grows_alloc _ (.cells #[.int .i64 0, .int .i64 0] 23))) HZ.out.2)
                  replace HS := Lib.hid (And.intro (HS.out.1.past (grows_alloc _ (.cells #[.int .i64 0, .int .i64 0] 23))) (Nat.le_trans HS.out.2 (grows_alloc _ (.cells #[.int .i64 0, .int .i64 0] 23)).size))
                  clear hK K; (try simp only [Act.put, List.setIfInBounds_toArray, List.set_cons_zero, List.set_cons_succ])
                  generalize Wn.heap.size = xX at *
                  exact ord_at (by kernel_rfl) (HREST A1 n1 c1 A2 n2 c2 xX xY xZ _ ⟨HS.out, HCAL.out, HX.out, HY.out, HZ.out⟩)
            · intro Wn hWW hSW K hK
              (try dsimp only at hSW)
              replace HCAL := Lib.hid (cal_past HCAL.out hWW)
              have HS := Lib.hid hSW
              have HZ := Lib.hid (And.intro (Lies.fresh Wn 29 [.int .i64 0, .slice none 0 0]) (HLE.out _ hSW))
              clear hSW hWW
              go_simp
              refine hK _ _ ⟨HS.out.1.past (grows_alloc _ _), Nat.le_trans HS.out.2 (grows_alloc _ _).size⟩ ?_
              replace HCAL := Lib.hid (cal_past HCAL.out (grows_alloc _ (.cells #[.int .i64 0, .slice none 0 0] 29)))
              replace HS := Lib.hid (And.intro (HS.out.1.past (grows_alloc _ (.cells #[.int .i64 0, .slice none 0 0] 29))) (Nat.le_trans HS.out.2 (grows_alloc _ (.cells #[.int .i64 0, .slice none 0 0] 29)).size))
              clear hK K; (try simp only [Act.put, List.setIfInBounds_toArray, List.set_cons_zero, List.set_cons_succ])
              generalize Wn.heap.size = xZ at *
              refine ord_two RD 13 14 (by rw [HOP.out]; kernel_rfl) (at_list (by rw [HOP.out]; rfl)) (at_list (by rw [HOP.out]; rfl)) (by rw [HOP.out]; rfl) (by rw [HOP.out]; rfl) ?_ ?_
              · intro Wn hWW hSW K hK
                (try dsimp only at hSW)
                replace HCAL := Lib.hid (cal_past HCAL.out hWW)
                replace HZ := Lib.hid (And.intro (HZ.out.1.past hWW) HZ.out.2)
                have HS := Lib.hid hSW
                have HX := Lib.hid (And.intro (Lies.fresh Wn 23 [.int .i64 0, .int .i64 0]) (HLE.out _ hSW))
                clear hSW hWW
                go_simp
                refine hK _ _ ⟨HS.out.1.past (grows_alloc _ _), Nat.le_trans HS.out.2 (grows_alloc _ _).size⟩ ?_
                replace HCAL := Lib.hid (cal_past HCAL.out (grows_alloc _ (.cells #[.int .i64 0, .int .i64 0] 23)))
                replace HZ := Lib.hid (And.intro (HZ.out.1.past (grows_alloc _ (.cells #[.int .i64 0, .int .i64 0] 23))) HZ.out.2)
                replace HS := Lib.hid (And.intro (HS.out.1.past (grows_alloc _ (.cells #[.int .i64 0, .int .i64 0] 23))) (Nat.le_trans HS.out.2 (grows_alloc _ (.cells #[.int .i64 0, .int .i64 0] 23)).size))
                clear hK K; (try simp only [Act.put, List.setIfInBounds_toArray, List.set_cons_zero, List.set_cons_succ])
                generalize Wn.heap.size = xX at *
                refine ord_one RD 14 (by rw [HOP.out]; kernel_rfl) (at_list (by rw [HOP.out]; rfl)) (by rw [HOP.out]; rfl) ?_
                · intro Wn hWW hSW K hK
                  (try dsimp only at hSW)
                  replace HCAL := Lib.hid (cal_past HCAL.out hWW)
                  replace HZ := Lib.hid (And.intro (HZ.out.1.past hWW) HZ.out.2)
                  replace HX := Lib.hid (And.intro (HX.out.1.past hWW) HX.out.2)
                  have HS := Lib.hid hSW
                  have HY := Lib.hid (And.intro (Lies.fresh Wn 26 [.int .i64 0, .slice none 0 0, .int .i64 0]) (HLE.out _ hSW))
                  clear hSW hWW
                  go_simp
                  refine hK _ _ ⟨HS.out.1.past (grows_alloc _ _), Nat.le_trans HS.out.2 (grows_alloc _ _).size⟩ ?_
                  replace HCAL := Lib.hid (cal_past HCAL.out (grows_alloc _ (.cells #[.int .i64 0, .slice none 0 0, .int .i64 0] 26)))
                  replace HZ := Lib.hid (And.intro (HZ.out.1.past (grows_alloc _ (.cells #[.int .i64 0, .slice none 0 0, .int .i64 0] 26))) HZ.out.2)
                  replace HX := Lib.hid (And.intro (HX.out.1.past (grows_alloc _ (.cells #[.int .i64 0, .slice none 0 0, .int .i64 0] 26))) HX.out.2)
                  replace HS := Lib.hid (And.intro (HS.out.1.past (grows_alloc _ (.cells #[.int .i64 0, .slice none 0 0, .int .i64 0] 26))) (Nat.le_trans HS.out.2 (grows_alloc _ (.cells #[.int .i64 0, .slice none 0 0, .int .i64 0] 26)).size))
                  clear hK K; (try simp only [Act.put, List.setIfInBounds_toArray, List.set_cons_zero, List.set_cons_succ])
                  generalize Wn.heap.size = xY at *
                  exact ord_at (by kernel_rfl) (HREST A1 n1 c1 A2 n2 c2 xX xY xZ _ ⟨HS.out, HCAL.out, HX.out, HY.out, HZ.out⟩)
              · intro Wn hWW hSW K hK
                (try dsimp only at hSW)
                replace HCAL := Lib.hid (cal_past HCAL.out hWW)
                replace HZ := Lib.hid (And.intro (HZ.out.1.past hWW) HZ.out.2)
                have HS := Lib.hid hSW
                have HY := Lib.hid (And.intro (Lies.fresh Wn 26 [.int .i64 0, .slice none 0 0, .int .i64 0]) (HLE.out _ hSW))
                clear hSW hWW
                go_simp
                refine hK _ _ ⟨HS.out.1.past (grows_alloc _ _), Nat.le_trans HS.out.2 (grows_alloc _ _).size⟩ ?_
                replace HCAL := Lib.hid (cal_past HCAL.out (grows_alloc _ (.cells #[.int .i64 0, .slice none 0 0, .int .i64 0] 26)))
                replace HZ := Lib.hid (And.intro (HZ.out.1.past (grows_alloc _ (.cells #[.int .i64 0, .slice none 0 0, .int .i64 0] 26))) HZ.out.2)
                replace HS := Lib.hid (And.intro (HS.out.1.past (grows_alloc _ (.cells #[.int .i64 0, .slice none 0 0, .int .i64 0] 26))) (Nat.le_trans HS.out.2 (grows_alloc _ (.cells #[.int .i64 0, .slice none 0 0, .int .i64 0] 26)).size))
                clear hK K; (try simp only [Act.put, List.setIfInBounds_toArray, List.set_cons_zero, List.set_cons_succ])
                generalize Wn.heap.size = xY at *
                refine ord_one RD 13 (by rw [HOP.out]; kernel_rfl) (at_list (by rw [HOP.out]; rfl)) (by rw [HOP.out]; rfl) ?_
                · intro Wn hWW hSW K hK
                  (try dsimp only at hSW)
                  replace HCAL := Lib.hid (cal_past HCAL.out hWW)
                  replace HZ := Lib.hid (And.intro (HZ.out.1.past hWW) HZ.out.2)
                  replace HY := Lib.hid (And.intro (HY.out.1.past hWW) HY.out.2)
                  have HS := Lib.hid hSW
                  have HX := Lib.hid (And.intro (Lies.fresh Wn 23 [.int .i64 0, .int .i64 0]) (HLE.out _ hSW))
                  clear hSW hWW
                  go_simp
                  refine hK _ _ ⟨HS.out.1.past (grows_alloc _ _), Nat.le_trans HS.out.2 (grows_alloc _ _).size⟩ ?_
                  replace HCAL := Lib.hid (cal_past HCAL.out (grows_alloc _ (.cells #[.int .i64 0, .int .i64 0] 23)))
                  replace HZ := Lib.hid (And.intro (HZ.out.1.past (grows_alloc _ (.cells #[.int .i64 0, .int .i64 0] 23))) HZ.out.2)
                  replace HY := Lib.hid (And.intro (HY.out.1.past (grows_alloc _ (.cells #[.int .i64 0, .int .i64 0] 23))) HY.out.2)
                  replace HS := Lib.hid (And.intro (HS.out.1.past (grows_alloc _ (.cells #[.int .i64 0, .int .i64 0] 23))) (Nat.le_trans HS.out.2 (grows_alloc _ (.cells #[.int .i64 0, .int .i64 0] 23)).size))
                  clear hK K; (try simp only [Act.put, List.setIfInBounds_toArray, List.set_cons_zero, List.set_cons_succ])
                  generalize Wn.heap.size = xX at *
                  exact ord_at (by kernel_rfl) (HREST A1 n1 c1 A2 n2 c2 xX xY xZ _ ⟨HS.out, HCAL.out, HX.out, HY.out, HZ.out⟩)
          · intro Wn hWW hSW K hK
            (try dsimp only at hSW)
            have HS := Lib.hid hSW
            have HX := Lib.hid (And.intro (Lies.fresh Wn 23 [.int .i64 0, .int .i64 0]) (HLE.out _ hSW))
            clear hSW hWW
            go_simp
            refine hK _ _ ⟨HS.out.1.past (grows_alloc _ _), Nat.le_trans HS.out.2 (grows_alloc _ _).size⟩ ?_
            replace HS := Lib.hid (And.intro (HS.out.1.past (grows_alloc _ (.cells #[.int .i64 0, .int .i64 0] 23))) (Nat.le_trans HS.out.2 (grows_alloc _ (.cells #[.int .i64 0, .int .i64 0] 23)).size))
            clear hK K; (try simp only [Act.put, List.setIfInBounds_toArray, List.set_cons_zero, List.set_cons_succ])
            generalize Wn.heap.size = xX at *
            refine ord_three RD 7 14 15 (by rw [HOP.out]; kernel_rfl) (at_list (by rw [HOP.out]; rfl)) (at_list (by rw [HOP.out]; rfl)) (at_list (by rw [HOP.out]; rfl)) (by rw [HOP.out]; rfl) (by rw [HOP.out]; rfl) (by rw [HOP.out]; rfl) ?_ ?_ ?_
            · intro Wn hWW hSW K hK
              (try dsimp only at hSW)
              replace HX := Lib.hid (And.intro (HX.out.1.past hWW) HX.out.2)
              have HS := Lib.hid hSW
              clear hSW hWW
              go_simp
              refine (Byte_any s.m s.r A n c s.f B q d x _ HS.out.1.i1 HS.out.1.i2 HXB.out.1 HXB.out.2).mono ?_
              rintro e0 Wc ⟨A1, n1, c1, A2, n2, c2, rfl, i1, o1, i2, o2, hb⟩
              simp only [HST.out.1, HST.out.2.1, HST.out.2.2.1, HST.out.2.2.2] at i1 o1 i2 o2 ⊢
              refine hK _ _ ⟨HS.out.1.past hb, Nat.le_trans HS.out.2 hb.size⟩ ?_
              replace HX := Lib.hid (And.intro (HX.out.1.past hb) HX.out.2)
              have HCAL := Lib.hid (cal_mk i1 (o1.mono HS.out.1.hb.size) i2 (o2.mono HS.out.1.hb.size))
              replace HS := Lib.hid (And.intro (HS.out.1.past hb) (Nat.le_trans HS.out.2 hb.size))
              clear i1 o1 i2 o2 hb
              clear hK K; (try simp only [Act.put, List.setIfInBounds_toArray, List.set_cons_zero, List.set_cons_succ])
              refine ord_take RD 8 (at_list (by rw [HOP.out]; rfl)) HNS.out HPQ.out (by rw [HOP.out]; kernel_rfl) (by rw [HOP.out]; kernel_rfl) (by rw [HOP.out]; rfl) (fun K hK => ?_); apply Exists.intro; refine ⟨fun W hSW => ?_, hK _ ?_⟩; (focus ((try dsimp only at hSW); go_simp; try with_reducible rfl)); clear hK K; (try simp only [Act.put, List.setIfInBounds_toArray, List.set_cons_zero, List.set_cons_succ])
              refine ord_take RD 9 (at_list (by rw [HOP.out]; rfl)) HNS.out HPQ.out (by rw [HOP.out]; kernel_rfl) (by rw [HOP.out]; kernel_rfl) (by rw [HOP.out]; rfl) (fun K hK => ?_); apply Exists.intro; refine ⟨fun W hSW => ?_, hK _ ?_⟩; (focus ((try dsimp only at hSW); go_simp; try with_reducible rfl)); clear hK K; (try simp only [Act.put, List.setIfInBounds_toArray, List.set_cons_zero, List.set_cons_succ])
              refine ord_take RD 10 (at_list (by rw [HOP.out]; rfl)) HNS.out HPQ.out (by rw [HOP.out]; kernel_rfl) (by rw [HOP.out]; kernel_rfl) (by rw [HOP.out]; rfl) (fun K hK => ?_); apply Exists.intro; refine ⟨fun W hSW => ?_, hK _ ?_⟩; (focus ((try dsimp only at hSW); go_simp; try with_reducible rfl)); clear hK K; (try simp only [Act.put, List.setIfInBounds_toArray, List.set_cons_zero, List.set_cons_succ])
              refine ord_take RD 11 (at_list (by rw [HOP.out]; rfl)) HNS.out HPQ.out (by rw [HOP.out]; kernel_rfl) (by rw [HOP.out]; kernel_rfl) (by rw [HOP.out]; rfl) (fun K hK => ?_); apply Exists.intro; refine ⟨fun W hSW => ?_, hK _ ?_⟩; (focus ((try dsimp only at hSW); go_simp; try with_reducible rfl)); clear hK K; (try simp only [Act.put, List.setIfInBounds_toArray, List.set_cons_zero, List.set_cons_succ])
              refine ord_take RD 12 (at_list (by rw [HOP.out]; rfl)) HNS.out HPQ.out (by rw [HOP.out]; kernel_rfl) (by rw [HOP.out]; kernel_rfl) (by rw [HOP.out]; rfl) (fun K hK => ?_); apply Exists.intro; refine ⟨fun W hSW => ?_, hK _ ?_⟩; (focus ((try dsimp only at hSW); go_simp; try with_reducible rfl)); clear hK K; (try simp only [Act.put, List.setIfInBounds_toArray, List.set_cons_zero, List.set_cons_succ])
              refine ord_two RD 14 15 (by rw [HOP.out]; kernel_rfl) (at_list (by rw [HOP.out]; rfl)) (at_list (by rw [HOP.out]; rfl)) (by rw [HOP.out]; rfl) (by rw [HOP.out]; rfl) ?_ ?_
              · intro Wn hWW hSW K hK
                (try dsimp only at hSW)
                replace HX := Lib.hid (And.intro (HX.out.1.past hWW) HX.out.2)
                replace HCAL := Lib.hid (cal_past HCAL.out hWW)
                have HS := Lib.hid hSW
                have HY := Lib.hid (And.intro (Lies.fresh Wn 26 [.int .i64 0, .slice none 0 0, .int .i64 0]) (HLE.out _ hSW))
                clear hSW hWW
                go_simp
                refine hK _ _ ⟨HS.out.1.past (grows_alloc _ _), Nat.le_trans HS.out.2 (grows_alloc _ _).size⟩ ?_
                replace HX := Lib.hid (And.intro (HX.out.1.past (grows_alloc _ (.cells #[.int .i64 0, .slice none 0 0, .int .i64 0] 26))) HX.out.2)
                replace HCAL := Lib.hid (cal_past HCAL.out (grows_alloc _ (.cells #[.int .i64 0, .slice none 0 0, .int .i64 0] 26)))
                replace HS := Lib.hid (And.intro (HS.out.1.past (grows_alloc _ (.cells #[.int .i64 0, .slice none 0 0, .int .i64 0] 26))) (Nat.le_trans HS.out.2 (grows_alloc _ (.cells #[.int .i64 0, .slice none 0 0, .int .i64 0] 26)).size))
                clear hK K; (try simp only [Act.put, List.setIfInBounds_toArray, List.set_cons_zero, List.set_cons_succ])
                generalize Wn.heap.size = xY at *
                refine ord_one RD 15 (by rw [HOP.out]; kernel_rfl) (at_list (by rw [HOP.out]; rfl)) (by rw [HOP.out]; rfl) ?_
                · intro Wn hWW hSW K hK
                  (try dsimp only at hSW)
                  replace HX := Lib.hid (And.intro (HX.out.1.past hWW) HX.out.2)
                  replace HCAL := Lib.hid (cal_past HCAL.out hWW)
                  replace HY := Lib.hid (And.intro (HY.out.1.past hWW) HY.out.2)
                  have HS := Lib.hid hSW
                  have HZ := Lib.hid (And.intro (Lies.fresh Wn 29 [.int .i64 0, .slice none 0 0]) (HLE.out _ hSW))
                  clear hSW hWW
                  go_simp
                  refine hK _ _ ⟨HS.out.1.past (grows_alloc _ _), Nat.le_trans HS.out.2 (grows_alloc _ _).size⟩ ?_
                  replace HX := Lib.hid (And.intro (HX.out.1.past (grows_alloc _ (.cells #[.int .i64 0, .slice none 0 0] 29))) HX.out.2)
                  replace HCAL := Lib.hid (cal_past HCAL.out (grows_alloc _ (.cells #[.int .i64 0, .slice none 0 0] 29)))
                  replace HY := Lib.hid (And.intro (HY.out.1.past (grows_alloc _ (.cells #[.int .i64 0, .slice none 0 0] 29))) HY.out.2)
                  replace HS := Lib.hid (And.intro (HS.out.1.past (grows_alloc _ (.cells #[.int .i64 0, .slice none 0 0] 29))) (Nat.le_trans HS.out.2 (grows_alloc _ (.cells #[.int .i64 0, .slice none 0 0] 29)).size))
                  clear hK K; (try simp only [Act.put, List.setIfInBounds_toArray, List.set_cons_zero, List.set_cons_succ])
                  generalize Wn.heap.size = xZ at *
                  exact ord_at (by kernel_rfl) (HREST A1 n1 c1 A2 n2 c2 xX xY xZ _ ⟨HS.out, HCAL.out, HX.out, HY.out, HZ.out⟩)
              · intro Wn hWW hSW K hK
                (try dsimp only at hSW)
                replace HX := Lib.hid (And.intro (HX.out.1.past hWW) HX.out.2)
                replace HCAL := Lib.hid (cal_past HCAL.out hWW)
                have HS := Lib.hid hSW
                have HZ := Lib.hid (And.intro (Lies.fresh Wn 29 [.int .i64 0, .slice none 0 0]) (HLE.out _ hSW))
                clear hSW hWW
                go_simp
                refine hK _ _ ⟨HS.out.1.past (grows_alloc _ _), Nat.le_trans HS.out.2 (grows_alloc _ _).size⟩ ?_
                replace HX := Lib.hid (And.intro (HX.out.1.past (grows_alloc _ (.cells #[.int .i64 0, .slice none 0 0] 29))) HX.out.2)
                replace HCAL := Lib.hid (cal_past HCAL.out (grows_alloc _ (.cells #[.int .i64 0, .slice none 0 0] 29)))
                replace HS := Lib.hid (And.intro (HS.out.1.past (grows_alloc _ (.cells #[.int .i64 0, .slice none 0 0] 29))) (Nat.le_trans HS.out.2 (grows_alloc _ (.cells #[.int .i64 0, .slice none 0 0] 29)).size))
                clear hK K; (try simp only [Act.put, List.setIfInBounds_toArray, List.set_cons_zero, List.set_cons_succ])
                generalize Wn.heap.size = xZ at *
                refine ord_one RD 14 (by rw [HOP.out]; kernel_rfl) (at_list (by rw [HOP.out]; rfl)) (by rw [HOP.out]; rfl) ?_
                · intro Wn hWW hSW K hK
                  (try dsimp only at hSW)
                  replace HX := Lib.hid (And.intro (HX.out.1.past hWW) HX.out.2)
                  replace HCAL := Lib.hid (cal_past HCAL.out hWW)
                  replace HZ := Lib.hid (And.intro (HZ.out.1.past hWW) HZ.out.2)
                  have HS := Lib.hid hSW
                  have HY := Lib.hid (And.intro (Lies.fresh Wn 26 [.int .i64 0, .slice none 0 0, .int .i64 0]) (HLE.out _ hSW))
                  clear hSW hWW
                  go_simp
                  refine hK _ _ ⟨HS.out.1.past (grows_alloc _ _), Nat.le_trans HS.out.2 (grows_alloc _ _).size⟩ ?_
                  replace HX := Lib.hid (And.intro (HX.out.1.past (grows_alloc _ (.cells #[.int .i64 0, .slice none 0 0, .int .i64 0] 26))) HX.out.2)
                  replace HCAL := Lib.hid (cal_past HCAL.out (grows_alloc _ (.cells #[.int .i64 0, .slice none 0 0, .int .i64 0] 26)))
                  replace HZ := Lib.hid (And.intro (HZ.out.1.past (grows_alloc _ (.cells #[.int .i64 0, .slice none 0 0, .int .i64 0] 26))) HZ.out.2)
                  replace HS := Lib.hid (And.intro (HS.out.1.past (grows_alloc _ (.cells #[.int .i64 0, .slice none 0 0, .int .i64 0] 26))) (Nat.le_trans HS.out.2 (grows_alloc _ (.cells #[.int .i64 0, .slice none 0 0, .int .i64 0] 26)).size))
                  clear hK K; (try simp only [Act.put, List.setIfInBounds_toArray, List.set_cons_zero, List.set_cons_succ])
                  generalize Wn.heap.size = xY at *
                  exact ord_at (by kernel_rfl) (HREST A1 n1 c1 A2 n2 c2 xX xY xZ _ ⟨HS.out, HCAL.out, HX.out, HY.out, HZ.out⟩)
            · intro Wn hWW hSW K hK
              (try dsimp only at hSW)
              replace HX := Lib.hid (And.intro (HX.out.1.past hWW) HX.out.2)
              have HS := Lib.hid hSW
              have HY := Lib.hid (And.intro (Lies.fresh Wn 26 [.int .i64 0, .slice none 0 0, .int .i64 0]) (HLE.out _ hSW))
              clear hSW hWW
              go_simp
              refine hK _ _ ⟨HS.out.1.past (grows_alloc _ _), Nat.le_trans HS.out.2 (grows_alloc _ _).size⟩ ?_
              replace HX := Lib.hid (And.intro (HX.out.1.past (grows_alloc _ (.cells #[.int .i64 0, .slice none 0 0, .int .i64 0] 26))) HX.out.2)
              replace HS := Lib.hid (And.intro (HS.out.1.past (grows_alloc _ (.cells #[.int .i64 0, .slice none 0 0, .int .i64 0] 26))) (Nat.le_trans HS.out.2 (grows_alloc _ (.cells #[.int .i64 0, .slice none 0 0, .int .i64 0] 26)).size))
              clear hK K; (try simp only [Act.put, List.setIfInBounds_toArray, List.set_cons_zero, List.set_cons_succ])
              generalize Wn.heap.size = xY at *
              refine ord_two RD 7 15 (by rw [HOP.out]; kernel_rfl) (at_list (by rw [HOP.out]; rfl)) (at_list (by rw [HOP.out]; rfl)) (by rw [HOP.out]; rfl) (by rw [HOP.out]; rfl) ?_ ?_
              · intro Wn hWW hSW K hK
                (try dsimp only at hSW)
                replace HX := Lib.hid (And.intro (HX.out.1.past hWW) HX.out.2)
                replace HY := Lib.hid (And.intro (HY.out.1.past hWW) HY.out.2)
                have HS := Lib.hid hSW
                clear hSW hWW
                go_simp
                refine (Byte_any s.m s.r A n c s.f B q d x _ HS.out.1.i1 HS.out.1.i2 HXB.out.1 HXB.out.2).mono ?_
                rintro e0 Wc ⟨A1, n1, c1, A2, n2, c2, rfl, i1, o1, i2, o2, hb⟩
                simp only [HST.out.1, HST.out.2.1, HST.out.2.2.1, HST.out.2.2.2] at i1 o1 i2 o2 ⊢
                refine hK _ _ ⟨HS.out.1.past hb, Nat.le_trans HS.out.2 hb.size⟩ ?_
                replace HX := Lib.hid (And.intro (HX.out.1.past hb) HX.out.2)
                replace HY := Lib.hid (And.intro (HY.out.1.past hb) HY.out.2)
                have HCAL := Lib.hid (cal_mk i1 (o1.mono HS.out.1.hb.size) i2 (o2.mono HS.out.1.hb.size))
                replace HS := Lib.hid (And.intro (HS.out.1.past hb) (Nat.le_trans HS.out.2 hb.size))
                clear i1 o1 i2 o2 hb
                clear hK K; (try simp only [Act.put, List.setIfInBounds_toArray, List.set_cons_zero, List.set_cons_succ])
                refine ord_take RD 8 (at_list (by rw [HOP.out]; rfl)) HNS.out HPQ.out (by rw [HOP.out]; kernel_rfl) (by rw [HOP.out]; kernel_rfl) (by rw [HOP.out]; rfl) (fun K hK => ?_); apply Exists.intro; refine ⟨fun W hSW => ?_, hK _ ?_⟩; (focus ((try dsimp only at hSW); go_simp; try with_reducible rfl)); clear hK K; (try simp only [Act.put, List.setIfInBounds_toArray, List.set_cons_zero, List.set_cons_succ])
                refine ord_take RD 9 (at_list (by rw [HOP.out]; rfl)) HNS.out HPQ.out (by rw [HOP.out]; kernel_rfl) (by rw [HOP.out]; kernel_rfl) (by rw [HOP.out]; rfl) (fun K hK => ?_); apply Exists.intro; refine ⟨fun W hSW => ?_, hK _ ?_⟩; (focus ((try dsimp only at hSW); go_simp; try with_reducible rfl)); clear hK K; (try simp only [Act.put, List.setIfInBounds_toArray, List.set_cons_zero, List.set_cons_succ])
                refine ord_take RD 10 (at_list (by rw [HOP.out]; rfl)) HNS.out HPQ.out (by rw [HOP.out]; kernel_rfl) (by rw [HOP.out]; kernel_rfl) (by rw [HOP.out]; rfl) (fun K hK => ?_); apply Exists.intro; refine ⟨fun W hSW => ?_, hK _ ?_⟩; (focus ((try dsimp only at hSW); go_simp; try with_reducible rfl)); clear hK K; (try simp only [Act.put, List.setIfInBounds_toArray, List.set_cons_zero, List.set_cons_succ])
                refine ord_take RD 11 (at_list (by rw [HOP.out]; rfl)) HNS.out HPQ.out (by rw [HOP.out]; kernel_rfl) (by rw [HOP.out]; kernel_rfl) (by rw [HOP.out]; rfl) (fun K hK => ?_); apply Exists.intro; refine ⟨fun W hSW => ?_, hK _ ?_⟩; (focus ((try dsimp only at hSW); go_simp; try with_reducible rfl)); clear hK K; (try simp only [Act.put, List.setIfInBounds_toArray, List.set_cons_zero, List.set_cons_succ])
                refine ord_take RD 12 (at_list (by rw [HOP.out]; rfl)) HNS.out HPQ.out (by rw [HOP.out]; kernel_rfl) (by rw [HOP.out]; kernel_rfl) (by rw [HOP.out]; rfl) (fun K hK => ?_); apply Exists.intro; refine ⟨fun W hSW => ?_, hK _ ?_⟩; (focus ((try dsimp only at hSW); go_simp; try with_reducible rfl)); clear hK K; (try simp only [Act.put, List.setIfInBounds_toArray, List.set_cons_zero, List.set_cons_succ])
                refine ord_one RD 15 (by rw [HOP.out]; kernel_rfl) (at_list (by rw [HOP.out]; rfl)) (by rw [HOP.out]; rfl) ?_
                · intro Wn hWW hSW K hK
                  (try dsimp only at hSW)
                  replace HX := Lib.hid (And.intro (HX.out.1.past hWW) HX.out.2)
                  replace HY := Lib.hid (And.intro (HY.out.1.past hWW) HY.out.2)
                  replace HCAL := Lib.hid (cal_past HCAL.out hWW)
                  have HS := Lib.hid hSW
                  have HZ := Lib.hid (And.intro (Lies.fresh Wn 29 [.int .i64 0, .slice none 0 0]) (HLE.out _ hSW))
                  clear hSW hWW
                  go_simp
                  refine hK _ _ ⟨HS.out.1.past (grows_alloc _ _), Nat.le_trans HS.out.2 (grows_alloc _ _).size⟩ ?_
                  replace HX := Lib.hid (And.intro (HX.out.1.past (grows_alloc _ (.cells #[.int .i64 0, .slice none 0 0] 29))) HX.out.2)
                  replace HY := Lib.hid (And.intro (HY.out.1.past (grows_alloc _ (.cells #[.int .i64 0, .slice none 0 0] 29))) HY.out.2)
                  replace HCAL := Lib.hid (cal_past HCAL.out (grows_alloc _ (.cells #[.int .i64 0, .slice none 0 0] 29)))
                  replace HS := Lib.hid (And.intro (HS.out.1.past (grows_alloc _ (.cells #[.int .i64 0, .slice none 0 0] 29))) (Nat.le_trans HS.out.2 (grows_alloc _ (.cells #[.int .i64 0, .slice none 0 0] 29)).size))
                  clear hK K; (try simp only [Act.put, List.setIfInBounds_toArray, List.set_cons_zero, List.set_cons_succ])
                  generalize Wn.heap.size = xZ at *
                  exact ord_at (by kernel_rfl) (HREST A1 n1 c1 A2 n2 c2 xX xY xZ _ ⟨HS.out, HCAL.out, HX.out, HY.out, HZ.out⟩)
              · intro Wn hWW hSW K hK
                (try dsimp only at hSW)
                replace HX := Lib.hid (And.intro (HX.out.1.past hWW) HX.out.2)
                replace HY := Lib.hid (And.intro (HY.out.1.past hWW) HY.out.2)
                have HS := Lib.hid hSW
                have HZ := Lib.hid (And.intro (Lies.fresh Wn 29 [.int .i64 0, .slice none 0 0]) (HLE.out _ hSW))
                clear hSW hWW
                go_simp
                refine hK _ _ ⟨HS.out.1.past (grows_alloc _ _), Nat.le_trans HS.out.2 (grows_alloc _ _).size⟩ ?_
                replace HX := Lib.hid (And.intro (HX.out.1.past (grows_alloc _ (.cells #[.int .i64 0, .slice none 0 0] 29))) HX.out.2)
                replace HY := Lib.hid (And.intro (HY.out.1.past (grows_alloc _ (.cells #[.int .i64 0, .slice none 0 0] 29))) HY.out.2)
                replace HS := Lib.hid (And.intro (HS.out.1.past (grows_alloc _ (.cells #[.int .i64 0, .slice none 0 0] 29))) (Nat.le_trans HS.out.2 (grows_alloc _ (.cells #[.int .i64 0, .slice none 0 0] 29)).size))
                clear hK K; (try simp only [Act.put, List.setIfInBounds_toArray, List.set_cons_zero, List.set_cons_succ])
                generalize Wn.heap.size = xZ at *
                refine ord_one RD 7 (by rw [HOP.out]; kernel_rfl) (at_list (by rw [HOP.out]; rfl)) (by rw [HOP.out]; rfl) ?_
                · intro Wn hWW hSW K hK
                  (try dsimp only at hSW)
                  replace HX := Lib.hid (And.intro (HX.out.1.past hWW) HX.out.2)
                  replace HY := Lib.hid (And.intro (HY.out.1.past hWW) HY.out.2)
                  replace HZ := Lib.hid (And.intro (HZ.out.1.past hWW) HZ.out.2)
                  have HS := Lib.hid hSW
                  clear hSW hWW
                  go_simp
                  refine (Byte_any s.m s.r A n c s.f B q d x _ HS.out.1.i1 HS.out.1.i2 HXB.out.1 HXB.out.2).mono ?_
                  rintro e0 Wc ⟨A1, n1, c1, A2, n2, c2, rfl, i1, o1, i2, o2, hb⟩
                  simp only [HST.out.1, HST.out.2.1, HST.out.2.2.1, HST.out.2.2.2] at i1 o1 i2 o2 ⊢
                  refine hK _ _ ⟨HS.out.1.past hb, Nat.le_trans HS.out.2 hb.size⟩ ?_
                  replace HX := Lib.hid (And.intro (HX.out.1.past hb) HX.out.2)
                  replace HY := Lib.hid (And.intro (HY.out.1.past hb) HY.out.2)
                  replace HZ := Lib.hid (And.intro (HZ.out.1.past hb) HZ.out.2)
                  have HCAL := Lib.hid (cal_mk i1 (o1.mono HS.out.1.hb.size) i2 (o2.mono HS.out.1.hb.size))
                  replace HS := Lib.hid (And.intro (HS.out.1.past hb) (Nat.le_trans HS.out.2 hb.size))
                  clear i1 o1 i2 o2 hb
                  clear hK K; (try simp only [Act.put, List.setIfInBounds_toArray, List.set_cons_zero, List.set_cons_succ])
                  refine ord_take RD 8 (at_list (by rw [HOP.out]; rfl)) HNS.out HPQ.out (by rw [HOP.out]; kernel_rfl) (by rw [HOP.out]; kernel_rfl) (by rw [HOP.out]; rfl) (fun K hK => ?_); apply Exists.intro; refine ⟨fun W hSW => ?_, hK _ ?_⟩; (focus ((try dsimp only at hSW); go_simp; try with_reducible rfl)); clear hK K; (try simp only [Act.put, List.setIfInBounds_toArray, List.set_cons_zero, List.set_cons_succ])
                  refine ord_take RD 9 (at_list (by rw [HOP.out]; rfl)) HNS.out HPQ.out (by rw [HOP.out]; kernel_rfl) (by rw [HOP.out]; kernel_rfl) (by rw [HOP.out]; rfl) (fun K hK => ?_); apply Exists.intro; refine ⟨fun W hSW => ?_, hK _ ?_⟩; (focus ((try dsimp only at hSW); go_simp; try with_reducible rfl)); clear hK K; (try simp only [Act.put, List.setIfInBounds_toArray, List.set_cons_zero, List.set_cons_succ])
                  refine ord_take RD 10 (at_list (by rw [HOP.out]; rfl)) HNS.out HPQ.out (by rw [HOP.out]; kernel_rfl) (by rw [HOP.out]; kernel_rfl) (by rw [HOP.out]; rfl) (fun K hK => ?_); apply Exists.intro; refine ⟨fun W hSW => ?_, hK _ ?_⟩; (focus ((try dsimp only at hSW); go_simp; try with_reducible rfl)); clear hK K; (try simp only [Act.put, List.setIfInBounds_toArray, List.set_cons_zero, List.set_cons_succ])
                  refine ord_take RD 11 (at_list (by rw [HOP.out]; rfl)) HNS.out HPQ.out (by rw [HOP.out]; kernel_rfl) (by rw [HOP.out]; kernel_rfl) (by rw [HOP.out]; rfl) (fun K hK => ?_); apply Exists.intro; refine ⟨fun W hSW => ?_, hK _ ?_⟩; (focus ((try dsimp only at hSW); go_simp; try with_reducible rfl)); clear hK K; (try simp only [Act.put, List.setIfInBounds_toArray, List.set_cons_zero, List.set_cons_succ])
                  refine ord_take RD 12 (at_list (by rw [HOP.out]; rfl)) HNS.out HPQ.out (by rw [HOP.out]; kernel_rfl) (by rw [HOP.out]; kernel_rfl) (by rw [HOP.out]; rfl) (fun K hK => ?_); apply Exists.intro; refine ⟨fun W hSW => ?_, hK _ ?_⟩; (focus ((try dsimp only at hSW); go_simp; try with_reducible rfl)); clear hK K; (try simp only [Act.put, List.setIfInBounds_toArray, List.set_cons_zero, List.set_cons_succ])
                  exact ord_at (by kernel_rfl) (HREST A1 n1 c1 A2 n2 c2 xX xY xZ _ ⟨HS.out, HCAL.out, HX.out, HY.out, HZ.out⟩)
            · intro Wn hWW hSW K hK
              (try dsimp only at hSW)
              replace HX := Lib.hid (And.intro (HX.out.1.past hWW) HX.out.2)
              have HS := Lib.hid hSW
              have HZ := Lib.hid (And.intro (Lies.fresh Wn 29 [.int .i64 0, .slice none 0 0]) (HLE.out _ hSW))
              clear hSW hWW
              go_simp
              refine hK _ _ ⟨HS.out.1.past (grows_alloc _ _), Nat.le_trans HS.out.2 (grows_alloc _ _).size⟩ ?_
              replace HX := Lib.hid (And.intro (HX.out.1.past (grows_alloc _ (.cells #[.int .i64 0, .slice none 0 0] 29))) HX.out.2)
              replace HS := Lib.hid (And.intro (HS.out.1.past (grows_alloc _ (.cells #[.int .i64 0, .slice none 0 0] 29))) (Nat.le_trans HS.out.2 (grows_alloc _ (.cells #[.int .i64 0, .slice none 0 0] 29)).size))
              clear hK K; (try simp only [Act.put, List.setIfInBounds_toArray, List.set_cons_zero, List.set_cons_succ])
              generalize Wn.heap.size = xZ at *
              refine ord_two RD 7 14 (by rw [HOP.out]; kernel_rfl) (at_list (by rw [HOP.out]; rfl)) (at_list (by rw [HOP.out]; rfl)) (by rw [HOP.out]; rfl) (by rw [HOP.out]; rfl) ?_ ?_
              · intro Wn hWW hSW K hK
                (try dsimp only at hSW)
                replace HX := Lib.hid (And.intro (HX.out.1.past hWW) HX.out.2)
                replace HZ := Lib.hid (And.intro (HZ.out.1.past hWW) HZ.out.2)
                have HS := Lib.hid hSW
                clear hSW hWW
                go_simp
                refine (Byte_any s.m s.r A n c s.f B q d x _ HS.out.1.i1 HS.out.1.i2 HXB.out.1 HXB.out.2).mono ?_
                rintro e0 Wc ⟨A1, n1, c1, A2, n2, c2, rfl, i1, o1, i2, o2, hb⟩
                simp only [HST.out.1, HST.out.2.1, HST.out.2.2.1, HST.out.2.2.2] at i1 o1 i2 o2 ⊢
                refine hK _ _ ⟨HS.out.1.past hb, Nat.le_trans HS.out.2 hb.size⟩ ?_
                replace HX := Lib.hid (And.intro (HX.out.1.past hb) HX.out.2)
                replace HZ := Lib.hid (And.intro (HZ.out.1.past hb) HZ.out.2)
                have HCAL := Lib.hid (cal_mk i1 (o1.mono HS.out.1.hb.size) i2 (o2.mono HS.out.1.hb.size))
                replace HS := Lib.hid (And.intro (HS.out.1.past hb) (Nat.le_trans HS.out.2 hb.size))
                clear i1 o1 i2 o2 hb
                clear hK K; (try simp only [Act.put, List.setIfInBounds_toArray, List.set_cons_zero, List.set_cons_succ])
                refine ord_take RD 8 (at_list (by rw [HOP.out]; rfl)) HNS.out HPQ.out (by rw [HOP.out]; kernel_rfl) (by rw [HOP.out]; kernel_rfl) (by rw [HOP.out]; rfl) (fun K hK => ?_); apply Exists.intro; refine ⟨fun W hSW => ?_, hK _ ?_⟩; (focus ((try dsimp only at hSW); go_simp; try with_reducible rfl)); clear hK K; (try simp only [Act.put, List.setIfInBounds_toArray, List.set_cons_zero, List.set_cons_succ])
                refine ord_take RD 9 (at_list (by rw [HOP.out]; rfl)) HNS.out HPQ.out (by rw [HOP.out]; kernel_rfl) (by rw [HOP.out]; kernel_rfl) (by rw [HOP.out]; rfl) (fun K hK => ?_); apply Exists.intro; refine ⟨fun W hSW => ?_, hK _ ?_⟩; (focus ((try dsimp only at hSW); go_simp; try with_reducible rfl)); clear hK K; (try simp only [Act.put, List.setIfInBounds_toArray, List.set_cons_zero, List.set_cons_succ])
                refine ord_take RD 10 (at_list (by rw [HOP.out]; rfl)) HNS.out HPQ.out (by rw [HOP.out]; kernel_rfl) (by rw [HOP.out]; kernel_rfl) (by rw [HOP.out]; rfl) (fun K hK => ?_); apply Exists.intro; refine ⟨fun W hSW => ?_, hK _ ?_⟩; (focus ((try dsimp only at hSW); go_simp; try with_reducible rfl)); clear hK K; (try simp only [Act.put, List.setIfInBounds_toArray, List.set_cons_zero, List.set_cons_succ])
                refine ord_take RD 11 (at_list (by rw [HOP.out]; rfl)) HNS.out HPQ.out (by rw [HOP.out]; kernel_rfl) (by rw [HOP.out]; kernel_rfl) (by rw [HOP.out]; rfl) (fun K hK => ?_); apply Exists.intro; refine ⟨fun W hSW => ?_, hK _ ?_⟩; (focus ((try dsimp only at hSW); go_simp; try with_reducible rfl)); clear hK K; (try simp only [Act.put, List.setIfInBounds_toArray, List.set_cons_zero, List.set_cons_succ])
                refine ord_take RD 12 (at_list (by rw [HOP.out]; rfl)) HNS.out HPQ.out (by rw [HOP.out]; kernel_rfl) (by rw [HOP.out]; kernel_rfl) (by rw [HOP.out]; rfl) (fun K hK => ?_); apply Exists.intro; refine ⟨fun W hSW => ?_, hK _ ?_⟩; (focus ((try dsimp only at hSW); go_simp; try with_reducible rfl)); clear hK K; (try simp only [Act.put, List.setIfInBounds_toArray, List.set_cons_zero, List.set_cons_succ])
                refine ord_one RD 14 (by rw [HOP.out]; kernel_rfl) (at_list (by rw [HOP.out]; rfl)) (by rw [HOP.out]; rfl) ?_
                · intro Wn hWW hSW K hK
                  (try dsimp only at hSW)
                  replace HX := Lib.hid (And.intro (HX.out.1.past hWW) HX.out.2)
                  replace HZ := Lib.hid (And.intro (HZ.out.1.past hWW) HZ.out.2)
                  replace HCAL := Lib.hid (cal_past HCAL.out hWW)
                  have HS := Lib.hid hSW
                  have HY := Lib.hid (And.intro (Lies.fresh Wn 26 [.int .i64 0, .slice none 0 0, .int .i64 0]) (HLE.out _ hSW))
                  clear hSW hWW
                  go_simp
                  refine hK _ _ ⟨HS.out.1.past (grows_alloc _ _), Nat.le_trans HS.out.2 (grows_alloc _ _).size⟩ ?_
                  replace HX := Lib.hid (And.intro (HX.out.1.past (grows_alloc _ (.cells #[.int .i64 0, .slice none 0 0, .int .i64 0] 26))) HX.out.2)
                  replace HZ := Lib.hid (And.intro (HZ.out.1.past (grows_alloc _ (.cells #[.int .i64 0, .slice none 0 0, .int .i64 0] 26))) HZ.out.2)
                  replace HCAL := Lib.hid (cal_past HCAL.out (grows_alloc _ (.cells #[.int .i64 0, .slice none 0 0, .int .i64 0] 26)))
                  replace HS := Lib.hid (And.intro (HS.out.1.past (grows_alloc _ (.cells #[.int .i64 0, .slice none 0 0, .int .i64 0] 26))) (Nat.le_trans HS.out.2 (grows_alloc _ (.cells #[.int .i64 0, .slice none 0 0, .int .i64 0] 26)).size))
                  clear hK K; (try simp only [Act.put, List.setIfInBounds_toArray, List.set_cons_zero, List.set_cons_succ])
                  generalize Wn.heap.size = xY at *
                  exact ord_at (by kernel_rfl) (HREST A1 n1 c1 A2 n2 c2 xX xY xZ _ ⟨HS.out, HCAL.out, HX.out, HY.out, HZ.out⟩)
              · intro Wn hWW hSW K hK
                (try dsimp only at hSW)
                replace HX := Lib.hid (And.intro (HX.out.1.past hWW) HX.out.2)
                replace HZ := Lib.hid (And.intro (HZ.out.1.past hWW) HZ.out.2)
                have HS := Lib.hid hSW
                have HY := Lib.hid (And.intro (Lies.fresh Wn 26 [.int .i64 0, .slice none 0 0, .int .i64 0]) (HLE.out _ hSW))
                clear hSW hWW
                go_simp
                refine hK _ _ ⟨HS.out.1.past (grows_alloc _ _), Nat.le_trans HS.out.2 (grows_alloc _ _).size⟩ ?_
                replace HX := Lib.hid (And.intro (HX.out.1.past (grows_alloc _ (.cells #[.int .i64 0, .slice none 0 0, .int .i64 0] 26))) HX.out.2)
                replace HZ := Lib.hid (And.intro (HZ.out.1.past (grows_alloc _ (.cells #[.int .i64 0, .slice none 0 0, .int .i64 0] 26))) HZ.out.2)
                replace HS := Lib.hid (And.intro (HS.out.1.past (grows_alloc _ (.cells #[.int .i64 0, .slice none 0 0, .int .i64 0] 26))) (Nat.le_trans HS.out.2 (grows_alloc _ (.cells #[.int .i64 0, .slice none 0 0, .int .i64 0] 26)).size))
                clear hK K; (try simp only [Act.put, List.setIfInBounds_toArray, List.set_cons_zero, List.set_cons_succ])
                generalize Wn.heap.size = xY at *
                refine ord_one RD 7 (by rw [HOP.out]; kernel_rfl) (at_list (by rw [HOP.out]; rfl)) (by rw [HOP.out]; rfl) ?_
                · intro Wn hWW hSW K hK
                  (try dsimp only at hSW)
                  replace HX := Lib.hid (And.intro (HX.out.1.past hWW) HX.out.2)
                  replace HZ := Lib.hid (And.intro (HZ.out.1.past hWW) HZ.out.2)
                  replace HY := Lib.hid (And.intro (HY.out.1.past hWW) HY.out.2)
                  have HS := Lib.hid hSW
                  clear hSW hWW
                  go_simp
                  refine (Byte_any s.m s.r A n c s.f B q d x _ HS.out.1.i1 HS.out.1.i2 HXB.out.1 HXB.out.2).mono ?_
                  rintro e0 Wc ⟨A1, n1, c1, A2, n2, c2, rfl, i1, o1, i2, o2, hb⟩
                  simp only [HST.out.1, HST.out.2.1, HST.out.2.2.1, HST.out.2.2.2] at i1 o1 i2 o2 ⊢
                  refine hK _ _ ⟨HS.out.1.past hb, Nat.le_trans HS.out.2 hb.size⟩ ?_
                  replace HX := Lib.hid (And.intro (HX.out.1.past hb) HX.out.2)
                  replace HZ := Lib.hid (And.intro (HZ.out.1.past hb) HZ.out.2)
                  replace HY := Lib.hid (And.intro (HY.out.1.past hb) HY.out.2)
                  have HCAL := Lib.hid (cal_mk i1 (o1.mono HS.out.1.hb.size) i2 (o2.mono HS.out.1.hb.size))
                  replace HS := Lib.hid (And.intro (HS.out.1.past hb) (Nat.le_trans HS.out.2 hb.size))
                  clear i1 o1 i2 o2 hb
                  clear hK K; (try simp only [Act.put, List.setIfInBounds_toArray, List.set_cons_zero, List.set_cons_succ])
                  refine ord_take RD 8 (at_list (by rw [HOP.out]; rfl)) HNS.out HPQ.out (by rw [HOP.out]; kernel_rfl) (by rw [HOP.out]; kernel_rfl) (by rw [HOP.out]; rfl) (fun K hK => ?_); apply Exists.intro; refine ⟨fun W hSW => ?_, hK _ ?_⟩; (focus ((try dsimp only at hSW); go_simp; try with_reducible rfl)); clear hK K; (try simp only [Act.put, List.setIfInBounds_toArray, List.set_cons_zero, List.set_cons_succ])
                  refine ord_take RD 9 (at_list (by rw [HOP.out]; rfl)) HNS.out HPQ.out (by rw [HOP.out]; kernel_rfl) (by rw [HOP.out]; kernel_rfl) (by rw [HOP.out]; rfl) (fun K hK => ?_); apply Exists.intro; refine ⟨fun W hSW => ?_, hK _ ?_⟩; (focus ((try dsimp only at hSW); go_simp; try with_reducible rfl)); clear hK K; (try simp only [Act.put, List.setIfInBounds_toArray, List.set_cons_zero, List.set_cons_succ])
                  refine ord_take RD 10 (at_list (by rw [HOP.out]; rfl)) HNS.out HPQ.out (by rw [HOP.out]; kernel_rfl) (by rw [HOP.out]; kernel_rfl) (by rw [HOP.out]; rfl) (fun K hK => ?_); apply Exists.intro; refine ⟨fun W hSW => ?_, hK _ ?_⟩; (focus ((try dsimp only at hSW); go_simp; try with_reducible rfl)); clear hK K; (try simp only [Act.put, List.setIfInBounds_toArray, List.set_cons_zero, List.set_cons_succ])
                  refine ord_take RD 11 (at_list (by rw [HOP.out]; rfl)) HNS.out HPQ.out (by rw [HOP.out]; kernel_rfl) (by rw [HOP.out]; kernel_rfl) (by rw [HOP.out]; rfl) (fun K hK => ?_); apply Exists.intro; refine ⟨fun W hSW => ?_, hK _ ?_⟩; (focus ((try dsimp only at hSW); go_simp; try with_reducible rfl)); clear hK K; (try simp only [Act.put, List.setIfInBounds_toArray, List.set_cons_zero, List.set_cons_succ])
                  refine ord_take RD 12 (at_list (by rw [HOP.out]; rfl)) HNS.out HPQ.out (by rw [HOP.out]; kernel_rfl) (by rw [HOP.out]; kernel_rfl) (by rw [HOP.out]; rfl) (fun K hK => ?_); apply Exists.intro; refine ⟨fun W hSW => ?_, hK _ ?_⟩; (focus ((try dsimp only at hSW); go_simp; try with_reducible rfl)); clear hK K; (try simp only [Act.put, List.setIfInBounds_toArray, List.set_cons_zero, List.set_cons_succ])
                  exact ord_at (by kernel_rfl) (HREST A1 n1 c1 A2 n2 c2 xX xY xZ _ ⟨HS.out, HCAL.out, HX.out, HY.out, HZ.out⟩)
          · intro Wn hWW hSW K hK
            (try dsimp only at hSW)
            have HS := Lib.hid hSW
            have HY := Lib.hid (And.intro (Lies.fresh Wn 26 [.int .i64 0, .slice none 0 0, .int .i64 0]) (HLE.out _ hSW))
            clear hSW hWW
            go_simp
            refine hK _ _ ⟨HS.out.1.past (grows_alloc _ _), Nat.le_trans HS.out.2 (grows_alloc _ _).size⟩ ?_
            replace HS := Lib.hid (And.intro (HS.out.1.past (grows_alloc _ (.cells #[.int .i64 0, .slice none 0 0, .int .i64 0] 26))) (Nat.le_trans HS.out.2 (grows_alloc _ (.cells #[.int .i64 0, .slice none 0 0, .int .i64 0] 26)).size))
            clear hK K; (try simp only [Act.put, List.setIfInBounds_toArray, List.set_cons_zero, List.set_cons_succ])
            generalize Wn.heap.size = xY at *
            refine ord_three RD 7 13 15 (by rw [HOP.out]; kernel_rfl) (at_list (by rw [HOP.out]; rfl)) (at_list (by rw [HOP.out]; rfl)) (at_list (by rw [HOP.out]; rfl)) (by rw [HOP.out]; rfl) (by rw [HOP.out]; rfl) (by rw [HOP.out]; rfl) ?_ ?_ ?_
            · intro Wn hWW hSW K hK
              (try dsimp only at hSW)
              replace HY := Lib.hid (And.intro (HY.out.1.past hWW) HY.out.2)
              have HS := Lib.hid hSW
              clear hSW hWW
              go_simp
              refine (Byte_any s.m s.r A n c s.f B q d x _ HS.out.1.i1 HS.out.1.i2 HXB.out.1 HXB.out.2).mono ?_
              rintro e0 Wc ⟨A1, n1, c1, A2, n2, c2, rfl, i1, o1, i2, o2, hb⟩
              simp only [HST.out.1, HST.out.2.1, HST.out.2.2.1, HST.out.2.2.2] at i1 o1 i2 o2 ⊢
              refine hK _ _ ⟨HS.out.1.past hb, Nat.le_trans HS.out.2 hb.size⟩ ?_
              replace HY := Lib.hid (And.intro (HY.out.1.past hb) HY.out.2)
              have HCAL := Lib.hid (cal_mk i1 (o1.mono HS.out.1.hb.size) i2 (o2.mono HS.out.1.hb.size))
              replace HS := Lib.hid (And.intro (HS.out.1.past hb) (Nat.le_trans HS.out.2 hb.size))
              clear i1 o1 i2 o2 hb
              clear hK K; (try simp only [Act.put, List.setIfInBounds_toArray, List.set_cons_zero, List.set_cons_succ])
              refine ord_take RD 8 (at_list (by rw [HOP.out]; rfl)) HNS.out HPQ.out (by rw [HOP.out]; kernel_rfl) (by rw [HOP.out]; kernel_rfl) (by rw [HOP.out]; rfl) (fun K hK => ?_); apply Exists.intro; refine ⟨fun W hSW => ?_, hK _ ?_⟩; (focus ((try dsimp only at hSW); go_simp; try with_reducible rfl)); clear hK K; (try simp only [Act.put, List.setIfInBounds_toArray, List.set_cons_zero, List.set_cons_succ])
              refine ord_take RD 9 (at_list (by rw [HOP.out]; rfl)) HNS.out HPQ.out (by rw [HOP.out]; kernel_rfl) (by rw [HOP.out]; kernel_rfl) (by rw [HOP.out]; rfl) (fun K hK => ?_); apply Exists.intro; refine ⟨fun W hSW => ?_, hK _ ?_⟩; (focus ((try dsimp only at hSW); go_simp; try with_reducible rfl)); clear hK K; (try simp only [Act.put, List.setIfInBounds_toArray, List.set_cons_zero, List.set_cons_succ])
              refine ord_take RD 10 (at_list (by rw [HOP.out]; rfl)) HNS.out HPQ.out (by rw [HOP.out]; kernel_rfl) (by rw [HOP.out]; kernel_rfl) (by rw [HOP.out]; rfl) (fun K hK => ?_); apply Exists.intro; refine ⟨fun W hSW => ?_, hK _ ?_⟩; (focus ((try dsimp only at hSW); go_simp; try with_reducible rfl)); clear hK K; (try simp only [Act.put, List.setIfInBounds_toArray, List.set_cons_zero, List.set_cons_succ])
              refine ord_take RD 11 (at_list (by rw [HOP.out]; rfl)) HNS.out HPQ.out (by rw [HOP.out]; kernel_rfl) (by rw [HOP.out]; kernel_rfl) (by rw [HOP.out]; rfl) (fun K hK => ?_); apply Exists.intro; refine ⟨fun W hSW => ?_, hK _ ?_⟩; (focus ((try dsimp only at hSW); go_simp; try with_reducible rfl)); clear hK K; (try simp only [Act.put, List.setIfInBounds_toArray, List.set_cons_zero, List.set_cons_succ])
              refine ord_take RD 12 (at_list (by rw [HOP.out]; rfl)) HNS.out HPQ.out (by rw [HOP.out]; kernel_rfl) (by rw [HOP.out]; kernel_rfl) (by rw [HOP.out]; rfl) (fun K hK => ?_); apply Exists.intro; refine ⟨fun W hSW => ?_, hK _ ?_⟩; (focus ((try dsimp only at hSW); go_simp; try with_reducible rfl)); clear hK K; (try simp only [Act.put, List.setIfInBounds_toArray, List.set_cons_zero, List.set_cons_succ])
              refine ord_two RD 13 15 (by rw [HOP.out]; kernel_rfl) (at_list (by rw [HOP.out]; rfl)) (at_list (by rw [HOP.out]; rfl)) (by rw [HOP.out]; rfl) (by rw [HOP.out]; rfl) ?_ ?_
              · intro Wn hWW hSW K hK
                (try dsimp only at hSW)
                replace HY := Lib.hid (And.intro (HY.out.1.past hWW) HY.out.2)
                replace HCAL := Lib.hid (cal_past HCAL.out hWW)
                have HS := Lib.hid hSW
                have HX := Lib.hid (And.intro (Lies.fresh Wn 23 [.int .i64 0, .int .i64 0]) (HLE.out _ hSW))
                clear hSW hWW
                go_simp
                refine hK _ _ ⟨HS.out.1.past (grows_alloc _ _), Nat.le_trans HS.out.2 (grows_alloc _ _).size⟩ ?_
                replace HY := Lib.hid (And.intro (HY.out.1.past (grows_alloc _ (.cells #[.int .i64 0, .int .i64 0] 23))) HY.out.2)
                replace HCAL := Lib.hid (cal_past HCAL.out (grows_alloc _ (.cells #[.int .i64 0, .int .i64 0] 23)))
                replace HS := Lib.hid (And.intro (HS.out.1.past (grows_alloc _ (.cells #[.int .i64 0, .int .i64 0] 23))) (Nat.le_trans HS.out.2 (grows_alloc _ (.cells #[.int .i64 0, .int .i64 0] 23)).size))
                clear hK K; (try simp only [Act.put, List.setIfInBounds_toArray, List.set_cons_zero, List.set_cons_succ])
                generalize Wn.heap.size = xX at *
                refine ord_one RD 15 (by rw [HOP.out]; kernel_rfl) (at_list (by rw [HOP.out]; rfl)) (by rw [HOP.out]; rfl) ?_
                · intro Wn hWW hSW K hK
                  (try dsimp only at hSW)
                  replace HY := Lib.hid (And.intro (HY.out.1.past hWW) HY.out.2)
                  replace HCAL := Lib.hid (cal_past HCAL.out hWW)
                  replace HX := Lib.hid (And.intro (HX.out.1.past hWW) HX.out.2)
                  have HS := Lib.hid hSW
                  have HZ := Lib.hid (And.intro (Lies.fresh Wn 29 [.int .i64 0, .slice none 0 0]) (HLE.out _ hSW))
                  clear hSW hWW
                  go_simp
                  refine hK _ _ ⟨HS.out.1.past (grows_alloc _ _), Nat.le_trans HS.out.2 (grows_alloc _ _).size⟩ ?_
                  replace HY := Lib.hid (And.intro (HY.out.1.past (grows_alloc _ (.cells #[.int .i64 0, .slice none 0 0] 29))) HY.out.2)
                  replace HCAL := Lib.hid (cal_past HCAL.out (grows_alloc _ (.cells #[.int .i64 0, .slice none 0 0] 29)))
                  replace HX := Lib.hid (And.intro (HX.out.1.past (grows_alloc _ (.cells #[.int .i64 0, .slice none 0 0] 29))) HX.out.2)
                  replace HS := Lib.hid (And.intro (HS.out.1.past (grows_alloc _ (.cells #[.int .i64 0, .slice none 0 0] 29))) (Nat.le_trans HS.out.2 (grows_alloc _ (.cells #[.int .i64 0, .slice none 0 0] 29)).size))
                  clear hK K; (try simp only [Act.put, List.setIfInBounds_toArray, List.set_cons_zero, List.set_cons_succ])
                  generalize Wn.heap.size = xZ at *
                  exact ord_at (by kernel_rfl) (HREST A1 n1 c1 A2 n2 c2 xX xY xZ _ ⟨HS.out, HCAL.out, HX.out, HY.out, HZ.out⟩)
              · intro Wn hWW hSW K hK
                (try dsimp only at hSW)
                replace HY := Lib.hid (And.intro (HY.out.1.past hWW) HY.out.2)
                replace HCAL := Lib.hid (cal_past HCAL.out hWW)
                have HS := Lib.hid hSW
                have HZ := Lib.hid (And.intro (Lies.fresh Wn 29 [.int .i64 0, .slice none 0 0]) (HLE.out _ hSW))
                clear hSW hWW
                go_simp
                refine hK _ _ ⟨HS.out.1.past (grows_alloc _ _), Nat.le_trans HS.out.2 (grows_alloc _ _).size⟩ ?_
                replace HY := Lib.hid (And.intro (HY.out.1.past (grows_alloc _ (.cells #[.int .i64 0, .slice none 0 0] 29))) HY.out.2)
                replace HCAL := Lib.hid (cal_past HCAL.out (grows_alloc _ (.cells #[.int .i64 0, .slice none 0 0] 29)))
                replace HS := Lib.hid (And.intro (HS.out.1.past (grows_alloc _ (.cells #[.int .i64 0, .slice none 0 0] 29))) (Nat.le_trans HS.out.2 (grows_alloc _ (.cells #[.int .i64 0, .slice none 0 0] 29)).size))
                clear hK K; (try simp only [Act.put, List.setIfInBounds_toArray, List.set_cons_zero, List.set_cons_succ])
                generalize Wn.heap.size = xZ at *
                refine ord_one RD 13 (by rw [HOP.out]; kernel_rfl) (at_list (by rw [HOP.out]; rfl)) (by rw [HOP.out]; rfl) ?_
                · intro Wn hWW hSW K hK
                  (try dsimp only at hSW)
                  replace HY := Lib.hid (And.intro (HY.out.1.past hWW) HY.out.2)
                  replace HCAL := Lib.hid (cal_past HCAL.out hWW)
                  replace HZ := Lib.hid (And.intro (HZ.out.1.past hWW) HZ.out.2)
                  have HS := Lib.hid hSW
                  have HX := Lib.hid (And.intro (Lies.fresh Wn 23 [.int .i64 0, .int .i64 0]) (HLE.out _ hSW))
                  clear hSW hWW
                  go_simp
                  refine hK _ _ ⟨HS.out.1.past (grows_alloc _ _), Nat.le_trans HS.out.2 (grows_alloc _ _).size⟩ ?_
                  replace HY := Lib.hid (And.intro (HY.out.1.past (grows_alloc _ (.cells #[.int .i64 0, .int .i64 0] 23))) HY.out.2)
                  replace HCAL := Lib.hid (cal_past HCAL.out (grows_alloc _ (.cells #[.int .i64 0, .int .i64 0] 23)))
                  replace HZ := Lib.hid (And.intro (HZ.out.1.past (grows_alloc _ (.cells #[.int .i64 0, .int .i64 0] 23))) HZ.out.2)
                  replace HS := Lib.hid (And.intro (HS.out.1.past (grows_alloc _ (.cells #[.int .i64 0, .int .i64 0] 23))) (Nat.le_trans HS.out.2 (grows_alloc _ (.cells #[.int .i64 0, .int .i64 0] 23)).size))
                  clear hK K; (try simp only [Act.put, List.setIfInBounds_toArray, List.set_cons_zero, List.set_cons_succ])
                  generalize Wn.heap.size = xX at *
                  exact ord_at (by kernel_rfl) (HREST A1 n1 c1 A2 n2 c2 xX xY xZ _ ⟨HS.out, HCAL.out, HX.out, HY.out, HZ.out⟩)
            · intro Wn hWW hSW K hK
              (try dsimp only at hSW)
              replace HY := Lib.hid (And.intro (HY.out.1.past hWW) HY.out.2)
              have HS := Lib.hid hSW
              have HX := Lib.hid (And.intro (Lies.fresh Wn 23 [.int .i64 0, .int .i64 0]) (HLE.out _ hSW))
              clear hSW hWW
              go_simp
              refine hK _ _ ⟨HS.out.1.past (grows_alloc _ _), Nat.le_trans HS.out.2 (grows_alloc _ _).size⟩ ?_
              replace HY := Lib.hid (And.intro (HY.out.1.past (grows_alloc _ (.cells #[.int .i64 0, .int .i64 0] 23))) HY.out.2)
              replace HS := Lib.hid (And.intro (HS.out.1.past (grows_alloc _ (.cells #[.int .i64 0, .int .i64 0] 23))) (Nat.le_trans HS.out.2 (grows_alloc _ (.cells #[.int .i64 0, .int .i64 0] 23)).size))
              clear hK K; (try simp only [Act.put, List.setIfInBounds_toArray, List.set_cons_zero, List.set_cons_succ])
              generalize Wn.heap.size = xX at *
              refine ord_two RD 7 15 (by rw [HOP.out]; kernel_rfl) (at_list (by rw [HOP.out]; rfl)) (at_list (by rw [HOP.out]; rfl)) (by rw [HOP.out]; rfl) (by rw [HOP.out]; rfl) ?_ ?_
              · intro Wn hWW hSW K hK
                (try dsimp only at hSW)
                replace HY := Lib.hid (And.intro (HY.out.1.past hWW) HY.out.2)
                replace HX := Lib.hid (And.intro (HX.out.1.past hWW) HX.out.2)
                have HS := Lib.hid hSW
                clear hSW hWW
                go_simp
                refine (Byte_any s.m s.r A n c s.f B q d x _ HS.out.1.i1 HS.out.1.i2 HXB.out.1 HXB.out.2).mono ?_
                rintro e0 Wc ⟨A1, n1, c1, A2, n2, c2, rfl, i1, o1, i2, o2, hb⟩
                simp only [HST.out.1, HST.out.2.1, HST.out.2.2.1, HST.out.2.2.2] at i1 o1 i2 o2 ⊢
                refine hK _ _ ⟨HS.out.1.past hb, Nat.le_trans HS.out.2 hb.size⟩ ?_
                replace HY := Lib.hid (And.intro (HY.out.1.past hb) HY.out.2)
                replace HX := Lib.hid (And.intro (HX.out.1.past hb) HX.out.2)
                have HCAL := Lib.hid (cal_mk i1 (o1.mono HS.out.1.hb.size) i2 (o2.mono HS.out.1.hb.size))
                replace HS := Lib.hid (And.intro (HS.out.1.past hb) (Nat.le_trans HS.out.2 hb.size))
                clear i1 o1 i2 o2 hb
                clear hK K; (try simp only [Act.put, List.setIfInBounds_toArray, List.set_cons_zero, List.set_cons_succ])
                refine ord_take RD 8 (at_list (by rw [HOP.out]; rfl)) HNS.out HPQ.out (by rw [HOP.out]; kernel_rfl) (by rw [HOP.out]; kernel_rfl) (by rw [HOP.out]; rfl) (fun K hK => ?_); apply Exists.intro; refine ⟨fun W hSW => ?_, hK _ ?_⟩; (focus ((try dsimp only at hSW); go_simp; try with_reducible rfl)); clear hK K; (try simp only [Act.put, List.setIfInBounds_toArray, List.set_cons_zero, List.set_cons_succ])
                refine ord_take RD 9 (at_list (by rw [HOP.out]; rfl)) HNS.out HPQ.out (by rw [HOP.out]; kernel_rfl) (by rw [HOP.out]; kernel_rfl) (by rw [HOP.out]; rfl) (fun K hK => ?_); apply Exists.intro; refine ⟨fun W hSW => ?_, hK _ ?_⟩; (focus ((try dsimp only at hSW); go_simp; try with_reducible rfl)); clear hK K; (try simp only [Act.put, List.setIfInBounds_toArray, List.set_cons_zero, List.set_cons_succ])
                refine ord_take RD 10 (at_list (by rw [HOP.out]; rfl)) HNS.out HPQ.out (by rw [HOP.out]; kernel_rfl) (by rw [HOP.out]; kernel_rfl) (by rw [HOP.out]; rfl) (fun K hK => ?_); apply Exists.intro; refine ⟨fun W hSW => ?_, hK _ ?_⟩; (focus ((try dsimp only at hSW); go_simp; try with_reducible rfl)); clear hK K; (try simp only [Act.put, List.setIfInBounds_toArray, List.set_cons_zero, List.set_cons_succ])
                refine ord_take RD 11 (at_list (by rw [HOP.out]; rfl)) HNS.out HPQ.out (by rw [HOP.out]; kernel_rfl) (by rw [HOP.out]; kernel_rfl) (by rw [HOP.out]; rfl) (fun K hK => ?_); apply Exists.intro; refine ⟨fun W hSW => ?_, hK _ ?_⟩; (focus ((try dsimp only at hSW); go_simp; try with_reducible rfl)); clear hK K; (try simp only [Act.put, List.setIfInBounds_toArray, List.set_cons_zero, List.set_cons_succ])
                refine ord_take RD 12 (at_list (by rw [HOP.out]; rfl)) HNS.out HPQ.out (by rw [HOP.out]; kernel_rfl) (by rw [HOP.out]; kernel_rfl) (by rw [HOP.out]; rfl) (fun K hK => ?_); apply Exists.intro; refine ⟨fun W hSW => ?_, hK _ ?_⟩; (focus ((try dsimp only at hSW); go_simp; try with_reducible rfl)); clear hK K; (try simp only [Act.put, List.setIfInBounds_toArray, List.set_cons_zero, List.set_cons_succ])
                refine ord_one RD 15 (by rw [HOP.out]; kernel_rfl) (at_list (by rw [HOP.out]; rfl)) (by rw [HOP.out]; rfl) ?_
                · intro Wn hWW hSW K hK
                  (try dsimp only at hSW)
                  replace HY := Lib.hid (And.intro (HY.out.1.past hWW) HY.out.2)
                  replace HX := Lib.hid (And.intro (HX.out.1.past hWW) HX.out.2)
                  replace HCAL := Lib.hid (cal_past HCAL.out hWW)
                  have HS := Lib.hid hSW
                  have HZ := Lib.hid (And.intro (Lies.fresh Wn 29 [.int .i64 0, .slice none 0 0]) (HLE.out _ hSW))
                  clear hSW hWW
                  go_simp
                  refine hK _ _ ⟨HS.out.1.past (grows_alloc _ _), Nat.le_trans HS.out.2 (grows_alloc _ _).size⟩ ?_
                  replace HY := Lib.hid (And.intro (HY.out.1.past (grows_alloc _ (.cells #[.int .i64 0, .slice none 0 0] 29))) HY.out.2)
                  replace HX := Lib.hid (And.intro (HX.out.1.past (grows_alloc _ (.cells #[.int .i64 0, .slice none 0 0] 29))) HX.out.2)
                  replace HCAL := Lib.hid (cal_past HCAL.out (grows_alloc _ (.cells #[.int .i64 0, .slice none 0 0] 29)))
                  replace HS := Lib.hid (And.intro (HS.out.1.past (grows_alloc _ (.cells #[.int .i64 0, .slice none 0 0] 29))) (Nat.le_trans HS.out.2 (grows_alloc _ (.cells #[.int .i64 0, .slice none 0 0] 29)).size))
                  clear hK K; (try simp only [Act.put, List.setIfInBounds_toArray, List.set_cons_zero, List.set_cons_succ])
                  generalize Wn.heap.size = xZ at *
                  exact ord_at (by kernel_rfl) (HREST A1 n1 c1 A2 n2 c2 xX xY xZ _ ⟨HS.out, HCAL.out, HX.out, HY.out, HZ.out⟩)
              · intro Wn hWW hSW K hK
                (try dsimp only at hSW)
                replace HY := Lib.hid (And.intro (HY.out.1.past hWW) HY.out.2)
                replace HX := Lib.hid (And.intro (HX.out.1.past hWW) HX.out.2)
                have HS := Lib.hid hSW
                have HZ := Lib.hid (And.intro (Lies.fresh Wn 29 [.int .i64 0, .slice none 0 0]) (HLE.out _ hSW))
                clear hSW hWW
                go_simp
                refine hK _ _ ⟨HS.out.1.past (grows_alloc _ _), Nat.le_trans HS.out.2 (grows_alloc _ _).size⟩ ?_
                replace HY := Lib.hid (And.intro (HY.out.1.past (grows_alloc _ (.cells #[.int .i64 0, .slice none 0 0] 29))) HY.out.2)
                replace HX := Lib.hid (And.intro (HX.out.1.past (grows_alloc _ (.cells #[.int .i64 0, .slice none 0 0] 29))) HX.out.2)
                replace HS := Lib.hid (And.intro (HS.out.1.past (grows_alloc _ (.cells #[.int .i64 0, .slice none 0 0] 29))) (Nat.le_trans HS.out.2 (grows_alloc _ (.cells #[.int .i64 0, .slice none 0 0] 29)).size))
                clear hK K; (try simp only [Act.put, List.setIfInBounds_toArray, List.set_cons_zero, List.set_cons_succ])
                generalize Wn.heap.size = xZ at *
                refine ord_one RD 7 (by rw [HOP.out]; kernel_rfl) (at_list (by rw [HOP.out]; rfl)) (by rw [HOP.out]; rfl) ?_
                · intro Wn hWW hSW K hK
                  (try dsimp only at hSW)
                  replace HY := Lib.hid (And.intro (HY.out.1.past hWW) HY.out.2)
                  replace HX := Lib.hid (And.intro (HX.out.1.past hWW) HX.out.2)
                  replace HZ := Lib.hid (And.intro (HZ.out.1.past hWW) HZ.out.2)
                  have HS := Lib.hid hSW
                  clear hSW hWW
                  go_simp
                  refine (Byte_any s.m s.r A n c s.f B q d x _ HS.out.1.i1 HS.out.1.i2 HXB.out.1 HXB.out.2).mono ?_
                  rintro e0 Wc ⟨A1, n1, c1, A2, n2, c2, rfl, i1, o1, i2, o2, hb⟩
                  simp only [HST.out.1, HST.out.2.1, HST.out.2.2.1, HST.out.2.2.2] at i1 o1 i2 o2 ⊢
                  refine hK _ _ ⟨HS.out.1.past hb, Nat.le_trans HS.out.2 hb.size⟩ ?_
                  replace HY := Lib.hid (And.intro (HY.out.1.past hb) HY.out.2)
                  replace HX := Lib.hid (And.intro (HX.out.1.past hb) HX.out.2)
                  replace HZ := Lib.hid (And.intro (HZ.out.1.past hb) HZ.out.2)
                  have HCAL := Lib.hid (cal_mk i1 (o1.mono HS.out.1.hb.size) i2 (o2.mono HS.out.1.hb.size))
                  replace HS := Lib.hid (And.intro (HS.out.1.past hb) (Nat.le_trans HS.out.2 hb.size))
                  clear i1 o1 i2 o2 hb
                  clear hK K; (try simp only [Act.put, List.setIfInBounds_toArray, List.set_cons_zero, List.set_cons_succ])
                  refine ord_take RD 8 (at_list (by rw [HOP.out]; rfl)) HNS.out HPQ.out (by rw [HOP.out]; kernel_rfl) (by rw [HOP.out]; kernel_rfl) (by rw [HOP.out]; rfl) (fun K hK => ?_); apply Exists.intro; refine ⟨fun W hSW => ?_, hK _ ?_⟩; (focus ((try dsimp only at hSW); go_simp; try with_reducible rfl)); clear hK K; (try simp only [Act.put, List.setIfInBounds_toArray, List.set_cons_zero, List.set_cons_succ])
                  refine ord_take RD 9 (at_list (by rw [HOP.out]; rfl)) HNS.out HPQ.out (by rw [HOP.out]; kernel_rfl) (by rw [HOP.out]; kernel_rfl) (by rw [HOP.out]; rfl) (fun K hK => ?_); apply Exists.intro; refine ⟨fun W hSW => ?_, hK _ ?_⟩; (focus ((try dsimp only at hSW); go_simp; try with_reducible rfl)); clear hK K; (try simp only [Act.put, List.setIfInBounds_toArray, List.set_cons_zero, List.set_cons_succ])
                  refine ord_take RD 10 (at_list (by rw [HOP.out]; rfl)) HNS.out HPQ.out (by rw [HOP.out]; kernel_rfl) (by rw [HOP.out]; kernel_rfl) (by rw [HOP.out]; rfl) (fun K hK => ?_); apply Exists.intro; refine ⟨fun W hSW => ?_, hK _ ?_⟩; (focus ((try dsimp only at hSW); go_simp; try with_reducible rfl)); clear hK K; (try simp only [Act.put, List.setIfInBounds_toArray, List.set_cons_zero, List.set_cons_succ])
                  refine ord_take RD 11 (at_list (by rw [HOP.out]; rfl)) HNS.out HPQ.out (by rw [HOP.out]; kernel_rfl) (by rw [HOP.out]; kernel_rfl) (by rw [HOP.out]; rfl) (fun K hK => ?_); apply Exists.intro; refine ⟨fun W hSW => ?_, hK _ ?_⟩; (focus ((try dsimp only at hSW); go_simp; try with_reducible rfl)); clear hK K; (try simp only [Act.put, List.setIfInBounds_toArray, List.set_cons_zero, List.set_cons_succ])
                  refine ord_take RD 12 (at_list (by rw [HOP.out]; rfl)) HNS.out HPQ.out (by rw [HOP.out]; kernel_rfl) (by rw [HOP.out]; kernel_rfl) (by rw [HOP.out]; rfl) (fun K hK => ?_); apply Exists.intro; refine ⟨fun W hSW => ?_, hK _ ?_⟩; (focus ((try dsimp only at hSW); go_simp; try with_reducible rfl)); clear hK K; (try simp only [Act.put, List.setIfInBounds_toArray, List.set_cons_zero, List.set_cons_succ])
                  exact ord_at (by kernel_rfl) (HREST A1 n1 c1 A2 n2 c2 xX xY xZ _ ⟨HS.out, HCAL.out, HX.out, HY.out, HZ.out⟩)
            · intro Wn hWW hSW K hK
              (try dsimp only at hSW)
              replace HY := Lib.hid (And.intro (HY.out.1.past hWW) HY.out.2)
              have HS := Lib.hid hSW
              have HZ := Lib.hid (And.intro (Lies.fresh Wn 29 [.int .i64 0, .slice none 0 0]) (HLE.out _ hSW))
              clear hSW hWW
              go_simp
              refine hK _ _ ⟨HS.out.1.past (grows_alloc _ _), Nat.le_trans HS.out.2 (grows_alloc _ _).size⟩ ?_
              replace HY := Lib.hid (And.intro (HY.out.1.past (grows_alloc _ (.cells #[.int .i64 0, .slice none 0 0] 29))) HY.out.2)
              replace HS := Lib.hid (And.intro (HS.out.1.past (grows_alloc _ (.cells #[.int .i64 0, .slice none 0 0] 29))) (Nat.le_trans HS.out.2 (grows_alloc _ (.cells #[.int .i64 0, .slice none 0 0] 29)).size))
              clear hK K; (try simp only [Act.put, List.setIfInBounds_toArray, List.set_cons_zero, List.set_cons_succ])
              generalize Wn.heap.size = xZ at *
              refine ord_two RD 7 13 (by rw [HOP.out]; kernel_rfl) (at_list (by rw [HOP.out]; rfl)) (at_list (by rw [HOP.out]; rfl)) (by rw [HOP.out]; rfl) (by rw [HOP.out]; rfl) ?_ ?_
              · intro Wn hWW hSW K hK
                (try dsimp only at hSW)
                replace HY := Lib.hid (And.intro (HY.out.1.past hWW) HY.out.2)
                replace HZ := Lib.hid (And.intro (HZ.out.1.past hWW) HZ.out.2)
                have HS := Lib.hid hSW
                clear hSW hWW
                go_simp
                refine (Byte_any s.m s.r A n c s.f B q d x _ HS.out.1.i1 HS.out.1.i2 HXB.out.1 HXB.out.2).mono ?_
                rintro e0 Wc ⟨A1, n1, c1, A2, n2, c2, rfl, i1, o1, i2, o2, hb⟩
                simp only [HST.out.1, HST.out.2.1, HST.out.2.2.1, HST.out.2.2.2] at i1 o1 i2 o2 ⊢
                refine hK _ _ ⟨HS.out.1.past hb, Nat.le_trans HS.out.2 hb.size⟩ ?_
                replace HY := Lib.hid (And.intro (HY.out.1.past hb) HY.out.2)
                replace HZ := Lib.hid (And.intro (HZ.out.1.past hb) HZ.out.2)
                have HCAL := Lib.hid (cal_mk i1 (o1.mono HS.out.1.hb.size) i2 (o2.mono HS.out.1.hb.size))
                replace HS := Lib.hid (And.intro (HS.out.1.past hb) (Nat.le_trans HS.out.2 hb.size))
                clear i1 o1 i2 o2 hb
                clear hK K; (try simp only [Act.put, List.setIfInBounds_toArray, List.set_cons_zero, List.set_cons_succ])
                refine ord_take RD 8 (at_list (by rw [HOP.out]; rfl)) HNS.out HPQ.out (by rw [HOP.out]; kernel_rfl) (by rw [HOP.out]; kernel_rfl) (by rw [HOP.out]; rfl) (fun K hK => ?_); apply Exists.intro; refine ⟨fun W hSW => ?_, hK _ ?_⟩; (focus ((try dsimp only at hSW); go_simp; try with_reducible rfl)); clear hK K; (try simp only [Act.put, List.setIfInBounds_toArray, List.set_cons_zero, List.set_cons_succ])
                refine ord_take RD 9 (at_list (by rw [HOP.out]; rfl)) HNS.out HPQ.out (by rw [HOP.out]; kernel_rfl) (by rw [HOP.out]; kernel_rfl) (by rw [HOP.out]; rfl) (fun K hK => ?_); apply Exists.intro; refine ⟨fun W hSW => ?_, hK _ ?_⟩; (focus ((try dsimp only at hSW); go_simp; try with_reducible rfl)); clear hK K; (try simp only [Act.put, List.setIfInBounds_toArray, List.set_cons_zero, List.set_cons_succ])
                refine ord_take RD 10 (at_list (by rw [HOP.out]; rfl)) HNS.out HPQ.out (by rw [HOP.out]; kernel_rfl) (by rw [HOP.out]; kernel_rfl) (by rw [HOP.out]; rfl) (fun K hK => ?_); apply Exists.intro; refine ⟨fun W hSW => ?_, hK _ ?_⟩; (focus ((try dsimp only at hSW); go_simp; try with_reducible rfl)); clear hK K; (try simp only [Act.put, List.setIfInBounds_toArray, List.set_cons_zero, List.set_cons_succ])
                refine ord_take RD 11 (at_list (by rw [HOP.out]; rfl)) HNS.out HPQ.out (by rw [HOP.out]; kernel_rfl) (by rw [HOP.out]; kernel_rfl) (by rw [HOP.out]; rfl) (fun K hK => ?_); apply Exists.intro; refine ⟨fun W hSW => ?_, hK _ ?_⟩; (focus ((try dsimp only at hSW); go_simp; try with_reducible rfl)); clear hK K; (try simp only [Act.put, List.setIfInBounds_toArray, List.set_cons_zero, List.set_cons_succ])
                refine ord_take RD 12 (at_list (by rw [HOP.out]; rfl)) HNS.out HPQ.out (by rw [HOP.out]; kernel_rfl) (by rw [HOP.out]; kernel_rfl) (by rw [HOP.out]; rfl) (fun K hK => ?_); apply Exists.intro; refine ⟨fun W hSW => ?_, hK _ ?_⟩; (focus ((try dsimp only at hSW); go_simp; try with_reducible rfl)); clear hK K; (try simp only [Act.put, List.setIfInBounds_toArray, List.set_cons_zero, List.set_cons_succ])
                refine ord_one RD 13 (by rw [HOP.out]; kernel_rfl) (at_list (by rw [HOP.out]; rfl)) (by rw [HOP.out]; rfl) ?_
                · intro Wn hWW hSW K hK
                  (try dsimp only at hSW)
                  replace HY := Lib.hid (And.intro (HY.out.1.past hWW) HY.out.2)
                  replace HZ := Lib.hid (And.intro (HZ.out.1.past hWW) HZ.out.2)
                  replace HCAL := Lib.hid (cal_past HCAL.out hWW)
                  have HS := Lib.hid hSW
                  have HX := Lib.hid (And.intro (Lies.fresh Wn 23 [.int .i64 0, .int .i64 0]) (HLE.out _ hSW))
                  clear hSW hWW
                  go_simp
                  refine hK _ _ ⟨HS.out.1.past (grows_alloc _ _), Nat.le_trans HS.out.2 (grows_alloc _ _).size⟩ ?_
                  replace HY := Lib.hid (And.intro (HY.out.1.past (grows_alloc _ (.cells #[.int .i64 0, .int .i64 0] 23))) HY.out.2)
                  replace HZ := Lib.hid (And.intro (HZ.out.1.past (grows_alloc _ (.cells #[.int .i64 0, .int .i64 0] 23))) HZ.out.2)
                  replace HCAL := Lib.hid (cal_past HCAL.out (grows_alloc _ (.cells #[.int .i64 0, .int .i64 0] 23)))
                  replace HS := Lib.hid (And.intro (HS.out.1.past (grows_alloc _ (.cells #[.int .i64 0, .int .i64 0] 23))) (Nat.le_trans HS.out.2 (grows_alloc _ (.cells #[.int .i64 0, .int .i64 0] 23)).size))
                  clear hK K; (try simp only [Act.put, List.setIfInBounds_toArray, List.set_cons_zero, List.set_cons_succ])
                  generalize Wn.heap.size = xX at *
                  exact ord_at (by kernel_rfl) (HREST A1 n1 c1 A2 n2 c2 xX xY xZ _ ⟨HS.out, HCAL.out, HX.out, HY.out, HZ.out⟩)
              · intro Wn hWW hSW K hK
                (try dsimp only at hSW)
                replace HY := Lib.hid (And.intro (HY.out.1.past hWW) HY.out.2)
                replace HZ := Lib.hid (And.intro (HZ.out.1.past hWW) HZ.out.2)
                have HS := Lib.hid hSW
                have HX := Lib.hid (And.intro (Lies.fresh Wn 23 [.int .i64 0, .int .i64 0]) (HLE.out _ hSW))
                clear hSW hWW
                go_simp
                refine hK _ _ ⟨HS.out.1.past (grows_alloc _ _), Nat.le_trans HS.out.2 (grows_alloc _ _).size⟩ ?_
                replace HY := Lib.hid (And.intro (HY.out.1.past (grows_alloc _ (.cells #[.int .i64 0, .int .i64 0] 23))) HY.out.2)
                replace HZ := Lib.hid (And.intro (HZ.out.1.past (grows_alloc _ (.cells #[.int .i64 0, .int .i64 0] 23))) HZ.out.2)
                replace HS := Lib.hid (And.intro (HS.out.1.past (grows_alloc _ (.cells #[.int .i64 0, .int .i64 0] 23))) (Nat.le_trans HS.out.2 (grows_alloc _ (.cells #[.int .i64 0, .int .i64 0] 23)).size))
                clear hK K; (try simp only [Act.put, List.setIfInBounds_toArray, List.set_cons_zero, List.set_cons_succ])
                generalize Wn.heap.size = xX at *
                refine ord_one RD 7 (by rw [HOP.out]; kernel_rfl) (at_list (by rw [HOP.out]; rfl)) (by rw [HOP.out]; rfl) ?_
                · intro Wn hWW hSW K hK
                  (try dsimp only at hSW)
                  replace HY := Lib.hid (And.intro (HY.out.1.past hWW) HY.out.2)
                  replace HZ := Lib.hid (And.intro (HZ.out.1.past hWW) HZ.out.2)
                  replace HX := Lib.hid (And.intro (HX.out.1.past hWW) HX.out.2)
                  have HS := Lib.hid hSW
                  clear hSW hWW
                  go_simp
                  refine (Byte_any s.m s.r A n c s.f B q d x _ HS.out.1.i1 HS.out.1.i2 HXB.out.1 HXB.out.2).mono ?_
                  rintro e0 Wc ⟨A1, n1, c1, A2, n2, c2, rfl, i1, o1, i2, o2, hb⟩
                  simp only [HST.out.1, HST.out.2.1, HST.out.2.2.1, HST.out.2.2.2] at i1 o1 i2 o2 ⊢
                  refine hK _ _ ⟨HS.out.1.past hb, Nat.le_trans HS.out.2 hb.size⟩ ?_
                  replace HY := Lib.hid (And.intro (HY.out.1.past hb) HY.out.2)
                  replace HZ := Lib.hid (And.intro (HZ.out.1.past hb) HZ.out.2)
                  replace HX := Lib.hid (And.intro (HX.out.1.past hb) HX.out.2)
                  have HCAL := Lib.hid (cal_mk i1 (o1.mono HS.out.1.hb.size) i2 (o2.mono HS.out.1.hb.size))
                  replace HS := Lib.hid (And.intro (HS.out.1.past hb) (Nat.le_trans HS.out.2 hb.size))
                  clear i1 o1 i2 o2 hb
                  clear hK K; (try simp only [Act.put, List.setIfInBounds_toArray, List.set_cons_zero, List.set_cons_succ])
                  refine ord_take RD 8 (at_list (by rw [HOP.out]; rfl)) HNS.out HPQ.out (by rw [HOP.out]; kernel_rfl) (by rw [HOP.out]; kernel_rfl) (by rw [HOP.out]; rfl) (fun K hK => ?_); apply Exists.intro; refine ⟨fun W hSW => ?_, hK _ ?_⟩; (focus ((try dsimp only at hSW); go_simp; try with_reducible rfl)); clear hK K; (try simp only [Act.put, List.setIfInBounds_toArray, List.set_cons_zero, List.set_cons_succ])
                  refine ord_take RD 9 (at_list (by rw [HOP.out]; rfl)) HNS.out HPQ.out (by rw [HOP.out]; kernel_rfl) (by rw [HOP.out]; kernel_rfl) (by rw [HOP.out]; rfl) (fun K hK => ?_); apply Exists.intro; refine ⟨fun W hSW => ?_, hK _ ?_⟩; (focus ((try dsimp only at hSW); go_simp; try with_reducible rfl)); clear hK K; (try simp only [Act.put, List.setIfInBounds_toArray, List.set_cons_zero, List.set_cons_succ])
                  refine ord_take RD 10 (at_list (by rw [HOP.out]; rfl)) HNS.out HPQ.out (by rw [HOP.out]; kernel_rfl) (by rw [HOP.out]; kernel_rfl) (by rw [HOP.out]; rfl) (fun K hK => ?_); apply Exists.intro; refine ⟨fun W hSW => ?_, hK _ ?_⟩; (focus ((try dsimp only at hSW); go_simp; try with_reducible rfl)); clear hK K; (try simp only [Act.put, List.setIfInBounds_toArray, List.set_cons_zero, List.set_cons_succ])
                  refine ord_take RD 11 (at_list (by rw [HOP.out]; rfl)) HNS.out HPQ.out (by rw [HOP.out]; kernel_rfl) (by rw [HOP.out]; kernel_rfl) (by rw [HOP.out]; rfl) (fun K hK => ?_); apply Exists.intro; refine ⟨fun W hSW => ?_, hK _ ?_⟩; (focus ((try dsimp only at hSW); go_simp; try with_reducible rfl)); clear hK K; (try simp only [Act.put, List.setIfInBounds_toArray, List.set_cons_zero, List.set_cons_succ])
                  refine ord_take RD 12 (at_list (by rw [HOP.out]; rfl)) HNS.out HPQ.out (by rw [HOP.out]; kernel_rfl) (by rw [HOP.out]; kernel_rfl) (by rw [HOP.out]; rfl) (fun K hK => ?_); apply Exists.intro; refine ⟨fun W hSW => ?_, hK _ ?_⟩; (focus ((try dsimp only at hSW); go_simp; try with_reducible rfl)); clear hK K; (try simp only [Act.put, List.setIfInBounds_toArray, List.set_cons_zero, List.set_cons_succ])
                  exact ord_at (by kernel_rfl) (HREST A1 n1 c1 A2 n2 c2 xX xY xZ _ ⟨HS.out, HCAL.out, HX.out, HY.out, HZ.out⟩)
          · intro Wn hWW hSW K hK
            (try dsimp only at hSW)
            have HS := Lib.hid hSW
            have HZ := Lib.hid (And.intro (Lies.fresh Wn 29 [.int .i64 0, .slice none 0 0]) (HLE.out _ hSW))
            clear hSW hWW
            go_simp
            refine hK _ _ ⟨HS.out.1.past (grows_alloc _ _), Nat.le_trans HS.out.2 (grows_alloc _ _).size⟩ ?_
            replace HS := Lib.hid (And.intro (HS.out.1.past (grows_alloc _ (.cells #[.int .i64 0, .slice none 0 0] 29))) (Nat.le_trans HS.out.2 (grows_alloc _ (.cells #[.int .i64 0, .slice none 0 0] 29)).size))
            clear hK K; (try simp only [Act.put, List.setIfInBounds_toArray, List.set_cons_zero, List.set_cons_succ])
            generalize Wn.heap.size = xZ at *
            refine ord_three RD 7 13 14 (by rw [HOP.out]; kernel_rfl) (at_list (by rw [HOP.out]; rfl)) (at_list (by rw [HOP.out]; rfl)) (at_list (by rw [HOP.out]; rfl)) (by rw [HOP.out]; rfl) (by rw [HOP.out]; rfl) (by rw [HOP.out]; rfl) ?_ ?_ ?_
            · intro Wn hWW hSW K hK
              (try dsimp only at hSW)
              replace HZ := Lib.hid (And.intro (HZ.out.1.past hWW) HZ.out.2)
              have HS := Lib.hid hSW
              clear hSW hWW
              go_simp
              refine (Byte_any s.m s.r A n c s.f B q d x _ HS.out.1.i1 HS.out.1.i2 HXB.out.1 HXB.out.2).mono ?_
              rintro e0 Wc ⟨A1, n1, c1, A2, n2, c2, rfl, i1, o1, i2, o2, hb⟩
              simp only [HST.out.1, HST.out.2.1, HST.out.2.2.1, HST.out.2.2.2] at i1 o1 i2 o2 ⊢
              refine hK _ _ ⟨HS.out.1.past hb, Nat.le_trans HS.out.2 hb.size⟩ ?_
              replace HZ := Lib.hid (And.intro (HZ.out.1.past hb) HZ.out.2)
              have HCAL := Lib.hid (cal_mk i1 (o1.mono HS.out.1.hb.size) i2 (o2.mono HS.out.1.hb.size))
              replace HS := Lib.hid (And.intro (HS.out.1.past hb) (Nat.le_trans HS.out.2 hb.size))
              clear i1 o1 i2 o2 hb
              clear hK K; (try simp only [Act.put, List.setIfInBounds_toArray, List.set_cons_zero, List.set_cons_succ])
              refine ord_take RD 8 (at_list (by rw [HOP.out]; rfl)) HNS.out HPQ.out (by rw [HOP.out]; kernel_rfl) (by rw [HOP.out]; kernel_rfl) (by rw [HOP.out]; rfl) (fun K hK => ?_); apply Exists.intro; refine ⟨fun W hSW => ?_, hK _ ?_⟩; (focus ((try dsimp only at hSW); go_simp; try with_reducible rfl)); clear hK K; (try simp only [Act.put, List.setIfInBounds_toArray, List.set_cons_zero, List.set_cons_succ])
              refine ord_take RD 9 (at_list (by rw [HOP.out]; rfl)) HNS.out HPQ.out (by rw [HOP.out]; kernel_rfl) (by rw [HOP.out]; kernel_rfl) (by rw [HOP.out]; rfl) (fun K hK => ?_); apply Exists.intro; refine ⟨fun W hSW => ?_, hK _ ?_⟩; (focus ((try dsimp only at hSW); go_simp; try with_reducible rfl)); clear hK K; (try simp only [Act.put, List.setIfInBounds_toArray, List.set_cons_zero, List.set_cons_succ])
              refine ord_take RD 10 (at_list (by rw [HOP.out]; rfl)) HNS.out HPQ.out (by rw [HOP.out]; kernel_rfl) (by rw [HOP.out]; kernel_rfl) (by rw [HOP.out]; rfl) (fun K hK => ?_); apply Exists.intro; refine ⟨fun W hSW => ?_, hK _ ?_⟩; (focus ((try dsimp only at hSW); go_simp; try with_reducible rfl)); clear hK K; (try simp only [Act.put, List.setIfInBounds_toArray, List.set_cons_zero, List.set_cons_succ])
              refine ord_take RD 11 (at_list (by rw [HOP.out]; rfl)) HNS.out HPQ.out (by rw [HOP.out]; kernel_rfl) (by rw [HOP.out]; kernel_rfl) (by rw [HOP.out]; rfl) (fun K hK => ?_); apply Exists.intro; refine ⟨fun W hSW => ?_, hK _ ?_⟩; (focus ((try dsimp only at hSW); go_simp; try with_reducible rfl)); clear hK K; (try simp only [Act.put, List.setIfInBounds_toArray, List.set_cons_zero, List.set_cons_succ])
              refine ord_take RD 12 (at_list (by rw [HOP.out]; rfl)) HNS.out HPQ.out (by rw [HOP.out]; kernel_rfl) (by rw [HOP.out]; kernel_rfl) (by rw [HOP.out]; rfl) (fun K hK => ?_); apply Exists.intro; refine ⟨fun W hSW => ?_, hK _ ?_⟩; (focus ((try dsimp only at hSW); go_simp; try with_reducible rfl)); clear hK K; (try simp only [Act.put, List.setIfInBounds_toArray, List.set_cons_zero, List.set_cons_succ])
              refine ord_two RD 13 14 (by rw [HOP.out]; kernel_rfl) (at_list (by rw [HOP.out]; rfl)) (at_list (by rw [HOP.out]; rfl)) (by rw [HOP.out]; rfl) (by rw [HOP.out]; rfl) ?_ ?_
              · intro Wn hWW hSW K hK
                (try dsimp only at hSW)
                replace HZ := Lib.hid (And.intro (HZ.out.1.past hWW) HZ.out.2)
                replace HCAL := Lib.hid (cal_past HCAL.out hWW)
                have HS := Lib.hid hSW
                have HX := Lib.hid (And.intro (Lies.fresh Wn 23 [.int .i64 0, .int .i64 0]) (HLE.out _ hSW))
                clear hSW hWW
                go_simp
                refine hK _ _ ⟨HS.out.1.past (grows_alloc _ _), Nat.le_trans HS.out.2 (grows_alloc _ _).size⟩ ?_
                replace HZ := Lib.hid (And.intro (HZ.out.1.past (grows_alloc _ (.cells #[.int .i64 0, .int .i64 0] 23))) HZ.out.2)
                replace HCAL := Lib.hid (cal_past HCAL.out (grows_alloc _ (.cells #[.int .i64 0, .int .i64 0] 23)))
                replace HS := Lib.hid (And.intro (HS.out.1.past (grows_alloc _ (.cells #[.int .i64 0, .int .i64 0] 23))) (Nat.le_trans HS.out.2 (grows_alloc _ (.cells #[.int .i64 0, .int .i64 0] 23)).size))
                clear hK K; (try simp only [Act.put, List.setIfInBounds_toArray, List.set_cons_zero, List.set_cons_succ])
                generalize Wn.heap.size = xX at *
                refine ord_one RD 14 (by rw [HOP.out]; kernel_rfl) (at_list (by rw [HOP.out]; rfl)) (by rw [HOP.out]; rfl) ?_
                · intro Wn hWW hSW K hK
                  (try dsimp only at hSW)
                  replace HZ := Lib.hid (And.intro (HZ.out.1.past hWW) HZ.out.2)
                  replace HCAL := Lib.hid (cal_past HCAL.out hWW)
                  replace HX := Lib.hid (And.intro (HX.out.1.past hWW) HX.out.2)
                  have HS := Lib.hid hSW
                  have HY := Lib.hid (And.intro (Lies.fresh Wn 26 [.int .i64 0, .slice none 0 0, .int .i64 0]) (HLE.out _ hSW))
                  clear hSW hWW
                  go_simp
                  refine hK _ _ ⟨HS.out.1.past (grows_alloc _ _), Nat.le_trans HS.out.2 (grows_alloc _ _).size⟩ ?_
                  replace HZ := Lib.hid (And.intro (HZ.out.1.past (grows_alloc _ (.cells #[.int .i64 0, .slice none 0 0, .int .i64 0] 26))) HZ.out.2)
                  replace HCAL := Lib.hid (cal_past HCAL.out (grows_alloc _ (.cells #[.int .i64 0, .slice none 0 0, .int .i64 0] 26)))
                  replace HX := Lib.hid (And.intro (HX.out.1.past (grows_alloc _ (.cells #[.int .i64 0, .slice none 0 0, .int .i64 0] 26))) HX.out.2)
                  replace HS := Lib.hid (And.intro (HS.out.1.past (grows_alloc _ (.cells #[.int .i64 0, .slice none 0 0, .int .i64 0] 26))) (Nat.le_trans HS.out.2 (grows_alloc _ (.cells #[.int .i64 0, .slice none 0 0, .int .i64 0] 26)).size))
                  clear hK K; (try simp only [Act.put, List.setIfInBounds_toArray, List.set_cons_zero, List.set_cons_succ])
                  generalize Wn.heap.size = xY at *
                  exact ord_at (by kernel_rfl) (HREST A1 n1 c1 A2 n2 c2 xX xY xZ _ ⟨HS.out, HCAL.out, HX.out, HY.out, HZ.out⟩)
              · intro Wn hWW hSW K hK
                (try dsimp only at hSW)
                replace HZ := Lib.hid (And.intro (HZ.out.1.past hWW) HZ.out.2)
                replace HCAL := Lib.hid (cal_past HCAL.out hWW)
                have HS := Lib.hid hSW
                have HY := Lib.hid (And.intro (Lies.fresh Wn 26 [.int .i64 0, .slice none 0 0, .int .i64 0]) (HLE.out _ hSW))
                clear hSW hWW
                go_simp
                refine hK _ _ ⟨HS.out.1.past (grows_alloc _ _), Nat.le_trans HS.out.2 (grows_alloc _ _).size⟩ ?_
                replace HZ := Lib.hid (And.intro (HZ.out.1.past (grows_alloc _ (.cells #[.int .i64 0, .slice none 0 0, .int .i64 0] 26))) HZ.out.2)
                replace HCAL := Lib.hid (cal_past HCAL.out (grows_alloc _ (.cells #[.int .i64 0, .slice none 0 0, .int .i64 0] 26)))
                replace HS := Lib.hid (And.intro (HS.out.1.past (grows_alloc _ (.cells #[.int .i64 0, .slice none 0 0, .int .i64 0] 26))) (Nat.le_trans HS.out.2 (grows_alloc _ (.cells #[.int .i64 0, .slice none 0 0, .int .i64 0] 26)).size))
                clear hK K; (try simp only [Act.put, List.setIfInBounds_toArray, List.set_cons_zero, List.set_cons_succ])
                generalize Wn.heap.size = xY at *
                refine ord_one RD 13 (by rw [HOP.out]; kernel_rfl) (at_list (by rw [HOP.out]; rfl)) (by rw [HOP.out]; rfl) ?_
                · intro Wn hWW hSW K hK
                  (try dsimp only at hSW)
                  replace HZ := Lib.hid (And.intro (HZ.out.1.past hWW) HZ.out.2)
                  replace HCAL := Lib.hid (cal_past HCAL.out hWW)
                  replace HY := Lib.hid (And.intro (HY.out.1.past hWW) HY.out.2)
                  have HS := Lib.hid hSW
                  have HX := Lib.hid (And.intro (Lies.fresh Wn 23 [.int .i64 0, .int .i64 0]) (HLE.out _ hSW))
                  clear hSW hWW
                  go_simp
                  refine hK _ _ ⟨HS.out.1.past (grows_alloc _ _), Nat.le_trans HS.out.2 (grows_alloc _ _).size⟩ ?_
                  replace HZ := Lib.hid (And.intro (HZ.out.1.past (grows_alloc _ (.cells #[.int .i64 0, .int .i64 0] 23))) HZ.out.2)
                  replace HCAL := Lib.hid (cal_past HCAL.out (grows_alloc _ (.cells #[.int .i64 0, .int .i64 0] 23)))
                  replace HY := Lib.hid (And.intro (HY.out.1.past (grows_alloc _ (.cells #[.int .i64 0, .int .i64 0] 23))) HY.out.2)
                  replace HS := Lib.hid (And.intro (HS.out.1.past (grows_alloc _ (.cells #[.int .i64 0, .int .i64 0] 23))) (Nat.le_trans HS.out.2 (grows_alloc _ (.cells #[.int .i64 0, .int .i64 0] 23)).size))
                  clear hK K; (try simp only [Act.put, List.setIfInBounds_toArray, List.set_cons_zero, List.set_cons_succ])
                  generalize Wn.heap.size = xX at *
                  exact ord_at (by kernel_rfl) (HREST A1 n1 c1 A2 n2 c2 xX xY xZ _ ⟨HS.out, HCAL.out, HX.out, HY.out, HZ.out⟩)
            · intro Wn hWW hSW K hK
              (try dsimp only at hSW)
              replace HZ := Lib.hid (And.intro (HZ.out.1.past hWW) HZ.out.2)
              have HS := Lib.hid hSW
              have HX := Lib.hid (And.intro (Lies.fresh Wn 23 [.int .i64 0, .int .i64 0]) (HLE.out _ hSW))
              clear hSW hWW
              go_simp
              refine hK _ _ ⟨HS.out.1.past (grows_alloc _ _), Nat.le_trans HS.out.2 (grows_alloc _ _).size⟩ ?_
              replace HZ := Lib.hid (And.intro (HZ.out.1.past (grows_alloc _ (.cells #[.int .i64 0, .int .i64 0] 23))) HZ.out.2)
              replace HS := Lib.hid (And.intro (HS.out.1.past (grows_alloc _ (.cells #[.int .i64 0, .int .i64 0] 23))) (Nat.le_trans HS.out.2 (grows_alloc _ (.cells #[.int .i64 0, .int .i64 0] 23)).size))
              clear hK K; (try simp only [Act.put, List.setIfInBounds_toArray, List.set_cons_zero, List.set_cons_succ])
              generalize Wn.heap.size = xX at *
              refine ord_two RD 7 14 (by rw [HOP.out]; kernel_rfl) (at_list (by rw [HOP.out]; rfl)) (at_list (by rw [HOP.out]; rfl)) (by rw [HOP.out]; rfl) (by rw [HOP.out]; rfl) ?_ ?_
              · intro Wn hWW hSW K hK
                (try dsimp only at hSW)
                replace HZ := Lib.hid (And.intro (HZ.out.1.past hWW) HZ.out.2)
                replace HX := Lib.hid (And.intro (HX.out.1.past hWW) HX.out.2)
                have HS := Lib.hid hSW
                clear hSW hWW
                go_simp
                refine (Byte_any s.m s.r A n c s.f B q d x _ HS.out.1.i1 HS.out.1.i2 HXB.out.1 HXB.out.2).mono ?_
                rintro e0 Wc ⟨A1, n1, c1, A2, n2, c2, rfl, i1, o1, i2, o2, hb⟩
                simp only [HST.out.1, HST.out.2.1, HST.out.2.2.1, HST.out.2.2.2] at i1 o1 i2 o2 ⊢
                refine hK _ _ ⟨HS.out.1.past hb, Nat.le_trans HS.out.2 hb.size⟩ ?_
                replace HZ := Lib.hid (And.intro (HZ.out.1.past hb) HZ.out.2)
                replace HX := Lib.hid (And.intro (HX.out.1.past hb) HX.out.2)
                have HCAL := Lib.hid (cal_mk i1 (o1.mono HS.out.1.hb.size) i2 (o2.mono HS.out.1.hb.size))
                replace HS := Lib.hid (And.intro (HS.out.1.past hb) (Nat.le_trans HS.out.2 hb.size))
                clear i1 o1 i2 o2 hb
                clear hK K; (try simp only [Act.put, List.setIfInBounds_toArray, List.set_cons_zero, List.set_cons_succ])
                refine ord_take RD 8 (at_list (by rw [HOP.out]; rfl)) HNS.out HPQ.out (by rw [HOP.out]; kernel_rfl) (by rw [HOP.out]; kernel_rfl) (by rw [HOP.out]; rfl) (fun K hK => ?_); apply Exists.intro; refine ⟨fun W hSW => ?_, hK _ ?_⟩; (focus ((try dsimp only at hSW); go_simp; try with_reducible rfl)); clear hK K; (try simp only [Act.put, List.setIfInBounds_toArray, List.set_cons_zero, List.set_cons_succ])
                refine ord_take RD 9 (at_list (by rw [HOP.out]; rfl)) HNS.out HPQ.out (by rw [HOP.out]; kernel_rfl) (by rw [HOP.out]; kernel_rfl) (by rw [HOP.out]; rfl) (fun K hK => ?_); apply Exists.intro; refine ⟨fun W hSW => ?_, hK _ ?_⟩; (focus ((try dsimp only at hSW); go_simp; try with_reducible rfl)); clear hK K; (try simp only [Act.put, List.setIfInBounds_toArray, List.set_cons_zero, List.set_cons_succ])
                refine ord_take RD 10 (at_list (by rw [HOP.out]; rfl)) HNS.out HPQ.out (by rw [HOP.out]; kernel_rfl) (by rw [HOP.out]; kernel_rfl) (by rw [HOP.out]; rfl) (fun K hK => ?_); apply Exists.intro; refine ⟨fun W hSW => ?_, hK _ ?_⟩; (focus ((try dsimp only at hSW); go_simp; try with_reducible rfl)); clear hK K; (try simp only [Act.put, List.setIfInBounds_toArray, List.set_cons_zero, List.set_cons_succ])
                refine ord_take RD 11 (at_list (by rw [HOP.out]; rfl)) HNS.out HPQ.out (by rw [HOP.out]; kernel_rfl) (by rw [HOP.out]; kernel_rfl) (by rw [HOP.out]; rfl) (fun K hK => ?_); apply Exists.intro; refine ⟨fun W hSW => ?_, hK _ ?_⟩; (focus ((try dsimp only at hSW); go_simp; try with_reducible rfl)); clear hK K; (try simp only [Act.put, List.setIfInBounds_toArray, List.set_cons_zero, List.set_cons_succ])
                refine ord_take RD 12 (at_list (by rw [HOP.out]; rfl)) HNS.out HPQ.out (by rw [HOP.out]; kernel_rfl) (by rw [HOP.out]; kernel_rfl) (by rw [HOP.out]; rfl) (fun K hK => ?_); apply Exists.intro; refine ⟨fun W hSW => ?_, hK _ ?_⟩; (focus ((try dsimp only at hSW); go_simp; try with_reducible rfl)); clear hK K; (try simp only [Act.put, List.setIfInBounds_toArray, List.set_cons_zero, List.set_cons_succ])
                refine ord_one RD 14 (by rw [HOP.out]; kernel_rfl) (at_list (by rw [HOP.out]; rfl)) (by rw [HOP.out]; rfl) ?_
                · intro Wn hWW hSW K hK
                  (try dsimp only at hSW)
                  replace HZ := Lib.hid (And.intro (HZ.out.1.past hWW) HZ.out.2)
                  replace HX := Lib.hid (And.intro (HX.out.1.past hWW) HX.out.2)
                  replace HCAL := Lib.hid (cal_past HCAL.out hWW)
                  have HS := Lib.hid hSW
                  have HY := Lib.hid (And.intro (Lies.fresh Wn 26 [.int .i64 0, .slice none 0 0, .int .i64 0]) (HLE.out _ hSW))
                  clear hSW hWW
                  go_simp
                  refine hK _ _ ⟨HS.out.1.past (grows_alloc _ _), Nat.le_trans HS.out.2 (grows_alloc _ _).size⟩ ?_
                  replace HZ := Lib.hid (And.intro (HZ.out.1.past (grows_alloc _ (.cells #[.int .i64 0, .slice none 0 0, .int .i64 0] 26))) HZ.out.2)
                  replace HX := Lib.hid (And.intro (HX.out.1.past (grows_alloc _ (.cells #[.int .i64 0, .slice none 0 0, .int .i64 0] 26))) HX.out.2)
                  replace HCAL := Lib.hid (cal_past HCAL.out (grows_alloc _ (.cells #[.int .i64 0, .slice none 0 0, .int .i64 0] 26)))
                  replace HS := Lib.hid (And.intro (HS.out.1.past (grows_alloc _ (.cells #[.int .i64 0, .slice none 0 0, .int .i64 0] 26))) (Nat.le_trans HS.out.2 (grows_alloc _ (.cells #[.int .i64 0, .slice none 0 0, .int .i64 0] 26)).size))
                  clear hK K; (try simp only [Act.put, List.setIfInBounds_toArray, List.set_cons_zero, List.set_cons_succ])
                  generalize Wn.heap.size = xY at *
                  exact ord_at (by kernel_rfl) (HREST A1 n1 c1 A2 n2 c2 xX xY xZ _ ⟨HS.out, HCAL.out, HX.out, HY.out, HZ.out⟩)
              · intro Wn hWW hSW K hK
                (try dsimp only at hSW)
                replace HZ := Lib.hid (And.intro (HZ.out.1.past hWW) HZ.out.2)
                replace HX := Lib.hid (And.intro (HX.out.1.past hWW) HX.out.2)
                have HS := Lib.hid hSW
                have HY := Lib.hid (And.intro (Lies.fresh Wn 26 [.int .i64 0, .slice none 0 0, .int .i64 0]) (HLE.out _ hSW))
                clear hSW hWW
                go_simp
                refine hK _ _ ⟨HS.out.1.past (grows_alloc _ _), Nat.le_trans HS.out.2 (grows_alloc _ _).size⟩ ?_
                replace HZ := Lib.hid (And.intro (HZ.out.1.past (grows_alloc _ (.cells #[.int .i64 0, .slice none 0 0, .int .i64 0] 26))) HZ.out.2)
                replace HX := Lib.hid (And.intro (HX.out.1.past (grows_alloc _ (.cells #[.int .i64 0, .slice none 0 0, .int .i64 0] 26))) HX.out.2)
                replace HS := Lib.hid (And.intro (HS.out.1.past (grows_alloc _ (.cells #[.int .i64 0, .slice none 0 0, .int .i64 0] 26))) (Nat.le_trans HS.out.2 (grows_alloc _ (.cells #[.int .i64 0, .slice none 0 0, .int .i64 0] 26)).size))
                clear hK K; (try simp only [Act.put, List.setIfInBounds_toArray, List.set_cons_zero, List.set_cons_succ])
                generalize Wn.heap.size = xY at *
                refine ord_one RD 7 (by rw [HOP.out]; kernel_rfl) (at_list (by rw [HOP.out]; rfl)) (by rw [HOP.out]; rfl) ?_
                · intro Wn hWW hSW K hK
                  (try dsimp only at hSW)
                  replace HZ := Lib.hid (And.intro (HZ.out.1.past hWW) HZ.out.2)
                  replace HX := Lib.hid (And.intro (HX.out.1.past hWW) HX.out.2)
                  replace HY := Lib.hid (And.intro (HY.out.1.past hWW) HY.out.2)
                  have HS := Lib.hid hSW
                  clear hSW hWW
                  go_simp
                  refine (Byte_any s.m s.r A n c s.f B q d x _ HS.out.1.i1 HS.out.1.i2 HXB.out.1 HXB.out.2).mono ?_
                  rintro e0 Wc ⟨A1, n1, c1, A2, n2, c2, rfl, i1, o1, i2, o2, hb⟩
                  simp only [HST.out.1, HST.out.2.1, HST.out.2.2.1, HST.out.2.2.2] at i1 o1 i2 o2 ⊢
                  refine hK _ _ ⟨HS.out.1.past hb, Nat.le_trans HS.out.2 hb.size⟩ ?_
                  replace HZ := Lib.hid (And.intro (HZ.out.1.past hb) HZ.out.2)
                  replace HX := Lib.hid (And.intro (HX.out.1.past hb) HX.out.2)
                  replace HY := Lib.hid (And.intro (HY.out.1.past hb) HY.out.2)
                  have HCAL := Lib.hid (cal_mk i1 (o1.mono HS.out.1.hb.size) i2 (o2.mono HS.out.1.hb.size))
                  replace HS := Lib.hid (And.intro (HS.out.1.past hb) (Nat.le_trans HS.out.2 hb.size))
                  clear i1 o1 i2 o2 hb
                  clear hK K; (try simp only [Act.put, List.setIfInBounds_toArray, List.set_cons_zero, List.set_cons_succ])
                  refine ord_take RD 8 (at_list (by rw [HOP.out]; rfl)) HNS.out HPQ.out (by rw [HOP.out]; kernel_rfl) (by rw [HOP.out]; kernel_rfl) (by rw [HOP.out]; rfl) (fun K hK => ?_); apply Exists.intro; refine ⟨fun W hSW => ?_, hK _ ?_⟩; (focus ((try dsimp only at hSW); go_simp; try with_reducible rfl)); clear hK K; (try simp only [Act.put, List.setIfInBounds_toArray, List.set_cons_zero, List.set_cons_succ])
                  refine ord_take RD 9 (at_list (by rw [HOP.out]; rfl)) HNS.out HPQ.out (by rw [HOP.out]; kernel_rfl) (by rw [HOP.out]; kernel_rfl) (by rw [HOP.out]; rfl) (fun K hK => ?_); apply Exists.intro; refine ⟨fun W hSW => ?_, hK _ ?_⟩; (focus ((try dsimp only at hSW); go_simp; try with_reducible rfl)); clear hK K; (try simp only [Act.put, List.setIfInBounds_toArray, List.set_cons_zero, List.set_cons_succ])
                  refine ord_take RD 10 (at_list (by rw [HOP.out]; rfl)) HNS.out HPQ.out (by rw [HOP.out]; kernel_rfl) (by rw [HOP.out]; kernel_rfl) (by rw [HOP.out]; rfl) (fun K hK => ?_); apply Exists.intro; refine ⟨fun W hSW => ?_, hK _ ?_⟩; (focus ((try dsimp only at hSW); go_simp; try with_reducible rfl)); clear hK K; (try simp only [Act.put, List.setIfInBounds_toArray, List.set_cons_zero, List.set_cons_succ])
                  refine ord_take RD 11 (at_list (by rw [HOP.out]; rfl)) HNS.out HPQ.out (by rw [HOP.out]; kernel_rfl) (by rw [HOP.out]; kernel_rfl) (by rw [HOP.out]; rfl) (fun K hK => ?_); apply Exists.intro; refine ⟨fun W hSW => ?_, hK _ ?_⟩; (focus ((try dsimp only at hSW); go_simp; try with_reducible rfl)); clear hK K; (try simp only [Act.put, List.setIfInBounds_toArray, List.set_cons_zero, List.set_cons_succ])
                  refine ord_take RD 12 (at_list (by rw [HOP.out]; rfl)) HNS.out HPQ.out (by rw [HOP.out]; kernel_rfl) (by rw [HOP.out]; kernel_rfl) (by rw [HOP.out]; rfl) (fun K hK => ?_); apply Exists.intro; refine ⟨fun W hSW => ?_, hK _ ?_⟩; (focus ((try dsimp only at hSW); go_simp; try with_reducible rfl)); clear hK K; (try simp only [Act.put, List.setIfInBounds_toArray, List.set_cons_zero, List.set_cons_succ])
                  exact ord_at (by kernel_rfl) (HREST A1 n1 c1 A2 n2 c2 xX xY xZ _ ⟨HS.out, HCAL.out, HX.out, HY.out, HZ.out⟩)
            · intro Wn hWW hSW K hK
              (try dsimp only at hSW)
              replace HZ := Lib.hid (And.intro (HZ.out.1.past hWW) HZ.out.2)
              have HS := Lib.hid hSW
              have HY := Lib.hid (And.intro (Lies.fresh Wn 26 [.int .i64 0, .slice none 0 0, .int .i64 0]) (HLE.out _ hSW))
              clear hSW hWW
              go_simp
              refine hK _ _ ⟨HS.out.1.past (grows_alloc _ _), Nat.le_trans HS.out.2 (grows_alloc _ _).size⟩ ?_
              replace HZ := Lib.hid (And.intro (HZ.out.1.past (grows_alloc _ (.cells #[.int .i64 0, .slice none 0 0, .int .i64 0] 26))) HZ.out.2)
              replace HS := Lib.hid (And.intro (HS.out.1.past (grows_alloc _ (.cells #[.int .i64 0, .slice none 0 0, .int .i64 0] 26))) (Nat.le_trans HS.out.2 (grows_alloc _ (.cells #[.int .i64 0, .slice none 0 0, .int .i64 0] 26)).size))
              clear hK K; (try simp only [Act.put, List.setIfInBounds_toArray, List.set_cons_zero, List.set_cons_succ])
              generalize Wn.heap.size = xY at *
              refine ord_two RD 7 13 (by rw [HOP.out]; kernel_rfl) (at_list (by rw [HOP.out]; rfl)) (at_list (by rw [HOP.out]; rfl)) (by rw [HOP.out]; rfl) (by rw [HOP.out]; rfl) ?_ ?_
              · intro Wn hWW hSW K hK
                (try dsimp only at hSW)
                replace HZ := Lib.hid (And.intro (HZ.out.1.past hWW) HZ.out.2)
                replace HY := Lib.hid (And.intro (HY.out.1.past hWW) HY.out.2)
                have HS := Lib.hid hSW
                clear hSW hWW
                go_simp
                refine (Byte_any s.m s.r A n c s.f B q d x _ HS.out.1.i1 HS.out.1.i2 HXB.out.1 HXB.out.2).mono ?_
                rintro e0 Wc ⟨A1, n1, c1, A2, n2, c2, rfl, i1, o1, i2, o2, hb⟩
                simp only [HST.out.1, HST.out.2.1, HST.out.2.2.1, HST.out.2.2.2] at i1 o1 i2 o2 ⊢
                refine hK _ _ ⟨HS.out.1.past hb, Nat.le_trans HS.out.2 hb.size⟩ ?_
                replace HZ := Lib.hid (And.intro (HZ.out.1.past hb) HZ.out.2)
                replace HY := Lib.hid (And.intro (HY.out.1.past hb) HY.out.2)
                have HCAL := Lib.hid (cal_mk i1 (o1.mono HS.out.1.hb.size) i2 (o2.mono HS.out.1.hb.size))
                replace HS := Lib.hid (And.intro (HS.out.1.past hb) (Nat.le_trans HS.out.2 hb.size))
                clear i1 o1 i2 o2 hb
                clear hK K; (try simp only [Act.put, List.setIfInBounds_toArray, List.set_cons_zero, List.set_cons_succ])
                refine ord_take RD 8 (at_list (by rw [HOP.out]; rfl)) HNS.out HPQ.out (by rw [HOP.out]; kernel_rfl) (by rw [HOP.out]; kernel_rfl) (by rw [HOP.out]; rfl) (fun K hK => ?_); apply Exists.intro; refine ⟨fun W hSW => ?_, hK _ ?_⟩; (focus ((try dsimp only at hSW); go_simp; try with_reducible rfl)); clear hK K; (try simp only [Act.put, List.setIfInBounds_toArray, List.set_cons_zero, List.set_cons_succ])
                refine ord_take RD 9 (at_list (by rw [HOP.out]; rfl)) HNS.out HPQ.out (by rw [HOP.out]; kernel_rfl) (by rw [HOP.out]; kernel_rfl) (by rw [HOP.out]; rfl) (fun K hK => ?_); apply Exists.intro; refine ⟨fun W hSW => ?_, hK _ ?_⟩; (focus ((try dsimp only at hSW); go_simp; try with_reducible rfl)); clear hK K; (try simp only [Act.put, List.setIfInBounds_toArray, List.set_cons_zero, List.set_cons_succ])
                refine ord_take RD 10 (at_list (by rw [HOP.out]; rfl)) HNS.out HPQ.out (by rw [HOP.out]; kernel_rfl) (by rw [HOP.out]; kernel_rfl) (by rw [HOP.out]; rfl) (fun K hK => ?_); apply Exists.intro; refine ⟨fun W hSW => ?_, hK _ ?_⟩; (focus ((try dsimp only at hSW); go_simp; try with_reducible rfl)); clear hK K; (try simp only [Act.put, List.setIfInBounds_toArray, List.set_cons_zero, List.set_cons_succ])
                refine ord_take RD 11 (at_list (by rw [HOP.out]; rfl)) HNS.out HPQ.out (by rw [HOP.out]; kernel_rfl) (by rw [HOP.out]; kernel_rfl) (by rw [HOP.out]; rfl) (fun K hK => ?_); apply Exists.intro; refine ⟨fun W hSW => ?_, hK _ ?_⟩; (focus ((try dsimp only at hSW); go_simp; try with_reducible rfl)); clear hK K; (try simp only [Act.put, List.setIfInBounds_toArray, List.set_cons_zero, List.set_cons_succ])
                refine ord_take RD 12 (at_list (by rw [HOP.out]; rfl)) HNS.out HPQ.out (by rw [HOP.out]; kernel_rfl) (by rw [HOP.out]; kernel_rfl) (by rw [HOP.out]; rfl) (fun K hK => ?_); apply Exists.intro; refine ⟨fun W hSW => ?_, hK _ ?_⟩; (focus ((try dsimp only at hSW); go_simp; try with_reducible rfl)); clear hK K; (try simp only [Act.put, List.setIfInBounds_toArray, List.set_cons_zero, List.set_cons_succ])
                refine ord_one RD 13 (by rw [HOP.out]; kernel_rfl) (at_list (by rw [HOP.out]; rfl)) (by rw [HOP.out]; rfl) ?_
                · intro Wn hWW hSW K hK
                  (try dsimp only at hSW)
                  replace HZ := Lib.hid (And.intro (HZ.out.1.past hWW) HZ.out.2)
                  replace HY := Lib.hid (And.intro (HY.out.1.past hWW) HY.out.2)
                  replace HCAL := Lib.hid (cal_past HCAL.out hWW)
                  have HS := Lib.hid hSW
                  have HX := Lib.hid (And.intro (Lies.fresh Wn 23 [.int .i64 0, .int .i64 0]) (HLE.out _ hSW))
                  clear hSW hWW
                  go_simp
                  refine hK _ _ ⟨HS.out.1.past (grows_alloc _ _), Nat.le_trans HS.out.2 (grows_alloc _ _).size⟩ ?_
                  replace HZ := Lib.hid (And.intro (HZ.out.1.past (grows_alloc _ (.cells #[.int .i64 0, .int .i64 0] 23))) HZ.out.2)
                  replace HY := Lib.hid (And.intro (HY.out.1.past (grows_alloc _ (.cells #[.int .i64 0, .int .i64 0] 23))) HY.out.2)
                  replace HCAL := Lib.hid (cal_past HCAL.out (grows_alloc _ (.cells #[.int .i64 0, .int .i64 0] 23)))
                  replace HS := Lib.hid (And.intro (HS.out.1.past (grows_alloc _ (.cells #[.int .i64 0, .int .i64 0] 23))) (Nat.le_trans HS.out.2 (grows_alloc _ (.cells #[.int .i64 0, .int .i64 0] 23)).size))
                  clear hK K; (try simp only [Act.put, List.setIfInBounds_toArray, List.set_cons_zero, List.set_cons_succ])
                  generalize Wn.heap.size = xX at *
                  exact ord_at (by kernel_rfl) (HREST A1 n1 c1 A2 n2 c2 xX xY xZ _ ⟨HS.out, HCAL.out, HX.out, HY.out, HZ.out⟩)
              · intro Wn hWW hSW K hK
                (try dsimp only at hSW)
                replace HZ := Lib.hid (And.intro (HZ.out.1.past hWW) HZ.out.2)
                replace HY := Lib.hid (And.intro (HY.out.1.past hWW) HY.out.2)
                have HS := Lib.hid hSW
                have HX := Lib.hid (And.intro (Lies.fresh Wn 23 [.int .i64 0, .int .i64 0]) (HLE.out _ hSW))
                clear hSW hWW
                go_simp
                refine hK _ _ ⟨HS.out.1.past (grows_alloc _ _), Nat.le_trans HS.out.2 (grows_alloc _ _).size⟩ ?_
                replace HZ := Lib.hid (And.intro (HZ.out.1.past (grows_alloc _ (.cells #[.int .i64 0, .int .i64 0] 23))) HZ.out.2)
                replace HY := Lib.hid (And.intro (HY.out.1.past (grows_alloc _ (.cells #[.int .i64 0, .int .i64 0] 23))) HY.out.2)
                replace HS := Lib.hid (And.intro (HS.out.1.past (grows_alloc _ (.cells #[.int .i64 0, .int .i64 0] 23))) (Nat.le_trans HS.out.2 (grows_alloc _ (.cells #[.int .i64 0, .int .i64 0] 23)).size))
                clear hK K; (try simp only [Act.put, List.setIfInBounds_toArray, List.set_cons_zero, List.set_cons_succ])
                generalize Wn.heap.size = xX at *
                refine ord_one RD 7 (by rw [HOP.out]; kernel_rfl) (at_list (by rw [HOP.out]; rfl)) (by rw [HOP.out]; rfl) ?_
                · intro Wn hWW hSW K hK
                  (try dsimp only at hSW)
                  replace HZ := Lib.hid (And.intro (HZ.out.1.past hWW) HZ.out.2)
                  replace HY := Lib.hid (And.intro (HY.out.1.past hWW) HY.out.2)
                  replace HX := Lib.hid (And.intro (HX.out.1.past hWW) HX.out.2)
                  have HS := Lib.hid hSW
                  clear hSW hWW
                  go_simp
                  refine (Byte_any s.m s.r A n c s.f B q d x _ HS.out.1.i1 HS.out.1.i2 HXB.out.1 HXB.out.2).mono ?_
                  rintro e0 Wc ⟨A1, n1, c1, A2, n2, c2, rfl, i1, o1, i2, o2, hb⟩
                  simp only [HST.out.1, HST.out.2.1, HST.out.2.2.1, HST.out.2.2.2] at i1 o1 i2 o2 ⊢
                  refine hK _ _ ⟨HS.out.1.past hb, Nat.le_trans HS.out.2 hb.size⟩ ?_
                  replace HZ := Lib.hid (And.intro (HZ.out.1.past hb) HZ.out.2)
                  replace HY := Lib.hid (And.intro (HY.out.1.past hb) HY.out.2)
                  replace HX := Lib.hid (And.intro (HX.out.1.past hb) HX.out.2)
                  have HCAL := Lib.hid (cal_mk i1 (o1.mono HS.out.1.hb.size) i2 (o2.mono HS.out.1.hb.size))
                  replace HS := Lib.hid (And.intro (HS.out.1.past hb) (Nat.le_trans HS.out.2 hb.size))
                  clear i1 o1 i2 o2 hb
                  clear hK K; (try simp only [Act.put, List.setIfInBounds_toArray, List.set_cons_zero, List.set_cons_succ])
                  refine ord_take RD 8 (at_list (by rw [HOP.out]; rfl)) HNS.out HPQ.out (by rw [HOP.out]; kernel_rfl) (by rw [HOP.out]; kernel_rfl) (by rw [HOP.out]; rfl) (fun K hK => ?_); apply Exists.intro; refine ⟨fun W hSW => ?_, hK _ ?_⟩; (focus ((try dsimp only at hSW); go_simp; try with_reducible rfl)); clear hK K; (try simp only [Act.put, List.setIfInBounds_toArray, List.set_cons_zero, List.set_cons_succ])
                  refine ord_take RD 9 (at_list (by rw [HOP.out]; rfl)) HNS.out HPQ.out (by rw [HOP.out]; kernel_rfl) (by rw [HOP.out]; kernel_rfl) (by rw [HOP.out]; rfl) (fun K hK => ?_); apply Exists.intro; refine ⟨fun W hSW => ?_, hK _ ?_⟩; (focus ((try dsimp only at hSW); go_simp; try with_reducible rfl)); clear hK K; (try simp only [Act.put, List.setIfInBounds_toArray, List.set_cons_zero, List.set_cons_succ])
                  refine ord_take RD 10 (at_list (by rw [HOP.out]; rfl)) HNS.out HPQ.out (by rw [HOP.out]; kernel_rfl) (by rw [HOP.out]; kernel_rfl) (by rw [HOP.out]; rfl) (fun K hK => ?_); apply Exists.intro; refine ⟨fun W hSW => ?_, hK _ ?_⟩; (focus ((try dsimp only at hSW); go_simp; try with_reducible rfl)); clear hK K; (try simp only [Act.put, List.setIfInBounds_toArray, List.set_cons_zero, List.set_cons_succ])
                  refine ord_take RD 11 (at_list (by rw [HOP.out]; rfl)) HNS.out HPQ.out (by rw [HOP.out]; kernel_rfl) (by rw [HOP.out]; kernel_rfl) (by rw [HOP.out]; rfl) (fun K hK => ?_); apply Exists.intro; refine ⟨fun W hSW => ?_, hK _ ?_⟩; (focus ((try dsimp only at hSW); go_simp; try with_reducible rfl)); clear hK K; (try simp only [Act.put, List.setIfInBounds_toArray, List.set_cons_zero, List.set_cons_succ])
                  refine ord_take RD 12 (at_list (by rw [HOP.out]; rfl)) HNS.out HPQ.out (by rw [HOP.out]; kernel_rfl) (by rw [HOP.out]; kernel_rfl) (by rw [HOP.out]; rfl) (fun K hK => ?_); apply Exists.intro; refine ⟨fun W hSW => ?_, hK _ ?_⟩; (focus ((try dsimp only at hSW); go_simp; try with_reducible rfl)); clear hK K; (try simp only [Act.put, List.setIfInBounds_toArray, List.set_cons_zero, List.set_cons_succ])
                  exact ord_at (by kernel_rfl) (HREST A1 n1 c1 A2 n2 c2 xX xY xZ _ ⟨HS.out, HCAL.out, HX.out, HY.out, HZ.out⟩)
      · intro A1 n1 c1 A2 n2 c2 xX xY xZ W hC
        have HC := Lib.hid hC
        have HXG0 : Hid (wr.heap.size ≤ xX ∧ wr.heap.size ≤ xY ∧ wr.heap.size ≤ xZ) := Lib.hid ⟨hC.2.2.1.2, hC.2.2.2.1.2, hC.2.2.2.2.2⟩
        clear hC
        have HGX : Hid (gM < wr.heap.size ∧ gR < wr.heap.size ∧ gF < wr.heap.size ∧ w.heap.size ≤ wr.heap.size) := Lib.hid ⟨HM.out.lm.lt, HM.out.lr.lt, HM.out.lf.lt, HM.out.hb.size⟩
        have RD' := grows_roads (S := fun x' => Mov w x' gM gR gF xX xY xZ gM gR gF s.m s.r A n c s.f B q d ∧ wr.heap.size ≤ x'.heap.size) (fun a b h1 h2 => ⟨h2.1.past h1, Nat.le_trans h2.2 h1.size⟩)
        refine ord_more RD' (S' := fun x' => Mov w x' gM gR gF xX xY xZ gM gR gF s.m s.r A n c s.f B q d ∧ wr.heap.size ≤ x'.heap.size) ?_ ?_ ?_
        · intro W1 hW1
          exact ⟨⟨hW1.1.lm, hW1.1.lr, hW1.1.lf, hW1.1.o, hW1.1.v, hW1.1.i1, hW1.1.i2, hW1.1.hb⟩, hW1.2⟩
        · intro W1 hg hW1
          have g := HGX.out
          have e0 := HXG0.out
          have e1 := HC.out.2.2.1
          have e2 := HC.out.2.2.2.1
          have e3 := HC.out.2.2.2.2
          exact ⟨⟨hW1.1.lm, hW1.1.lr, hW1.1.lf, ⟨_, _, e1.1.past hg⟩, ⟨_, _, _, e2.1.past hg⟩, ⟨_, _, e3.1.past hg⟩, ⟨_, _, hW1.1.lm⟩, ⟨_, _, _, hW1.1.lr⟩, ⟨_, _, hW1.1.lf⟩, by omega, by omega, by omega, ⟨by omega, by omega, by omega⟩, hW1.1.o, hW1.1.v, hW1.1.i1, hW1.1.i2, hW1.1.hb⟩, hW1.2⟩
        clear RD
        have RD := RD'
        clear RD'
        refine ord_one RD 16 (by rw [HOP.out]; kernel_rfl) (at_list (by rw [HOP.out]; rfl)) (by rw [HOP.out]; rfl) (fun Wa hWW hSW K hK => ?_); (try dsimp only at hSW)
        have HS := Lib.hid hSW
        have HCa := Lib.hid (cal_past HC.out.2.1 hWW)
        clear hSW hWW
        obtain ⟨xa, xb, K1⟩ := HS.out.1.zm
        obtain ⟨k0', k1', k2', k3'⟩ := K1.two
        have kl := K1.lt
        have HL3 := Lib.hid ((K1.set 0 (.int .i64 s2.m.a)).set 1 (.int .i64 s2.m.k))
        have HCb := Lib.hid (cal_st (cal_st HCa.out K1 (by decide) (by decide) 0 (.int .i64 s2.m.a)) (K1.set 0 (.int .i64 s2.m.a)) (by decide) (by decide) 1 (.int .i64 s2.m.k))
        clear K1
        go_simp
        refine hK _ _ ⟨HS.out.1.stM _ _, by simp; exact HS.out.2⟩ ?_
        clear k0' k1' k2' k3' kl HS HCa
        clear hK K; (try simp only [Act.put, List.setIfInBounds_toArray, List.set_cons_zero, List.set_cons_succ])
        refine ord_one RD 17 (by rw [HOP.out]; kernel_rfl) (at_list (by rw [HOP.out]; rfl)) (by rw [HOP.out]; rfl) (fun Wb hWW hSW K hK => ?_); (try dsimp only at hSW)
        have HS := Lib.hid hSW
        have HL4 := Lib.hid (HL3.out.past hWW)
        have HCa := Lib.hid (cal_past HCb.out hWW)
        clear HL3 hSW hWW HCb
        obtain ⟨xa, xb, xc, K1⟩ := HS.out.1.zr
        obtain ⟨k0', k1', k2', k3', k4', k5'⟩ := K1.three
        have kl := K1.lt
        have hxy : xY ≠ xX := lies_ne K1 HL4.out (by decide)
        have HL5 := Lib.hid (And.intro (((HL4.out.other (p := ⟨xY, 0, none⟩) hxy (.int .i64 s2.r.l)).other (p := ⟨xY, 1, none⟩) hxy (.slice A1 n1 c1)).other (p := ⟨xY, 2, none⟩) hxy (.int .i64 s2.r.n)) (K1.store3 (a := .int .i64 s2.r.l) (b := .slice A1 n1 c1) (c := .int .i64 s2.r.n)))
        have HCb := Lib.hid (cal_st (cal_st (cal_st HCa.out K1 (by decide) (by decide) 0 (.int .i64 s2.r.l)) (K1.set 0 (.int .i64 s2.r.l)) (by decide) (by decide) 1 (.slice A1 n1 c1)) ((K1.set 0 (.int .i64 s2.r.l)).set 1 (.slice A1 n1 c1)) (by decide) (by decide) 2 (.int .i64 s2.r.n))
        clear K1 HL4 hxy
        go_simp
        refine hK _ _ ⟨HS.out.1.stR _ _ _, by simp; exact HS.out.2⟩ ?_
        clear k0' k1' k2' k3' k4' k5' kl HS HCa
        clear hK K; (try simp only [Act.put, List.setIfInBounds_toArray, List.set_cons_zero, List.set_cons_succ])
        refine ord_one RD 18 (by rw [HOP.out]; kernel_rfl) (at_list (by rw [HOP.out]; rfl)) (by rw [HOP.out]; rfl) (fun Wc hWW hSW K hK => ?_); (try dsimp only at hSW)
        have HS := Lib.hid hSW
        have HL6 := Lib.hid (And.intro (HL5.out.1.past hWW) (HL5.out.2.past hWW))
        have HCa := Lib.hid (cal_past HCb.out hWW)
        clear HL5 hSW hWW HCb
        obtain ⟨xa, xb, K1⟩ := HS.out.1.zf
        obtain ⟨k0', k1', k2', k3'⟩ := K1.two
        have kl := K1.lt
        have hxz : xZ ≠ xX := lies_ne K1 HL6.out.1 (by decide)
        have hyz : xZ ≠ xY := lies_ne K1 HL6.out.2 (by decide)
        have HL7 := Lib.hid (And.intro ((HL6.out.1.other (p := ⟨xZ, 0, none⟩) hxz (.int .i64 s2.f.l)).other (p := ⟨xZ, 1, none⟩) hxz (.slice A2 n2 c2)) (And.intro ((HL6.out.2.other (p := ⟨xZ, 0, none⟩) hyz (.int .i64 s2.f.l)).other (p := ⟨xZ, 1, none⟩) hyz (.slice A2 n2 c2)) ((K1.set 0 (.int .i64 s2.f.l)).set 1 (.slice A2 n2 c2))))
        have HCb := Lib.hid (cal_st (cal_st HCa.out K1 (by decide) (by decide) 0 (.int .i64 s2.f.l)) (K1.set 0 (.int .i64 s2.f.l)) (by decide) (by decide) 1 (.slice A2 n2 c2))
        clear K1 HL6 hxz hyz
        go_simp
        refine hK _ _ ⟨HS.out.1.stF _ _, by simp; exact HS.out.2⟩ ?_
        clear k0' k1' k2' k3' kl HS HCa
        clear hK K; (try simp only [Act.put, List.setIfInBounds_toArray, List.set_cons_zero, List.set_cons_succ])
        refine ord_take RD 19 (at_list (by rw [HOP.out]; rfl)) HNS.out HPQ.out (by rw [HOP.out]; kernel_rfl) (by rw [HOP.out]; kernel_rfl) (by rw [HOP.out]; rfl) (fun K hK => ?_); apply Exists.intro; refine ⟨fun W hSW => ?_, hK _ ?_⟩; (focus ((try dsimp only at hSW); go_simp; try with_reducible rfl)); clear hK K; (try simp only [Act.put, List.setIfInBounds_toArray, List.set_cons_zero, List.set_cons_succ])
        refine ord_done (by rw [HOP.out]; kernel_rfl) (fun Wd hWW hSW => HN.out _ _ ?_); clear HOP HNS HPQ HN RD; (try dsimp only at hSW)
        have HS := Lib.hid hSW.1
        have HL8 := Lib.hid (And.intro (HL7.out.1.past hWW) (And.intro (HL7.out.2.1.past hWW) (HL7.out.2.2.past hWW)))
        have HCc := Lib.hid (cal_past HCb.out hWW)
        clear hSW hWW HL7 HCb HC
        have HXG : Hid (wr.heap.size ≤ xX ∧ wr.heap.size ≤ xY ∧ wr.heap.size ≤ xZ) := HXG0
        obtain ⟨p0, p1, -, -⟩ := HL8.out.1.two
        have pl := HL8.out.1.lt
        go_wp2_with fail
        refine (rCheck_any s2.m _).mono ?_
        rintro e w5 ⟨rfl, hb5⟩
        rw [HCK.out.1]
        have HS5 := Lib.hid (HS.out.past hb5)
        have HL9 := Lib.hid (And.intro (HL8.out.1.past hb5) (And.intro (HL8.out.2.1.past hb5) (HL8.out.2.2.past hb5)))
        have HC5 := Lib.hid (cal_past HCc.out hb5)
        clear hb5 p0 p1 pl HS HL8 HCc
        obtain ⟨p0, p1, p2, -, -, -⟩ := HL9.out.2.1.three
        have pl := HL9.out.2.1.lt
        go_wp2_with fail
        refine (rgW.rCheck_any s2.r A1 n1 c1 _ HC5.out.1).mono ?_
        rintro e w6 ⟨rfl, hb6⟩
        rw [HCK.out.2.1]
        have HM7 : Hid (Mov w w6 xX xY xZ gM gR gF gM gR gF s2.m s2.r A1 n1 c1 s2.f A2 n2 c2) := Lib.hid (by
          have h6 := HS5.out.past hb6
          have hc := cal_past HC5.out hb6
          have g := HGX.out
          have g2 := HXG.out
          have g3 := HGE.out
          exact ⟨HL9.out.1.past hb6, HL9.out.2.1.past hb6, HL9.out.2.2.past hb6, ⟨_, _, h6.lm⟩, ⟨_, _, _, h6.lr⟩, ⟨_, _, h6.lf⟩, ⟨_, _, h6.lm⟩, ⟨_, _, _, h6.lr⟩, ⟨_, _, h6.lf⟩, by omega, by omega, by omega, g3, hc.2.1, hc.2.2.2, hc.1, hc.2.2.1, h6.hb⟩)
        clear hb6 p0 p1 p2 pl HS5 HL9 HC5
        obtain ⟨p0, p1, -, -⟩ := HM7.out.lm.two
        obtain ⟨p2, p3, p4, -, -, -⟩ := HM7.out.lr.three
        have pl := HM7.out.lm.lt
        have pl2 := HM7.out.lr.lt
        obtain ⟨t1, t2, t3, t4, t5⟩ := HMT.out
        have hrn : (s2.r.n != (k : Int) + 1) = false := by rw [HCK.out.2.2]; simp
        generalize hma : s2.m.a = ma at *
        generalize hmk : s2.m.k = mk at *
        have HMA := Lib.hid (And.intro hma hmk)
        clear hma hmk
        have HHT : Hid (∀ j : Nat, 1 ≤ j → (j : Int) ≤ mk → 0 ≤ ma) := Lib.hid (fun j j1 j2 => by omega)
        have hcase : (ma < 0 ∧ mk = 0) ∨ (0 ≤ ma ∧ mk ≤ ma) := by omega
        have mk0 : 0 ≤ mk := by omega
        have HMK := Lib.hid (And.intro mk0 (And.intro t1 t3))
        clear t4 t5 HGX HXG HXG0 HLE
        rcases hcase with ⟨m0, m9⟩ | ⟨m0, m9⟩
        · go_wp2_with fail
          clear p0 p1 p2 p3 p4 pl pl2
          go_loopw [16] (fun i wy => ∃ j : Nat, 1 ≤ j ∧ (j : Int) ≤ mk + 1 ∧ i = .int .i64 j ∧ Mov w wy xX xY xZ gM gR gF gM gR gF s2.m s2.r A1 n1 c1 s2.f A2 n2 c2) (fun i _ => 41 - (intOf i).toNat)
          case atStart => exact ⟨1, Nat.le_refl _, by have := HMK.out; omega, rfl, HM7.out⟩
          case round =>
            obtain ⟨j, j1, j2, rfl, MM⟩ := hrel
            have HQ := Lib.hid MM
            have HJ1 := Lib.hid j1
            obtain ⟨p0, p1, -, -⟩ := MM.lm.two
            rw [HMA.out.1] at p0
            rw [HMA.out.2] at p1
            obtain ⟨p2, p3, p4, -, -, -⟩ := MM.lr.three
            have pl := MM.lm.lt
            have pl2 := MM.lr.lt
            clear MM
            by_cases hj : (j : Int) ≤ mk
            · exact absurd (HHT.out j j1 hj) (by omega)
            · have HQM := Lib.hid hj
              clear hj j2
              have hj' : mk < (j : Int) := by have := HQM.out; omega
              go_wp2_with fail
              clear p0 p1 p2 p3 p4 pl pl2
              (have RD := grows_roads (S := fun x' => Mov w x' xX xY xZ gM gR gF gM gR gF s2.m s2.r A1 n1 c1 s2.f A2 n2 c2) (fun a b h1 h2 => h2.past h1)); refine region_ord _ Grows RD (HQ.out.past (Below.drew (Below.refl _ _))) (by kernel_rfl) ?_; intro ops Q' hops hPQ hN; (have HNS : Hid (Region.noSelect ops = true) := Lib.hid (by rw [hops]; kernel_rfl)); (have hsz : ops.size = 6 := (by rw [hops]; rfl)); have HOP := Lib.hid hops; have HPQ := Lib.hid hPQ; have HN := Lib.hid hN; rw [hsz]; clear hops hsz hPQ hN
              refine ord_take RD 0 (at_list (by rw [HOP.out]; rfl)) HNS.out HPQ.out (by rw [HOP.out]; kernel_rfl) (by rw [HOP.out]; kernel_rfl) (by rw [HOP.out]; rfl) (fun K hK => ?_); apply Exists.intro; refine ⟨fun W hSW => ?_, hK _ ?_⟩; (focus ((try dsimp only at hSW); (obtain ⟨y0, y1, -, -⟩ := hSW.lm.two); go_simp; try with_reducible rfl)); clear hK K; (try simp only [Act.put, List.setIfInBounds_toArray, List.set_cons_zero, List.set_cons_succ])
              refine ord_take RD 1 (at_list (by rw [HOP.out]; rfl)) HNS.out HPQ.out (by rw [HOP.out]; kernel_rfl) (by rw [HOP.out]; kernel_rfl) (by rw [HOP.out]; rfl) (fun K hK => ?_); apply Exists.intro; refine ⟨fun W hSW => ?_, hK _ ?_⟩; (focus ((try dsimp only at hSW); (obtain ⟨y0, y1, y2, -, -, -⟩ := hSW.lr.three); go_simp; try with_reducible rfl)); clear hK K; (try simp only [Act.put, List.setIfInBounds_toArray, List.set_cons_zero, List.set_cons_succ])
              refine ord_take RD 2 (at_list (by rw [HOP.out]; rfl)) HNS.out HPQ.out (by rw [HOP.out]; kernel_rfl) (by rw [HOP.out]; kernel_rfl) (by rw [HOP.out]; rfl) (fun K hK => ?_); apply Exists.intro; refine ⟨fun W hSW => ?_, hK _ ?_⟩; (focus ((try dsimp only at hSW); (obtain ⟨y0, y1, -, -⟩ := hSW.lf.two); go_simp; try with_reducible rfl)); clear hK K; (try simp only [Act.put, List.setIfInBounds_toArray, List.set_cons_zero, List.set_cons_succ])
              refine ord_one RD 3 (by rw [HOP.out]; kernel_rfl) (at_list (by rw [HOP.out]; rfl)) (by rw [HOP.out]; rfl) (fun Wa hWW hSW K hK => ?_); (try dsimp only at hSW)
              have HS := Lib.hid hSW
              clear hSW hWW
              obtain ⟨xa, xb, K1⟩ := HS.out.zm
              obtain ⟨k0', k1', k2', k3'⟩ := K1.two
              have kl := K1.lt
              have HL3 := Lib.hid ((K1.set 0 (.int .i64 s2.m.a)).set 1 (.int .i64 s2.m.k))
              clear K1
              go_simp
              refine hK _ _ (HS.out.stM _ _) ?_
              clear k0' k1' k2' k3' kl HS
              clear hK K; (try simp only [Act.put, List.setIfInBounds_toArray, List.set_cons_zero, List.set_cons_succ])
              refine ord_one RD 4 (by rw [HOP.out]; kernel_rfl) (at_list (by rw [HOP.out]; rfl)) (by rw [HOP.out]; rfl) (fun Wb hWW hSW K hK => ?_); (try dsimp only at hSW)
              have HS := Lib.hid hSW
              have HL4 := Lib.hid (HL3.out.past hWW)
              clear HL3 hSW hWW
              obtain ⟨xa, xb, xc, K1⟩ := HS.out.zr
              obtain ⟨k0', k1', k2', k3', k4', k5'⟩ := K1.three
              have kl := K1.lt
              have hxy : gR ≠ gM := lies_ne K1 HL4.out (by decide)
              have HL5 := Lib.hid (And.intro (((HL4.out.other (p := ⟨gR, 0, none⟩) hxy (.int .i64 s2.r.l)).other (p := ⟨gR, 1, none⟩) hxy (.slice A1 n1 c1)).other (p := ⟨gR, 2, none⟩) hxy (.int .i64 s2.r.n)) (K1.store3 (a := .int .i64 s2.r.l) (b := .slice A1 n1 c1) (c := .int .i64 s2.r.n)))
              clear K1 HL4 hxy
              go_simp
              refine hK _ _ (HS.out.stR _ _ _) ?_
              clear k0' k1' k2' k3' k4' k5' kl HS
              clear hK K; (try simp only [Act.put, List.setIfInBounds_toArray, List.set_cons_zero, List.set_cons_succ])
              refine ord_one RD 5 (by rw [HOP.out]; kernel_rfl) (at_list (by rw [HOP.out]; rfl)) (by rw [HOP.out]; rfl) (fun Wc hWW hSW K hK => ?_); (try dsimp only at hSW)
              have HS := Lib.hid hSW
              have HL6 := Lib.hid (And.intro (HL5.out.1.past hWW) (HL5.out.2.past hWW))
              clear HL5 hSW hWW
              obtain ⟨xa, xb, K1⟩ := HS.out.zf
              obtain ⟨k0', k1', k2', k3'⟩ := K1.two
              have kl := K1.lt
              have hxz : gF ≠ gM := lies_ne K1 HL6.out.1 (by decide)
              have hyz : gF ≠ gR := lies_ne K1 HL6.out.2 (by decide)
              have HL7 := Lib.hid (And.intro ((HL6.out.1.other (p := ⟨gF, 0, none⟩) hxz (.int .i64 s2.f.l)).other (p := ⟨gF, 1, none⟩) hxz (.slice A2 n2 c2)) (And.intro ((HL6.out.2.other (p := ⟨gF, 0, none⟩) hyz (.int .i64 s2.f.l)).other (p := ⟨gF, 1, none⟩) hyz (.slice A2 n2 c2)) ((K1.set 0 (.int .i64 s2.f.l)).set 1 (.slice A2 n2 c2))))
              clear K1 HL6 hxz hyz
              go_simp
              refine hK _ _ (HS.out.stF _ _) ?_
              clear k0' k1' k2' k3' kl HS
              clear hK K; (try simp only [Act.put, List.setIfInBounds_toArray, List.set_cons_zero, List.set_cons_succ])
              refine ord_done (by rw [HOP.out]; kernel_rfl) (fun Wd2 hWW hSW => HN.out _ _ ?_); clear HOP HNS HPQ HN RD; (try dsimp only at hSW)
              have HMe : Hid (Src w Wd2 gM gR gF s2.m s2.r A1 n1 c1 s2.f A2 n2 c2) := Lib.hid
                ⟨HL7.out.1.past hWW, HL7.out.2.1.past hWW, HL7.out.2.2.past hWW, hSW.o, hSW.v, hSW.i1, hSW.i2, hSW.hb⟩
              clear hSW hWW HL7 HM7
              go_wp2_with fail
              refine ⟨⟨k + 1, A1, n1, c1, A2, n2, c2, by have := HLT.out; omega, by first | rfl | go_num, by rw [HS2.out]; exact HMe.out⟩, by simp [intOf]; have := HLT.out; omega⟩
        · go_wp2_with fail
          clear p0 p1 p2 p3 p4 pl pl2
          go_loopw [16] (fun i wy => ∃ j : Nat, 1 ≤ j ∧ (j : Int) ≤ mk + 1 ∧ i = .int .i64 j ∧ Mov w wy xX xY xZ gM gR gF gM gR gF s2.m s2.r A1 n1 c1 s2.f A2 n2 c2) (fun i _ => 41 - (intOf i).toNat)
          case atStart => exact ⟨1, Nat.le_refl _, by have := HMK.out; omega, rfl, HM7.out⟩
          case round =>
            obtain ⟨j, j1, j2, rfl, MM⟩ := hrel
            have HQ := Lib.hid MM
            have HJ1 := Lib.hid j1
            obtain ⟨p0, p1, -, -⟩ := MM.lm.two
            rw [HMA.out.1] at p0
            rw [HMA.out.2] at p1
            obtain ⟨p2, p3, p4, -, -, -⟩ := MM.lr.three
            have pl := MM.lm.lt
            have pl2 := MM.lr.lt
            clear MM
            by_cases hj : (j : Int) ≤ mk
            · obtain ⟨ae, av⟩ := HAT.out j j1 hj (HHT.out j j1 hj)
              have HAE := Lib.hid ae
              have HAV := Lib.hid av
              have HJ := Lib.hid hj
              obtain ⟨t, ht⟩ : ∃ t, k + 1 - j = t := ⟨_, rfl⟩
              rw [ht] at HAV
              have hA0 := HHT.out j j1 hj
              have hkj : (k : Int) + 1 - j = (t : Int) := by have := HMK.out; omega
              have t6 : (t : Int) < bn := by omega
              have t7 : 0 ≤ (t : Int) := by omega
              have HTN : Hid (t < bn) := Lib.hid (by omega)
              clear ae av ht hA0
              go_wp2_with fail
              refine (rgW.At_any s2.r A1 n1 c1 (ma - (j : Int)) _ HQ.out.i1 (by omega) (by omega)).mono ?_
              rintro e w8 ⟨rfl, hb8⟩
              rw [HAE.out]
              have HQ8 := Lib.hid (HQ.out.past hb8)
              clear hb8 p0 p1 p2 p3 p4 pl pl2
              cases hB : atB s2.r (ma - (j : Int))
              · clear hB
                generalize atV s2.r (ma - (j : Int)) = v at *
                go_wp2_with fail
                refine ⟨⟨j + 1, by omega, by have := HJ.out; omega, by first | rfl | go_num, HQ8.out⟩, by simp [intOf]; have := HMK.out; omega⟩
              · have hv := HAV.out hB
                rw [hv]
                have hc := HDJ.out t w8 HTN.out HQ8.out.hb
                have hdl : db < w8.heap.size := Nat.lt_of_lt_of_le HDB.out HQ8.out.hb.size
                generalize bs.getD t 0 = y at *
                have hyy : (y != y) = false := by simp
                clear hB hv HAV
                go_wp2_with fail
                refine ⟨⟨j + 1, by omega, by have := HJ.out; omega, by first | rfl | go_num, HQ8.out⟩, by simp [intOf]; have := HMK.out; omega⟩
            · have HQM := Lib.hid hj
              clear hj j2
              have hj' : mk < (j : Int) := by have := HQM.out; omega
              go_wp2_with fail
              clear p0 p1 p2 p3 p4 pl pl2
              (have RD := grows_roads (S := fun x' => Mov w x' xX xY xZ gM gR gF gM gR gF s2.m s2.r A1 n1 c1 s2.f A2 n2 c2) (fun a b h1 h2 => h2.past h1)); refine region_ord _ Grows RD (HQ.out.past (Below.drew (Below.refl _ _))) (by kernel_rfl) ?_; intro ops Q' hops hPQ hN; (have HNS : Hid (Region.noSelect ops = true) := Lib.hid (by rw [hops]; kernel_rfl)); (have hsz : ops.size = 6 := (by rw [hops]; rfl)); have HOP := Lib.hid hops; have HPQ := Lib.hid hPQ; have HN := Lib.hid hN; rw [hsz]; clear hops hsz hPQ hN
              refine ord_take RD 0 (at_list (by rw [HOP.out]; rfl)) HNS.out HPQ.out (by rw [HOP.out]; kernel_rfl) (by rw [HOP.out]; kernel_rfl) (by rw [HOP.out]; rfl) (fun K hK => ?_); apply Exists.intro; refine ⟨fun W hSW => ?_, hK _ ?_⟩; (focus ((try dsimp only at hSW); (obtain ⟨y0, y1, -, -⟩ := hSW.lm.two); go_simp; try with_reducible rfl)); clear hK K; (try simp only [Act.put, List.setIfInBounds_toArray, List.set_cons_zero, List.set_cons_succ])
              refine ord_take RD 1 (at_list (by rw [HOP.out]; rfl)) HNS.out HPQ.out (by rw [HOP.out]; kernel_rfl) (by rw [HOP.out]; kernel_rfl) (by rw [HOP.out]; rfl) (fun K hK => ?_); apply Exists.intro; refine ⟨fun W hSW => ?_, hK _ ?_⟩; (focus ((try dsimp only at hSW); (obtain ⟨y0, y1, y2, -, -, -⟩ := hSW.lr.three); go_simp; try with_reducible rfl)); clear hK K; (try simp only [Act.put, List.setIfInBounds_toArray, List.set_cons_zero, List.set_cons_succ])
              refine ord_take RD 2 (at_list (by rw [HOP.out]; rfl)) HNS.out HPQ.out (by rw [HOP.out]; kernel_rfl) (by rw [HOP.out]; kernel_rfl) (by rw [HOP.out]; rfl) (fun K hK => ?_); apply Exists.intro; refine ⟨fun W hSW => ?_, hK _ ?_⟩; (focus ((try dsimp only at hSW); (obtain ⟨y0, y1, -, -⟩ := hSW.lf.two); go_simp; try with_reducible rfl)); clear hK K; (try simp only [Act.put, List.setIfInBounds_toArray, List.set_cons_zero, List.set_cons_succ])
              refine ord_one RD 3 (by rw [HOP.out]; kernel_rfl) (at_list (by rw [HOP.out]; rfl)) (by rw [HOP.out]; rfl) (fun Wa hWW hSW K hK => ?_); (try dsimp only at hSW)
              have HS := Lib.hid hSW
              clear hSW hWW
              obtain ⟨xa, xb, K1⟩ := HS.out.zm
              obtain ⟨k0', k1', k2', k3'⟩ := K1.two
              have kl := K1.lt
              have HL3 := Lib.hid ((K1.set 0 (.int .i64 s2.m.a)).set 1 (.int .i64 s2.m.k))
              clear K1
              go_simp
              refine hK _ _ (HS.out.stM _ _) ?_
              clear k0' k1' k2' k3' kl HS
              clear hK K; (try simp only [Act.put, List.setIfInBounds_toArray, List.set_cons_zero, List.set_cons_succ])
              refine ord_one RD 4 (by rw [HOP.out]; kernel_rfl) (at_list (by rw [HOP.out]; rfl)) (by rw [HOP.out]; rfl) (fun Wb hWW hSW K hK => ?_); (try dsimp only at hSW)
              have HS := Lib.hid hSW
              have HL4 := Lib.hid (HL3.out.past hWW)
              clear HL3 hSW hWW
              obtain ⟨xa, xb, xc, K1⟩ := HS.out.zr
              obtain ⟨k0', k1', k2', k3', k4', k5'⟩ := K1.three
              have kl := K1.lt
              have hxy : gR ≠ gM := lies_ne K1 HL4.out (by decide)
              have HL5 := Lib.hid (And.intro (((HL4.out.other (p := ⟨gR, 0, none⟩) hxy (.int .i64 s2.r.l)).other (p := ⟨gR, 1, none⟩) hxy (.slice A1 n1 c1)).other (p := ⟨gR, 2, none⟩) hxy (.int .i64 s2.r.n)) (K1.store3 (a := .int .i64 s2.r.l) (b := .slice A1 n1 c1) (c := .int .i64 s2.r.n)))
              clear K1 HL4 hxy
              go_simp
              refine hK _ _ (HS.out.stR _ _ _) ?_
              clear k0' k1' k2' k3' k4' k5' kl HS
              clear hK K; (try simp only [Act.put, List.setIfInBounds_toArray, List.set_cons_zero, List.set_cons_succ])
              refine ord_one RD 5 (by rw [HOP.out]; kernel_rfl) (at_list (by rw [HOP.out]; rfl)) (by rw [HOP.out]; rfl) (fun Wc hWW hSW K hK => ?_); (try dsimp only at hSW)
              have HS := Lib.hid hSW
              have HL6 := Lib.hid (And.intro (HL5.out.1.past hWW) (HL5.out.2.past hWW))
              clear HL5 hSW hWW
              obtain ⟨xa, xb, K1⟩ := HS.out.zf
              obtain ⟨k0', k1', k2', k3'⟩ := K1.two
              have kl := K1.lt
              have hxz : gF ≠ gM := lies_ne K1 HL6.out.1 (by decide)
              have hyz : gF ≠ gR := lies_ne K1 HL6.out.2 (by decide)
              have HL7 := Lib.hid (And.intro ((HL6.out.1.other (p := ⟨gF, 0, none⟩) hxz (.int .i64 s2.f.l)).other (p := ⟨gF, 1, none⟩) hxz (.slice A2 n2 c2)) (And.intro ((HL6.out.2.other (p := ⟨gF, 0, none⟩) hyz (.int .i64 s2.f.l)).other (p := ⟨gF, 1, none⟩) hyz (.slice A2 n2 c2)) ((K1.set 0 (.int .i64 s2.f.l)).set 1 (.slice A2 n2 c2))))
              clear K1 HL6 hxz hyz
              go_simp
              refine hK _ _ (HS.out.stF _ _) ?_
              clear k0' k1' k2' k3' kl HS
              clear hK K; (try simp only [Act.put, List.setIfInBounds_toArray, List.set_cons_zero, List.set_cons_succ])
              refine ord_done (by rw [HOP.out]; kernel_rfl) (fun Wd2 hWW hSW => HN.out _ _ ?_); clear HOP HNS HPQ HN RD; (try dsimp only at hSW)
              have HMe : Hid (Src w Wd2 gM gR gF s2.m s2.r A1 n1 c1 s2.f A2 n2 c2) := Lib.hid
                ⟨HL7.out.1.past hWW, HL7.out.2.1.past hWW, HL7.out.2.2.past hWW, hSW.o, hSW.v, hSW.i1, hSW.i2, hSW.hb⟩
              clear hSW hWW HL7 HM7
              go_wp2_with fail
              refine ⟨⟨k + 1, A1, n1, c1, A2, n2, c2, by have := HLT.out; omega, by first | rfl | go_num, by rw [HS2.out]; exact HMe.out⟩, by simp [intOf]; have := HLT.out; omega⟩
    · have ek : k = bn := by omega
      subst ek
      have kn : ¬ ((k : Int) < (k : Int)) := by omega
      have HM := Lib.hid M
      clear hlt hk M
      go_wp2_with fail
      go_ret
      exact ⟨rfl, HM.out.hb⟩
end Go.Proofs.Ytemiecghdmagnaa.maW
