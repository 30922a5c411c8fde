/- The statement's came, by a walk. -/
import Derived.Test.YtemiecghdmagnaaGV
import Derived.Test.YtemiecghdmagnaaGO
namespace Go.Proofs.Ytemiecghdmagnaa.maW
set_option maxRecDepth 100000
open Go.RowKit Go.Proofs.Ytemiecghdmagnaa.base Go.Proofs.Ytemiecghdmagnaa.rgP Go.Proofs.Ytemiecghdmagnaa.fdP Go.Proofs.Ytemiecghdmagnaa.maP Go.Proofs.Ytemiecghdmagnaa.rgW Go.Proofs.Ytemiecghdmagnaa.rgL Go.Proofs.Ytemiecghdmagnaa.hashP Go.Proofs.Ytemiecghdmagnaa.hashW Go.Proofs.Ytemiecghdmagnaa.cxP Go.Proofs.Ytemiecghdmagnaa.fdW
set_option linter.unusedVariables false
set_option linter.unusedSimpArgs false
/-- What a call of Byte returned. -/
def Cal (w W : World) (r : Rg) (A : Option Addr) (n c : Nat) (f : Fnd) (B : Option Addr) (q d : Nat) : Prop := RgIn W A n c r ∧ OwnZ W w.heap.size (.slice A n c) r.b ∧ FdIn W B q d f ∧ OwnV W w.heap.size (.slice B q d) f.s
theorem cal_past {w W W' : World} {r : Rg} {A : Option Addr} {n c : Nat} {f : Fnd} {B : Option Addr} {q d : Nat} (h : Cal w W r A n c f B q d) (hb : Below W.heap.size W W') : Cal w W' r A n c f B q d := ⟨h.1.below hb, h.2.1.past hb, h.2.2.1.below hb, h.2.2.2.past hb⟩
theorem cal_mk {w W : World} {r : Rg} {A : Option Addr} {n c : Nat} {f : Fnd} {B : Option Addr} {q d : Nat} (h1 : RgIn W A n c r) (h2 : OwnZ W w.heap.size (.slice A n c) r.b) (h3 : FdIn W B q d f) (h4 : OwnV W w.heap.size (.slice B q d) f.s) : Cal w W r A n c f B q d := ⟨h1, h2, h3, h4⟩
theorem cal_st {w W : World} {r : Rg} {A : Option Addr} {n c : Nat} {f : Fnd} {B : Option Addr} {q d g : Nat} {t : TypeId} {cs : List Value} (h : Cal w W r A n c f B q d) (K : Lies W g t cs) (h1 : t ≠ 5) (h2 : t ≠ 3) (i : Nat) (x : Value) : Cal w (W.setCell ⟨g, i, none⟩ x) r A n c f B q d :=
  ⟨h.1.own (h.2.1.other K h1 i x), h.2.1.other K h1 i x, h.2.2.1.own (h.2.2.2.other K h2 i x), h.2.2.2.other K h2 i x⟩
set_option maxHeartbeats 4000000 in
theorem came_ok (l : Int) (D : Option Addr) (bn bc : Nat) (bs : List Int) (w : World) (hl : lvB l = true) (hD : Has .u8 w D bs) (hbn : bs.length = bn) (h7 : bn ≤ 600) (hbb : ∀ z ∈ bs, 0 ≤ z ∧ z ≤ 255) :
    Calls Try.prog 32 #[.int .i64 l, .slice D bn bc] w fun e w' => ∃ A n c B q d, e = .returned (.tuple #[.agg #[.int .i64 ((came3 l bs).m).a, .int .i64 ((came3 l bs).m).k], .agg #[.int .i64 ((came3 l bs).r).l, .slice A n c, .int .i64 ((came3 l bs).r).n], .agg #[.int .i64 ((came3 l bs).f).l, .slice B q d], .bool true]) ∧ RgIn w' A n c (came3 l bs).r ∧ OwnZ w' w.heap.size (.slice A n c) (came3 l bs).r.b ∧ FdIn w' B q d (came3 l bs).f ∧ OwnV w' w.heap.size (.slice B q d) (came3 l bs).f.s ∧ Below w.heap.size w w' := by
  have HL := Lib.hid hl
  have HD := Lib.hid hD
  have HBN := Lib.hid hbn
  have H7 := Lib.hid h7
  have HBB := Lib.hid hbb
  have HE : Hid (newE l = 0 ∧ newF l = ⟨l, List.replicate (szOf l) (-1)⟩) := Lib.hid ⟨by unfold newE; rw [if_pos hl], by unfold newF; rw [if_pos hl]⟩
  have HW0 : Hid (Below w.heap.size w (((w.alloc (.cells #[.int .i64 0, .int .i64 0] 23)).alloc (.cells #[.int .i64 0, .slice none 0 0, .int .i64 0] 26)).alloc (.cells #[.int .i64 0, .slice none 0 0] 29)) ∧ Lies (((w.alloc (.cells #[.int .i64 0, .int .i64 0] 23)).alloc (.cells #[.int .i64 0, .slice none 0 0, .int .i64 0] 26)).alloc (.cells #[.int .i64 0, .slice none 0 0] 29)) w.heap.size 23 [.int .i64 0, .int .i64 0] ∧ Lies (((w.alloc (.cells #[.int .i64 0, .int .i64 0] 23)).alloc (.cells #[.int .i64 0, .slice none 0 0, .int .i64 0] 26)).alloc (.cells #[.int .i64 0, .slice none 0 0] 29)) (w.heap.size + 1) 26 [.int .i64 0, .slice none 0 0, .int .i64 0] ∧ Lies (((w.alloc (.cells #[.int .i64 0, .int .i64 0] 23)).alloc (.cells #[.int .i64 0, .slice none 0 0, .int .i64 0] 26)).alloc (.cells #[.int .i64 0, .slice none 0 0] 29)) (w.heap.size + 2) 29 [.int .i64 0, .slice none 0 0]) := Lib.hid ⟨by (repeat' (first | (with_reducible exact Below.refl _ _) | (with_reducible assumption) | (with_reducible refine below_drewN ?_ _) | (with_reducible refine below_new ?_ _) | (with_reducible refine Below.alloc ?_ ?_ _) | (with_reducible refine Below.drew ?_) | (with_reducible refine Below.setCell ?_ ?_ _) | (with_reducible apply below_at; (case k => (with_reducible assumption)); (case hB => omega)) | (with_reducible apply below_on; (with_reducible assumption)) | (go_size; done) | (with_reducible apply size_of))), ((Lies.fresh _ _ _).alloc _).alloc _, (Lies.fresh_at (by simp)).alloc _, Lies.fresh_at (by simp)⟩
  clear hl hD hbn h7 hbb
  go_enter Try.func32, Try.ntmps32
  go_wp2_with fail
  refine (rgL.New_any l _).mono ?_
  rintro e w1 ⟨A0, n0, c0, rfl, i0, o0, hb1⟩
  rw [HE.out.1]
  have HW1 := Lib.hid (And.intro (HW0.out.1.trans (hb1.mono HW0.out.1.size)) (And.intro (HW0.out.2.1.past hb1) (And.intro (HW0.out.2.2.1.past hb1) (HW0.out.2.2.2.past hb1))))
  have HR1 := Lib.hid (And.intro i0 (o0.mono HW0.out.1.size))
  clear i0 o0 hb1
  go_wp2_with fail
  refine (fdW.New_ok l _ HL.out).mono ?_
  rintro e w2 ⟨g2, rfl, o2, hb2⟩
  have HW2 : Hid (Below w.heap.size w w2 ∧ Lies w2 w.heap.size 23 [.int .i64 0, .int .i64 0] ∧ Lies w2 (w.heap.size + 1) 26 [.int .i64 0, .slice none 0 0, .int .i64 0] ∧ Lies w2 (w.heap.size + 2) 29 [.int .i64 0, .slice none 0 0] ∧ (Lies (w2) (w1.heap.size) 26 [.int .i64 (newR l).l, .slice (A0) (n0) (c0), .int .i64 (newR l).n]) ∧ w.heap.size + 2 < w1.heap.size) := Lib.hid ⟨(HW1.out.1.alloc HW1.out.1.size _).trans (hb2.mono ((HW1.out.1.alloc HW1.out.1.size _).size)), (HW1.out.2.1.alloc _).past hb2, (HW1.out.2.2.1.alloc _).past hb2, (HW1.out.2.2.2.alloc _).past hb2, (Lies.fresh _ _ _).past hb2, HW1.out.2.2.2.lt⟩
  have HR2 := Lib.hid (And.intro ((HR1.out.1.below (grows_alloc _ _)).below hb2) (And.intro ((HR1.out.2.alloc _).past hb2) (And.intro (fdL.new_in HL.out o2) (show OwnV w2 w.heap.size (.slice (some ⟨g2, 0, none⟩) (szOf l) (szOf l)) (List.replicate (szOf l) (-1)) from .inl (o2.mono (HW1.out.1.alloc HW1.out.1.size _).size)))))
  clear o2 hb2
  go_wp2_with fail
  refine (New_any _).mono ?_
  rintro e w3 ⟨rfl, hb3⟩
  have HG : Hid (w.heap.size + 2 < w1.heap.size ∧ w1.heap.size < w2.heap.size ∧ w2.heap.size < w3.heap.size) := Lib.hid ⟨HW2.out.2.2.2.2.2, HW2.out.2.2.2.2.1.lt, by have := hb3.size; simp at this; omega⟩
  have HM3 : Hid (Mov w (w3.alloc (.cells #[.int .i64 (-1), .int .i64 0] 23)) w3.heap.size w1.heap.size w2.heap.size w.heap.size (w.heap.size + 1) (w.heap.size + 2) w.heap.size (w.heap.size + 1) (w.heap.size + 2) noM (newR l) A0 n0 c0 (newF l) (some ⟨g2, 0, none⟩) (szOf l) (szOf l)) := Lib.hid (by
    have hb2' := HW2.out.1
    have hz2 : Below w2.heap.size w2 (w3.alloc (.cells #[.int .i64 (-1), .int .i64 0] 23)) := by (repeat' (first | (with_reducible exact Below.refl _ _) | (with_reducible assumption) | (with_reducible refine below_drewN ?_ _) | (with_reducible refine below_new ?_ _) | (with_reducible refine Below.alloc ?_ ?_ _) | (with_reducible refine Below.drew ?_) | (with_reducible refine Below.setCell ?_ ?_ _) | (with_reducible apply below_at; (case k => (with_reducible assumption)); (case hB => omega)) | (with_reducible apply below_on; (with_reducible assumption)) | (go_size; done) | (with_reducible apply size_of)))
    have g1 := HG.out.1
    have g2' := HG.out.2.1
    have g3 := HG.out.2.2
    refine ⟨Lies.fresh _ _ _, HW2.out.2.2.2.2.1.past hz2, ?_, ⟨_, _, HW2.out.2.1.past hz2⟩, ⟨_, _, _, HW2.out.2.2.1.past hz2⟩, ⟨_, _, HW2.out.2.2.2.1.past hz2⟩, ⟨_, _, HW2.out.2.1.past hz2⟩, ⟨_, _, _, HW2.out.2.2.1.past hz2⟩, ⟨_, _, HW2.out.2.2.2.1.past hz2⟩, by omega, by omega, by omega, ⟨by omega, by omega, by omega⟩, HR2.out.2.1.past hz2, ?_, HR2.out.1.below hz2, HR2.out.2.2.1.below hz2, hb2'.trans (hz2.mono hb2'.size)⟩
    · have h0 := ((Lies.fresh w2 29 [.int .i64 l, .slice (some ⟨g2, 0, none⟩) (szOf l) (szOf l)]).past hb3).alloc (.cells #[.int .i64 (-1), .int .i64 0] 23)
      rw [HE.out.2]
      exact h0
    · rw [HE.out.2]
      exact HR2.out.2.2.2.past hz2)
  have HGE : Hid (w.heap.size ≤ w3.heap.size ∧ w.heap.size ≤ w1.heap.size ∧ w.heap.size ≤ w2.heap.size) := Lib.hid (by have := HG.out; omega)
  clear hb3 HW0 HW1 HW2 HR1 HR2
  go_wp2_with fail
  generalize hw4 : w3.alloc (.cells #[.int .i64 (-1), .int .i64 0] 23) = w4 at *
  generalize w3.heap.size = gM at *
  generalize w1.heap.size = gR at *
  generalize w2.heap.size = gF at *
  clear hw4
  go_loopw [13] (fun i wr => ∃ (k : Nat) (A : Option Addr) (n c : Nat) (B : Option Addr) (q d : Nat), k ≤ bn ∧ i = .int .i64 k ∧ Mov w wr gM gR gF w.heap.size (w.heap.size + 1) (w.heap.size + 2) w.heap.size (w.heap.size + 1) (w.heap.size + 2) (came3 l (bs.take k)).m (came3 l (bs.take k)).r A n c (came3 l (bs.take k)).f B q d) (fun i _ => bn - (intOf i).toNat)
  case atStart => exact ⟨0, A0, n0, c0, _, _, _, by omega, rfl, HM3.out⟩
  case round =>
    obtain ⟨k, A, n, c, B, q, d, hk, rfl, M⟩ := hrel
    by_cases hlt : k < bn
    · obtain ⟨x, hx⟩ : ∃ x, bs.getD k 0 = x := ⟨_, rfl⟩
      obtain ⟨s, hs⟩ : ∃ s, came3 l (bs.take k) = s := ⟨_, rfl⟩
      obtain ⟨s2, hs2⟩ : ∃ s2, came3 l (bs.take (k + 1)) = s2 := ⟨_, rfl⟩
      have hs2' : step3 s x = s2 := by rw [← hs2, take_snoc 0 bs k (by rw [HBN.out]; exact hlt), came_snoc, hs, hx]
      have htr := came_true HL.out k (bs.take k) (by rw [List.length_take, HBN.out]; omega) (by have := H7.out; omega)
      have htr2 := came_true HL.out (k + 1) (bs.take (k + 1)) (by rw [List.length_take, HBN.out]; omega) (by have := H7.out; omega)
      have htk : (bs.take k).length < 700 := by rw [List.length_take]; have := H7.out; omega
      rw [hs] at htr M
      rw [hs2] at htr2
      have hst := step_all HL.out (bs.take k) x htk htr
      rw [hs2'] at hst
      have HST : Hid (byM s.m s.r s.f x = s2.m ∧ byR s.m s.r s.f x = s2.r ∧ byF s.m s.r s.f x = s2.f ∧ byE s.m s.r s.f = 0) := Lib.hid ⟨hst.2.1, hst.2.2.1, hst.2.2.2, hst.1⟩
      have HCK : Hid (mtE s2.m = 0 ∧ rgE s2.r = 0 ∧ fdE s2.f = 0) := Lib.hid ⟨mtE_yes htr2.m.1, by rw [rgE, htr2.r, (put_new HL.out (bs.take (k + 1)) (by rw [List.length_take]; have := H7.out; omega)).2.2.1]; rfl, fdE_yes htr2.f⟩
      have HS2 := Lib.hid hs2
      have HXB : Hid (0 ≤ x ∧ x ≤ 255) := Lib.hid (by rw [← hx]; exact at_bd HBB.out k)
      have HM := Lib.hid M
      obtain ⟨db, doff, rfl, hdb, hdc⟩ := has_some HD.out (by rw [HBN.out]; omega)
      have HDC : Hid (∀ W, Below w.heap.size w W → W.cell? ⟨db, doff + k, none⟩ = some (.int .u8 x)) := Lib.hid (fun W hW => by rw [(bcell hW).1 db _ hdb, ← hx]; exact hdc k (by rw [HBN.out]; exact hlt))
      have HDB := Lib.hid hdb
      have k1 : (k : Int) < bn := by omega
      have k0 : 0 ≤ (k : Int) := by omega
      have k9 : (bn : Int) ≤ 600 := by have := H7.out; omega
      have HLT := Lib.hid hlt
      clear hx hs hs2 hs2' htr htr2 htk hst M hdb hdc hk hlt
      go_wp2_with fail
      have HLE : Hid (∀ W, (Mov w W gM gR gF w.heap.size (w.heap.size + 1) (w.heap.size + 2) w.heap.size (w.heap.size + 1) (w.heap.size + 2) s.m s.r A n c s.f B q d) ∧ wr.heap.size ≤ W.heap.size → wr.heap.size ≤ W.heap.size) := Lib.hid (fun W h => h.2)
      (have RD := grows_roads (S := fun x' => (Mov w x' gM gR gF w.heap.size (w.heap.size + 1) (w.heap.size + 2) w.heap.size (w.heap.size + 1) (w.heap.size + 2) s.m s.r A n c s.f B q d) ∧ wr.heap.size ≤ x'.heap.size) (fun a b h1 h2 => ⟨h2.1.past h1, Nat.le_trans h2.2 h1.size⟩)); refine region_ord _ Grows RD (⟨HM.out.past (Below.drew (Below.refl _ _)), Nat.le_refl _⟩) (by kernel_rfl) ?_; intro ops Q' hops hPQ hN; (have HNS : Hid (Region.noSelect ops = true) := Lib.hid (by rw [hops]; kernel_rfl)); (have hsz : ops.size = 20 := (by rw [hops]; rfl)); have HOP := Lib.hid hops; have HPQ := Lib.hid hPQ; have HN := Lib.hid hN; rw [hsz]; clear hops hsz hPQ hN
      refine ord_take RD 0 (at_list (by rw [HOP.out]; rfl)) HNS.out HPQ.out (by rw [HOP.out]; kernel_rfl) (by rw [HOP.out]; kernel_rfl) (by rw [HOP.out]; rfl) (fun K hK => ?_); apply Exists.intro; refine ⟨fun W hSW => ?_, hK _ ?_⟩; (focus ((try dsimp only at hSW); (obtain ⟨y0, y1, -, -⟩ := hSW.1.lm.two); go_simp; try with_reducible rfl)); clear hK K; (try simp only [Act.put, List.setIfInBounds_toArray, List.set_cons_zero, List.set_cons_succ])
      refine ord_take RD 1 (at_list (by rw [HOP.out]; rfl)) HNS.out HPQ.out (by rw [HOP.out]; kernel_rfl) (by rw [HOP.out]; kernel_rfl) (by rw [HOP.out]; rfl) (fun K hK => ?_); apply Exists.intro; refine ⟨fun W hSW => ?_, hK _ ?_⟩; (focus ((try dsimp only at hSW); (obtain ⟨y0, y1, y2, -, -, -⟩ := hSW.1.lr.three); go_simp; try with_reducible rfl)); clear hK K; (try simp only [Act.put, List.setIfInBounds_toArray, List.set_cons_zero, List.set_cons_succ])
      refine ord_take RD 2 (at_list (by rw [HOP.out]; rfl)) HNS.out HPQ.out (by rw [HOP.out]; kernel_rfl) (by rw [HOP.out]; kernel_rfl) (by rw [HOP.out]; rfl) (fun K hK => ?_); apply Exists.intro; refine ⟨fun W hSW => ?_, hK _ ?_⟩; (focus ((try dsimp only at hSW); (obtain ⟨y0, y1, -, -⟩ := hSW.1.lf.two); go_simp; try with_reducible rfl)); clear hK K; (try simp only [Act.put, List.setIfInBounds_toArray, List.set_cons_zero, List.set_cons_succ])
      refine ord_take RD 3 (at_list (by rw [HOP.out]; rfl)) HNS.out HPQ.out (by rw [HOP.out]; kernel_rfl) (by rw [HOP.out]; kernel_rfl) (by rw [HOP.out]; rfl) (fun K hK => ?_); apply Exists.intro; refine ⟨fun W hSW => ?_, hK _ ?_⟩; (focus ((try dsimp only at hSW); go_simp; try with_reducible rfl)); clear hK K; (try simp only [Act.put, List.setIfInBounds_toArray, List.set_cons_zero, List.set_cons_succ])
      refine ord_take RD 4 (at_list (by rw [HOP.out]; rfl)) HNS.out HPQ.out (by rw [HOP.out]; kernel_rfl) (by rw [HOP.out]; kernel_rfl) (by rw [HOP.out]; rfl) (fun K hK => ?_); apply Exists.intro; refine ⟨fun W hSW => ?_, hK _ ?_⟩; (focus ((try dsimp only at hSW); go_simp; try with_reducible rfl)); clear hK K; (try simp only [Act.put, List.setIfInBounds_toArray, List.set_cons_zero, List.set_cons_succ])
      refine ord_take RD 5 (at_list (by rw [HOP.out]; rfl)) HNS.out HPQ.out (by rw [HOP.out]; kernel_rfl) (by rw [HOP.out]; kernel_rfl) (by rw [HOP.out]; rfl) (fun K hK => ?_); apply Exists.intro; refine ⟨fun W hSW => ?_, hK _ ?_⟩; (focus ((try dsimp only at hSW); go_simp; try with_reducible rfl)); clear hK K; (try simp only [Act.put, List.setIfInBounds_toArray, List.set_cons_zero, List.set_cons_succ])
      refine ord_take RD 6 (at_list (by rw [HOP.out]; rfl)) HNS.out HPQ.out (by rw [HOP.out]; kernel_rfl) (by rw [HOP.out]; kernel_rfl) (by rw [HOP.out]; rfl) (fun K hK => ?_); apply Exists.intro; refine ⟨fun W hSW => ?_, hK _ ?_⟩; (focus ((try dsimp only at hSW); (have y0 := HDC.out _ hSW.1.hb; have y1 : db < W.heap.size := (Nat.lt_of_lt_of_le HDB.out hSW.1.hb.size)); go_simp; try with_reducible rfl)); clear hK K; (try simp only [Act.put, List.setIfInBounds_toArray, List.set_cons_zero, List.set_cons_succ])
      apply mid9 (C := fun A1 n1 c1 A2 n2 c2 xX xY xZ W => ((Mov w W gM gR gF w.heap.size (w.heap.size + 1) (w.heap.size + 2) w.heap.size (w.heap.size + 1) (w.heap.size + 2) s.m s.r A n c s.f B q d) ∧ wr.heap.size ≤ W.heap.size) ∧ Cal w W s2.r A1 n1 c1 s2.f A2 n2 c2 ∧ (Lies W xX 23 [.int .i64 0, .int .i64 0] ∧ wr.heap.size ≤ xX) ∧ (Lies W xY 26 [.int .i64 0, .slice none 0 0, .int .i64 0] ∧ wr.heap.size ≤ xY) ∧ (Lies W xZ 29 [.int .i64 0, .slice none 0 0] ∧ wr.heap.size ≤ xZ))
      ·   intro HREST
          refine ord_four RD 7 13 14 15 (by rw [HOP.out]; kernel_rfl) (at_list (by rw [HOP.out]; rfl)) (at_list (by rw [HOP.out]; rfl)) (at_list (by rw [HOP.out]; rfl)) (at_list (by rw [HOP.out]; rfl)) (by rw [HOP.out]; rfl) (by rw [HOP.out]; rfl) (by rw [HOP.out]; rfl) (by rw [HOP.out]; rfl) ?_ ?_ ?_ ?_
          · intro Wn hWW hSW K hK
            (try dsimp only at hSW)
            have HS := Lib.hid hSW
            clear hSW hWW
            go_simp
            refine (Byte_any s.m s.r A n c s.f B q d x _ HS.out.1.i1 HS.out.1.i2 HXB.out.1 HXB.out.2).mono ?_
            rintro e0 Wc ⟨A1, n1, c1, A2, n2, c2, rfl, i1, o1, i2, o2, hb⟩
            simp only [HST.out.1, HST.out.2.1, HST.out.2.2.1, HST.out.2.2.2] at i1 o1 i2 o2 ⊢
            refine hK _ _ ⟨HS.out.1.past hb, Nat.le_trans HS.out.2 hb.size⟩ ?_
            have HCAL := Lib.hid (cal_mk i1 (o1.mono HS.out.1.hb.size) i2 (o2.mono HS.out.1.hb.size))
            replace HS := Lib.hid (And.intro (HS.out.1.past hb) (Nat.le_trans HS.out.2 hb.size))
            clear i1 o1 i2 o2 hb
            clear hK K; (try simp only [Act.put, List.setIfInBounds_toArray, List.set_cons_zero, List.set_cons_succ])
            refine ord_take RD 8 (at_list (by rw [HOP.out]; rfl)) HNS.out HPQ.out (by rw [HOP.out]; kernel_rfl) (by rw [HOP.out]; kernel_rfl) (by rw [HOP.out]; rfl) (fun K hK => ?_); apply Exists.intro; refine ⟨fun W hSW => ?_, hK _ ?_⟩; (focus ((try dsimp only at hSW); go_simp; try with_reducible rfl)); clear hK K; (try simp only [Act.put, List.setIfInBounds_toArray, List.set_cons_zero, List.set_cons_succ])
            refine ord_take RD 9 (at_list (by rw [HOP.out]; rfl)) HNS.out HPQ.out (by rw [HOP.out]; kernel_rfl) (by rw [HOP.out]; kernel_rfl) (by rw [HOP.out]; rfl) (fun K hK => ?_); apply Exists.intro; refine ⟨fun W hSW => ?_, hK _ ?_⟩; (focus ((try dsimp only at hSW); go_simp; try with_reducible rfl)); clear hK K; (try simp only [Act.put, List.setIfInBounds_toArray, List.set_cons_zero, List.set_cons_succ])
            refine ord_take RD 10 (at_list (by rw [HOP.out]; rfl)) HNS.out HPQ.out (by rw [HOP.out]; kernel_rfl) (by rw [HOP.out]; kernel_rfl) (by rw [HOP.out]; rfl) (fun K hK => ?_); apply Exists.intro; refine ⟨fun W hSW => ?_, hK _ ?_⟩; (focus ((try dsimp only at hSW); go_simp; try with_reducible rfl)); clear hK K; (try simp only [Act.put, List.setIfInBounds_toArray, List.set_cons_zero, List.set_cons_succ])
            refine ord_take RD 11 (at_list (by rw [HOP.out]; rfl)) HNS.out HPQ.out (by rw [HOP.out]; kernel_rfl) (by rw [HOP.out]; kernel_rfl) (by rw [HOP.out]; rfl) (fun K hK => ?_); apply Exists.intro; refine ⟨fun W hSW => ?_, hK _ ?_⟩; (focus ((try dsimp only at hSW); go_simp; try with_reducible rfl)); clear hK K; (try simp only [Act.put, List.setIfInBounds_toArray, List.set_cons_zero, List.set_cons_succ])
            refine ord_take RD 12 (at_list (by rw [HOP.out]; rfl)) HNS.out HPQ.out (by rw [HOP.out]; kernel_rfl) (by rw [HOP.out]; kernel_rfl) (by rw [HOP.out]; rfl) (fun K hK => ?_); apply Exists.intro; refine ⟨fun W hSW => ?_, hK _ ?_⟩; (focus ((try dsimp only at hSW); go_simp; try with_reducible rfl)); clear hK K; (try simp only [Act.put, List.setIfInBounds_toArray, List.set_cons_zero, List.set_cons_succ])
            refine ord_three RD 13 14 15 (by rw [HOP.out]; kernel_rfl) (at_list (by rw [HOP.out]; rfl)) (at_list (by rw [HOP.out]; rfl)) (at_list (by rw [HOP.out]; rfl)) (by rw [HOP.out]; rfl) (by rw [HOP.out]; rfl) (by rw [HOP.out]; rfl) ?_ ?_ ?_
            · intro Wn hWW hSW K hK
              (try dsimp only at hSW)
              replace HCAL := Lib.hid (cal_past HCAL.out hWW)
              have HS := Lib.hid hSW
              have HX := Lib.hid (And.intro (Lies.fresh Wn 23 [.int .i64 0, .int .i64 0]) (HLE.out _ hSW))
              clear hSW hWW
              go_simp
              refine hK _ _ ⟨HS.out.1.past (grows_alloc _ _), Nat.le_trans HS.out.2 (grows_alloc _ _).size⟩ ?_
              replace HCAL := Lib.hid (cal_past HCAL.out (grows_alloc _ (.cells #[.int .i64 0, .int .i64 0] 23)))
              replace HS := Lib.hid (And.intro (HS.out.1.past (grows_alloc _ (.cells #[.int .i64 0, .int .i64 0] 23))) (Nat.le_trans HS.out.2 (grows_alloc _ (.cells #[.int .i64 0, .int .i64 0] 23)).size))
              clear hK K; (try simp only [Act.put, List.setIfInBounds_toArray, List.set_cons_zero, List.set_cons_succ])
              generalize Wn.heap.size = xX at *
              refine ord_two RD 14 15 (by rw [HOP.out]; kernel_rfl) (at_list (by rw [HOP.out]; rfl)) (at_list (by rw [HOP.out]; rfl)) (by rw [HOP.out]; rfl) (by rw [HOP.out]; rfl) ?_ ?_
              · intro Wn hWW hSW K hK
                (try dsimp only at hSW)
                replace HCAL := Lib.hid (cal_past HCAL.out hWW)
                replace HX := Lib.hid (And.intro (HX.out.1.past hWW) HX.out.2)
                have HS := Lib.hid hSW
                have HY := Lib.hid (And.intro (Lies.fresh Wn 26 [.int .i64 0, .slice none 0 0, .int .i64 0]) (HLE.out _ hSW))
                clear hSW hWW
                go_simp
                refine hK _ _ ⟨HS.out.1.past (grows_alloc _ _), Nat.le_trans HS.out.2 (grows_alloc _ _).size⟩ ?_
                replace HCAL := Lib.hid (cal_past HCAL.out (grows_alloc _ (.cells #[.int .i64 0, .slice none 0 0, .int .i64 0] 26)))
                replace HX := Lib.hid (And.intro (HX.out.1.past (grows_alloc _ (.cells #[.int .i64 0, .slice none 0 0, .int .i64 0] 26))) HX.out.2)
                replace HS := Lib.hid (And.intro (HS.out.1.past (grows_alloc _ (.cells #[.int .i64 0, .slice none 0 0, .int .i64 0] 26))) (Nat.le_trans HS.out.2 (grows_alloc _ (.cells #[.int .i64 0, .slice none 0 0, .int .i64 0] 26)).size))
                clear hK K; (try simp only [Act.put, List.setIfInBounds_toArray, List.set_cons_zero, List.set_cons_succ])
                generalize Wn.heap.size = xY at *
                refine ord_one RD 15 (by rw [HOP.out]; kernel_rfl) (at_list (by rw [HOP.out]; rfl)) (by rw [HOP.out]; rfl) ?_
                · intro Wn hWW hSW K hK
                  (try dsimp only at hSW)
                  replace HCAL := Lib.hid (cal_past HCAL.out hWW)
                  replace HX := Lib.hid (And.intro (HX.out.1.past hWW) HX.out.2)
                  replace HY := Lib.hid (And.intro (HY.out.1.past hWW) HY.out.2)
                  have HS := Lib.hid hSW
                  have HZ := Lib.hid (And.intro (Lies.fresh Wn 29 [.int .i64 0, .slice none 0 0]) (HLE.out _ hSW))
                  clear hSW hWW
                  go_simp
                  refine hK _ _ ⟨HS.out.1.past (grows_alloc _ _), Nat.le_trans HS.out.2 (grows_alloc _ _).size⟩ ?_
                  replace HCAL := Lib.hid (cal_past HCAL.out (grows_alloc _ (.cells #[.int .i64 0, .slice none 0 0] 29)))
                  replace HX := Lib.hid (And.intro (HX.out.1.past (grows_alloc _ (.cells #[.int .i64 0, .slice none 0 0] 29))) HX.out.2)
                  replace HY := Lib.hid (And.intro (HY.out.1.past (grows_alloc _ (.cells #[.int .i64 0, .slice none 0 0] 29))) HY.out.2)
                  replace HS := Lib.hid (And.intro (HS.out.1.past (grows_alloc _ (.cells #[.int .i64 0, .slice none 0 0] 29))) (Nat.le_trans HS.out.2 (grows_alloc _ (.cells #[.int .i64 0, .slice none 0 0] 29)).size))
                  clear hK K; (try simp only [Act.put, List.setIfInBounds_toArray, List.set_cons_zero, List.set_cons_succ])
                  generalize Wn.heap.size = xZ at *
                  exact HREST A1 n1 c1 A2 n2 c2 xX xY xZ _ ⟨HS.out, HCAL.out, HX.out, HY.out, HZ.out⟩
              · intro Wn hWW hSW K hK
                (try dsimp only at hSW)
                replace HCAL := Lib.hid (cal_past HCAL.out hWW)
                replace HX := Lib.hid (And.intro (HX.out.1.past hWW) HX.out.2)
                have HS := Lib.hid hSW
                have HZ := Lib.hid (And.intro (Lies.fresh Wn 29 [.int .i64 0, .slice none 0 0]) (HLE.out _ hSW))
                clear hSW hWW
                go_simp
                refine hK _ _ ⟨HS.out.1.past (grows_alloc _ _), Nat.le_trans HS.out.2 (grows_alloc _ _).size⟩ ?_
                replace HCAL := Lib.hid (cal_past HCAL.out (grows_alloc _ (.cells #[.int .i64 0, .slice none 0 0] 29)))
                replace HX := Lib.hid (And.intro (HX.out.1.past (grows_alloc _ (.cells #[.int .i64 0, .slice none 0 0] 29))) HX.out.2)
                replace HS := Lib.hid (And.intro (HS.out.1.past (grows_alloc _ (.cells #[.int .i64 0, .slice none 0 0] 29))) (Nat.le_trans HS.out.2 (grows_alloc _ (.cells #[.int .i64 0, .slice none 0 0] 29)).size))
                clear hK K; (try simp only [Act.put, List.setIfInBounds_toArray, List.set_cons_zero, List.set_cons_succ])
                generalize Wn.heap.size = xZ at *
                refine ord_one RD 14 (by rw [HOP.out]; kernel_rfl) (at_list (by rw [HOP.out]; rfl)) (by rw [HOP.out]; rfl) ?_
                · intro Wn hWW hSW K hK
                  (try dsimp only at hSW)
                  replace HCAL := Lib.hid (cal_past HCAL.out hWW)
                  replace HX := Lib.hid (And.intro (HX.out.1.past hWW) HX.out.2)
                  replace HZ := Lib.hid (And.intro (HZ.out.1.past hWW) HZ.out.2)
                  have HS := Lib.hid hSW
                  have HY := Lib.hid (And.intro (Lies.fresh Wn 26 [.int .i64 0, .slice none 0 0, .int .i64 0]) (HLE.out _ hSW))
                  clear hSW hWW
                  go_simp
                  refine hK _ _ ⟨HS.out.1.past (grows_alloc _ _), Nat.le_trans HS.out.2 (grows_alloc _ _).size⟩ ?_
                  replace HCAL := Lib.hid (cal_past HCAL.out (grows_alloc _ (.cells #[.int .i64 0, .slice none 0 0, .int .i64 0] 26)))
                  replace HX := Lib.hid (And.intro (HX.out.1.past (grows_alloc _ (.cells #[.int .i64 0, .slice none 0 0, .int .i64 0] 26))) HX.out.2)
                  replace HZ := Lib.hid (And.intro (HZ.out.1.past (grows_alloc _ (.cells #[.int .i64 0, .slice none 0 0, .int .i64 0] 26))) HZ.out.2)
                  replace HS := Lib.hid (And.intro (HS.out.1.past (grows_alloc _ (.cells #[.int .i64 0, .slice none 0 0, .int .i64 0] 26))) (Nat.le_trans HS.out.2 (grows_alloc _ (.cells #[.int .i64 0, .slice none 0 0, .int .i64 0] 26)).size))
                  clear hK K; (try simp only [Act.put, List.setIfInBounds_toArray, List.set_cons_zero, List.set_cons_succ])
                  generalize Wn.heap.size = xY at *
                  exact ord_at (by kernel_rfl) (HREST A1 n1 c1 A2 n2 c2 xX xY xZ _ ⟨HS.out, HCAL.out, HX.out, HY.out, HZ.out⟩)
            · intro Wn hWW hSW K hK
              (try dsimp only at hSW)
              replace HCAL := Lib.hid (cal_past HCAL.out hWW)
              have HS := Lib.hid hSW
              have HY := Lib.hid (And.intro (Lies.fresh Wn 26 [.int .i64 0, .slice none 0 0, .int .i64 0]) (HLE.out _ hSW))
              clear hSW hWW
              go_simp
              refine hK _ _ ⟨HS.out.1.past (grows_alloc _ _), Nat.le_trans HS.out.2 (grows_alloc _ _).size⟩ ?_
              replace HCAL := Lib.hid (cal_past HCAL.out (grows_alloc _ (.cells #[.int .i64 0, .slice none 0 0, .int .i64 0] 26)))
              replace HS := Lib.hid (And.intro (HS.out.1.past (grows_alloc _ (.cells #[.int .i64 0, .slice none 0 0, .int .i64 0] 26))) (Nat.le_trans HS.out.2 (grows_alloc _ (.cells #[.int .i64 0, .slice none 0 0, .int .i64 0] 26)).size))
              clear hK K; (try simp only [Act.put, List.setIfInBounds_toArray, List.set_cons_zero, List.set_cons_succ])
              generalize Wn.heap.size = xY at *
              refine ord_two RD 13 15 (by rw [HOP.out]; kernel_rfl) (at_list (by rw [HOP.out]; rfl)) (at_list (by rw [HOP.out]; rfl)) (by rw [HOP.out]; rfl) (by rw [HOP.out]; rfl) ?_ ?_
              · intro Wn hWW hSW K hK
                (try dsimp only at hSW)
                replace HCAL := Lib.hid (cal_past HCAL.out hWW)
                replace HY := Lib.hid (And.intro (HY.out.1.past hWW) HY.out.2)
                have HS := Lib.hid hSW
                have HX := Lib.hid (And.intro (Lies.fresh Wn 23 [.int .i64 0, .int .i64 0]) (HLE.out _ hSW))
                clear hSW hWW
                go_simp
                refine hK _ _ ⟨HS.out.1.past (grows_alloc _ _), Nat.le_trans HS.out.2 (grows_alloc _ _).size⟩ ?_
                replace HCAL := Lib.hid (cal_past HCAL.out (grows_alloc _ (.cells #[.int .i64 0, .int .i64 0] 23)))
                replace HY := Lib.hid (And.intro (HY.out.1.past (grows_alloc _ (.cells #[.int .i64 0, .int .i64 0] 23))) HY.out.2)
                replace HS := Lib.hid (And.intro (HS.out.1.past (grows_alloc _ (.cells #[.int .i64 0, .int .i64 0] 23))) (Nat.le_trans HS.out.2 (grows_alloc _ (.cells #[.int .i64 0, .int .i64 0] 23)).size))
                clear hK K; (try simp only [Act.put, List.setIfInBounds_toArray, List.set_cons_zero, List.set_cons_succ])
                generalize Wn.heap.size = xX at *
                refine ord_one RD 15 (by rw [HOP.out]; kernel_rfl) (at_list (by rw [HOP.out]; rfl)) (by rw [HOP.out]; rfl) ?_
                · intro Wn hWW hSW K hK
                  (try dsimp only at hSW)
                  replace HCAL := Lib.hid (cal_past HCAL.out hWW)
                  replace HY := Lib.hid (And.intro (HY.out.1.past hWW) HY.out.2)
                  replace HX := Lib.hid (And.intro (HX.out.1.past hWW) HX.out.2)
                  have HS := Lib.hid hSW
                  have HZ := Lib.hid (And.intro (Lies.fresh Wn 29 [.int .i64 0, .slice none 0 0]) (HLE.out _ hSW))
                  clear hSW hWW
                  go_simp
                  refine hK _ _ ⟨HS.out.1.past (grows_alloc _ _), Nat.le_trans HS.out.2 (grows_alloc _ _).size⟩ ?_
                  replace HCAL := Lib.hid (cal_past HCAL.out (grows_alloc _ (.cells #[.int .i64 0, .slice none 0 0] 29)))
                  replace HY := Lib.hid (And.intro (HY.out.1.past (grows_alloc _ (.cells #[.int .i64 0, .slice none 0 0] 29))) HY.out.2)
                  replace HX := Lib.hid (And.intro (HX.out.1.past (grows_alloc _ (.cells #[.int .i64 0, .slice none 0 0] 29))) HX.out.2)
                  replace HS := Lib.hid (And.intro (HS.out.1.past (grows_alloc _ (.cells #[.int .i64 0, .slice none 0 0] 29))) (Nat.le_trans HS.out.2 (grows_alloc _ (.cells #[.int .i64 0, .slice none 0 0] 29)).size))
                  clear hK K; (try simp only [Act.put, List.setIfInBounds_toArray, List.set_cons_zero, List.set_cons_succ])
                  generalize Wn.heap.size = xZ at *
                  exact ord_at (by kernel_rfl) (HREST A1 n1 c1 A2 n2 c2 xX xY xZ _ ⟨HS.out, HCAL.out, HX.out, HY.out, HZ.out⟩)
              · intro Wn hWW hSW K hK
                (try dsimp only at hSW)
                replace HCAL := Lib.hid (cal_past HCAL.out hWW)
                replace HY := Lib.hid (And.intro (HY.out.1.past hWW) HY.out.2)
                have HS := Lib.hid hSW
                have HZ := Lib.hid (And.intro (Lies.fresh Wn 29 [.int .i64 0, .slice none 0 0]) (HLE.out _ hSW))
                clear hSW hWW
                go_simp
                refine hK _ _ ⟨HS.out.1.past (grows_alloc _ _), Nat.le_trans HS.out.2 (grows_alloc _ _).size⟩ ?_
                replace HCAL := Lib.hid (cal_past HCAL.out (grows_alloc _ (.cells #[.int .i64 0, .slice none 0 0] 29)))
                replace HY := Lib.hid (And.intro (HY.out.1.past (grows_alloc _ (.cells #[.int .i64 0, .slice none 0 0] 29))) HY.out.2)
                replace HS := Lib.hid (And.intro (HS.out.1.past (grows_alloc _ (.cells #[.int .i64 0, .slice none 0 0] 29))) (Nat.le_trans HS.out.2 (grows_alloc _ (.cells #[.int .i64 0, .slice none 0 0] 29)).size))
                clear hK K; (try simp only [Act.put, List.setIfInBounds_toArray, List.set_cons_zero, List.set_cons_succ])
                generalize Wn.heap.size = xZ at *
                refine ord_one RD 13 (by rw [HOP.out]; kernel_rfl) (at_list (by rw [HOP.out]; rfl)) (by rw [HOP.out]; rfl) ?_
                · intro Wn hWW hSW K hK
                  (try dsimp only at hSW)
                  replace HCAL := Lib.hid (cal_past HCAL.out hWW)
                  replace HY := Lib.hid (And.intro (HY.out.1.past hWW) HY.out.2)
                  replace HZ := Lib.hid (And.intro (HZ.out.1.past hWW) HZ.out.2)
                  have HS := Lib.hid hSW
                  have HX := Lib.hid (And.intro (Lies.fresh Wn 23 [.int .i64 0, .int .i64 0]) (HLE.out _ hSW))
                  clear hSW hWW
                  go_simp
                  refine hK _ _ ⟨HS.out.1.past (grows_alloc _ _), Nat.le_trans HS.out.2 (grows_alloc _ _).size⟩ ?_
                  replace HCAL := Lib.hid (cal_past HCAL.out (grows_alloc _ (.cells #[.int .i64 0, .int .i64 0] 23)))
                  replace HY := Lib.hid (And.intro (HY.out.1.past (grows_alloc _ (.cells #[.int .i64 0, .int .i64 0] 23))) HY.out.2)
                  replace HZ := Lib.hid (And.intro (HZ.out.1.past (grows_alloc _ (.cells #[.int .i64 0, .int .i64 0] 23))) HZ.out.2)
                  replace HS := Lib.hid (And.intro (HS.out.1.past (grows_alloc _ (.cells #[.int .i64 0, .int .i64 0] 23))) (Nat.le_trans HS.out.2 (grows_alloc _ (.cells #[.int .i64 0, .int .i64 0] 23)).size))
                  clear hK K; (try simp only [Act.put, List.setIfInBounds_toArray, List.set_cons_zero, List.set_cons_succ])
                  generalize Wn.heap.size = xX at *
                  exact ord_at (by kernel_rfl) (HREST A1 n1 c1 A2 n2 c2 xX xY xZ _ ⟨HS.out, HCAL.out, HX.out, HY.out, HZ.out⟩)
            · intro Wn hWW hSW K hK
              (try dsimp only at hSW)
              replace HCAL := Lib.hid (cal_past HCAL.out hWW)
              have HS := Lib.hid hSW
              have HZ := Lib.hid (And.intro (Lies.fresh Wn 29 [.int .i64 0, .slice none 0 0]) (HLE.out _ hSW))
              clear hSW hWW
              go_simp
              refine hK _ _ ⟨HS.out.1.past (grows_alloc _ _), Nat.le_trans HS.out.2 (grows_alloc _ _).size⟩ ?_
              replace HCAL := Lib.hid (cal_past HCAL.out (grows_alloc _ (.cells #[.int .i64 0, .slice none 0 0] 29)))
              replace HS := Lib.hid (And.intro (HS.out.1.past (grows_alloc _ (.cells #[.int .i64 0, .slice none 0 0] 29))) (Nat.le_trans HS.out.2 (grows_alloc _ (.cells #[.int .i64 0, .slice none 0 0] 29)).size))
              clear hK K; (try simp only [Act.put, List.setIfInBounds_toArray, List.set_cons_zero, List.set_cons_succ])
              generalize Wn.heap.size = xZ at *
              refine ord_two RD 13 14 (by rw [HOP.out]; kernel_rfl) (at_list (by rw [HOP.out]; rfl)) (at_list (by rw [HOP.out]; rfl)) (by rw [HOP.out]; rfl) (by rw [HOP.out]; rfl) ?_ ?_
              · intro Wn hWW hSW K hK
                (try dsimp only at hSW)
                replace HCAL := Lib.hid (cal_past HCAL.out hWW)
                replace HZ := Lib.hid (And.intro (HZ.out.1.past hWW) HZ.out.2)
                have HS := Lib.hid hSW
                have HX := Lib.hid (And.intro (Lies.fresh Wn 23 [.int .i64 0, .int .i64 0]) (HLE.out _ hSW))
                clear hSW hWW
                go_simp
                refine hK _ _ ⟨HS.out.1.past (grows_alloc _ _), Nat.le_trans HS.out.2 (grows_alloc _ _).size⟩ ?_
                replace HCAL := Lib.hid (cal_past HCAL.out (grows_alloc _ (.cells #[.int .i64 0, .int .i64 0] 23)))
                replace HZ := Lib.hid (And.intro (HZ.out.1.past (grows_alloc _ (.cells #[.int .i64 0, .int .i64 0] 23))) HZ.out.2)
                replace HS := Lib.hid (And.intro (HS.out.1.past (grows_alloc _ (.cells #[.int .i64 0, .int .i64 0] 23))) (Nat.le_trans HS.out.2 (grows_alloc _ (.cells #[.int .i64 0, .int .i64 0] 23)).size))
                clear hK K; (try simp only [Act.put, List.setIfInBounds_toArray, List.set_cons_zero, List.set_cons_succ])
                generalize Wn.heap.size = xX at *
                refine ord_one RD 14 (by rw [HOP.out]; kernel_rfl) (at_list (by rw [HOP.out]; rfl)) (by rw [HOP.out]; rfl) ?_
                · intro Wn hWW hSW K hK
                  (try dsimp only at hSW)
                  replace HCAL := Lib.hid (cal_past HCAL.out hWW)
                  replace HZ := Lib.hid (And.intro (HZ.out.1.past hWW) HZ.out.2)
                  replace HX := Lib.hid (And.intro (HX.out.1.past hWW) HX.out.2)
                  have HS := Lib.hid hSW
                  have HY := Lib.hid (And.intro (Lies.fresh Wn 26 [.int .i64 0, .slice none 0 0, .int .i64 0]) (HLE.out _ hSW))
                  clear hSW hWW
                  go_simp
                  refine hK _ _ ⟨HS.out.1.past (grows_alloc _ _), Nat.le_trans HS.out.2 (grows_alloc _ _).size⟩ ?_
                  replace HCAL := Lib.hid (cal_past HCAL.out (grows_alloc _ (.cells #[.int .i64 0, .slice none 0 0, .int .i64 0] 26)))
                  replace HZ := Lib.hid (And.intro (HZ.out.1.past (grows_alloc _ (.cells #[.int .i64 0, .slice none 0 0, .int .i64 0] 26))) HZ.out.2)
                  replace HX := Lib.hid (And.intro (HX.out.1.past (grows_alloc _ (.cells #[.int .i64 0, .slice none 0 0, .int .i64 0] 26))) HX.out.2)
                  replace HS := Lib.hid (And.intro (HS.out.1.past (grows_alloc _ (.cells #[.int .i64 0, .slice none 0 0, .int .i64 0] 26))) (Nat.le_trans HS.out.2 (grows_alloc _ (.cells #[.int .i64 0, .slice none 0 0, .int .i64 0] 26)).size))
                  clear hK K; (try simp only [Act.put, List.setIfInBounds_toArray, List.set_cons_zero, List.set_cons_succ])
                  generalize Wn.heap.size = xY at *
                  exact ord_at (by kernel_rfl) (HREST A1 n1 c1 A2 n2 c2 xX xY xZ _ ⟨HS.out, HCAL.out, HX.out, HY.out, HZ.out⟩)
              · intro Wn hWW hSW K hK
                (try dsimp only at hSW)
                replace HCAL := Lib.hid (cal_past HCAL.out hWW)
                replace HZ := Lib.hid (And.intro (HZ.out.1.past hWW) HZ.out.2)
                have HS := Lib.hid hSW
                have HY := Lib.hid (And.intro (Lies.fresh Wn 26 [.int .i64 0, .slice none 0 0, .int .i64 0]) (HLE.out _ hSW))
                clear hSW hWW
                go_simp
                refine hK _ _ ⟨HS.out.1.past (grows_alloc _ _), Nat.le_trans HS.out.2 (grows_alloc _ _).size⟩ ?_
                replace HCAL := Lib.hid (cal_past HCAL.out (grows_alloc _ (.cells #[.int .i64 0, .slice none 0 0, .int .i64 0] 26)))
                replace HZ := Lib.hid (And.intro (HZ.out.1.past (grows_alloc _ (.cells #[.int .i64 0, .slice none 0 0, .int .i64 0] 26))) HZ.out.2)
                replace HS := Lib.hid (And.intro (HS.out.1.past (grows_alloc _ (.cells #[.int .i64 0, .slice none 0 0, .int .i64 0] 26))) (Nat.le_trans HS.out.2 (grows_alloc _ (.cells #[.int .i64 0, .slice none 0 0, .int .i64 0] 26)).size))
                clear hK K; (try simp only [Act.put, List.setIfInBounds_toArray, List.set_cons_zero, List.set_cons_succ])
                generalize Wn.heap.size = xY at *
                refine ord_one RD 13 (by rw [HOP.out]; kernel_rfl) (at_list (by rw [HOP.out]; rfl)) (by rw [HOP.out]; rfl) ?_
                · intro Wn hWW hSW K hK
                  (try dsimp only at hSW)
                  replace HCAL := Lib.hid (cal_past HCAL.out hWW)
                  replace HZ := Lib.hid (And.intro (HZ.out.1.past hWW) HZ.out.2)
                  replace HY := Lib.hid (And.intro (HY.out.1.past hWW) HY.out.2)
                  have HS := Lib.hid hSW
                  have HX := Lib.hid (And.intro (Lies.fresh Wn 23 [.int .i64 0, .int .i64 0]) (HLE.out _ hSW))
                  clear hSW hWW
                  go_simp
                  refine hK _ _ ⟨HS.out.1.past (grows_alloc _ _), Nat.le_trans HS.out.2 (grows_alloc _ _).size⟩ ?_
                  replace HCAL := Lib.hid (cal_past HCAL.out (grows_alloc _ (.cells #[.int .i64 0, .int .i64 0] 23)))
                  replace HZ := Lib.hid (And.intro (HZ.out.1.past (grows_alloc _ (.cells #[.int .i64 0, .int .i64 0] 23))) HZ.out.2)
                  replace HY := Lib.hid (And.intro (HY.out.1.past (grows_alloc _ (.cells #[.int .i64 0, .int .i64 0] 23))) HY.out.2)
                  replace HS := Lib.hid (And.intro (HS.out.1.past (grows_alloc _ (.cells #[.int .i64 0, .int .i64 0] 23))) (Nat.le_trans HS.out.2 (grows_alloc _ (.cells #[.int .i64 0, .int .i64 0] 23)).size))
                  clear hK K; (try simp only [Act.put, List.setIfInBounds_toArray, List.set_cons_zero, List.set_cons_succ])
                  generalize Wn.heap.size = xX at *
                  exact ord_at (by kernel_rfl) (HREST A1 n1 c1 A2 n2 c2 xX xY xZ _ ⟨HS.out, HCAL.out, HX.out, HY.out, HZ.out⟩)
          · intro Wn hWW hSW K hK
            (try dsimp only at hSW)
            have HS := Lib.hid hSW
            have HX := Lib.hid (And.intro (Lies.fresh Wn 23 [.int .i64 0, .int .i64 0]) (HLE.out _ hSW))
            clear hSW hWW
            go_simp
            refine hK _ _ ⟨HS.out.1.past (grows_alloc _ _), Nat.le_trans HS.out.2 (grows_alloc _ _).size⟩ ?_
            replace HS := Lib.hid (And.intro (HS.out.1.past (grows_alloc _ (.cells #[.int .i64 0, .int .i64 0] 23))) (Nat.le_trans HS.out.2 (grows_alloc _ (.cells #[.int .i64 0, .int .i64 0] 23)).size))
            clear hK K; (try simp only [Act.put, List.setIfInBounds_toArray, List.set_cons_zero, List.set_cons_succ])
            generalize Wn.heap.size = xX at *
            refine ord_three RD 7 14 15 (by rw [HOP.out]; kernel_rfl) (at_list (by rw [HOP.out]; rfl)) (at_list (by rw [HOP.out]; rfl)) (at_list (by rw [HOP.out]; rfl)) (by rw [HOP.out]; rfl) (by rw [HOP.out]; rfl) (by rw [HOP.out]; rfl) ?_ ?_ ?_
            · intro Wn hWW hSW K hK
              (try dsimp only at hSW)
              replace HX := Lib.hid (And.intro (HX.out.1.past hWW) HX.out.2)
              have HS := Lib.hid hSW
              clear hSW hWW
              go_simp
              refine (Byte_any s.m s.r A n c s.f B q d x _ HS.out.1.i1 HS.out.1.i2 HXB.out.1 HXB.out.2).mono ?_
              rintro e0 Wc ⟨A1, n1, c1, A2, n2, c2, rfl, i1, o1, i2, o2, hb⟩
              simp only [HST.out.1, HST.out.2.1, HST.out.2.2.1, HST.out.2.2.2] at i1 o1 i2 o2 ⊢
              refine hK _ _ ⟨HS.out.1.past hb, Nat.le_trans HS.out.2 hb.size⟩ ?_
              replace HX := Lib.hid (And.intro (HX.out.1.past hb) HX.out.2)
              have HCAL := Lib.hid (cal_mk i1 (o1.mono HS.out.1.hb.size) i2 (o2.mono HS.out.1.hb.size))
              replace HS := Lib.hid (And.intro (HS.out.1.past hb) (Nat.le_trans HS.out.2 hb.size))
              clear i1 o1 i2 o2 hb
              clear hK K; (try simp only [Act.put, List.setIfInBounds_toArray, List.set_cons_zero, List.set_cons_succ])
              refine ord_take RD 8 (at_list (by rw [HOP.out]; rfl)) HNS.out HPQ.out (by rw [HOP.out]; kernel_rfl) (by rw [HOP.out]; kernel_rfl) (by rw [HOP.out]; rfl) (fun K hK => ?_); apply Exists.intro; refine ⟨fun W hSW => ?_, hK _ ?_⟩; (focus ((try dsimp only at hSW); go_simp; try with_reducible rfl)); clear hK K; (try simp only [Act.put, List.setIfInBounds_toArray, List.set_cons_zero, List.set_cons_succ])
              refine ord_take RD 9 (at_list (by rw [HOP.out]; rfl)) HNS.out HPQ.out (by rw [HOP.out]; kernel_rfl) (by rw [HOP.out]; kernel_rfl) (by rw [HOP.out]; rfl) (fun K hK => ?_); apply Exists.intro; refine ⟨fun W hSW => ?_, hK _ ?_⟩; (focus ((try dsimp only at hSW); go_simp; try with_reducible rfl)); clear hK K; (try simp only [Act.put, List.setIfInBounds_toArray, List.set_cons_zero, List.set_cons_succ])
              refine ord_take RD 10 (at_list (by rw [HOP.out]; rfl)) HNS.out HPQ.out (by rw [HOP.out]; kernel_rfl) (by rw [HOP.out]; kernel_rfl) (by rw [HOP.out]; rfl) (fun K hK => ?_); apply Exists.intro; refine ⟨fun W hSW => ?_, hK _ ?_⟩; (focus ((try dsimp only at hSW); go_simp; try with_reducible rfl)); clear hK K; (try simp only [Act.put, List.setIfInBounds_toArray, List.set_cons_zero, List.set_cons_succ])
              refine ord_take RD 11 (at_list (by rw [HOP.out]; rfl)) HNS.out HPQ.out (by rw [HOP.out]; kernel_rfl) (by rw [HOP.out]; kernel_rfl) (by rw [HOP.out]; rfl) (fun K hK => ?_); apply Exists.intro; refine ⟨fun W hSW => ?_, hK _ ?_⟩; (focus ((try dsimp only at hSW); go_simp; try with_reducible rfl)); clear hK K; (try simp only [Act.put, List.setIfInBounds_toArray, List.set_cons_zero, List.set_cons_succ])
              refine ord_take RD 12 (at_list (by rw [HOP.out]; rfl)) HNS.out HPQ.out (by rw [HOP.out]; kernel_rfl) (by rw [HOP.out]; kernel_rfl) (by rw [HOP.out]; rfl) (fun K hK => ?_); apply Exists.intro; refine ⟨fun W hSW => ?_, hK _ ?_⟩; (focus ((try dsimp only at hSW); go_simp; try with_reducible rfl)); clear hK K; (try simp only [Act.put, List.setIfInBounds_toArray, List.set_cons_zero, List.set_cons_succ])
              refine ord_two RD 14 15 (by rw [HOP.out]; kernel_rfl) (at_list (by rw [HOP.out]; rfl)) (at_list (by rw [HOP.out]; rfl)) (by rw [HOP.out]; rfl) (by rw [HOP.out]; rfl) ?_ ?_
              · intro Wn hWW hSW K hK
                (try dsimp only at hSW)
                replace HX := Lib.hid (And.intro (HX.out.1.past hWW) HX.out.2)
                replace HCAL := Lib.hid (cal_past HCAL.out hWW)
                have HS := Lib.hid hSW
                have HY := Lib.hid (And.intro (Lies.fresh Wn 26 [.int .i64 0, .slice none 0 0, .int .i64 0]) (HLE.out _ hSW))
                clear hSW hWW
                go_simp
                refine hK _ _ ⟨HS.out.1.past (grows_alloc _ _), Nat.le_trans HS.out.2 (grows_alloc _ _).size⟩ ?_
                replace HX := Lib.hid (And.intro (HX.out.1.past (grows_alloc _ (.cells #[.int .i64 0, .slice none 0 0, .int .i64 0] 26))) HX.out.2)
                replace HCAL := Lib.hid (cal_past HCAL.out (grows_alloc _ (.cells #[.int .i64 0, .slice none 0 0, .int .i64 0] 26)))
                replace HS := Lib.hid (And.intro (HS.out.1.past (grows_alloc _ (.cells #[.int .i64 0, .slice none 0 0, .int .i64 0] 26))) (Nat.le_trans HS.out.2 (grows_alloc _ (.cells #[.int .i64 0, .slice none 0 0, .int .i64 0] 26)).size))
                clear hK K; (try simp only [Act.put, List.setIfInBounds_toArray, List.set_cons_zero, List.set_cons_succ])
                generalize Wn.heap.size = xY at *
                refine ord_one RD 15 (by rw [HOP.out]; kernel_rfl) (at_list (by rw [HOP.out]; rfl)) (by rw [HOP.out]; rfl) ?_
                · intro Wn hWW hSW K hK
                  (try dsimp only at hSW)
                  replace HX := Lib.hid (And.intro (HX.out.1.past hWW) HX.out.2)
                  replace HCAL := Lib.hid (cal_past HCAL.out hWW)
                  replace HY := Lib.hid (And.intro (HY.out.1.past hWW) HY.out.2)
                  have HS := Lib.hid hSW
                  have HZ := Lib.hid (And.intro (Lies.fresh Wn 29 [.int .i64 0, .slice none 0 0]) (HLE.out _ hSW))
                  clear hSW hWW
                  go_simp
                  refine hK _ _ ⟨HS.out.1.past (grows_alloc _ _), Nat.le_trans HS.out.2 (grows_alloc _ _).size⟩ ?_
                  replace HX := Lib.hid (And.intro (HX.out.1.past (grows_alloc _ (.cells #[.int .i64 0, .slice none 0 0] 29))) HX.out.2)
                  replace HCAL := Lib.hid (cal_past HCAL.out (grows_alloc _ (.cells #[.int .i64 0, .slice none 0 0] 29)))
                  replace HY := Lib.hid (And.intro (HY.out.1.past (grows_alloc _ (.cells #[.int .i64 0, .slice none 0 0] 29))) HY.out.2)
                  replace HS := Lib.hid (And.intro (HS.out.1.past (grows_alloc _ (.cells #[.int .i64 0, .slice none 0 0] 29))) (Nat.le_trans HS.out.2 (grows_alloc _ (.cells #[.int .i64 0, .slice none 0 0] 29)).size))
                  clear hK K; (try simp only [Act.put, List.setIfInBounds_toArray, List.set_cons_zero, List.set_cons_succ])
                  generalize Wn.heap.size = xZ at *
                  exact ord_at (by kernel_rfl) (HREST A1 n1 c1 A2 n2 c2 xX xY xZ _ ⟨HS.out, HCAL.out, HX.out, HY.out, HZ.out⟩)
              · intro Wn hWW hSW K hK
                (try dsimp only at hSW)
                replace HX := Lib.hid (And.intro (HX.out.1.past hWW) HX.out.2)
                replace HCAL := Lib.hid (cal_past HCAL.out hWW)
                have HS := Lib.hid hSW
                have HZ := Lib.hid (And.intro (Lies.fresh Wn 29 [.int .i64 0, .slice none 0 0]) (HLE.out _ hSW))
                clear hSW hWW
                go_simp
                refine hK _ _ ⟨HS.out.1.past (grows_alloc _ _), Nat.le_trans HS.out.2 (grows_alloc _ _).size⟩ ?_
                replace HX := Lib.hid (And.intro (HX.out.1.past (grows_alloc _ (.cells #[.int .i64 0, .slice none 0 0] 29))) HX.out.2)
                replace HCAL := Lib.hid (cal_past HCAL.out (grows_alloc _ (.cells #[.int .i64 0, .slice none 0 0] 29)))
                replace HS := Lib.hid (And.intro (HS.out.1.past (grows_alloc _ (.cells #[.int .i64 0, .slice none 0 0] 29))) (Nat.le_trans HS.out.2 (grows_alloc _ (.cells #[.int .i64 0, .slice none 0 0] 29)).size))
                clear hK K; (try simp only [Act.put, List.setIfInBounds_toArray, List.set_cons_zero, List.set_cons_succ])
                generalize Wn.heap.size = xZ at *
                refine ord_one RD 14 (by rw [HOP.out]; kernel_rfl) (at_list (by rw [HOP.out]; rfl)) (by rw [HOP.out]; rfl) ?_
                · intro Wn hWW hSW K hK
                  (try dsimp only at hSW)
                  replace HX := Lib.hid (And.intro (HX.out.1.past hWW) HX.out.2)
                  replace HCAL := Lib.hid (cal_past HCAL.out hWW)
                  replace HZ := Lib.hid (And.intro (HZ.out.1.past hWW) HZ.out.2)
                  have HS := Lib.hid hSW
                  have HY := Lib.hid (And.intro (Lies.fresh Wn 26 [.int .i64 0, .slice none 0 0, .int .i64 0]) (HLE.out _ hSW))
                  clear hSW hWW
                  go_simp
                  refine hK _ _ ⟨HS.out.1.past (grows_alloc _ _), Nat.le_trans HS.out.2 (grows_alloc _ _).size⟩ ?_
                  replace HX := Lib.hid (And.intro (HX.out.1.past (grows_alloc _ (.cells #[.int .i64 0, .slice none 0 0, .int .i64 0] 26))) HX.out.2)
                  replace HCAL := Lib.hid (cal_past HCAL.out (grows_alloc _ (.cells #[.int .i64 0, .slice none 0 0, .int .i64 0] 26)))
                  replace HZ := Lib.hid (And.intro (HZ.out.1.past (grows_alloc _ (.cells #[.int .i64 0, .slice none 0 0, .int .i64 0] 26))) HZ.out.2)
                  replace HS := Lib.hid (And.intro (HS.out.1.past (grows_alloc _ (.cells #[.int .i64 0, .slice none 0 0, .int .i64 0] 26))) (Nat.le_trans HS.out.2 (grows_alloc _ (.cells #[.int .i64 0, .slice none 0 0, .int .i64 0] 26)).size))
                  clear hK K; (try simp only [Act.put, List.setIfInBounds_toArray, List.set_cons_zero, List.set_cons_succ])
                  generalize Wn.heap.size = xY at *
                  exact ord_at (by kernel_rfl) (HREST A1 n1 c1 A2 n2 c2 xX xY xZ _ ⟨HS.out, HCAL.out, HX.out, HY.out, HZ.out⟩)
            · intro Wn hWW hSW K hK
              (try dsimp only at hSW)
              replace HX := Lib.hid (And.intro (HX.out.1.past hWW) HX.out.2)
              have HS := Lib.hid hSW
              have HY := Lib.hid (And.intro (Lies.fresh Wn 26 [.int .i64 0, .slice none 0 0, .int .i64 0]) (HLE.out _ hSW))
              clear hSW hWW
              go_simp
              refine hK _ _ ⟨HS.out.1.past (grows_alloc _ _), Nat.le_trans HS.out.2 (grows_alloc _ _).size⟩ ?_
              replace HX := Lib.hid (And.intro (HX.out.1.past (grows_alloc _ (.cells #[.int .i64 0, .slice none 0 0, .int .i64 0] 26))) HX.out.2)
              replace HS := Lib.hid (And.intro (HS.out.1.past (grows_alloc _ (.cells #[.int .i64 0, .slice none 0 0, .int .i64 0] 26))) (Nat.le_trans HS.out.2 (grows_alloc _ (.cells #[.int .i64 0, .slice none 0 0, .int .i64 0] 26)).size))
              clear hK K; (try simp only [Act.put, List.setIfInBounds_toArray, List.set_cons_zero, List.set_cons_succ])
              generalize Wn.heap.size = xY at *
              refine ord_two RD 7 15 (by rw [HOP.out]; kernel_rfl) (at_list (by rw [HOP.out]; rfl)) (at_list (by rw [HOP.out]; rfl)) (by rw [HOP.out]; rfl) (by rw [HOP.out]; rfl) ?_ ?_
              · intro Wn hWW hSW K hK
                (try dsimp only at hSW)
                replace HX := Lib.hid (And.intro (HX.out.1.past hWW) HX.out.2)
                replace HY := Lib.hid (And.intro (HY.out.1.past hWW) HY.out.2)
                have HS := Lib.hid hSW
                clear hSW hWW
                go_simp
                refine (Byte_any s.m s.r A n c s.f B q d x _ HS.out.1.i1 HS.out.1.i2 HXB.out.1 HXB.out.2).mono ?_
                rintro e0 Wc ⟨A1, n1, c1, A2, n2, c2, rfl, i1, o1, i2, o2, hb⟩
                simp only [HST.out.1, HST.out.2.1, HST.out.2.2.1, HST.out.2.2.2] at i1 o1 i2 o2 ⊢
                refine hK _ _ ⟨HS.out.1.past hb, Nat.le_trans HS.out.2 hb.size⟩ ?_
                replace HX := Lib.hid (And.intro (HX.out.1.past hb) HX.out.2)
                replace HY := Lib.hid (And.intro (HY.out.1.past hb) HY.out.2)
                have HCAL := Lib.hid (cal_mk i1 (o1.mono HS.out.1.hb.size) i2 (o2.mono HS.out.1.hb.size))
                replace HS := Lib.hid (And.intro (HS.out.1.past hb) (Nat.le_trans HS.out.2 hb.size))
                clear i1 o1 i2 o2 hb
                clear hK K; (try simp only [Act.put, List.setIfInBounds_toArray, List.set_cons_zero, List.set_cons_succ])
                refine ord_take RD 8 (at_list (by rw [HOP.out]; rfl)) HNS.out HPQ.out (by rw [HOP.out]; kernel_rfl) (by rw [HOP.out]; kernel_rfl) (by rw [HOP.out]; rfl) (fun K hK => ?_); apply Exists.intro; refine ⟨fun W hSW => ?_, hK _ ?_⟩; (focus ((try dsimp only at hSW); go_simp; try with_reducible rfl)); clear hK K; (try simp only [Act.put, List.setIfInBounds_toArray, List.set_cons_zero, List.set_cons_succ])
                refine ord_take RD 9 (at_list (by rw [HOP.out]; rfl)) HNS.out HPQ.out (by rw [HOP.out]; kernel_rfl) (by rw [HOP.out]; kernel_rfl) (by rw [HOP.out]; rfl) (fun K hK => ?_); apply Exists.intro; refine ⟨fun W hSW => ?_, hK _ ?_⟩; (focus ((try dsimp only at hSW); go_simp; try with_reducible rfl)); clear hK K; (try simp only [Act.put, List.setIfInBounds_toArray, List.set_cons_zero, List.set_cons_succ])
                refine ord_take RD 10 (at_list (by rw [HOP.out]; rfl)) HNS.out HPQ.out (by rw [HOP.out]; kernel_rfl) (by rw [HOP.out]; kernel_rfl) (by rw [HOP.out]; rfl) (fun K hK => ?_); apply Exists.intro; refine ⟨fun W hSW => ?_, hK _ ?_⟩; (focus ((try dsimp only at hSW); go_simp; try with_reducible rfl)); clear hK K; (try simp only [Act.put, List.setIfInBounds_toArray, List.set_cons_zero, List.set_cons_succ])
                refine ord_take RD 11 (at_list (by rw [HOP.out]; rfl)) HNS.out HPQ.out (by rw [HOP.out]; kernel_rfl) (by rw [HOP.out]; kernel_rfl) (by rw [HOP.out]; rfl) (fun K hK => ?_); apply Exists.intro; refine ⟨fun W hSW => ?_, hK _ ?_⟩; (focus ((try dsimp only at hSW); go_simp; try with_reducible rfl)); clear hK K; (try simp only [Act.put, List.setIfInBounds_toArray, List.set_cons_zero, List.set_cons_succ])
                refine ord_take RD 12 (at_list (by rw [HOP.out]; rfl)) HNS.out HPQ.out (by rw [HOP.out]; kernel_rfl) (by rw [HOP.out]; kernel_rfl) (by rw [HOP.out]; rfl) (fun K hK => ?_); apply Exists.intro; refine ⟨fun W hSW => ?_, hK _ ?_⟩; (focus ((try dsimp only at hSW); go_simp; try with_reducible rfl)); clear hK K; (try simp only [Act.put, List.setIfInBounds_toArray, List.set_cons_zero, List.set_cons_succ])
                refine ord_one RD 15 (by rw [HOP.out]; kernel_rfl) (at_list (by rw [HOP.out]; rfl)) (by rw [HOP.out]; rfl) ?_
                · intro Wn hWW hSW K hK
                  (try dsimp only at hSW)
                  replace HX := Lib.hid (And.intro (HX.out.1.past hWW) HX.out.2)
                  replace HY := Lib.hid (And.intro (HY.out.1.past hWW) HY.out.2)
                  replace HCAL := Lib.hid (cal_past HCAL.out hWW)
                  have HS := Lib.hid hSW
                  have HZ := Lib.hid (And.intro (Lies.fresh Wn 29 [.int .i64 0, .slice none 0 0]) (HLE.out _ hSW))
                  clear hSW hWW
                  go_simp
                  refine hK _ _ ⟨HS.out.1.past (grows_alloc _ _), Nat.le_trans HS.out.2 (grows_alloc _ _).size⟩ ?_
                  replace HX := Lib.hid (And.intro (HX.out.1.past (grows_alloc _ (.cells #[.int .i64 0, .slice none 0 0] 29))) HX.out.2)
                  replace HY := Lib.hid (And.intro (HY.out.1.past (grows_alloc _ (.cells #[.int .i64 0, .slice none 0 0] 29))) HY.out.2)
                  replace HCAL := Lib.hid (cal_past HCAL.out (grows_alloc _ (.cells #[.int .i64 0, .slice none 0 0] 29)))
                  replace HS := Lib.hid (And.intro (HS.out.1.past (grows_alloc _ (.cells #[.int .i64 0, .slice none 0 0] 29))) (Nat.le_trans HS.out.2 (grows_alloc _ (.cells #[.int .i64 0, .slice none 0 0] 29)).size))
                  clear hK K; (try simp only [Act.put, List.setIfInBounds_toArray, List.set_cons_zero, List.set_cons_succ])
                  generalize Wn.heap.size = xZ at *
                  exact ord_at (by kernel_rfl) (HREST A1 n1 c1 A2 n2 c2 xX xY xZ _ ⟨HS.out, HCAL.out, HX.out, HY.out, HZ.out⟩)
              · intro Wn hWW hSW K hK
                (try dsimp only at hSW)
                replace HX := Lib.hid (And.intro (HX.out.1.past hWW) HX.out.2)
                replace HY := Lib.hid (And.intro (HY.out.1.past hWW) HY.out.2)
                have HS := Lib.hid hSW
                have HZ := Lib.hid (And.intro (Lies.fresh Wn 29 [.int .i64 0, .slice none 0 0]) (HLE.out _ hSW))
                clear hSW hWW
                go_simp
                refine hK _ _ ⟨HS.out.1.past (grows_alloc _ _), Nat.le_trans HS.out.2 (grows_alloc _ _).size⟩ ?_
                replace HX := Lib.hid (And.intro (HX.out.1.past (grows_alloc _ (.cells #[.int .i64 0, .slice none 0 0] 29))) HX.out.2)
                replace HY := Lib.hid (And.intro (HY.out.1.past (grows_alloc _ (.cells #[.int .i64 0, .slice none 0 0] 29))) HY.out.2)
                replace HS := Lib.hid (And.intro (HS.out.1.past (grows_alloc _ (.cells #[.int .i64 0, .slice none 0 0] 29))) (Nat.le_trans HS.out.2 (grows_alloc _ (.cells #[.int .i64 0, .slice none 0 0] 29)).size))
                clear hK K; (try simp only [Act.put, List.setIfInBounds_toArray, List.set_cons_zero, List.set_cons_succ])
                generalize Wn.heap.size = xZ at *
                refine ord_one RD 7 (by rw [HOP.out]; kernel_rfl) (at_list (by rw [HOP.out]; rfl)) (by rw [HOP.out]; rfl) ?_
                · intro Wn hWW hSW K hK
                  (try dsimp only at hSW)
                  replace HX := Lib.hid (And.intro (HX.out.1.past hWW) HX.out.2)
                  replace HY := Lib.hid (And.intro (HY.out.1.past hWW) HY.out.2)
                  replace HZ := Lib.hid (And.intro (HZ.out.1.past hWW) HZ.out.2)
                  have HS := Lib.hid hSW
                  clear hSW hWW
                  go_simp
                  refine (Byte_any s.m s.r A n c s.f B q d x _ HS.out.1.i1 HS.out.1.i2 HXB.out.1 HXB.out.2).mono ?_
                  rintro e0 Wc ⟨A1, n1, c1, A2, n2, c2, rfl, i1, o1, i2, o2, hb⟩
                  simp only [HST.out.1, HST.out.2.1, HST.out.2.2.1, HST.out.2.2.2] at i1 o1 i2 o2 ⊢
                  refine hK _ _ ⟨HS.out.1.past hb, Nat.le_trans HS.out.2 hb.size⟩ ?_
                  replace HX := Lib.hid (And.intro (HX.out.1.past hb) HX.out.2)
                  replace HY := Lib.hid (And.intro (HY.out.1.past hb) HY.out.2)
                  replace HZ := Lib.hid (And.intro (HZ.out.1.past hb) HZ.out.2)
                  have HCAL := Lib.hid (cal_mk i1 (o1.mono HS.out.1.hb.size) i2 (o2.mono HS.out.1.hb.size))
                  replace HS := Lib.hid (And.intro (HS.out.1.past hb) (Nat.le_trans HS.out.2 hb.size))
                  clear i1 o1 i2 o2 hb
                  clear hK K; (try simp only [Act.put, List.setIfInBounds_toArray, List.set_cons_zero, List.set_cons_succ])
                  refine ord_take RD 8 (at_list (by rw [HOP.out]; rfl)) HNS.out HPQ.out (by rw [HOP.out]; kernel_rfl) (by rw [HOP.out]; kernel_rfl) (by rw [HOP.out]; rfl) (fun K hK => ?_); apply Exists.intro; refine ⟨fun W hSW => ?_, hK _ ?_⟩; (focus ((try dsimp only at hSW); go_simp; try with_reducible rfl)); clear hK K; (try simp only [Act.put, List.setIfInBounds_toArray, List.set_cons_zero, List.set_cons_succ])
                  refine ord_take RD 9 (at_list (by rw [HOP.out]; rfl)) HNS.out HPQ.out (by rw [HOP.out]; kernel_rfl) (by rw [HOP.out]; kernel_rfl) (by rw [HOP.out]; rfl) (fun K hK => ?_); apply Exists.intro; refine ⟨fun W hSW => ?_, hK _ ?_⟩; (focus ((try dsimp only at hSW); go_simp; try with_reducible rfl)); clear hK K; (try simp only [Act.put, List.setIfInBounds_toArray, List.set_cons_zero, List.set_cons_succ])
                  refine ord_take RD 10 (at_list (by rw [HOP.out]; rfl)) HNS.out HPQ.out (by rw [HOP.out]; kernel_rfl) (by rw [HOP.out]; kernel_rfl) (by rw [HOP.out]; rfl) (fun K hK => ?_); apply Exists.intro; refine ⟨fun W hSW => ?_, hK _ ?_⟩; (focus ((try dsimp only at hSW); go_simp; try with_reducible rfl)); clear hK K; (try simp only [Act.put, List.setIfInBounds_toArray, List.set_cons_zero, List.set_cons_succ])
                  refine ord_take RD 11 (at_list (by rw [HOP.out]; rfl)) HNS.out HPQ.out (by rw [HOP.out]; kernel_rfl) (by rw [HOP.out]; kernel_rfl) (by rw [HOP.out]; rfl) (fun K hK => ?_); apply Exists.intro; refine ⟨fun W hSW => ?_, hK _ ?_⟩; (focus ((try dsimp only at hSW); go_simp; try with_reducible rfl)); clear hK K; (try simp only [Act.put, List.setIfInBounds_toArray, List.set_cons_zero, List.set_cons_succ])
                  refine ord_take RD 12 (at_list (by rw [HOP.out]; rfl)) HNS.out HPQ.out (by rw [HOP.out]; kernel_rfl) (by rw [HOP.out]; kernel_rfl) (by rw [HOP.out]; rfl) (fun K hK => ?_); apply Exists.intro; refine ⟨fun W hSW => ?_, hK _ ?_⟩; (focus ((try dsimp only at hSW); go_simp; try with_reducible rfl)); clear hK K; (try simp only [Act.put, List.setIfInBounds_toArray, List.set_cons_zero, List.set_cons_succ])
                  exact ord_at (by kernel_rfl) (HREST A1 n1 c1 A2 n2 c2 xX xY xZ _ ⟨HS.out, HCAL.out, HX.out, HY.out, HZ.out⟩)
            · intro Wn hWW hSW K hK
              (try dsimp only at hSW)
              replace HX := Lib.hid (And.intro (HX.out.1.past hWW) HX.out.2)
              have HS := Lib.hid hSW
              have HZ := Lib.hid (And.intro (Lies.fresh Wn 29 [.int .i64 0, .slice none 0 0]) (HLE.out _ hSW))
              clear hSW hWW
              go_simp
              refine hK _ _ ⟨HS.out.1.past (grows_alloc _ _), Nat.le_trans HS.out.2 (grows_alloc _ _).size⟩ ?_
              replace HX := Lib.hid (And.intro (HX.out.1.past (grows_alloc _ (.cells #[.int .i64 0, .slice none 0 0] 29))) HX.out.2)
              replace HS := Lib.hid (And.intro (HS.out.1.past (grows_alloc _ (.cells #[.int .i64 0, .slice none 0 0] 29))) (Nat.le_trans HS.out.2 (grows_alloc _ (.cells #[.int .i64 0, .slice none 0 0] 29)).size))
              clear hK K; (try simp only [Act.put, List.setIfInBounds_toArray, List.set_cons_zero, List.set_cons_succ])
              generalize Wn.heap.size = xZ at *
              refine ord_two RD 7 14 (by rw [HOP.out]; kernel_rfl) (at_list (by rw [HOP.out]; rfl)) (at_list (by rw [HOP.out]; rfl)) (by rw [HOP.out]; rfl) (by rw [HOP.out]; rfl) ?_ ?_
              · intro Wn hWW hSW K hK
                (try dsimp only at hSW)
                replace HX := Lib.hid (And.intro (HX.out.1.past hWW) HX.out.2)
                replace HZ := Lib.hid (And.intro (HZ.out.1.past hWW) HZ.out.2)
                have HS := Lib.hid hSW
                clear hSW hWW
                go_simp
                refine (Byte_any s.m s.r A n c s.f B q d x _ HS.out.1.i1 HS.out.1.i2 HXB.out.1 HXB.out.2).mono ?_
                rintro e0 Wc ⟨A1, n1, c1, A2, n2, c2, rfl, i1, o1, i2, o2, hb⟩
                simp only [HST.out.1, HST.out.2.1, HST.out.2.2.1, HST.out.2.2.2] at i1 o1 i2 o2 ⊢
                refine hK _ _ ⟨HS.out.1.past hb, Nat.le_trans HS.out.2 hb.size⟩ ?_
                replace HX := Lib.hid (And.intro (HX.out.1.past hb) HX.out.2)
                replace HZ := Lib.hid (And.intro (HZ.out.1.past hb) HZ.out.2)
                have HCAL := Lib.hid (cal_mk i1 (o1.mono HS.out.1.hb.size) i2 (o2.mono HS.out.1.hb.size))
                replace HS := Lib.hid (And.intro (HS.out.1.past hb) (Nat.le_trans HS.out.2 hb.size))
                clear i1 o1 i2 o2 hb
                clear hK K; (try simp only [Act.put, List.setIfInBounds_toArray, List.set_cons_zero, List.set_cons_succ])
                refine ord_take RD 8 (at_list (by rw [HOP.out]; rfl)) HNS.out HPQ.out (by rw [HOP.out]; kernel_rfl) (by rw [HOP.out]; kernel_rfl) (by rw [HOP.out]; rfl) (fun K hK => ?_); apply Exists.intro; refine ⟨fun W hSW => ?_, hK _ ?_⟩; (focus ((try dsimp only at hSW); go_simp; try with_reducible rfl)); clear hK K; (try simp only [Act.put, List.setIfInBounds_toArray, List.set_cons_zero, List.set_cons_succ])
                refine ord_take RD 9 (at_list (by rw [HOP.out]; rfl)) HNS.out HPQ.out (by rw [HOP.out]; kernel_rfl) (by rw [HOP.out]; kernel_rfl) (by rw [HOP.out]; rfl) (fun K hK => ?_); apply Exists.intro; refine ⟨fun W hSW => ?_, hK _ ?_⟩; (focus ((try dsimp only at hSW); go_simp; try with_reducible rfl)); clear hK K; (try simp only [Act.put, List.setIfInBounds_toArray, List.set_cons_zero, List.set_cons_succ])
                refine ord_take RD 10 (at_list (by rw [HOP.out]; rfl)) HNS.out HPQ.out (by rw [HOP.out]; kernel_rfl) (by rw [HOP.out]; kernel_rfl) (by rw [HOP.out]; rfl) (fun K hK => ?_); apply Exists.intro; refine ⟨fun W hSW => ?_, hK _ ?_⟩; (focus ((try dsimp only at hSW); go_simp; try with_reducible rfl)); clear hK K; (try simp only [Act.put, List.setIfInBounds_toArray, List.set_cons_zero, List.set_cons_succ])
                refine ord_take RD 11 (at_list (by rw [HOP.out]; rfl)) HNS.out HPQ.out (by rw [HOP.out]; kernel_rfl) (by rw [HOP.out]; kernel_rfl) (by rw [HOP.out]; rfl) (fun K hK => ?_); apply Exists.intro; refine ⟨fun W hSW => ?_, hK _ ?_⟩; (focus ((try dsimp only at hSW); go_simp; try with_reducible rfl)); clear hK K; (try simp only [Act.put, List.setIfInBounds_toArray, List.set_cons_zero, List.set_cons_succ])
                refine ord_take RD 12 (at_list (by rw [HOP.out]; rfl)) HNS.out HPQ.out (by rw [HOP.out]; kernel_rfl) (by rw [HOP.out]; kernel_rfl) (by rw [HOP.out]; rfl) (fun K hK => ?_); apply Exists.intro; refine ⟨fun W hSW => ?_, hK _ ?_⟩; (focus ((try dsimp only at hSW); go_simp; try with_reducible rfl)); clear hK K; (try simp only [Act.put, List.setIfInBounds_toArray, List.set_cons_zero, List.set_cons_succ])
                refine ord_one RD 14 (by rw [HOP.out]; kernel_rfl) (at_list (by rw [HOP.out]; rfl)) (by rw [HOP.out]; rfl) ?_
                · intro Wn hWW hSW K hK
                  (try dsimp only at hSW)
                  replace HX := Lib.hid (And.intro (HX.out.1.past hWW) HX.out.2)
                  replace HZ := Lib.hid (And.intro (HZ.out.1.past hWW) HZ.out.2)
                  replace HCAL := Lib.hid (cal_past HCAL.out hWW)
                  have HS := Lib.hid hSW
                  have HY := Lib.hid (And.intro (Lies.fresh Wn 26 [.int .i64 0, .slice none 0 0, .int .i64 0]) (HLE.out _ hSW))
                  clear hSW hWW
                  go_simp
                  refine hK _ _ ⟨HS.out.1.past (grows_alloc _ _), Nat.le_trans HS.out.2 (grows_alloc _ _).size⟩ ?_
                  replace HX := Lib.hid (And.intro (HX.out.1.past (grows_alloc _ (.cells #[.int .i64 0, .slice none 0 0, .int .i64 0] 26))) HX.out.2)
                  replace HZ := Lib.hid (And.intro (HZ.out.1.past (grows_alloc _ (.cells #[.int .i64 0, .slice none 0 0, .int .i64 0] 26))) HZ.out.2)
                  replace HCAL := Lib.hid (cal_past HCAL.out (grows_alloc _ (.cells #[.int .i64 0, .slice none 0 0, .int .i64 0] 26)))
                  replace HS := Lib.hid (And.intro (HS.out.1.past (grows_alloc _ (.cells #[.int .i64 0, .slice none 0 0, .int .i64 0] 26))) (Nat.le_trans HS.out.2 (grows_alloc _ (.cells #[.int .i64 0, .slice none 0 0, .int .i64 0] 26)).size))
                  clear hK K; (try simp only [Act.put, List.setIfInBounds_toArray, List.set_cons_zero, List.set_cons_succ])
                  generalize Wn.heap.size = xY at *
                  exact ord_at (by kernel_rfl) (HREST A1 n1 c1 A2 n2 c2 xX xY xZ _ ⟨HS.out, HCAL.out, HX.out, HY.out, HZ.out⟩)
              · intro Wn hWW hSW K hK
                (try dsimp only at hSW)
                replace HX := Lib.hid (And.intro (HX.out.1.past hWW) HX.out.2)
                replace HZ := Lib.hid (And.intro (HZ.out.1.past hWW) HZ.out.2)
                have HS := Lib.hid hSW
                have HY := Lib.hid (And.intro (Lies.fresh Wn 26 [.int .i64 0, .slice none 0 0, .int .i64 0]) (HLE.out _ hSW))
                clear hSW hWW
                go_simp
                refine hK _ _ ⟨HS.out.1.past (grows_alloc _ _), Nat.le_trans HS.out.2 (grows_alloc _ _).size⟩ ?_
                replace HX := Lib.hid (And.intro (HX.out.1.past (grows_alloc _ (.cells #[.int .i64 0, .slice none 0 0, .int .i64 0] 26))) HX.out.2)
                replace HZ := Lib.hid (And.intro (HZ.out.1.past (grows_alloc _ (.cells #[.int .i64 0, .slice none 0 0, .int .i64 0] 26))) HZ.out.2)
                replace HS := Lib.hid (And.intro (HS.out.1.past (grows_alloc _ (.cells #[.int .i64 0, .slice none 0 0, .int .i64 0] 26))) (Nat.le_trans HS.out.2 (grows_alloc _ (.cells #[.int .i64 0, .slice none 0 0, .int .i64 0] 26)).size))
                clear hK K; (try simp only [Act.put, List.setIfInBounds_toArray, List.set_cons_zero, List.set_cons_succ])
                generalize Wn.heap.size = xY at *
                refine ord_one RD 7 (by rw [HOP.out]; kernel_rfl) (at_list (by rw [HOP.out]; rfl)) (by rw [HOP.out]; rfl) ?_
                · intro Wn hWW hSW K hK
                  (try dsimp only at hSW)
                  replace HX := Lib.hid (And.intro (HX.out.1.past hWW) HX.out.2)
                  replace HZ := Lib.hid (And.intro (HZ.out.1.past hWW) HZ.out.2)
                  replace HY := Lib.hid (And.intro (HY.out.1.past hWW) HY.out.2)
                  have HS := Lib.hid hSW
                  clear hSW hWW
                  go_simp
                  refine (Byte_any s.m s.r A n c s.f B q d x _ HS.out.1.i1 HS.out.1.i2 HXB.out.1 HXB.out.2).mono ?_
                  rintro e0 Wc ⟨A1, n1, c1, A2, n2, c2, rfl, i1, o1, i2, o2, hb⟩
                  simp only [HST.out.1, HST.out.2.1, HST.out.2.2.1, HST.out.2.2.2] at i1 o1 i2 o2 ⊢
                  refine hK _ _ ⟨HS.out.1.past hb, Nat.le_trans HS.out.2 hb.size⟩ ?_
                  replace HX := Lib.hid (And.intro (HX.out.1.past hb) HX.out.2)
                  replace HZ := Lib.hid (And.intro (HZ.out.1.past hb) HZ.out.2)
                  replace HY := Lib.hid (And.intro (HY.out.1.past hb) HY.out.2)
                  have HCAL := Lib.hid (cal_mk i1 (o1.mono HS.out.1.hb.size) i2 (o2.mono HS.out.1.hb.size))
                  replace HS := Lib.hid (And.intro (HS.out.1.past hb) (Nat.le_trans HS.out.2 hb.size))
                  clear i1 o1 i2 o2 hb
                  clear hK K; (try simp only [Act.put, List.setIfInBounds_toArray, List.set_cons_zero, List.set_cons_succ])
                  refine ord_take RD 8 (at_list (by rw [HOP.out]; rfl)) HNS.out HPQ.out (by rw [HOP.out]; kernel_rfl) (by rw [HOP.out]; kernel_rfl) (by rw [HOP.out]; rfl) (fun K hK => ?_); apply Exists.intro; refine ⟨fun W hSW => ?_, hK _ ?_⟩; (focus ((try dsimp only at hSW); go_simp; try with_reducible rfl)); clear hK K; (try simp only [Act.put, List.setIfInBounds_toArray, List.set_cons_zero, List.set_cons_succ])
                  refine ord_take RD 9 (at_list (by rw [HOP.out]; rfl)) HNS.out HPQ.out (by rw [HOP.out]; kernel_rfl) (by rw [HOP.out]; kernel_rfl) (by rw [HOP.out]; rfl) (fun K hK => ?_); apply Exists.intro; refine ⟨fun W hSW => ?_, hK _ ?_⟩; (focus ((try dsimp only at hSW); go_simp; try with_reducible rfl)); clear hK K; (try simp only [Act.put, List.setIfInBounds_toArray, List.set_cons_zero, List.set_cons_succ])
                  refine ord_take RD 10 (at_list (by rw [HOP.out]; rfl)) HNS.out HPQ.out (by rw [HOP.out]; kernel_rfl) (by rw [HOP.out]; kernel_rfl) (by rw [HOP.out]; rfl) (fun K hK => ?_); apply Exists.intro; refine ⟨fun W hSW => ?_, hK _ ?_⟩; (focus ((try dsimp only at hSW); go_simp; try with_reducible rfl)); clear hK K; (try simp only [Act.put, List.setIfInBounds_toArray, List.set_cons_zero, List.set_cons_succ])
                  refine ord_take RD 11 (at_list (by rw [HOP.out]; rfl)) HNS.out HPQ.out (by rw [HOP.out]; kernel_rfl) (by rw [HOP.out]; kernel_rfl) (by rw [HOP.out]; rfl) (fun K hK => ?_); apply Exists.intro; refine ⟨fun W hSW => ?_, hK _ ?_⟩; (focus ((try dsimp only at hSW); go_simp; try with_reducible rfl)); clear hK K; (try simp only [Act.put, List.setIfInBounds_toArray, List.set_cons_zero, List.set_cons_succ])
                  refine ord_take RD 12 (at_list (by rw [HOP.out]; rfl)) HNS.out HPQ.out (by rw [HOP.out]; kernel_rfl) (by rw [HOP.out]; kernel_rfl) (by rw [HOP.out]; rfl) (fun K hK => ?_); apply Exists.intro; refine ⟨fun W hSW => ?_, hK _ ?_⟩; (focus ((try dsimp only at hSW); go_simp; try with_reducible rfl)); clear hK K; (try simp only [Act.put, List.setIfInBounds_toArray, List.set_cons_zero, List.set_cons_succ])
                  exact ord_at (by kernel_rfl) (HREST A1 n1 c1 A2 n2 c2 xX xY xZ _ ⟨HS.out, HCAL.out, HX.out, HY.out, HZ.out⟩)
          · intro Wn hWW hSW K hK
            (try dsimp only at hSW)
            have HS := Lib.hid hSW
            have HY := Lib.hid (And.intro (Lies.fresh Wn 26 [.int .i64 0, .slice none 0 0, .int .i64 0]) (HLE.out _ hSW))
            clear hSW hWW
            go_simp
            refine hK _ _ ⟨HS.out.1.past (grows_alloc _ _), Nat.le_trans HS.out.2 (grows_alloc _ _).size⟩ ?_
            replace HS := Lib.hid (And.intro (HS.out.1.past (grows_alloc _ (.cells #[.int .i64 0, .slice none 0 0, .int .i64 0] 26))) (Nat.le_trans HS.out.2 (grows_alloc _ (.cells #[.int .i64 0, .slice none 0 0, .int .i64 0] 26)).size))
            clear hK K; (try simp only [Act.put, List.setIfInBounds_toArray, List.set_cons_zero, List.set_cons_succ])
            generalize Wn.heap.size = xY at *
            refine ord_three RD 7 13 15 (by rw [HOP.out]; kernel_rfl) (at_list (by rw [HOP.out]; rfl)) (at_list (by rw [HOP.out]; rfl)) (at_list (by rw [HOP.out]; rfl)) (by rw [HOP.out]; rfl) (by rw [HOP.out]; rfl) (by rw [HOP.out]; rfl) ?_ ?_ ?_
            · intro Wn hWW hSW K hK
              (try dsimp only at hSW)
              replace HY := Lib.hid (And.intro (HY.out.1.past hWW) HY.out.2)
              have HS := Lib.hid hSW
              clear hSW hWW
              go_simp
              refine (Byte_any s.m s.r A n c s.f B q d x _ HS.out.1.i1 HS.out.1.i2 HXB.out.1 HXB.out.2).mono ?_
              rintro e0 Wc ⟨A1, n1, c1, A2, n2, c2, rfl, i1, o1, i2, o2, hb⟩
              simp only [HST.out.1, HST.out.2.1, HST.out.2.2.1, HST.out.2.2.2] at i1 o1 i2 o2 ⊢
              refine hK _ _ ⟨HS.out.1.past hb, Nat.le_trans HS.out.2 hb.size⟩ ?_
              replace HY := Lib.hid (And.intro (HY.out.1.past hb) HY.out.2)
              have HCAL := Lib.hid (cal_mk i1 (o1.mono HS.out.1.hb.size) i2 (o2.mono HS.out.1.hb.size))
              replace HS := Lib.hid (And.intro (HS.out.1.past hb) (Nat.le_trans HS.out.2 hb.size))
              clear i1 o1 i2 o2 hb
              clear hK K; (try simp only [Act.put, List.setIfInBounds_toArray, List.set_cons_zero, List.set_cons_succ])
              refine ord_take RD 8 (at_list (by rw [HOP.out]; rfl)) HNS.out HPQ.out (by rw [HOP.out]; kernel_rfl) (by rw [HOP.out]; kernel_rfl) (by rw [HOP.out]; rfl) (fun K hK => ?_); apply Exists.intro; refine ⟨fun W hSW => ?_, hK _ ?_⟩; (focus ((try dsimp only at hSW); go_simp; try with_reducible rfl)); clear hK K; (try simp only [Act.put, List.setIfInBounds_toArray, List.set_cons_zero, List.set_cons_succ])
              refine ord_take RD 9 (at_list (by rw [HOP.out]; rfl)) HNS.out HPQ.out (by rw [HOP.out]; kernel_rfl) (by rw [HOP.out]; kernel_rfl) (by rw [HOP.out]; rfl) (fun K hK => ?_); apply Exists.intro; refine ⟨fun W hSW => ?_, hK _ ?_⟩; (focus ((try dsimp only at hSW); go_simp; try with_reducible rfl)); clear hK K; (try simp only [Act.put, List.setIfInBounds_toArray, List.set_cons_zero, List.set_cons_succ])
              refine ord_take RD 10 (at_list (by rw [HOP.out]; rfl)) HNS.out HPQ.out (by rw [HOP.out]; kernel_rfl) (by rw [HOP.out]; kernel_rfl) (by rw [HOP.out]; rfl) (fun K hK => ?_); apply Exists.intro; refine ⟨fun W hSW => ?_, hK _ ?_⟩; (focus ((try dsimp only at hSW); go_simp; try with_reducible rfl)); clear hK K; (try simp only [Act.put, List.setIfInBounds_toArray, List.set_cons_zero, List.set_cons_succ])
              refine ord_take RD 11 (at_list (by rw [HOP.out]; rfl)) HNS.out HPQ.out (by rw [HOP.out]; kernel_rfl) (by rw [HOP.out]; kernel_rfl) (by rw [HOP.out]; rfl) (fun K hK => ?_); apply Exists.intro; refine ⟨fun W hSW => ?_, hK _ ?_⟩; (focus ((try dsimp only at hSW); go_simp; try with_reducible rfl)); clear hK K; (try simp only [Act.put, List.setIfInBounds_toArray, List.set_cons_zero, List.set_cons_succ])
              refine ord_take RD 12 (at_list (by rw [HOP.out]; rfl)) HNS.out HPQ.out (by rw [HOP.out]; kernel_rfl) (by rw [HOP.out]; kernel_rfl) (by rw [HOP.out]; rfl) (fun K hK => ?_); apply Exists.intro; refine ⟨fun W hSW => ?_, hK _ ?_⟩; (focus ((try dsimp only at hSW); go_simp; try with_reducible rfl)); clear hK K; (try simp only [Act.put, List.setIfInBounds_toArray, List.set_cons_zero, List.set_cons_succ])
              refine ord_two RD 13 15 (by rw [HOP.out]; kernel_rfl) (at_list (by rw [HOP.out]; rfl)) (at_list (by rw [HOP.out]; rfl)) (by rw [HOP.out]; rfl) (by rw [HOP.out]; rfl) ?_ ?_
              · intro Wn hWW hSW K hK
                (try dsimp only at hSW)
                replace HY := Lib.hid (And.intro (HY.out.1.past hWW) HY.out.2)
                replace HCAL := Lib.hid (cal_past HCAL.out hWW)
                have HS := Lib.hid hSW
                have HX := Lib.hid (And.intro (Lies.fresh Wn 23 [.int .i64 0, .int .i64 0]) (HLE.out _ hSW))
                clear hSW hWW
                go_simp
                refine hK _ _ ⟨HS.out.1.past (grows_alloc _ _), Nat.le_trans HS.out.2 (grows_alloc _ _).size⟩ ?_
                replace HY := Lib.hid (And.intro (HY.out.1.past (grows_alloc _ (.cells #[.int .i64 0, .int .i64 0] 23))) HY.out.2)
                replace HCAL := Lib.hid (cal_past HCAL.out (grows_alloc _ (.cells #[.int .i64 0, .int .i64 0] 23)))
                replace HS := Lib.hid (And.intro (HS.out.1.past (grows_alloc _ (.cells #[.int .i64 0, .int .i64 0] 23))) (Nat.le_trans HS.out.2 (grows_alloc _ (.cells #[.int .i64 0, .int .i64 0] 23)).size))
                clear hK K; (try simp only [Act.put, List.setIfInBounds_toArray, List.set_cons_zero, List.set_cons_succ])
                generalize Wn.heap.size = xX at *
                refine ord_one RD 15 (by rw [HOP.out]; kernel_rfl) (at_list (by rw [HOP.out]; rfl)) (by rw [HOP.out]; rfl) ?_
                · intro Wn hWW hSW K hK
                  (try dsimp only at hSW)
                  replace HY := Lib.hid (And.intro (HY.out.1.past hWW) HY.out.2)
                  replace HCAL := Lib.hid (cal_past HCAL.out hWW)
                  replace HX := Lib.hid (And.intro (HX.out.1.past hWW) HX.out.2)
                  have HS := Lib.hid hSW
                  have HZ := Lib.hid (And.intro (Lies.fresh Wn 29 [.int .i64 0, .slice none 0 0]) (HLE.out _ hSW))
                  clear hSW hWW
                  go_simp
                  refine hK _ _ ⟨HS.out.1.past (grows_alloc _ _), Nat.le_trans HS.out.2 (grows_alloc _ _).size⟩ ?_
                  replace HY := Lib.hid (And.intro (HY.out.1.past (grows_alloc _ (.cells #[.int .i64 0, .slice none 0 0] 29))) HY.out.2)
                  replace HCAL := Lib.hid (cal_past HCAL.out (grows_alloc _ (.cells #[.int .i64 0, .slice none 0 0] 29)))
                  replace HX := Lib.hid (And.intro (HX.out.1.past (grows_alloc _ (.cells #[.int .i64 0, .slice none 0 0] 29))) HX.out.2)
                  replace HS := Lib.hid (And.intro (HS.out.1.past (grows_alloc _ (.cells #[.int .i64 0, .slice none 0 0] 29))) (Nat.le_trans HS.out.2 (grows_alloc _ (.cells #[.int .i64 0, .slice none 0 0] 29)).size))
                  clear hK K; (try simp only [Act.put, List.setIfInBounds_toArray, List.set_cons_zero, List.set_cons_succ])
                  generalize Wn.heap.size = xZ at *
                  exact ord_at (by kernel_rfl) (HREST A1 n1 c1 A2 n2 c2 xX xY xZ _ ⟨HS.out, HCAL.out, HX.out, HY.out, HZ.out⟩)
              · intro Wn hWW hSW K hK
                (try dsimp only at hSW)
                replace HY := Lib.hid (And.intro (HY.out.1.past hWW) HY.out.2)
                replace HCAL := Lib.hid (cal_past HCAL.out hWW)
                have HS := Lib.hid hSW
                have HZ := Lib.hid (And.intro (Lies.fresh Wn 29 [.int .i64 0, .slice none 0 0]) (HLE.out _ hSW))
                clear hSW hWW
                go_simp
                refine hK _ _ ⟨HS.out.1.past (grows_alloc _ _), Nat.le_trans HS.out.2 (grows_alloc _ _).size⟩ ?_
                replace HY := Lib.hid (And.intro (HY.out.1.past (grows_alloc _ (.cells #[.int .i64 0, .slice none 0 0] 29))) HY.out.2)
                replace HCAL := Lib.hid (cal_past HCAL.out (grows_alloc _ (.cells #[.int .i64 0, .slice none 0 0] 29)))
                replace HS := Lib.hid (And.intro (HS.out.1.past (grows_alloc _ (.cells #[.int .i64 0, .slice none 0 0] 29))) (Nat.le_trans HS.out.2 (grows_alloc _ (.cells #[.int .i64 0, .slice none 0 0] 29)).size))
                clear hK K; (try simp only [Act.put, List.setIfInBounds_toArray, List.set_cons_zero, List.set_cons_succ])
                generalize Wn.heap.size = xZ at *
                refine ord_one RD 13 (by rw [HOP.out]; kernel_rfl) (at_list (by rw [HOP.out]; rfl)) (by rw [HOP.out]; rfl) ?_
                · intro Wn hWW hSW K hK
                  (try dsimp only at hSW)
                  replace HY := Lib.hid (And.intro (HY.out.1.past hWW) HY.out.2)
                  replace HCAL := Lib.hid (cal_past HCAL.out hWW)
                  replace HZ := Lib.hid (And.intro (HZ.out.1.past hWW) HZ.out.2)
                  have HS := Lib.hid hSW
                  have HX := Lib.hid (And.intro (Lies.fresh Wn 23 [.int .i64 0, .int .i64 0]) (HLE.out _ hSW))
                  clear hSW hWW
                  go_simp
                  refine hK _ _ ⟨HS.out.1.past (grows_alloc _ _), Nat.le_trans HS.out.2 (grows_alloc _ _).size⟩ ?_
                  replace HY := Lib.hid (And.intro (HY.out.1.past (grows_alloc _ (.cells #[.int .i64 0, .int .i64 0] 23))) HY.out.2)
                  replace HCAL := Lib.hid (cal_past HCAL.out (grows_alloc _ (.cells #[.int .i64 0, .int .i64 0] 23)))
                  replace HZ := Lib.hid (And.intro (HZ.out.1.past (grows_alloc _ (.cells #[.int .i64 0, .int .i64 0] 23))) HZ.out.2)
                  replace HS := Lib.hid (And.intro (HS.out.1.past (grows_alloc _ (.cells #[.int .i64 0, .int .i64 0] 23))) (Nat.le_trans HS.out.2 (grows_alloc _ (.cells #[.int .i64 0, .int .i64 0] 23)).size))
                  clear hK K; (try simp only [Act.put, List.setIfInBounds_toArray, List.set_cons_zero, List.set_cons_succ])
                  generalize Wn.heap.size = xX at *
                  exact ord_at (by kernel_rfl) (HREST A1 n1 c1 A2 n2 c2 xX xY xZ _ ⟨HS.out, HCAL.out, HX.out, HY.out, HZ.out⟩)
            · intro Wn hWW hSW K hK
              (try dsimp only at hSW)
              replace HY := Lib.hid (And.intro (HY.out.1.past hWW) HY.out.2)
              have HS := Lib.hid hSW
              have HX := Lib.hid (And.intro (Lies.fresh Wn 23 [.int .i64 0, .int .i64 0]) (HLE.out _ hSW))
              clear hSW hWW
              go_simp
              refine hK _ _ ⟨HS.out.1.past (grows_alloc _ _), Nat.le_trans HS.out.2 (grows_alloc _ _).size⟩ ?_
              replace HY := Lib.hid (And.intro (HY.out.1.past (grows_alloc _ (.cells #[.int .i64 0, .int .i64 0] 23))) HY.out.2)
              replace HS := Lib.hid (And.intro (HS.out.1.past (grows_alloc _ (.cells #[.int .i64 0, .int .i64 0] 23))) (Nat.le_trans HS.out.2 (grows_alloc _ (.cells #[.int .i64 0, .int .i64 0] 23)).size))
              clear hK K; (try simp only [Act.put, List.setIfInBounds_toArray, List.set_cons_zero, List.set_cons_succ])
              generalize Wn.heap.size = xX at *
              refine ord_two RD 7 15 (by rw [HOP.out]; kernel_rfl) (at_list (by rw [HOP.out]; rfl)) (at_list (by rw [HOP.out]; rfl)) (by rw [HOP.out]; rfl) (by rw [HOP.out]; rfl) ?_ ?_
              · intro Wn hWW hSW K hK
                (try dsimp only at hSW)
                replace HY := Lib.hid (And.intro (HY.out.1.past hWW) HY.out.2)
                replace HX := Lib.hid (And.intro (HX.out.1.past hWW) HX.out.2)
                have HS := Lib.hid hSW
                clear hSW hWW
                go_simp
                refine (Byte_any s.m s.r A n c s.f B q d x _ HS.out.1.i1 HS.out.1.i2 HXB.out.1 HXB.out.2).mono ?_
                rintro e0 Wc ⟨A1, n1, c1, A2, n2, c2, rfl, i1, o1, i2, o2, hb⟩
                simp only [HST.out.1, HST.out.2.1, HST.out.2.2.1, HST.out.2.2.2] at i1 o1 i2 o2 ⊢
                refine hK _ _ ⟨HS.out.1.past hb, Nat.le_trans HS.out.2 hb.size⟩ ?_
                replace HY := Lib.hid (And.intro (HY.out.1.past hb) HY.out.2)
                replace HX := Lib.hid (And.intro (HX.out.1.past hb) HX.out.2)
                have HCAL := Lib.hid (cal_mk i1 (o1.mono HS.out.1.hb.size) i2 (o2.mono HS.out.1.hb.size))
                replace HS := Lib.hid (And.intro (HS.out.1.past hb) (Nat.le_trans HS.out.2 hb.size))
                clear i1 o1 i2 o2 hb
                clear hK K; (try simp only [Act.put, List.setIfInBounds_toArray, List.set_cons_zero, List.set_cons_succ])
                refine ord_take RD 8 (at_list (by rw [HOP.out]; rfl)) HNS.out HPQ.out (by rw [HOP.out]; kernel_rfl) (by rw [HOP.out]; kernel_rfl) (by rw [HOP.out]; rfl) (fun K hK => ?_); apply Exists.intro; refine ⟨fun W hSW => ?_, hK _ ?_⟩; (focus ((try dsimp only at hSW); go_simp; try with_reducible rfl)); clear hK K; (try simp only [Act.put, List.setIfInBounds_toArray, List.set_cons_zero, List.set_cons_succ])
                refine ord_take RD 9 (at_list (by rw [HOP.out]; rfl)) HNS.out HPQ.out (by rw [HOP.out]; kernel_rfl) (by rw [HOP.out]; kernel_rfl) (by rw [HOP.out]; rfl) (fun K hK => ?_); apply Exists.intro; refine ⟨fun W hSW => ?_, hK _ ?_⟩; (focus ((try dsimp only at hSW); go_simp; try with_reducible rfl)); clear hK K; (try simp only [Act.put, List.setIfInBounds_toArray, List.set_cons_zero, List.set_cons_succ])
                refine ord_take RD 10 (at_list (by rw [HOP.out]; rfl)) HNS.out HPQ.out (by rw [HOP.out]; kernel_rfl) (by rw [HOP.out]; kernel_rfl) (by rw [HOP.out]; rfl) (fun K hK => ?_); apply Exists.intro; refine ⟨fun W hSW => ?_, hK _ ?_⟩; (focus ((try dsimp only at hSW); go_simp; try with_reducible rfl)); clear hK K; (try simp only [Act.put, List.setIfInBounds_toArray, List.set_cons_zero, List.set_cons_succ])
                refine ord_take RD 11 (at_list (by rw [HOP.out]; rfl)) HNS.out HPQ.out (by rw [HOP.out]; kernel_rfl) (by rw [HOP.out]; kernel_rfl) (by rw [HOP.out]; rfl) (fun K hK => ?_); apply Exists.intro; refine ⟨fun W hSW => ?_, hK _ ?_⟩; (focus ((try dsimp only at hSW); go_simp; try with_reducible rfl)); clear hK K; (try simp only [Act.put, List.setIfInBounds_toArray, List.set_cons_zero, List.set_cons_succ])
                refine ord_take RD 12 (at_list (by rw [HOP.out]; rfl)) HNS.out HPQ.out (by rw [HOP.out]; kernel_rfl) (by rw [HOP.out]; kernel_rfl) (by rw [HOP.out]; rfl) (fun K hK => ?_); apply Exists.intro; refine ⟨fun W hSW => ?_, hK _ ?_⟩; (focus ((try dsimp only at hSW); go_simp; try with_reducible rfl)); clear hK K; (try simp only [Act.put, List.setIfInBounds_toArray, List.set_cons_zero, List.set_cons_succ])
                refine ord_one RD 15 (by rw [HOP.out]; kernel_rfl) (at_list (by rw [HOP.out]; rfl)) (by rw [HOP.out]; rfl) ?_
                · intro Wn hWW hSW K hK
                  (try dsimp only at hSW)
                  replace HY := Lib.hid (And.intro (HY.out.1.past hWW) HY.out.2)
                  replace HX := Lib.hid (And.intro (HX.out.1.past hWW) HX.out.2)
                  replace HCAL := Lib.hid (cal_past HCAL.out hWW)
                  have HS := Lib.hid hSW
                  have HZ := Lib.hid (And.intro (Lies.fresh Wn 29 [.int .i64 0, .slice none 0 0]) (HLE.out _ hSW))
                  clear hSW hWW
                  go_simp
                  refine hK _ _ ⟨HS.out.1.past (grows_alloc _ _), Nat.le_trans HS.out.2 (grows_alloc _ _).size⟩ ?_
                  replace HY := Lib.hid (And.intro (HY.out.1.past (grows_alloc _ (.cells #[.int .i64 0, .slice none 0 0] 29))) HY.out.2)
                  replace HX := Lib.hid (And.intro (HX.out.1.past (grows_alloc _ (.cells #[.int .i64 0, .slice none 0 0] 29))) HX.out.2)
                  replace HCAL := Lib.hid (cal_past HCAL.out (grows_alloc _ (.cells #[.int .i64 0, .slice none 0 0] 29)))
                  replace HS := Lib.hid (And.intro (HS.out.1.past (grows_alloc _ (.cells #[.int .i64 0, .slice none 0 0] 29))) (Nat.le_trans HS.out.2 (grows_alloc _ (.cells #[.int .i64 0, .slice none 0 0] 29)).size))
                  clear hK K; (try simp only [Act.put, List.setIfInBounds_toArray, List.set_cons_zero, List.set_cons_succ])
                  generalize Wn.heap.size = xZ at *
                  exact ord_at (by kernel_rfl) (HREST A1 n1 c1 A2 n2 c2 xX xY xZ _ ⟨HS.out, HCAL.out, HX.out, HY.out, HZ.out⟩)
              · intro Wn hWW hSW K hK
                (try dsimp only at hSW)
                replace HY := Lib.hid (And.intro (HY.out.1.past hWW) HY.out.2)
                replace HX := Lib.hid (And.intro (HX.out.1.past hWW) HX.out.2)
                have HS := Lib.hid hSW
                have HZ := Lib.hid (And.intro (Lies.fresh Wn 29 [.int .i64 0, .slice none 0 0]) (HLE.out _ hSW))
                clear hSW hWW
                go_simp
                refine hK _ _ ⟨HS.out.1.past (grows_alloc _ _), Nat.le_trans HS.out.2 (grows_alloc _ _).size⟩ ?_
                replace HY := Lib.hid (And.intro (HY.out.1.past (grows_alloc _ (.cells #[.int .i64 0, .slice none 0 0] 29))) HY.out.2)
                replace HX := Lib.hid (And.intro (HX.out.1.past (grows_alloc _ (.cells #[.int .i64 0, .slice none 0 0] 29))) HX.out.2)
                replace HS := Lib.hid (And.intro (HS.out.1.past (grows_alloc _ (.cells #[.int .i64 0, .slice none 0 0] 29))) (Nat.le_trans HS.out.2 (grows_alloc _ (.cells #[.int .i64 0, .slice none 0 0] 29)).size))
                clear hK K; (try simp only [Act.put, List.setIfInBounds_toArray, List.set_cons_zero, List.set_cons_succ])
                generalize Wn.heap.size = xZ at *
                refine ord_one RD 7 (by rw [HOP.out]; kernel_rfl) (at_list (by rw [HOP.out]; rfl)) (by rw [HOP.out]; rfl) ?_
                · intro Wn hWW hSW K hK
                  (try dsimp only at hSW)
                  replace HY := Lib.hid (And.intro (HY.out.1.past hWW) HY.out.2)
                  replace HX := Lib.hid (And.intro (HX.out.1.past hWW) HX.out.2)
                  replace HZ := Lib.hid (And.intro (HZ.out.1.past hWW) HZ.out.2)
                  have HS := Lib.hid hSW
                  clear hSW hWW
                  go_simp
                  refine (Byte_any s.m s.r A n c s.f B q d x _ HS.out.1.i1 HS.out.1.i2 HXB.out.1 HXB.out.2).mono ?_
                  rintro e0 Wc ⟨A1, n1, c1, A2, n2, c2, rfl, i1, o1, i2, o2, hb⟩
                  simp only [HST.out.1, HST.out.2.1, HST.out.2.2.1, HST.out.2.2.2] at i1 o1 i2 o2 ⊢
                  refine hK _ _ ⟨HS.out.1.past hb, Nat.le_trans HS.out.2 hb.size⟩ ?_
                  replace HY := Lib.hid (And.intro (HY.out.1.past hb) HY.out.2)
                  replace HX := Lib.hid (And.intro (HX.out.1.past hb) HX.out.2)
                  replace HZ := Lib.hid (And.intro (HZ.out.1.past hb) HZ.out.2)
                  have HCAL := Lib.hid (cal_mk i1 (o1.mono HS.out.1.hb.size) i2 (o2.mono HS.out.1.hb.size))
                  replace HS := Lib.hid (And.intro (HS.out.1.past hb) (Nat.le_trans HS.out.2 hb.size))
                  clear i1 o1 i2 o2 hb
                  clear hK K; (try simp only [Act.put, List.setIfInBounds_toArray, List.set_cons_zero, List.set_cons_succ])
                  refine ord_take RD 8 (at_list (by rw [HOP.out]; rfl)) HNS.out HPQ.out (by rw [HOP.out]; kernel_rfl) (by rw [HOP.out]; kernel_rfl) (by rw [HOP.out]; rfl) (fun K hK => ?_); apply Exists.intro; refine ⟨fun W hSW => ?_, hK _ ?_⟩; (focus ((try dsimp only at hSW); go_simp; try with_reducible rfl)); clear hK K; (try simp only [Act.put, List.setIfInBounds_toArray, List.set_cons_zero, List.set_cons_succ])
                  refine ord_take RD 9 (at_list (by rw [HOP.out]; rfl)) HNS.out HPQ.out (by rw [HOP.out]; kernel_rfl) (by rw [HOP.out]; kernel_rfl) (by rw [HOP.out]; rfl) (fun K hK => ?_); apply Exists.intro; refine ⟨fun W hSW => ?_, hK _ ?_⟩; (focus ((try dsimp only at hSW); go_simp; try with_reducible rfl)); clear hK K; (try simp only [Act.put, List.setIfInBounds_toArray, List.set_cons_zero, List.set_cons_succ])
                  refine ord_take RD 10 (at_list (by rw [HOP.out]; rfl)) HNS.out HPQ.out (by rw [HOP.out]; kernel_rfl) (by rw [HOP.out]; kernel_rfl) (by rw [HOP.out]; rfl) (fun K hK => ?_); apply Exists.intro; refine ⟨fun W hSW => ?_, hK _ ?_⟩; (focus ((try dsimp only at hSW); go_simp; try with_reducible rfl)); clear hK K; (try simp only [Act.put, List.setIfInBounds_toArray, List.set_cons_zero, List.set_cons_succ])
                  refine ord_take RD 11 (at_list (by rw [HOP.out]; rfl)) HNS.out HPQ.out (by rw [HOP.out]; kernel_rfl) (by rw [HOP.out]; kernel_rfl) (by rw [HOP.out]; rfl) (fun K hK => ?_); apply Exists.intro; refine ⟨fun W hSW => ?_, hK _ ?_⟩; (focus ((try dsimp only at hSW); go_simp; try with_reducible rfl)); clear hK K; (try simp only [Act.put, List.setIfInBounds_toArray, List.set_cons_zero, List.set_cons_succ])
                  refine ord_take RD 12 (at_list (by rw [HOP.out]; rfl)) HNS.out HPQ.out (by rw [HOP.out]; kernel_rfl) (by rw [HOP.out]; kernel_rfl) (by rw [HOP.out]; rfl) (fun K hK => ?_); apply Exists.intro; refine ⟨fun W hSW => ?_, hK _ ?_⟩; (focus ((try dsimp only at hSW); go_simp; try with_reducible rfl)); clear hK K; (try simp only [Act.put, List.setIfInBounds_toArray, List.set_cons_zero, List.set_cons_succ])
                  exact ord_at (by kernel_rfl) (HREST A1 n1 c1 A2 n2 c2 xX xY xZ _ ⟨HS.out, HCAL.out, HX.out, HY.out, HZ.out⟩)
            · intro Wn hWW hSW K hK
              (try dsimp only at hSW)
              replace HY := Lib.hid (And.intro (HY.out.1.past hWW) HY.out.2)
              have HS := Lib.hid hSW
              have HZ := Lib.hid (And.intro (Lies.fresh Wn 29 [.int .i64 0, .slice none 0 0]) (HLE.out _ hSW))
              clear hSW hWW
              go_simp
              refine hK _ _ ⟨HS.out.1.past (grows_alloc _ _), Nat.le_trans HS.out.2 (grows_alloc _ _).size⟩ ?_
              replace HY := Lib.hid (And.intro (HY.out.1.past (grows_alloc _ (.cells #[.int .i64 0, .slice none 0 0] 29))) HY.out.2)
              replace HS := Lib.hid (And.intro (HS.out.1.past (grows_alloc _ (.cells #[.int .i64 0, .slice none 0 0] 29))) (Nat.le_trans HS.out.2 (grows_alloc _ (.cells #[.int .i64 0, .slice none 0 0] 29)).size))
              clear hK K; (try simp only [Act.put, List.setIfInBounds_toArray, List.set_cons_zero, List.set_cons_succ])
              generalize Wn.heap.size = xZ at *
              refine ord_two RD 7 13 (by rw [HOP.out]; kernel_rfl) (at_list (by rw [HOP.out]; rfl)) (at_list (by rw [HOP.out]; rfl)) (by rw [HOP.out]; rfl) (by rw [HOP.out]; rfl) ?_ ?_
              · intro Wn hWW hSW K hK
                (try dsimp only at hSW)
                replace HY := Lib.hid (And.intro (HY.out.1.past hWW) HY.out.2)
                replace HZ := Lib.hid (And.intro (HZ.out.1.past hWW) HZ.out.2)
                have HS := Lib.hid hSW
                clear hSW hWW
                go_simp
                refine (Byte_any s.m s.r A n c s.f B q d x _ HS.out.1.i1 HS.out.1.i2 HXB.out.1 HXB.out.2).mono ?_
                rintro e0 Wc ⟨A1, n1, c1, A2, n2, c2, rfl, i1, o1, i2, o2, hb⟩
                simp only [HST.out.1, HST.out.2.1, HST.out.2.2.1, HST.out.2.2.2] at i1 o1 i2 o2 ⊢
                refine hK _ _ ⟨HS.out.1.past hb, Nat.le_trans HS.out.2 hb.size⟩ ?_
                replace HY := Lib.hid (And.intro (HY.out.1.past hb) HY.out.2)
                replace HZ := Lib.hid (And.intro (HZ.out.1.past hb) HZ.out.2)
                have HCAL := Lib.hid (cal_mk i1 (o1.mono HS.out.1.hb.size) i2 (o2.mono HS.out.1.hb.size))
                replace HS := Lib.hid (And.intro (HS.out.1.past hb) (Nat.le_trans HS.out.2 hb.size))
                clear i1 o1 i2 o2 hb
                clear hK K; (try simp only [Act.put, List.setIfInBounds_toArray, List.set_cons_zero, List.set_cons_succ])
                refine ord_take RD 8 (at_list (by rw [HOP.out]; rfl)) HNS.out HPQ.out (by rw [HOP.out]; kernel_rfl) (by rw [HOP.out]; kernel_rfl) (by rw [HOP.out]; rfl) (fun K hK => ?_); apply Exists.intro; refine ⟨fun W hSW => ?_, hK _ ?_⟩; (focus ((try dsimp only at hSW); go_simp; try with_reducible rfl)); clear hK K; (try simp only [Act.put, List.setIfInBounds_toArray, List.set_cons_zero, List.set_cons_succ])
                refine ord_take RD 9 (at_list (by rw [HOP.out]; rfl)) HNS.out HPQ.out (by rw [HOP.out]; kernel_rfl) (by rw [HOP.out]; kernel_rfl) (by rw [HOP.out]; rfl) (fun K hK => ?_); apply Exists.intro; refine ⟨fun W hSW => ?_, hK _ ?_⟩; (focus ((try dsimp only at hSW); go_simp; try with_reducible rfl)); clear hK K; (try simp only [Act.put, List.setIfInBounds_toArray, List.set_cons_zero, List.set_cons_succ])
                refine ord_take RD 10 (at_list (by rw [HOP.out]; rfl)) HNS.out HPQ.out (by rw [HOP.out]; kernel_rfl) (by rw [HOP.out]; kernel_rfl) (by rw [HOP.out]; rfl) (fun K hK => ?_); apply Exists.intro; refine ⟨fun W hSW => ?_, hK _ ?_⟩; (focus ((try dsimp only at hSW); go_simp; try with_reducible rfl)); clear hK K; (try simp only [Act.put, List.setIfInBounds_toArray, List.set_cons_zero, List.set_cons_succ])
                refine ord_take RD 11 (at_list (by rw [HOP.out]; rfl)) HNS.out HPQ.out (by rw [HOP.out]; kernel_rfl) (by rw [HOP.out]; kernel_rfl) (by rw [HOP.out]; rfl) (fun K hK => ?_); apply Exists.intro; refine ⟨fun W hSW => ?_, hK _ ?_⟩; (focus ((try dsimp only at hSW); go_simp; try with_reducible rfl)); clear hK K; (try simp only [Act.put, List.setIfInBounds_toArray, List.set_cons_zero, List.set_cons_succ])
                refine ord_take RD 12 (at_list (by rw [HOP.out]; rfl)) HNS.out HPQ.out (by rw [HOP.out]; kernel_rfl) (by rw [HOP.out]; kernel_rfl) (by rw [HOP.out]; rfl) (fun K hK => ?_); apply Exists.intro; refine ⟨fun W hSW => ?_, hK _ ?_⟩; (focus ((try dsimp only at hSW); go_simp; try with_reducible rfl)); clear hK K; (try simp only [Act.put, List.setIfInBounds_toArray, List.set_cons_zero, List.set_cons_succ])
                refine ord_one RD 13 (by rw [HOP.out]; kernel_rfl) (at_list (by rw [HOP.out]; rfl)) (by rw [HOP.out]; rfl) ?_
                · intro Wn hWW hSW K hK
                  (try dsimp only at hSW)
                  replace HY := Lib.hid (And.intro (HY.out.1.past hWW) HY.out.2)
                  replace HZ := Lib.hid (And.intro (HZ.out.1.past hWW) HZ.out.2)
                  replace HCAL := Lib.hid (cal_past HCAL.out hWW)
                  have HS := Lib.hid hSW
                  have HX := Lib.hid (And.intro (Lies.fresh Wn 23 [.int .i64 0, .int .i64 0]) (HLE.out _ hSW))
                  clear hSW hWW
                  go_simp
                  refine hK _ _ ⟨HS.out.1.past (grows_alloc _ _), Nat.le_trans HS.out.2 (grows_alloc _ _).size⟩ ?_
                  replace HY := Lib.hid (And.intro (HY.out.1.past (grows_alloc _ (.cells #[.int .i64 0, .int .i64 0] 23))) HY.out.2)
                  replace HZ := Lib.hid (And.intro (HZ.out.1.past (grows_alloc _ (.cells #[.int .i64 0, .int .i64 0] 23))) HZ.out.2)
                  replace HCAL := Lib.hid (cal_past HCAL.out (grows_alloc _ (.cells #[.int .i64 0, .int .i64 0] 23)))
                  replace HS := Lib.hid (And.intro (HS.out.1.past (grows_alloc _ (.cells #[.int .i64 0, .int .i64 0] 23))) (Nat.le_trans HS.out.2 (grows_alloc _ (.cells #[.int .i64 0, .int .i64 0] 23)).size))
                  clear hK K; (try simp only [Act.put, List.setIfInBounds_toArray, List.set_cons_zero, List.set_cons_succ])
                  generalize Wn.heap.size = xX at *
                  exact ord_at (by kernel_rfl) (HREST A1 n1 c1 A2 n2 c2 xX xY xZ _ ⟨HS.out, HCAL.out, HX.out, HY.out, HZ.out⟩)
              · intro Wn hWW hSW K hK
                (try dsimp only at hSW)
                replace HY := Lib.hid (And.intro (HY.out.1.past hWW) HY.out.2)
                replace HZ := Lib.hid (And.intro (HZ.out.1.past hWW) HZ.out.2)
                have HS := Lib.hid hSW
                have HX := Lib.hid (And.intro (Lies.fresh Wn 23 [.int .i64 0, .int .i64 0]) (HLE.out _ hSW))
                clear hSW hWW
                go_simp
                refine hK _ _ ⟨HS.out.1.past (grows_alloc _ _), Nat.le_trans HS.out.2 (grows_alloc _ _).size⟩ ?_
                replace HY := Lib.hid (And.intro (HY.out.1.past (grows_alloc _ (.cells #[.int .i64 0, .int .i64 0] 23))) HY.out.2)
                replace HZ := Lib.hid (And.intro (HZ.out.1.past (grows_alloc _ (.cells #[.int .i64 0, .int .i64 0] 23))) HZ.out.2)
                replace HS := Lib.hid (And.intro (HS.out.1.past (grows_alloc _ (.cells #[.int .i64 0, .int .i64 0] 23))) (Nat.le_trans HS.out.2 (grows_alloc _ (.cells #[.int .i64 0, .int .i64 0] 23)).size))
                clear hK K; (try simp only [Act.put, List.setIfInBounds_toArray, List.set_cons_zero, List.set_cons_succ])
                generalize Wn.heap.size = xX at *
                refine ord_one RD 7 (by rw [HOP.out]; kernel_rfl) (at_list (by rw [HOP.out]; rfl)) (by rw [HOP.out]; rfl) ?_
                · intro Wn hWW hSW K hK
                  (try dsimp only at hSW)
                  replace HY := Lib.hid (And.intro (HY.out.1.past hWW) HY.out.2)
                  replace HZ := Lib.hid (And.intro (HZ.out.1.past hWW) HZ.out.2)
                  replace HX := Lib.hid (And.intro (HX.out.1.past hWW) HX.out.2)
                  have HS := Lib.hid hSW
                  clear hSW hWW
                  go_simp
                  refine (Byte_any s.m s.r A n c s.f B q d x _ HS.out.1.i1 HS.out.1.i2 HXB.out.1 HXB.out.2).mono ?_
                  rintro e0 Wc ⟨A1, n1, c1, A2, n2, c2, rfl, i1, o1, i2, o2, hb⟩
                  simp only [HST.out.1, HST.out.2.1, HST.out.2.2.1, HST.out.2.2.2] at i1 o1 i2 o2 ⊢
                  refine hK _ _ ⟨HS.out.1.past hb, Nat.le_trans HS.out.2 hb.size⟩ ?_
                  replace HY := Lib.hid (And.intro (HY.out.1.past hb) HY.out.2)
                  replace HZ := Lib.hid (And.intro (HZ.out.1.past hb) HZ.out.2)
                  replace HX := Lib.hid (And.intro (HX.out.1.past hb) HX.out.2)
                  have HCAL := Lib.hid (cal_mk i1 (o1.mono HS.out.1.hb.size) i2 (o2.mono HS.out.1.hb.size))
                  replace HS := Lib.hid (And.intro (HS.out.1.past hb) (Nat.le_trans HS.out.2 hb.size))
                  clear i1 o1 i2 o2 hb
                  clear hK K; (try simp only [Act.put, List.setIfInBounds_toArray, List.set_cons_zero, List.set_cons_succ])
                  refine ord_take RD 8 (at_list (by rw [HOP.out]; rfl)) HNS.out HPQ.out (by rw [HOP.out]; kernel_rfl) (by rw [HOP.out]; kernel_rfl) (by rw [HOP.out]; rfl) (fun K hK => ?_); apply Exists.intro; refine ⟨fun W hSW => ?_, hK _ ?_⟩; (focus ((try dsimp only at hSW); go_simp; try with_reducible rfl)); clear hK K; (try simp only [Act.put, List.setIfInBounds_toArray, List.set_cons_zero, List.set_cons_succ])
                  refine ord_take RD 9 (at_list (by rw [HOP.out]; rfl)) HNS.out HPQ.out (by rw [HOP.out]; kernel_rfl) (by rw [HOP.out]; kernel_rfl) (by rw [HOP.out]; rfl) (fun K hK => ?_); apply Exists.intro; refine ⟨fun W hSW => ?_, hK _ ?_⟩; (focus ((try dsimp only at hSW); go_simp; try with_reducible rfl)); clear hK K; (try simp only [Act.put, List.setIfInBounds_toArray, List.set_cons_zero, List.set_cons_succ])
                  refine ord_take RD 10 (at_list (by rw [HOP.out]; rfl)) HNS.out HPQ.out (by rw [HOP.out]; kernel_rfl) (by rw [HOP.out]; kernel_rfl) (by rw [HOP.out]; rfl) (fun K hK => ?_); apply Exists.intro; refine ⟨fun W hSW => ?_, hK _ ?_⟩; (focus ((try dsimp only at hSW); go_simp; try with_reducible rfl)); clear hK K; (try simp only [Act.put, List.setIfInBounds_toArray, List.set_cons_zero, List.set_cons_succ])
                  refine ord_take RD 11 (at_list (by rw [HOP.out]; rfl)) HNS.out HPQ.out (by rw [HOP.out]; kernel_rfl) (by rw [HOP.out]; kernel_rfl) (by rw [HOP.out]; rfl) (fun K hK => ?_); apply Exists.intro; refine ⟨fun W hSW => ?_, hK _ ?_⟩; (focus ((try dsimp only at hSW); go_simp; try with_reducible rfl)); clear hK K; (try simp only [Act.put, List.setIfInBounds_toArray, List.set_cons_zero, List.set_cons_succ])
                  refine ord_take RD 12 (at_list (by rw [HOP.out]; rfl)) HNS.out HPQ.out (by rw [HOP.out]; kernel_rfl) (by rw [HOP.out]; kernel_rfl) (by rw [HOP.out]; rfl) (fun K hK => ?_); apply Exists.intro; refine ⟨fun W hSW => ?_, hK _ ?_⟩; (focus ((try dsimp only at hSW); go_simp; try with_reducible rfl)); clear hK K; (try simp only [Act.put, List.setIfInBounds_toArray, List.set_cons_zero, List.set_cons_succ])
                  exact ord_at (by kernel_rfl) (HREST A1 n1 c1 A2 n2 c2 xX xY xZ _ ⟨HS.out, HCAL.out, HX.out, HY.out, HZ.out⟩)
          · intro Wn hWW hSW K hK
            (try dsimp only at hSW)
            have HS := Lib.hid hSW
            have HZ := Lib.hid (And.intro (Lies.fresh Wn 29 [.int .i64 0, .slice none 0 0]) (HLE.out _ hSW))
            clear hSW hWW
            go_simp
            refine hK _ _ ⟨HS.out.1.past (grows_alloc _ _), Nat.le_trans HS.out.2 (grows_alloc _ _).size⟩ ?_
            replace HS := Lib.hid (And.intro (HS.out.1.past (grows_alloc _ (.cells #[.int .i64 0, .slice none 0 0] 29))) (Nat.le_trans HS.out.2 (grows_alloc _ (.cells #[.int .i64 0, .slice none 0 0] 29)).size))
            clear hK K; (try simp only [Act.put, List.setIfInBounds_toArray, List.set_cons_zero, List.set_cons_succ])
            generalize Wn.heap.size = xZ at *
            refine ord_three RD 7 13 14 (by rw [HOP.out]; kernel_rfl) (at_list (by rw [HOP.out]; rfl)) (at_list (by rw [HOP.out]; rfl)) (at_list (by rw [HOP.out]; rfl)) (by rw [HOP.out]; rfl) (by rw [HOP.out]; rfl) (by rw [HOP.out]; rfl) ?_ ?_ ?_
            · intro Wn hWW hSW K hK
              (try dsimp only at hSW)
              replace HZ := Lib.hid (And.intro (HZ.out.1.past hWW) HZ.out.2)
              have HS := Lib.hid hSW
              clear hSW hWW
              go_simp
              refine (Byte_any s.m s.r A n c s.f B q d x _ HS.out.1.i1 HS.out.1.i2 HXB.out.1 HXB.out.2).mono ?_
              rintro e0 Wc ⟨A1, n1, c1, A2, n2, c2, rfl, i1, o1, i2, o2, hb⟩
              simp only [HST.out.1, HST.out.2.1, HST.out.2.2.1, HST.out.2.2.2] at i1 o1 i2 o2 ⊢
              refine hK _ _ ⟨HS.out.1.past hb, Nat.le_trans HS.out.2 hb.size⟩ ?_
              replace HZ := Lib.hid (And.intro (HZ.out.1.past hb) HZ.out.2)
              have HCAL := Lib.hid (cal_mk i1 (o1.mono HS.out.1.hb.size) i2 (o2.mono HS.out.1.hb.size))
              replace HS := Lib.hid (And.intro (HS.out.1.past hb) (Nat.le_trans HS.out.2 hb.size))
              clear i1 o1 i2 o2 hb
              clear hK K; (try simp only [Act.put, List.setIfInBounds_toArray, List.set_cons_zero, List.set_cons_succ])
              refine ord_take RD 8 (at_list (by rw [HOP.out]; rfl)) HNS.out HPQ.out (by rw [HOP.out]; kernel_rfl) (by rw [HOP.out]; kernel_rfl) (by rw [HOP.out]; rfl) (fun K hK => ?_); apply Exists.intro; refine ⟨fun W hSW => ?_, hK _ ?_⟩; (focus ((try dsimp only at hSW); go_simp; try with_reducible rfl)); clear hK K; (try simp only [Act.put, List.setIfInBounds_toArray, List.set_cons_zero, List.set_cons_succ])
              refine ord_take RD 9 (at_list (by rw [HOP.out]; rfl)) HNS.out HPQ.out (by rw [HOP.out]; kernel_rfl) (by rw [HOP.out]; kernel_rfl) (by rw [HOP.out]; rfl) (fun K hK => ?_); apply Exists.intro; refine ⟨fun W hSW => ?_, hK _ ?_⟩; (focus ((try dsimp only at hSW); go_simp; try with_reducible rfl)); clear hK K; (try simp only [Act.put, List.setIfInBounds_toArray, List.set_cons_zero, List.set_cons_succ])
              refine ord_take RD 10 (at_list (by rw [HOP.out]; rfl)) HNS.out HPQ.out (by rw [HOP.out]; kernel_rfl) (by rw [HOP.out]; kernel_rfl) (by rw [HOP.out]; rfl) (fun K hK => ?_); apply Exists.intro; refine ⟨fun W hSW => ?_, hK _ ?_⟩; (focus ((try dsimp only at hSW); go_simp; try with_reducible rfl)); clear hK K; (try simp only [Act.put, List.setIfInBounds_toArray, List.set_cons_zero, List.set_cons_succ])
              refine ord_take RD 11 (at_list (by rw [HOP.out]; rfl)) HNS.out HPQ.out (by rw [HOP.out]; kernel_rfl) (by rw [HOP.out]; kernel_rfl) (by rw [HOP.out]; rfl) (fun K hK => ?_); apply Exists.intro; refine ⟨fun W hSW => ?_, hK _ ?_⟩; (focus ((try dsimp only at hSW); go_simp; try with_reducible rfl)); clear hK K; (try simp only [Act.put, List.setIfInBounds_toArray, List.set_cons_zero, List.set_cons_succ])
              refine ord_take RD 12 (at_list (by rw [HOP.out]; rfl)) HNS.out HPQ.out (by rw [HOP.out]; kernel_rfl) (by rw [HOP.out]; kernel_rfl) (by rw [HOP.out]; rfl) (fun K hK => ?_); apply Exists.intro; refine ⟨fun W hSW => ?_, hK _ ?_⟩; (focus ((try dsimp only at hSW); go_simp; try with_reducible rfl)); clear hK K; (try simp only [Act.put, List.setIfInBounds_toArray, List.set_cons_zero, List.set_cons_succ])
              refine ord_two RD 13 14 (by rw [HOP.out]; kernel_rfl) (at_list (by rw [HOP.out]; rfl)) (at_list (by rw [HOP.out]; rfl)) (by rw [HOP.out]; rfl) (by rw [HOP.out]; rfl) ?_ ?_
              · intro Wn hWW hSW K hK
                (try dsimp only at hSW)
                replace HZ := Lib.hid (And.intro (HZ.out.1.past hWW) HZ.out.2)
                replace HCAL := Lib.hid (cal_past HCAL.out hWW)
                have HS := Lib.hid hSW
                have HX := Lib.hid (And.intro (Lies.fresh Wn 23 [.int .i64 0, .int .i64 0]) (HLE.out _ hSW))
                clear hSW hWW
                go_simp
                refine hK _ _ ⟨HS.out.1.past (grows_alloc _ _), Nat.le_trans HS.out.2 (grows_alloc _ _).size⟩ ?_
                replace HZ := Lib.hid (And.intro (HZ.out.1.past (grows_alloc _ (.cells #[.int .i64 0, .int .i64 0] 23))) HZ.out.2)
                replace HCAL := Lib.hid (cal_past HCAL.out (grows_alloc _ (.cells #[.int .i64 0, .int .i64 0] 23)))
                replace HS := Lib.hid (And.intro (HS.out.1.past (grows_alloc _ (.cells #[.int .i64 0, .int .i64 0] 23))) (Nat.le_trans HS.out.2 (grows_alloc _ (.cells #[.int .i64 0, .int .i64 0] 23)).size))
                clear hK K; (try simp only [Act.put, List.setIfInBounds_toArray, List.set_cons_zero, List.set_cons_succ])
                generalize Wn.heap.size = xX at *
                refine ord_one RD 14 (by rw [HOP.out]; kernel_rfl) (at_list (by rw [HOP.out]; rfl)) (by rw [HOP.out]; rfl) ?_
                · intro Wn hWW hSW K hK
                  (try dsimp only at hSW)
                  replace HZ := Lib.hid (And.intro (HZ.out.1.past hWW) HZ.out.2)
                  replace HCAL := Lib.hid (cal_past HCAL.out hWW)
                  replace HX := Lib.hid (And.intro (HX.out.1.past hWW) HX.out.2)
                  have HS := Lib.hid hSW
                  have HY := Lib.hid (And.intro (Lies.fresh Wn 26 [.int .i64 0, .slice none 0 0, .int .i64 0]) (HLE.out _ hSW))
                  clear hSW hWW
                  go_simp
                  refine hK _ _ ⟨HS.out.1.past (grows_alloc _ _), Nat.le_trans HS.out.2 (grows_alloc _ _).size⟩ ?_
                  replace HZ := Lib.hid (And.intro (HZ.out.1.past (grows_alloc _ (.cells #[.int .i64 0, .slice none 0 0, .int .i64 0] 26))) HZ.out.2)
                  replace HCAL := Lib.hid (cal_past HCAL.out (grows_alloc _ (.cells #[.int .i64 0, .slice none 0 0, .int .i64 0] 26)))
                  replace HX := Lib.hid (And.intro (HX.out.1.past (grows_alloc _ (.cells #[.int .i64 0, .slice none 0 0, .int .i64 0] 26))) HX.out.2)
                  replace HS := Lib.hid (And.intro (HS.out.1.past (grows_alloc _ (.cells #[.int .i64 0, .slice none 0 0, .int .i64 0] 26))) (Nat.le_trans HS.out.2 (grows_alloc _ (.cells #[.int .i64 0, .slice none 0 0, .int .i64 0] 26)).size))
                  clear hK K; (try simp only [Act.put, List.setIfInBounds_toArray, List.set_cons_zero, List.set_cons_succ])
                  generalize Wn.heap.size = xY at *
                  exact ord_at (by kernel_rfl) (HREST A1 n1 c1 A2 n2 c2 xX xY xZ _ ⟨HS.out, HCAL.out, HX.out, HY.out, HZ.out⟩)
              · intro Wn hWW hSW K hK
                (try dsimp only at hSW)
                replace HZ := Lib.hid (And.intro (HZ.out.1.past hWW) HZ.out.2)
                replace HCAL := Lib.hid (cal_past HCAL.out hWW)
                have HS := Lib.hid hSW
                have HY := Lib.hid (And.intro (Lies.fresh Wn 26 [.int .i64 0, .slice none 0 0, .int .i64 0]) (HLE.out _ hSW))
                clear hSW hWW
                go_simp
                refine hK _ _ ⟨HS.out.1.past (grows_alloc _ _), Nat.le_trans HS.out.2 (grows_alloc _ _).size⟩ ?_
                replace HZ := Lib.hid (And.intro (HZ.out.1.past (grows_alloc _ (.cells #[.int .i64 0, .slice none 0 0, .int .i64 0] 26))) HZ.out.2)
                replace HCAL := Lib.hid (cal_past HCAL.out (grows_alloc _ (.cells #[.int .i64 0, .slice none 0 0, .int .i64 0] 26)))
                replace HS := Lib.hid (And.intro (HS.out.1.past (grows_alloc _ (.cells #[.int .i64 0, .slice none 0 0, .int .i64 0] 26))) (Nat.le_trans HS.out.2 (grows_alloc _ (.cells #[.int .i64 0, .slice none 0 0, .int .i64 0] 26)).size))
                clear hK K; (try simp only [Act.put, List.setIfInBounds_toArray, List.set_cons_zero, List.set_cons_succ])
                generalize Wn.heap.size = xY at *
                refine ord_one RD 13 (by rw [HOP.out]; kernel_rfl) (at_list (by rw [HOP.out]; rfl)) (by rw [HOP.out]; rfl) ?_
                · intro Wn hWW hSW K hK
                  (try dsimp only at hSW)
                  replace HZ := Lib.hid (And.intro (HZ.out.1.past hWW) HZ.out.2)
                  replace HCAL := Lib.hid (cal_past HCAL.out hWW)
                  replace HY := Lib.hid (And.intro (HY.out.1.past hWW) HY.out.2)
                  have HS := Lib.hid hSW
                  have HX := Lib.hid (And.intro (Lies.fresh Wn 23 [.int .i64 0, .int .i64 0]) (HLE.out _ hSW))
                  clear hSW hWW
                  go_simp
                  refine hK _ _ ⟨HS.out.1.past (grows_alloc _ _), Nat.le_trans HS.out.2 (grows_alloc _ _).size⟩ ?_
                  replace HZ := Lib.hid (And.intro (HZ.out.1.past (grows_alloc _ (.cells #[.int .i64 0, .int .i64 0] 23))) HZ.out.2)
                  replace HCAL := Lib.hid (cal_past HCAL.out (grows_alloc _ (.cells #[.int .i64 0, .int .i64 0] 23)))
                  replace HY := Lib.hid (And.intro (HY.out.1.past (grows_alloc _ (.cells #[.int .i64 0, .int .i64 0] 23))) HY.out.2)
                  replace HS := Lib.hid (And.intro (HS.out.1.past (grows_alloc _ (.cells #[.int .i64 0, .int .i64 0] 23))) (Nat.le_trans HS.out.2 (grows_alloc _ (.cells #[.int .i64 0, .int .i64 0] 23)).size))
                  clear hK K; (try simp only [Act.put, List.setIfInBounds_toArray, List.set_cons_zero, List.set_cons_succ])
                  generalize Wn.heap.size = xX at *
                  exact ord_at (by kernel_rfl) (HREST A1 n1 c1 A2 n2 c2 xX xY xZ _ ⟨HS.out, HCAL.out, HX.out, HY.out, HZ.out⟩)
            · intro Wn hWW hSW K hK
              (try dsimp only at hSW)
              replace HZ := Lib.hid (And.intro (HZ.out.1.past hWW) HZ.out.2)
              have HS := Lib.hid hSW
              have HX := Lib.hid (And.intro (Lies.fresh Wn 23 [.int .i64 0, .int .i64 0]) (HLE.out _ hSW))
              clear hSW hWW
              go_simp
              refine hK _ _ ⟨HS.out.1.past (grows_alloc _ _), Nat.le_trans HS.out.2 (grows_alloc _ _).size⟩ ?_
              replace HZ := Lib.hid (And.intro (HZ.out.1.past (grows_alloc _ (.cells #[.int .i64 0, .int .i64 0] 23))) HZ.out.2)
              replace HS := Lib.hid (And.intro (HS.out.1.past (grows_alloc _ (.cells #[.int .i64 0, .int .i64 0] 23))) (Nat.le_trans HS.out.2 (grows_alloc _ (.cells #[.int .i64 0, .int .i64 0] 23)).size))
              clear hK K; (try simp only [Act.put, List.setIfInBounds_toArray, List.set_cons_zero, List.set_cons_succ])
              generalize Wn.heap.size = xX at *
              refine ord_two RD 7 14 (by rw [HOP.out]; kernel_rfl) (at_list (by rw [HOP.out]; rfl)) (at_list (by rw [HOP.out]; rfl)) (by rw [HOP.out]; rfl) (by rw [HOP.out]; rfl) ?_ ?_
              · intro Wn hWW hSW K hK
                (try dsimp only at hSW)
                replace HZ := Lib.hid (And.intro (HZ.out.1.past hWW) HZ.out.2)
                replace HX := Lib.hid (And.intro (HX.out.1.past hWW) HX.out.2)
                have HS := Lib.hid hSW
                clear hSW hWW
                go_simp
                refine (Byte_any s.m s.r A n c s.f B q d x _ HS.out.1.i1 HS.out.1.i2 HXB.out.1 HXB.out.2).mono ?_
                rintro e0 Wc ⟨A1, n1, c1, A2, n2, c2, rfl, i1, o1, i2, o2, hb⟩
                simp only [HST.out.1, HST.out.2.1, HST.out.2.2.1, HST.out.2.2.2] at i1 o1 i2 o2 ⊢
                refine hK _ _ ⟨HS.out.1.past hb, Nat.le_trans HS.out.2 hb.size⟩ ?_
                replace HZ := Lib.hid (And.intro (HZ.out.1.past hb) HZ.out.2)
                replace HX := Lib.hid (And.intro (HX.out.1.past hb) HX.out.2)
                have HCAL := Lib.hid (cal_mk i1 (o1.mono HS.out.1.hb.size) i2 (o2.mono HS.out.1.hb.size))
                replace HS := Lib.hid (And.intro (HS.out.1.past hb) (Nat.le_trans HS.out.2 hb.size))
                clear i1 o1 i2 o2 hb
                clear hK K; (try simp only [Act.put, List.setIfInBounds_toArray, List.set_cons_zero, List.set_cons_succ])
                refine ord_take RD 8 (at_list (by rw [HOP.out]; rfl)) HNS.out HPQ.out (by rw [HOP.out]; kernel_rfl) (by rw [HOP.out]; kernel_rfl) (by rw [HOP.out]; rfl) (fun K hK => ?_); apply Exists.intro; refine ⟨fun W hSW => ?_, hK _ ?_⟩; (focus ((try dsimp only at hSW); go_simp; try with_reducible rfl)); clear hK K; (try simp only [Act.put, List.setIfInBounds_toArray, List.set_cons_zero, List.set_cons_succ])
                refine ord_take RD 9 (at_list (by rw [HOP.out]; rfl)) HNS.out HPQ.out (by rw [HOP.out]; kernel_rfl) (by rw [HOP.out]; kernel_rfl) (by rw [HOP.out]; rfl) (fun K hK => ?_); apply Exists.intro; refine ⟨fun W hSW => ?_, hK _ ?_⟩; (focus ((try dsimp only at hSW); go_simp; try with_reducible rfl)); clear hK K; (try simp only [Act.put, List.setIfInBounds_toArray, List.set_cons_zero, List.set_cons_succ])
                refine ord_take RD 10 (at_list (by rw [HOP.out]; rfl)) HNS.out HPQ.out (by rw [HOP.out]; kernel_rfl) (by rw [HOP.out]; kernel_rfl) (by rw [HOP.out]; rfl) (fun K hK => ?_); apply Exists.intro; refine ⟨fun W hSW => ?_, hK _ ?_⟩; (focus ((try dsimp only at hSW); go_simp; try with_reducible rfl)); clear hK K; (try simp only [Act.put, List.setIfInBounds_toArray, List.set_cons_zero, List.set_cons_succ])
                refine ord_take RD 11 (at_list (by rw [HOP.out]; rfl)) HNS.out HPQ.out (by rw [HOP.out]; kernel_rfl) (by rw [HOP.out]; kernel_rfl) (by rw [HOP.out]; rfl) (fun K hK => ?_); apply Exists.intro; refine ⟨fun W hSW => ?_, hK _ ?_⟩; (focus ((try dsimp only at hSW); go_simp; try with_reducible rfl)); clear hK K; (try simp only [Act.put, List.setIfInBounds_toArray, List.set_cons_zero, List.set_cons_succ])
                refine ord_take RD 12 (at_list (by rw [HOP.out]; rfl)) HNS.out HPQ.out (by rw [HOP.out]; kernel_rfl) (by rw [HOP.out]; kernel_rfl) (by rw [HOP.out]; rfl) (fun K hK => ?_); apply Exists.intro; refine ⟨fun W hSW => ?_, hK _ ?_⟩; (focus ((try dsimp only at hSW); go_simp; try with_reducible rfl)); clear hK K; (try simp only [Act.put, List.setIfInBounds_toArray, List.set_cons_zero, List.set_cons_succ])
                refine ord_one RD 14 (by rw [HOP.out]; kernel_rfl) (at_list (by rw [HOP.out]; rfl)) (by rw [HOP.out]; rfl) ?_
                · intro Wn hWW hSW K hK
                  (try dsimp only at hSW)
                  replace HZ := Lib.hid (And.intro (HZ.out.1.past hWW) HZ.out.2)
                  replace HX := Lib.hid (And.intro (HX.out.1.past hWW) HX.out.2)
                  replace HCAL := Lib.hid (cal_past HCAL.out hWW)
                  have HS := Lib.hid hSW
                  have HY := Lib.hid (And.intro (Lies.fresh Wn 26 [.int .i64 0, .slice none 0 0, .int .i64 0]) (HLE.out _ hSW))
                  clear hSW hWW
                  go_simp
                  refine hK _ _ ⟨HS.out.1.past (grows_alloc _ _), Nat.le_trans HS.out.2 (grows_alloc _ _).size⟩ ?_
                  replace HZ := Lib.hid (And.intro (HZ.out.1.past (grows_alloc _ (.cells #[.int .i64 0, .slice none 0 0, .int .i64 0] 26))) HZ.out.2)
                  replace HX := Lib.hid (And.intro (HX.out.1.past (grows_alloc _ (.cells #[.int .i64 0, .slice none 0 0, .int .i64 0] 26))) HX.out.2)
                  replace HCAL := Lib.hid (cal_past HCAL.out (grows_alloc _ (.cells #[.int .i64 0, .slice none 0 0, .int .i64 0] 26)))
                  replace HS := Lib.hid (And.intro (HS.out.1.past (grows_alloc _ (.cells #[.int .i64 0, .slice none 0 0, .int .i64 0] 26))) (Nat.le_trans HS.out.2 (grows_alloc _ (.cells #[.int .i64 0, .slice none 0 0, .int .i64 0] 26)).size))
                  clear hK K; (try simp only [Act.put, List.setIfInBounds_toArray, List.set_cons_zero, List.set_cons_succ])
                  generalize Wn.heap.size = xY at *
                  exact ord_at (by kernel_rfl) (HREST A1 n1 c1 A2 n2 c2 xX xY xZ _ ⟨HS.out, HCAL.out, HX.out, HY.out, HZ.out⟩)
              · intro Wn hWW hSW K hK
                (try dsimp only at hSW)
                replace HZ := Lib.hid (And.intro (HZ.out.1.past hWW) HZ.out.2)
                replace HX := Lib.hid (And.intro (HX.out.1.past hWW) HX.out.2)
                have HS := Lib.hid hSW
                have HY := Lib.hid (And.intro (Lies.fresh Wn 26 [.int .i64 0, .slice none 0 0, .int .i64 0]) (HLE.out _ hSW))
                clear hSW hWW
                go_simp
                refine hK _ _ ⟨HS.out.1.past (grows_alloc _ _), Nat.le_trans HS.out.2 (grows_alloc _ _).size⟩ ?_
                replace HZ := Lib.hid (And.intro (HZ.out.1.past (grows_alloc _ (.cells #[.int .i64 0, .slice none 0 0, .int .i64 0] 26))) HZ.out.2)
                replace HX := Lib.hid (And.intro (HX.out.1.past (grows_alloc _ (.cells #[.int .i64 0, .slice none 0 0, .int .i64 0] 26))) HX.out.2)
                replace HS := Lib.hid (And.intro (HS.out.1.past (grows_alloc _ (.cells #[.int .i64 0, .slice none 0 0, .int .i64 0] 26))) (Nat.le_trans HS.out.2 (grows_alloc _ (.cells #[.int .i64 0, .slice none 0 0, .int .i64 0] 26)).size))
                clear hK K; (try simp only [Act.put, List.setIfInBounds_toArray, List.set_cons_zero, List.set_cons_succ])
                generalize Wn.heap.size = xY at *
                refine ord_one RD 7 (by rw [HOP.out]; kernel_rfl) (at_list (by rw [HOP.out]; rfl)) (by rw [HOP.out]; rfl) ?_
                · intro Wn hWW hSW K hK
                  (try dsimp only at hSW)
                  replace HZ := Lib.hid (And.intro (HZ.out.1.past hWW) HZ.out.2)
                  replace HX := Lib.hid (And.intro (HX.out.1.past hWW) HX.out.2)
                  replace HY := Lib.hid (And.intro (HY.out.1.past hWW) HY.out.2)
                  have HS := Lib.hid hSW
                  clear hSW hWW
                  go_simp
                  refine (Byte_any s.m s.r A n c s.f B q d x _ HS.out.1.i1 HS.out.1.i2 HXB.out.1 HXB.out.2).mono ?_
                  rintro e0 Wc ⟨A1, n1, c1, A2, n2, c2, rfl, i1, o1, i2, o2, hb⟩
                  simp only [HST.out.1, HST.out.2.1, HST.out.2.2.1, HST.out.2.2.2] at i1 o1 i2 o2 ⊢
                  refine hK _ _ ⟨HS.out.1.past hb, Nat.le_trans HS.out.2 hb.size⟩ ?_
                  replace HZ := Lib.hid (And.intro (HZ.out.1.past hb) HZ.out.2)
                  replace HX := Lib.hid (And.intro (HX.out.1.past hb) HX.out.2)
                  replace HY := Lib.hid (And.intro (HY.out.1.past hb) HY.out.2)
                  have HCAL := Lib.hid (cal_mk i1 (o1.mono HS.out.1.hb.size) i2 (o2.mono HS.out.1.hb.size))
                  replace HS := Lib.hid (And.intro (HS.out.1.past hb) (Nat.le_trans HS.out.2 hb.size))
                  clear i1 o1 i2 o2 hb
                  clear hK K; (try simp only [Act.put, List.setIfInBounds_toArray, List.set_cons_zero, List.set_cons_succ])
                  refine ord_take RD 8 (at_list (by rw [HOP.out]; rfl)) HNS.out HPQ.out (by rw [HOP.out]; kernel_rfl) (by rw [HOP.out]; kernel_rfl) (by rw [HOP.out]; rfl) (fun K hK => ?_); apply Exists.intro; refine ⟨fun W hSW => ?_, hK _ ?_⟩; (focus ((try dsimp only at hSW); go_simp; try with_reducible rfl)); clear hK K; (try simp only [Act.put, List.setIfInBounds_toArray, List.set_cons_zero, List.set_cons_succ])
                  refine ord_take RD 9 (at_list (by rw [HOP.out]; rfl)) HNS.out HPQ.out (by rw [HOP.out]; kernel_rfl) (by rw [HOP.out]; kernel_rfl) (by rw [HOP.out]; rfl) (fun K hK => ?_); apply Exists.intro; refine ⟨fun W hSW => ?_, hK _ ?_⟩; (focus ((try dsimp only at hSW); go_simp; try with_reducible rfl)); clear hK K; (try simp only [Act.put, List.setIfInBounds_toArray, List.set_cons_zero, List.set_cons_succ])
                  refine ord_take RD 10 (at_list (by rw [HOP.out]; rfl)) HNS.out HPQ.out (by rw [HOP.out]; kernel_rfl) (by rw [HOP.out]; kernel_rfl) (by rw [HOP.out]; rfl) (fun K hK => ?_); apply Exists.intro; refine ⟨fun W hSW => ?_, hK _ ?_⟩; (focus ((try dsimp only at hSW); go_simp; try with_reducible rfl)); clear hK K; (try simp only [Act.put, List.setIfInBounds_toArray, List.set_cons_zero, List.set_cons_succ])
                  refine ord_take RD 11 (at_list (by rw [HOP.out]; rfl)) HNS.out HPQ.out (by rw [HOP.out]; kernel_rfl) (by rw [HOP.out]; kernel_rfl) (by rw [HOP.out]; rfl) (fun K hK => ?_); apply Exists.intro; refine ⟨fun W hSW => ?_, hK _ ?_⟩; (focus ((try dsimp only at hSW); go_simp; try with_reducible rfl)); clear hK K; (try simp only [Act.put, List.setIfInBounds_toArray, List.set_cons_zero, List.set_cons_succ])
                  refine ord_take RD 12 (at_list (by rw [HOP.out]; rfl)) HNS.out HPQ.out (by rw [HOP.out]; kernel_rfl) (by rw [HOP.out]; kernel_rfl) (by rw [HOP.out]; rfl) (fun K hK => ?_); apply Exists.intro; refine ⟨fun W hSW => ?_, hK _ ?_⟩; (focus ((try dsimp only at hSW); go_simp; try with_reducible rfl)); clear hK K; (try simp only [Act.put, List.setIfInBounds_toArray, List.set_cons_zero, List.set_cons_succ])
                  exact ord_at (by kernel_rfl) (HREST A1 n1 c1 A2 n2 c2 xX xY xZ _ ⟨HS.out, HCAL.out, HX.out, HY.out, HZ.out⟩)
            · intro Wn hWW hSW K hK
              (try dsimp only at hSW)
              replace HZ := Lib.hid (And.intro (HZ.out.1.past hWW) HZ.out.2)
              have HS := Lib.hid hSW
              have HY := Lib.hid (And.intro (Lies.fresh Wn 26 [.int .i64 0, .slice none 0 0, .int .i64 0]) (HLE.out _ hSW))
              clear hSW hWW
              go_simp
              refine hK _ _ ⟨HS.out.1.past (grows_alloc _ _), Nat.le_trans HS.out.2 (grows_alloc _ _).size⟩ ?_
              replace HZ := Lib.hid (And.intro (HZ.out.1.past (grows_alloc _ (.cells #[.int .i64 0, .slice none 0 0, .int .i64 0] 26))) HZ.out.2)
              replace HS := Lib.hid (And.intro (HS.out.1.past (grows_alloc _ (.cells #[.int .i64 0, .slice none 0 0, .int .i64 0] 26))) (Nat.le_trans HS.out.2 (grows_alloc _ (.cells #[.int .i64 0, .slice none 0 0, .int .i64 0] 26)).size))
              clear hK K; (try simp only [Act.put, List.setIfInBounds_toArray, List.set_cons_zero, List.set_cons_succ])
              generalize Wn.heap.size = xY at *
              refine ord_two RD 7 13 (by rw [HOP.out]; kernel_rfl) (at_list (by rw [HOP.out]; rfl)) (at_list (by rw [HOP.out]; rfl)) (by rw [HOP.out]; rfl) (by rw [HOP.out]; rfl) ?_ ?_
              · intro Wn hWW hSW K hK
                (try dsimp only at hSW)
                replace HZ := Lib.hid (And.intro (HZ.out.1.past hWW) HZ.out.2)
                replace HY := Lib.hid (And.intro (HY.out.1.past hWW) HY.out.2)
                have HS := Lib.hid hSW
                clear hSW hWW
                go_simp
                refine (Byte_any s.m s.r A n c s.f B q d x _ HS.out.1.i1 HS.out.1.i2 HXB.out.1 HXB.out.2).mono ?_
                rintro e0 Wc ⟨A1, n1, c1, A2, n2, c2, rfl, i1, o1, i2, o2, hb⟩
                simp only [HST.out.1, HST.out.2.1, HST.out.2.2.1, HST.out.2.2.2] at i1 o1 i2 o2 ⊢
                refine hK _ _ ⟨HS.out.1.past hb, Nat.le_trans HS.out.2 hb.size⟩ ?_
                replace HZ := Lib.hid (And.intro (HZ.out.1.past hb) HZ.out.2)
                replace HY := Lib.hid (And.intro (HY.out.1.past hb) HY.out.2)
                have HCAL := Lib.hid (cal_mk i1 (o1.mono HS.out.1.hb.size) i2 (o2.mono HS.out.1.hb.size))
                replace HS := Lib.hid (And.intro (HS.out.1.past hb) (Nat.le_trans HS.out.2 hb.size))
                clear i1 o1 i2 o2 hb
                clear hK K; (try simp only [Act.put, List.setIfInBounds_toArray, List.set_cons_zero, List.set_cons_succ])
                refine ord_take RD 8 (at_list (by rw [HOP.out]; rfl)) HNS.out HPQ.out (by rw [HOP.out]; kernel_rfl) (by rw [HOP.out]; kernel_rfl) (by rw [HOP.out]; rfl) (fun K hK => ?_); apply Exists.intro; refine ⟨fun W hSW => ?_, hK _ ?_⟩; (focus ((try dsimp only at hSW); go_simp; try with_reducible rfl)); clear hK K; (try simp only [Act.put, List.setIfInBounds_toArray, List.set_cons_zero, List.set_cons_succ])
                refine ord_take RD 9 (at_list (by rw [HOP.out]; rfl)) HNS.out HPQ.out (by rw [HOP.out]; kernel_rfl) (by rw [HOP.out]; kernel_rfl) (by rw [HOP.out]; rfl) (fun K hK => ?_); apply Exists.intro; refine ⟨fun W hSW => ?_, hK _ ?_⟩; (focus ((try dsimp only at hSW); go_simp; try with_reducible rfl)); clear hK K; (try simp only [Act.put, List.setIfInBounds_toArray, List.set_cons_zero, List.set_cons_succ])
                refine ord_take RD 10 (at_list (by rw [HOP.out]; rfl)) HNS.out HPQ.out (by rw [HOP.out]; kernel_rfl) (by rw [HOP.out]; kernel_rfl) (by rw [HOP.out]; rfl) (fun K hK => ?_); apply Exists.intro; refine ⟨fun W hSW => ?_, hK _ ?_⟩; (focus ((try dsimp only at hSW); go_simp; try with_reducible rfl)); clear hK K; (try simp only [Act.put, List.setIfInBounds_toArray, List.set_cons_zero, List.set_cons_succ])
                refine ord_take RD 11 (at_list (by rw [HOP.out]; rfl)) HNS.out HPQ.out (by rw [HOP.out]; kernel_rfl) (by rw [HOP.out]; kernel_rfl) (by rw [HOP.out]; rfl) (fun K hK => ?_); apply Exists.intro; refine ⟨fun W hSW => ?_, hK _ ?_⟩; (focus ((try dsimp only at hSW); go_simp; try with_reducible rfl)); clear hK K; (try simp only [Act.put, List.setIfInBounds_toArray, List.set_cons_zero, List.set_cons_succ])
                refine ord_take RD 12 (at_list (by rw [HOP.out]; rfl)) HNS.out HPQ.out (by rw [HOP.out]; kernel_rfl) (by rw [HOP.out]; kernel_rfl) (by rw [HOP.out]; rfl) (fun K hK => ?_); apply Exists.intro; refine ⟨fun W hSW => ?_, hK _ ?_⟩; (focus ((try dsimp only at hSW); go_simp; try with_reducible rfl)); clear hK K; (try simp only [Act.put, List.setIfInBounds_toArray, List.set_cons_zero, List.set_cons_succ])
                refine ord_one RD 13 (by rw [HOP.out]; kernel_rfl) (at_list (by rw [HOP.out]; rfl)) (by rw [HOP.out]; rfl) ?_
                · intro Wn hWW hSW K hK
                  (try dsimp only at hSW)
                  replace HZ := Lib.hid (And.intro (HZ.out.1.past hWW) HZ.out.2)
                  replace HY := Lib.hid (And.intro (HY.out.1.past hWW) HY.out.2)
                  replace HCAL := Lib.hid (cal_past HCAL.out hWW)
                  have HS := Lib.hid hSW
                  have HX := Lib.hid (And.intro (Lies.fresh Wn 23 [.int .i64 0, .int .i64 0]) (HLE.out _ hSW))
                  clear hSW hWW
                  go_simp
                  refine hK _ _ ⟨HS.out.1.past (grows_alloc _ _), Nat.le_trans HS.out.2 (grows_alloc _ _).size⟩ ?_
                  replace HZ := Lib.hid (And.intro (HZ.out.1.past (grows_alloc _ (.cells #[.int .i64 0, .int .i64 0] 23))) HZ.out.2)
                  replace HY := Lib.hid (And.intro (HY.out.1.past (grows_alloc _ (.cells #[.int .i64 0, .int .i64 0] 23))) HY.out.2)
                  replace HCAL := Lib.hid (cal_past HCAL.out (grows_alloc _ (.cells #[.int .i64 0, .int .i64 0] 23)))
                  replace HS := Lib.hid (And.intro (HS.out.1.past (grows_alloc _ (.cells #[.int .i64 0, .int .i64 0] 23))) (Nat.le_trans HS.out.2 (grows_alloc _ (.cells #[.int .i64 0, .int .i64 0] 23)).size))
                  clear hK K; (try simp only [Act.put, List.setIfInBounds_toArray, List.set_cons_zero, List.set_cons_succ])
                  generalize Wn.heap.size = xX at *
                  exact ord_at (by kernel_rfl) (HREST A1 n1 c1 A2 n2 c2 xX xY xZ _ ⟨HS.out, HCAL.out, HX.out, HY.out, HZ.out⟩)
              · intro Wn hWW hSW K hK
                (try dsimp only at hSW)
                replace HZ := Lib.hid (And.intro (HZ.out.1.past hWW) HZ.out.2)
                replace HY := Lib.hid (And.intro (HY.out.1.past hWW) HY.out.2)
                have HS := Lib.hid hSW
                have HX := Lib.hid (And.intro (Lies.fresh Wn 23 [.int .i64 0, .int .i64 0]) (HLE.out _ hSW))
                clear hSW hWW
                go_simp
                refine hK _ _ ⟨HS.out.1.past (grows_alloc _ _), Nat.le_trans HS.out.2 (grows_alloc _ _).size⟩ ?_
                replace HZ := Lib.hid (And.intro (HZ.out.1.past (grows_alloc _ (.cells #[.int .i64 0, .int .i64 0] 23))) HZ.out.2)
                replace HY := Lib.hid (And.intro (HY.out.1.past (grows_alloc _ (.cells #[.int .i64 0, .int .i64 0] 23))) HY.out.2)
                replace HS := Lib.hid (And.intro (HS.out.1.past (grows_alloc _ (.cells #[.int .i64 0, .int .i64 0] 23))) (Nat.le_trans HS.out.2 (grows_alloc _ (.cells #[.int .i64 0, .int .i64 0] 23)).size))
                clear hK K; (try simp only [Act.put, List.setIfInBounds_toArray, List.set_cons_zero, List.set_cons_succ])
                generalize Wn.heap.size = xX at *
                refine ord_one RD 7 (by rw [HOP.out]; kernel_rfl) (at_list (by rw [HOP.out]; rfl)) (by rw [HOP.out]; rfl) ?_
                · intro Wn hWW hSW K hK
                  (try dsimp only at hSW)
                  replace HZ := Lib.hid (And.intro (HZ.out.1.past hWW) HZ.out.2)
                  replace HY := Lib.hid (And.intro (HY.out.1.past hWW) HY.out.2)
                  replace HX := Lib.hid (And.intro (HX.out.1.past hWW) HX.out.2)
                  have HS := Lib.hid hSW
                  clear hSW hWW
                  go_simp
                  refine (Byte_any s.m s.r A n c s.f B q d x _ HS.out.1.i1 HS.out.1.i2 HXB.out.1 HXB.out.2).mono ?_
                  rintro e0 Wc ⟨A1, n1, c1, A2, n2, c2, rfl, i1, o1, i2, o2, hb⟩
                  simp only [HST.out.1, HST.out.2.1, HST.out.2.2.1, HST.out.2.2.2] at i1 o1 i2 o2 ⊢
                  refine hK _ _ ⟨HS.out.1.past hb, Nat.le_trans HS.out.2 hb.size⟩ ?_
                  replace HZ := Lib.hid (And.intro (HZ.out.1.past hb) HZ.out.2)
                  replace HY := Lib.hid (And.intro (HY.out.1.past hb) HY.out.2)
                  replace HX := Lib.hid (And.intro (HX.out.1.past hb) HX.out.2)
                  have HCAL := Lib.hid (cal_mk i1 (o1.mono HS.out.1.hb.size) i2 (o2.mono HS.out.1.hb.size))
                  replace HS := Lib.hid (And.intro (HS.out.1.past hb) (Nat.le_trans HS.out.2 hb.size))
                  clear i1 o1 i2 o2 hb
                  clear hK K; (try simp only [Act.put, List.setIfInBounds_toArray, List.set_cons_zero, List.set_cons_succ])
                  refine ord_take RD 8 (at_list (by rw [HOP.out]; rfl)) HNS.out HPQ.out (by rw [HOP.out]; kernel_rfl) (by rw [HOP.out]; kernel_rfl) (by rw [HOP.out]; rfl) (fun K hK => ?_); apply Exists.intro; refine ⟨fun W hSW => ?_, hK _ ?_⟩; (focus ((try dsimp only at hSW); go_simp; try with_reducible rfl)); clear hK K; (try simp only [Act.put, List.setIfInBounds_toArray, List.set_cons_zero, List.set_cons_succ])
                  refine ord_take RD 9 (at_list (by rw [HOP.out]; rfl)) HNS.out HPQ.out (by rw [HOP.out]; kernel_rfl) (by rw [HOP.out]; kernel_rfl) (by rw [HOP.out]; rfl) (fun K hK => ?_); apply Exists.intro; refine ⟨fun W hSW => ?_, hK _ ?_⟩; (focus ((try dsimp only at hSW); go_simp; try with_reducible rfl)); clear hK K; (try simp only [Act.put, List.setIfInBounds_toArray, List.set_cons_zero, List.set_cons_succ])
                  refine ord_take RD 10 (at_list (by rw [HOP.out]; rfl)) HNS.out HPQ.out (by rw [HOP.out]; kernel_rfl) (by rw [HOP.out]; kernel_rfl) (by rw [HOP.out]; rfl) (fun K hK => ?_); apply Exists.intro; refine ⟨fun W hSW => ?_, hK _ ?_⟩; (focus ((try dsimp only at hSW); go_simp; try with_reducible rfl)); clear hK K; (try simp only [Act.put, List.setIfInBounds_toArray, List.set_cons_zero, List.set_cons_succ])
                  refine ord_take RD 11 (at_list (by rw [HOP.out]; rfl)) HNS.out HPQ.out (by rw [HOP.out]; kernel_rfl) (by rw [HOP.out]; kernel_rfl) (by rw [HOP.out]; rfl) (fun K hK => ?_); apply Exists.intro; refine ⟨fun W hSW => ?_, hK _ ?_⟩; (focus ((try dsimp only at hSW); go_simp; try with_reducible rfl)); clear hK K; (try simp only [Act.put, List.setIfInBounds_toArray, List.set_cons_zero, List.set_cons_succ])
                  refine ord_take RD 12 (at_list (by rw [HOP.out]; rfl)) HNS.out HPQ.out (by rw [HOP.out]; kernel_rfl) (by rw [HOP.out]; kernel_rfl) (by rw [HOP.out]; rfl) (fun K hK => ?_); apply Exists.intro; refine ⟨fun W hSW => ?_, hK _ ?_⟩; (focus ((try dsimp only at hSW); go_simp; try with_reducible rfl)); clear hK K; (try simp only [Act.put, List.setIfInBounds_toArray, List.set_cons_zero, List.set_cons_succ])
                  exact ord_at (by kernel_rfl) (HREST A1 n1 c1 A2 n2 c2 xX xY xZ _ ⟨HS.out, HCAL.out, HX.out, HY.out, HZ.out⟩)
      · intro A1 n1 c1 A2 n2 c2 xX xY xZ W hC
        have HC := Lib.hid hC
        have HXG0 : Hid (wr.heap.size ≤ xX ∧ wr.heap.size ≤ xY ∧ wr.heap.size ≤ xZ) := Lib.hid ⟨hC.2.2.1.2, hC.2.2.2.1.2, hC.2.2.2.2.2⟩
        clear hC
        have HGX : Hid (gM < wr.heap.size ∧ gR < wr.heap.size ∧ gF < wr.heap.size ∧ w.heap.size ≤ wr.heap.size) := Lib.hid ⟨HM.out.lm.lt, HM.out.lr.lt, HM.out.lf.lt, HM.out.hb.size⟩
        have RD' := grows_roads (S := fun x' => Mov w x' gM gR gF xX xY xZ w.heap.size (w.heap.size + 1) (w.heap.size + 2) s.m s.r A n c s.f B q d ∧ wr.heap.size ≤ x'.heap.size) (fun a b h1 h2 => ⟨h2.1.past h1, Nat.le_trans h2.2 h1.size⟩)
        refine ord_more RD' (S' := fun x' => Mov w x' gM gR gF xX xY xZ w.heap.size (w.heap.size + 1) (w.heap.size + 2) s.m s.r A n c s.f B q d ∧ wr.heap.size ≤ x'.heap.size) ?_ ?_ ?_
        · intro W1 hW1
          exact ⟨⟨hW1.1.lm, hW1.1.lr, hW1.1.lf, hW1.1.ym, hW1.1.yr, hW1.1.yf, hW1.1.ym, hW1.1.yr, hW1.1.yf, HM.out.nm, HM.out.nr, HM.out.nf, HM.out.bm, hW1.1.o, hW1.1.v, hW1.1.i1, hW1.1.i2, hW1.1.hb⟩, hW1.2⟩
        · intro W1 hg hW1
          have g := HGX.out
          have e1 := HC.out.2.2.1
          have e2 := HC.out.2.2.2.1
          have e3 := HC.out.2.2.2.2
          exact ⟨⟨hW1.1.lm, hW1.1.lr, hW1.1.lf, ⟨_, _, e1.1.past hg⟩, ⟨_, _, _, e2.1.past hg⟩, ⟨_, _, e3.1.past hg⟩, hW1.1.zm, hW1.1.zr, hW1.1.zf, by omega, by omega, by omega, ⟨by omega, by omega, by omega⟩, hW1.1.o, hW1.1.v, hW1.1.i1, hW1.1.i2, hW1.1.hb⟩, hW1.2⟩
        clear RD
        have RD := RD'
        clear RD'
        refine ord_one RD 16 (by rw [HOP.out]; kernel_rfl) (at_list (by rw [HOP.out]; rfl)) (by rw [HOP.out]; rfl) (fun Wa hWW hSW K hK => ?_); (try dsimp only at hSW)
        have HS := Lib.hid hSW
        have HCa := Lib.hid (cal_past HC.out.2.1 hWW)
        clear hSW hWW
        obtain ⟨xa, xb, K1⟩ := HS.out.1.zm
        obtain ⟨k0', k1', k2', k3'⟩ := K1.two
        have kl := K1.lt
        have HL3 := Lib.hid ((K1.set 0 (.int .i64 s2.m.a)).set 1 (.int .i64 s2.m.k))
        have HCb := Lib.hid (cal_st (cal_st HCa.out K1 (by decide) (by decide) 0 (.int .i64 s2.m.a)) (K1.set 0 (.int .i64 s2.m.a)) (by decide) (by decide) 1 (.int .i64 s2.m.k))
        clear K1
        go_simp
        refine hK _ _ ⟨HS.out.1.stM _ _, by simp; exact HS.out.2⟩ ?_
        clear k0' k1' k2' k3' kl HS HCa
        clear hK K; (try simp only [Act.put, List.setIfInBounds_toArray, List.set_cons_zero, List.set_cons_succ])
        refine ord_one RD 17 (by rw [HOP.out]; kernel_rfl) (at_list (by rw [HOP.out]; rfl)) (by rw [HOP.out]; rfl) (fun Wb hWW hSW K hK => ?_); (try dsimp only at hSW)
        have HS := Lib.hid hSW
        have HL4 := Lib.hid (HL3.out.past hWW)
        have HCa := Lib.hid (cal_past HCb.out hWW)
        clear HL3 hSW hWW HCb
        obtain ⟨xa, xb, xc, K1⟩ := HS.out.1.zr
        obtain ⟨k0', k1', k2', k3', k4', k5'⟩ := K1.three
        have kl := K1.lt
        have hxy : xY ≠ xX := lies_ne K1 HL4.out (by decide)
        have HL5 := Lib.hid (And.intro (((HL4.out.other (p := ⟨xY, 0, none⟩) hxy (.int .i64 s2.r.l)).other (p := ⟨xY, 1, none⟩) hxy (.slice A1 n1 c1)).other (p := ⟨xY, 2, none⟩) hxy (.int .i64 s2.r.n)) (K1.store3 (a := .int .i64 s2.r.l) (b := .slice A1 n1 c1) (c := .int .i64 s2.r.n)))
        have HCb := Lib.hid (cal_st (cal_st (cal_st HCa.out K1 (by decide) (by decide) 0 (.int .i64 s2.r.l)) (K1.set 0 (.int .i64 s2.r.l)) (by decide) (by decide) 1 (.slice A1 n1 c1)) ((K1.set 0 (.int .i64 s2.r.l)).set 1 (.slice A1 n1 c1)) (by decide) (by decide) 2 (.int .i64 s2.r.n))
        clear K1 HL4 hxy
        go_simp
        refine hK _ _ ⟨HS.out.1.stR _ _ _, by simp; exact HS.out.2⟩ ?_
        clear k0' k1' k2' k3' k4' k5' kl HS HCa
        clear hK K; (try simp only [Act.put, List.setIfInBounds_toArray, List.set_cons_zero, List.set_cons_succ])
        refine ord_one RD 18 (by rw [HOP.out]; kernel_rfl) (at_list (by rw [HOP.out]; rfl)) (by rw [HOP.out]; rfl) (fun Wc hWW hSW K hK => ?_); (try dsimp only at hSW)
        have HS := Lib.hid hSW
        have HL6 := Lib.hid (And.intro (HL5.out.1.past hWW) (HL5.out.2.past hWW))
        have HCa := Lib.hid (cal_past HCb.out hWW)
        clear HL5 hSW hWW HCb
        obtain ⟨xa, xb, K1⟩ := HS.out.1.zf
        obtain ⟨k0', k1', k2', k3'⟩ := K1.two
        have kl := K1.lt
        have hxz : xZ ≠ xX := lies_ne K1 HL6.out.1 (by decide)
        have hyz : xZ ≠ xY := lies_ne K1 HL6.out.2 (by decide)
        have HL7 := Lib.hid (And.intro ((HL6.out.1.other (p := ⟨xZ, 0, none⟩) hxz (.int .i64 s2.f.l)).other (p := ⟨xZ, 1, none⟩) hxz (.slice A2 n2 c2)) (And.intro ((HL6.out.2.other (p := ⟨xZ, 0, none⟩) hyz (.int .i64 s2.f.l)).other (p := ⟨xZ, 1, none⟩) hyz (.slice A2 n2 c2)) ((K1.set 0 (.int .i64 s2.f.l)).set 1 (.slice A2 n2 c2))))
        have HCb := Lib.hid (cal_st (cal_st HCa.out K1 (by decide) (by decide) 0 (.int .i64 s2.f.l)) (K1.set 0 (.int .i64 s2.f.l)) (by decide) (by decide) 1 (.slice A2 n2 c2))
        clear K1 HL6 hxz hyz
        go_simp
        refine hK _ _ ⟨HS.out.1.stF _ _, by simp; exact HS.out.2⟩ ?_
        clear k0' k1' k2' k3' kl HS HCa
        clear hK K; (try simp only [Act.put, List.setIfInBounds_toArray, List.set_cons_zero, List.set_cons_succ])
        refine ord_take RD 19 (at_list (by rw [HOP.out]; rfl)) HNS.out HPQ.out (by rw [HOP.out]; kernel_rfl) (by rw [HOP.out]; kernel_rfl) (by rw [HOP.out]; rfl) (fun K hK => ?_); apply Exists.intro; refine ⟨fun W hSW => ?_, hK _ ?_⟩; (focus ((try dsimp only at hSW); go_simp; try with_reducible rfl)); clear hK K; (try simp only [Act.put, List.setIfInBounds_toArray, List.set_cons_zero, List.set_cons_succ])
        refine ord_done (by rw [HOP.out]; kernel_rfl) (fun Wd hWW hSW => HN.out _ _ ?_); clear HOP HNS HPQ HN RD; (try dsimp only at hSW)
        have HS := Lib.hid hSW.1
        have HL8 := Lib.hid (And.intro (HL7.out.1.past hWW) (And.intro (HL7.out.2.1.past hWW) (HL7.out.2.2.past hWW)))
        have HCc := Lib.hid (cal_past HCb.out hWW)
        clear hSW hWW HL7 HCb HC
        have HXG : Hid (wr.heap.size ≤ xX ∧ wr.heap.size ≤ xY ∧ wr.heap.size ≤ xZ) := HXG0
        obtain ⟨p0, p1, -, -⟩ := HL8.out.1.two
        have pl := HL8.out.1.lt
        go_wp2_with fail
        refine (rCheck_any s2.m _).mono ?_
        rintro e w5 ⟨rfl, hb5⟩
        rw [HCK.out.1]
        have HS5 := Lib.hid (HS.out.past hb5)
        have HL9 := Lib.hid (And.intro (HL8.out.1.past hb5) (And.intro (HL8.out.2.1.past hb5) (HL8.out.2.2.past hb5)))
        have HC5 := Lib.hid (cal_past HCc.out hb5)
        clear hb5 p0 p1 pl HS HL8 HCc
        obtain ⟨p0, p1, p2, -, -, -⟩ := HL9.out.2.1.three
        have pl := HL9.out.2.1.lt
        go_wp2_with fail
        refine (rgW.rCheck_any s2.r A1 n1 c1 _ HC5.out.1).mono ?_
        rintro e w6 ⟨rfl, hb6⟩
        rw [HCK.out.2.1]
        have HS6 := Lib.hid (HS5.out.past hb6)
        have HLa := Lib.hid (And.intro (HL9.out.1.past hb6) (And.intro (HL9.out.2.1.past hb6) (HL9.out.2.2.past hb6)))
        have HC6 := Lib.hid (cal_past HC5.out hb6)
        clear hb6 p0 p1 p2 pl HS5 HL9 HC5
        obtain ⟨p0, p1, -, -⟩ := HLa.out.2.2.two
        have pl := HLa.out.2.2.lt
        go_wp2_with fail
        refine (fdW.rCheck_any s2.f A2 n2 c2 _ HC6.out.2.2.1).mono ?_
        rintro e w7 ⟨rfl, hb7⟩
        rw [HCK.out.2.2]
        have HM7 : Hid (Mov w w7 xX xY xZ gM gR gF w.heap.size (w.heap.size + 1) (w.heap.size + 2) s2.m s2.r A1 n1 c1 s2.f A2 n2 c2) := Lib.hid (by
          have h6 := HS6.out.past hb7
          have hc := cal_past HC6.out hb7
          have g := HGX.out
          have g2 := HXG.out
          have g3 := HGE.out
          exact ⟨HLa.out.1.past hb7, HLa.out.2.1.past hb7, HLa.out.2.2.past hb7, ⟨_, _, h6.lm⟩, ⟨_, _, _, h6.lr⟩, ⟨_, _, h6.lf⟩, h6.ym, h6.yr, h6.yf, by omega, by omega, by omega, g3, hc.2.1, hc.2.2.2, hc.1, hc.2.2.1, h6.hb⟩)
        clear hb7 p0 p1 pl HS6 HLa HC6
        go_wp2_with fail
        (have RD := grows_roads (S := fun x' => Mov w x' xX xY xZ gM gR gF w.heap.size (w.heap.size + 1) (w.heap.size + 2) s2.m s2.r A1 n1 c1 s2.f A2 n2 c2) (fun a b h1 h2 => h2.past h1)); refine region_ord _ Grows RD (HM7.out.past (Below.drew (Below.refl _ _))) (by kernel_rfl) ?_; intro ops Q' hops hPQ hN; (have HNS : Hid (Region.noSelect ops = true) := Lib.hid (by rw [hops]; kernel_rfl)); (have hsz : ops.size = 6 := (by rw [hops]; rfl)); have HOP := Lib.hid hops; have HPQ := Lib.hid hPQ; have HN := Lib.hid hN; rw [hsz]; clear hops hsz hPQ hN
        refine ord_take RD 0 (at_list (by rw [HOP.out]; rfl)) HNS.out HPQ.out (by rw [HOP.out]; kernel_rfl) (by rw [HOP.out]; kernel_rfl) (by rw [HOP.out]; rfl) (fun K hK => ?_); apply Exists.intro; refine ⟨fun W hSW => ?_, hK _ ?_⟩; (focus ((try dsimp only at hSW); (obtain ⟨y0, y1, -, -⟩ := hSW.lm.two); go_simp; try with_reducible rfl)); clear hK K; (try simp only [Act.put, List.setIfInBounds_toArray, List.set_cons_zero, List.set_cons_succ])
        refine ord_take RD 1 (at_list (by rw [HOP.out]; rfl)) HNS.out HPQ.out (by rw [HOP.out]; kernel_rfl) (by rw [HOP.out]; kernel_rfl) (by rw [HOP.out]; rfl) (fun K hK => ?_); apply Exists.intro; refine ⟨fun W hSW => ?_, hK _ ?_⟩; (focus ((try dsimp only at hSW); (obtain ⟨y0, y1, y2, -, -, -⟩ := hSW.lr.three); go_simp; try with_reducible rfl)); clear hK K; (try simp only [Act.put, List.setIfInBounds_toArray, List.set_cons_zero, List.set_cons_succ])
        refine ord_take RD 2 (at_list (by rw [HOP.out]; rfl)) HNS.out HPQ.out (by rw [HOP.out]; kernel_rfl) (by rw [HOP.out]; kernel_rfl) (by rw [HOP.out]; rfl) (fun K hK => ?_); apply Exists.intro; refine ⟨fun W hSW => ?_, hK _ ?_⟩; (focus ((try dsimp only at hSW); (obtain ⟨y0, y1, -, -⟩ := hSW.lf.two); go_simp; try with_reducible rfl)); clear hK K; (try simp only [Act.put, List.setIfInBounds_toArray, List.set_cons_zero, List.set_cons_succ])
        refine ord_one RD 3 (by rw [HOP.out]; kernel_rfl) (at_list (by rw [HOP.out]; rfl)) (by rw [HOP.out]; rfl) (fun Wa hWW hSW K hK => ?_); (try dsimp only at hSW)
        have HS := Lib.hid hSW
        clear hSW hWW
        obtain ⟨xa, xb, K1⟩ := HS.out.zm
        obtain ⟨k0', k1', k2', k3'⟩ := K1.two
        have kl := K1.lt
        have HL3 := Lib.hid ((K1.set 0 (.int .i64 s2.m.a)).set 1 (.int .i64 s2.m.k))
        clear K1
        go_simp
        refine hK _ _ (HS.out.stM _ _) ?_
        clear k0' k1' k2' k3' kl HS
        clear hK K; (try simp only [Act.put, List.setIfInBounds_toArray, List.set_cons_zero, List.set_cons_succ])
        refine ord_one RD 4 (by rw [HOP.out]; kernel_rfl) (at_list (by rw [HOP.out]; rfl)) (by rw [HOP.out]; rfl) (fun Wb hWW hSW K hK => ?_); (try dsimp only at hSW)
        have HS := Lib.hid hSW
        have HL4 := Lib.hid (HL3.out.past hWW)
        clear HL3 hSW hWW
        obtain ⟨xa, xb, xc, K1⟩ := HS.out.zr
        obtain ⟨k0', k1', k2', k3', k4', k5'⟩ := K1.three
        have kl := K1.lt
        have hxy : gR ≠ gM := lies_ne K1 HL4.out (by decide)
        have HL5 := Lib.hid (And.intro (((HL4.out.other (p := ⟨gR, 0, none⟩) hxy (.int .i64 s2.r.l)).other (p := ⟨gR, 1, none⟩) hxy (.slice A1 n1 c1)).other (p := ⟨gR, 2, none⟩) hxy (.int .i64 s2.r.n)) (K1.store3 (a := .int .i64 s2.r.l) (b := .slice A1 n1 c1) (c := .int .i64 s2.r.n)))
        clear K1 HL4 hxy
        go_simp
        refine hK _ _ (HS.out.stR _ _ _) ?_
        clear k0' k1' k2' k3' k4' k5' kl HS
        clear hK K; (try simp only [Act.put, List.setIfInBounds_toArray, List.set_cons_zero, List.set_cons_succ])
        refine ord_one RD 5 (by rw [HOP.out]; kernel_rfl) (at_list (by rw [HOP.out]; rfl)) (by rw [HOP.out]; rfl) (fun Wc hWW hSW K hK => ?_); (try dsimp only at hSW)
        have HS := Lib.hid hSW
        have HL6 := Lib.hid (And.intro (HL5.out.1.past hWW) (HL5.out.2.past hWW))
        clear HL5 hSW hWW
        obtain ⟨xa, xb, K1⟩ := HS.out.zf
        obtain ⟨k0', k1', k2', k3'⟩ := K1.two
        have kl := K1.lt
        have hxz : gF ≠ gM := lies_ne K1 HL6.out.1 (by decide)
        have hyz : gF ≠ gR := lies_ne K1 HL6.out.2 (by decide)
        have HL7 := Lib.hid (And.intro ((HL6.out.1.other (p := ⟨gF, 0, none⟩) hxz (.int .i64 s2.f.l)).other (p := ⟨gF, 1, none⟩) hxz (.slice A2 n2 c2)) (And.intro ((HL6.out.2.other (p := ⟨gF, 0, none⟩) hyz (.int .i64 s2.f.l)).other (p := ⟨gF, 1, none⟩) hyz (.slice A2 n2 c2)) ((K1.set 0 (.int .i64 s2.f.l)).set 1 (.slice A2 n2 c2))))
        clear K1 HL6 hxz hyz
        go_simp
        refine hK _ _ (HS.out.stF _ _) ?_
        clear k0' k1' k2' k3' kl HS
        clear hK K; (try simp only [Act.put, List.setIfInBounds_toArray, List.set_cons_zero, List.set_cons_succ])
        refine ord_done (by rw [HOP.out]; kernel_rfl) (fun Wd2 hWW hSW => HN.out _ _ ?_); clear HOP HNS HPQ HN RD; (try dsimp only at hSW)
        have HMe : Hid (Mov w Wd2 gM gR gF w.heap.size (w.heap.size + 1) (w.heap.size + 2) w.heap.size (w.heap.size + 1) (w.heap.size + 2) s2.m s2.r A1 n1 c1 s2.f A2 n2 c2) := Lib.hid
          ⟨HL7.out.1.past hWW, HL7.out.2.1.past hWW, HL7.out.2.2.past hWW, hSW.ym, hSW.yr, hSW.yf, hSW.ym, hSW.yr, hSW.yf, HM.out.nm, HM.out.nr, HM.out.nf, HM.out.bm, hSW.o, hSW.v, hSW.i1, hSW.i2, hSW.hb⟩
        clear hSW hWW HL7 HM7
        go_wp2_with fail
        refine ⟨⟨k + 1, A1, n1, c1, A2, n2, c2, by have := HLT.out; omega, by first | rfl | go_num, by rw [HS2.out]; exact HMe.out⟩, by simp [intOf]; have := HLT.out; omega⟩
    · have ek : k = bn := by omega
      subst ek
      have htk : bs.take k = bs := by rw [List.take_of_length_le (by rw [HBN.out]; exact Nat.le_refl _)]
      rw [htk] at M
      obtain ⟨s, hs⟩ : ∃ s, came3 l bs = s := ⟨_, rfl⟩
      rw [hs] at M
      have HSS := Lib.hid hs
      have HM := Lib.hid M
      have kn : ¬ ((k : Int) < (k : Int)) := by omega
      clear M hs htk hlt hk
      go_wp2_with fail
      (have RD := grows_roads (S := fun x' => Mov w x' gM gR gF w.heap.size (w.heap.size + 1) (w.heap.size + 2) w.heap.size (w.heap.size + 1) (w.heap.size + 2) s.m s.r A n c s.f B q d) (fun a b h1 h2 => h2.past h1)); refine region_ord _ Grows RD (HM.out.past (Below.drew (Below.refl _ _))) (by kernel_rfl) ?_; intro ops Q' hops hPQ hN; (have HNS : Hid (Region.noSelect ops = true) := Lib.hid (by rw [hops]; kernel_rfl)); (have hsz : ops.size = 7 := (by rw [hops]; rfl)); have HOP := Lib.hid hops; have HPQ := Lib.hid hPQ; have HN := Lib.hid hN; rw [hsz]; clear hops hsz hPQ hN
      refine ord_take RD 0 (at_list (by rw [HOP.out]; rfl)) HNS.out HPQ.out (by rw [HOP.out]; kernel_rfl) (by rw [HOP.out]; kernel_rfl) (by rw [HOP.out]; rfl) (fun K hK => ?_); apply Exists.intro; refine ⟨fun W hSW => ?_, hK _ ?_⟩; (focus ((try dsimp only at hSW); (obtain ⟨y0, y1, -, -⟩ := hSW.lm.two); go_simp; try with_reducible rfl)); clear hK K; (try simp only [Act.put, List.setIfInBounds_toArray, List.set_cons_zero, List.set_cons_succ])
      refine ord_take RD 1 (at_list (by rw [HOP.out]; rfl)) HNS.out HPQ.out (by rw [HOP.out]; kernel_rfl) (by rw [HOP.out]; kernel_rfl) (by rw [HOP.out]; rfl) (fun K hK => ?_); apply Exists.intro; refine ⟨fun W hSW => ?_, hK _ ?_⟩; (focus ((try dsimp only at hSW); (obtain ⟨y0, y1, y2, -, -, -⟩ := hSW.lr.three); go_simp; try with_reducible rfl)); clear hK K; (try simp only [Act.put, List.setIfInBounds_toArray, List.set_cons_zero, List.set_cons_succ])
      refine ord_take RD 2 (at_list (by rw [HOP.out]; rfl)) HNS.out HPQ.out (by rw [HOP.out]; kernel_rfl) (by rw [HOP.out]; kernel_rfl) (by rw [HOP.out]; rfl) (fun K hK => ?_); apply Exists.intro; refine ⟨fun W hSW => ?_, hK _ ?_⟩; (focus ((try dsimp only at hSW); (obtain ⟨y0, y1, -, -⟩ := hSW.lf.two); go_simp; try with_reducible rfl)); clear hK K; (try simp only [Act.put, List.setIfInBounds_toArray, List.set_cons_zero, List.set_cons_succ])
      refine ord_one RD 3 (by rw [HOP.out]; kernel_rfl) (at_list (by rw [HOP.out]; rfl)) (by rw [HOP.out]; rfl) (fun Wa hWW hSW K hK => ?_); (try dsimp only at hSW)
      have HS := Lib.hid hSW
      clear hSW hWW
      obtain ⟨xa, xb, K1⟩ := HS.out.zm
      obtain ⟨k0', k1', k2', k3'⟩ := K1.two
      have kl := K1.lt
      have HL3 := Lib.hid ((K1.set 0 (.int .i64 s.m.a)).set 1 (.int .i64 s.m.k))
      clear K1
      go_simp
      refine hK _ _ (HS.out.stM _ _) ?_
      clear k0' k1' k2' k3' kl HS
      clear hK K; (try simp only [Act.put, List.setIfInBounds_toArray, List.set_cons_zero, List.set_cons_succ])
      refine ord_one RD 4 (by rw [HOP.out]; kernel_rfl) (at_list (by rw [HOP.out]; rfl)) (by rw [HOP.out]; rfl) (fun Wb hWW hSW K hK => ?_); (try dsimp only at hSW)
      have HS := Lib.hid hSW
      have HL4 := Lib.hid (HL3.out.past hWW)
      clear HL3 hSW hWW
      obtain ⟨xa, xb, xc, K1⟩ := HS.out.zr
      obtain ⟨k0', k1', k2', k3', k4', k5'⟩ := K1.three
      have kl := K1.lt
      have hxy : (w.heap.size + 1) ≠ w.heap.size := lies_ne K1 HL4.out (by decide)
      have HL5 := Lib.hid (And.intro (((HL4.out.other (p := ⟨(w.heap.size + 1), 0, none⟩) hxy (.int .i64 s.r.l)).other (p := ⟨(w.heap.size + 1), 1, none⟩) hxy (.slice A n c)).other (p := ⟨(w.heap.size + 1), 2, none⟩) hxy (.int .i64 s.r.n)) (K1.store3 (a := .int .i64 s.r.l) (b := .slice A n c) (c := .int .i64 s.r.n)))
      clear K1 HL4 hxy
      go_simp
      refine hK _ _ (HS.out.stR _ _ _) ?_
      clear k0' k1' k2' k3' k4' k5' kl HS
      clear hK K; (try simp only [Act.put, List.setIfInBounds_toArray, List.set_cons_zero, List.set_cons_succ])
      refine ord_one RD 5 (by rw [HOP.out]; kernel_rfl) (at_list (by rw [HOP.out]; rfl)) (by rw [HOP.out]; rfl) (fun Wc hWW hSW K hK => ?_); (try dsimp only at hSW)
      have HS := Lib.hid hSW
      have HL6 := Lib.hid (And.intro (HL5.out.1.past hWW) (HL5.out.2.past hWW))
      clear HL5 hSW hWW
      obtain ⟨xa, xb, K1⟩ := HS.out.zf
      obtain ⟨k0', k1', k2', k3'⟩ := K1.two
      have kl := K1.lt
      have hxz : (w.heap.size + 2) ≠ w.heap.size := lies_ne K1 HL6.out.1 (by decide)
      have hyz : (w.heap.size + 2) ≠ (w.heap.size + 1) := lies_ne K1 HL6.out.2 (by decide)
      have HL7 := Lib.hid (And.intro ((HL6.out.1.other (p := ⟨(w.heap.size + 2), 0, none⟩) hxz (.int .i64 s.f.l)).other (p := ⟨(w.heap.size + 2), 1, none⟩) hxz (.slice B q d)) (And.intro ((HL6.out.2.other (p := ⟨(w.heap.size + 2), 0, none⟩) hyz (.int .i64 s.f.l)).other (p := ⟨(w.heap.size + 2), 1, none⟩) hyz (.slice B q d)) ((K1.set 0 (.int .i64 s.f.l)).set 1 (.slice B q d))))
      clear K1 HL6 hxz hyz
      go_simp
      refine hK _ _ (HS.out.stF _ _) ?_
      clear k0' k1' k2' k3' kl HS
      clear hK K; (try simp only [Act.put, List.setIfInBounds_toArray, List.set_cons_zero, List.set_cons_succ])
      refine ord_take RD 6 (at_list (by rw [HOP.out]; rfl)) HNS.out HPQ.out (by rw [HOP.out]; kernel_rfl) (by rw [HOP.out]; kernel_rfl) (by rw [HOP.out]; rfl) (fun K hK => ?_); apply Exists.intro; refine ⟨fun W hSW => ?_, hK _ ?_⟩; (focus ((try dsimp only at hSW); go_simp; try with_reducible rfl)); clear hK K; (try simp only [Act.put, List.setIfInBounds_toArray, List.set_cons_zero, List.set_cons_succ])
      refine ord_done (by rw [HOP.out]; kernel_rfl) (fun Wd2 hWW hSW => HN.out _ _ ?_); clear HOP HNS HPQ HN RD; (try dsimp only at hSW)
      have HS := Lib.hid hSW
      obtain ⟨p0, p1, -, -⟩ := (HL7.out.1.past hWW).two
      obtain ⟨p2, p3, p4, -, -, -⟩ := (HL7.out.2.1.past hWW).three
      obtain ⟨p5, p6, -, -⟩ := (HL7.out.2.2.past hWW).two
      clear hSW hWW HL7 kn
      go_wp2_with fail
      refine bodyPost_ret (by simp [results, Try.results32, go_sem, p0, p1, p2, p3, p4, p5, p6]; try rfl) rfl ?_
      rw [HSS.out]
      exact ⟨A, n, c, B, q, d, rfl, HS.out.i1, HS.out.o, HS.out.i2, HS.out.v, HS.out.hb⟩
end Go.Proofs.Ytemiecghdmagnaa.maW
