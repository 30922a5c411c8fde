/- Undo of the program, by a walk. -/
import Derived.Test.YtbfodmckgjeoaaaFiU
namespace Go.Proofs.Ytbfodmckgjeoaaa.fiU
set_option maxRecDepth 100000
open Go.RowKit Go.Shelf Go.Proofs.Ytbfodmckgjeoaaa.base Go.Proofs.Ytbfodmckgjeoaaa.fiP Go.Proofs.Ytbfodmckgjeoaaa.fiW
set_option linter.unusedVariables false
set_option linter.unusedSimpArgs false
set_option maxRecDepth 100000
attribute [local go_sem] Oper.semAt_some
/-- What the filters that have come make of the bytes. -/
def dn (pre : List Ix) (b : List Int) : Option (List Int) := undF ((pre.map (fun x => x.1.2)).reverse) b
theorem dn_snoc (pre : List Ix) (x : Ix) (b : List Int) : dn (pre ++ [x]) b = (dn pre b).bind (backF x.1.2) := by
  unfold dn
  rw [List.map_append, List.reverse_append]; rfl
theorem dn_upto {fs : List (Int × Int)} (h : okC fs = true) {k : Nat} (hk : k ≤ fs.length) (b : List Int) : dn (upto fs k) b = undF (fs.drop (fs.length - k)) b := by
  induction k with
  | zero => rw [Nat.sub_zero, List.drop_length]; rfl
  | succ k ih =>
    have e := und_step (fs := fs) (b := b) (k := fs.length - (k + 1)) (by omega)
    rw [show fs.length - (k + 1) + 1 = fs.length - k by omega] at e
    rw [upto_succ, dn_snoc, ih (by omega), e, com_at h (by omega), show fs.length - 1 - k = fs.length - (k + 1) by omega]
theorem dn_all {fs : List (Int × Int)} (h : okC fs = true) (b : List Int) : dn (upto fs fs.length) b = undF fs b := by
  rw [dn_upto h (Nat.le_refl _), Nat.sub_self, List.drop_zero]
theorem ownz_own {X Y : World} {row : Option Nat} {B : Nat} {v : Value} {zs : List Int} (h : OwnZ X B v zs) (hg : X.grownBy Y row) (hr : ∀ r, row = some r → ∃ o : Obj, X.heap[r]? = some o ∧ o.isCells = false) : OwnZ Y B v zs := by
  rcases h with h | h
  · refine .inl (h.kept hg ?_)
    rcases h.2 with ⟨rfl, _⟩ | ⟨g, cap, cur, rfl, hB, hh, _⟩
    · exact .inl rfl
    · right
      intro e
      obtain ⟨o, ho, hc⟩ := hr g (by rw [← e]; rfl)
      rw [hh] at ho
      cases ho
      cases hc
  · exact .inr h
theorem lies_own {X Y : World} {row : Option Nat} {g : Nat} {t : TypeId} {cs : List Value} (h : Lies X g t cs) (hg : X.grownBy Y row) (hr : ∀ r, row = some r → ∃ o : Obj, X.heap[r]? = some o ∧ o.isCells = false) : Lies Y g t cs :=
  h.grown hg (fun e => by
    obtain ⟨o, ho, hc⟩ := hr g e.symm
    unfold Lies at h
    rw [h] at ho
    cases ho
    cases hc)
theorem keeps_below {W W' : World} (h : Below W.heap.size W W') : KeepsOthers W W' := ⟨h.size, fun k o hk _ => (h.block k (Array.getElem?_eq_some_iff.1 hk).1).trans hk⟩
set_option maxHeartbeats 4000000 in
theorem Undo_in (fs : List (Int × Int)) (A A2 : Option Addr) (n c m d : Nat) (b : List Int) (w : World) (h : InF w A n c fs) (hb : Ib w A2 m d b) (h0 : chE fs = 0) (hm : m ≤ 10125) :
    Calls Try.prog 19 #[.slice A n c, .slice A2 m d] w fun e w' => Res w' w.heap.size (undO fs b) (undE fs b) e ∧ Below w.heap.size w w' := by
  have HH := Lib.hid h
  have HB := Lib.hid hb
  have HN := Lib.hid h.e
  have HM := Lib.hid hb.e
  have m8 : (m : Int) ≤ 10125 := by omega
  have HC := Lib.hid h0
  have HML := Lib.hid hm
  clear h hb hm h0
  refine (callsIn_wide (n := 3)).1 ?_
  refine callsIn_of_wp_marks Try.func19 rfl trivial ?_ rfl
  simp only [Try.ntmps19, List.size_toArray, List.length_cons, List.length_nil, Nat.reduceAdd, Nat.reduceSub, Array.replicate_succ, Array.replicate_zero, List.push_toArray, List.append_toArray, List.nil_append, List.cons_append]
  have B2 : Below w.heap.size w ((w.alloc (Obj.cells #[Value.slice none 0 0] 24)).alloc (Obj.cells #[Value.int IntKind.i64 0] 26)) := ((Below.refl _ _).alloc (Nat.le_refl _) _).alloc (by simp) _
  have R1 := (Boxed.new w 24 (.slice none 0 0)).alloc (.cells #[.int .i64 0] 26)
  have R2 := Boxed.new (w.alloc (.cells #[.slice none 0 0] 24)) 26 (.int .i64 0)
  rw [World.size_alloc] at R2
  gi_wp2_with (first | (refine ⟨trivial, ?_⟩; gi_at_call 34; refine (callsIn_wide.2 (checkChain_any fs A n c _ (HH.out.below B2))).mono ?_; rintro e w1 ⟨rfl, b1⟩; rw [HC.out]; have HB1 := Lib.hid (B2.trans (b1.mono (by simp; omega))); have HR1 := Lib.hid (Lies.past R1 b1); have HR2 := Lib.hid (Lies.past R2 b1); clear b1 R1 R2 B2) | (refine ⟨trivial, ?_⟩; gi_at_call 35; refine (callsIn_wide.2 (Clone8 (zs := b) (HB.out.below HB1.out).h HM.out HB.out.c1 (by have := HML.out; omega))).mono ?_; rintro e w2 ⟨A3, c3, rfl, -, o3, b3⟩; have HO3 := Lib.hid (OwnZ.le o3 HB1.out.size); have HB3 := Lib.hid (HB1.out.trans (b3.mono HB1.out.size)); have HR1 := Lib.hid (Lies.past HR1.out b3); have HR2 := Lib.hid (Lies.past HR2.out b3); clear o3 b3) | (refine ⟨trivial, ?_⟩; gi_at_call 37; refine (backward_in Fence.wide _ trivial rfl _ _ _ _).mono ?_; rintro e w3 ⟨rfl, rfl⟩))
  have M0 := (Boxed.new w2 24 (.slice A3 m c3)).alloc (.cells #[.slice A n c] 35)
  have G0 := Boxed.new (w2.alloc (.cells #[.slice A3 m c3] 24)) 35 (.slice A n c)
  have Z1 := Lies.alloc (Lies.alloc HR1.out (.cells #[.slice A3 m c3] 24)) (.cells #[.slice A n c] 35)
  have Z2 := Lies.alloc (Lies.alloc HR2.out (.cells #[.slice A3 m c3] 24)) (.cells #[.slice A n c] 35)
  have B0 : Below w.heap.size w ((w2.alloc (.cells #[.slice A3 m c3] 24)).alloc (.cells #[.slice A n c] 35)) := (HB3.out.alloc HB3.out.size _).alloc (by have := HB3.out.size; simp; omega) _
  have O0 := (HO3.out.below ((Below.refl w2.heap.size w2).alloc (Nat.le_refl _) (.cells #[.slice A3 m c3] 24)) (Nat.le_refl _)).below ((Below.refl (w2.heap.size + 1) _).alloc (by simp) (.cells #[.slice A n c] 35)) (by simp)
  have S0 : ((w2.alloc (.cells #[.slice A3 m c3] 24)).alloc (.cells #[.slice A n c] 35)).heap.size = w2.heap.size + 2 := by simp
  rw [World.size_alloc] at G0
  have gw : w.heap.size + 2 ≤ w2.heap.size := by have := Lies.lt HR2.out; omega
  generalize ((w2.alloc (.cells #[.slice A3 m c3] 24)).alloc (.cells #[.slice A n c] 35)) = W0 at *
  generalize w2.heap.size = gM at *
  have HOK := Lib.hid (chE_zero HC.out).2
  have HL4 : Hid (n ≤ 4) := Lib.hid (by rw [← HN.out]; exact (chE_zero HC.out).1)
  have HE : Hid (undE fs b = 12) := Lib.hid (by unfold undE; rw [if_pos HC.out, if_pos (by rw [HM.out]; exact HML.out)])
  have hA : ∀ a, A = some a → a.block < w.heap.size ∨ fs = [] := by
    intro a ha
    rcases HH.out.h with h | ⟨bb, off, e, h, -⟩
    · exact .inr h
    · rw [e] at ha; injection ha with ha; subst ha; exact .inl h
  refine wpIn_rangeFunc_ownH (w0 := W0) rfl (by omega) (gf := 49) (lb := #[.pointer (some ⟨gM + 1, 0, none⟩)]) rfl trivial (enters_of Try.func49 (by kernel_rfl) rfl)
    (back_stops Fence.wide _ trivial rfl (by omega) (gM + 1) w.heap.size A n c fs HOK.out HL4.out W0 (by omega) (by omega) G0.cell (HH.out.below B0) hA) (fun h k => h.trans k) (kp_b (by omega) (by omega)) (Below.refl _ _) (fun _ => rfl)
    (fun pre W => ∃ s B t e, dn pre b = some s ∧ s.length = t ∧ Boxed W gM 24 (.slice B t e) ∧ OwnZ W w.heap.size (.slice B t e) s ∧ Boxed W w.heap.size 24 (.slice none 0 0) ∧ Boxed W (w.heap.size + 1) 26 (.int .i64 0) ∧ Below w.heap.size w W ∧ gM + 2 ≤ W.heap.size)
    (fun c pre W => c = .ret ∧ dn pre b = none ∧ Boxed W w.heap.size 24 (.slice none 0 0) ∧ Boxed W (w.heap.size + 1) 26 (.int .i64 12) ∧ Below w.heap.size w W)
    (fun pre X Y row hs hg hr => by
      obtain ⟨s, B, t, e, h1, h2, h3, h4, h5, h6, h7, h8⟩ := hs
      exact ⟨s, B, t, e, h1, h2, lies_own h3 hg (fun r e => (hr r e).2), ownz_own h4 hg (fun r e => (hr r e).2), lies_own h5 hg (fun r e => (hr r e).2), lies_own h6 hg (fun r e => (hr r e).2), ownFrom_below (β := Unit) (Nat.le_refl _) (by omega) () X Y row h7 hg hr, Nat.le_trans h8 hg.size⟩)
    (fun c pre X Y row hs hg hr => by
      obtain ⟨h1, h2, h5, h6, h7⟩ := hs
      exact ⟨h1, h2, lies_own h5 hg (fun r e => (hr r e).2), lies_own h6 hg (fun r e => (hr r e).2), ownFrom_below (β := Unit) (Nat.le_refl _) (by omega) () X Y row h7 hg hr⟩)
    ⟨b, A3, m, c3, rfl, HM.out, M0, O0, Z1, Z2, B0, by omega⟩
    (fun x a' W => ∃ Bx, gM + 1 < Bx ∧ Lies W Bx 23 [.int .u8 x.1.2.1, .int .i64 x.1.2.2] ∧ a' = { tmps := #[.slice A n c, .slice A2 m d, undef, undef, .pointer (some ⟨w.heap.size, 0, none⟩), .pointer (some ⟨w.heap.size + 1, 0, none⟩), .int .i64 0, .pointer (some ⟨gM, 0, none⟩), undef, .pointer (some ⟨Bx, 0, none⟩), undef, undef, .slice A n c, .int .i64 0, .int .i64 0, .bool false, undef, .slice A2 m d, .int .i64 m, .bool (decide ((10125 : Int) < m)), .slice A2 m d, .slice A3 m c3, .slice A n c, .func (.func 49) #[] #[.pointer (some ⟨gM + 1, 0, none⟩)], .int .i64 (x.1.1 : Int), .agg #[.int .u8 x.1.2.1, .int .i64 x.1.2.2], undef, undef, undef, undef, undef, undef, undef, undef, undef, undef, undef, undef, undef], defers := [] })
    (fun x a' _ X Y row hs hg hr => by obtain ⟨Bx, h1, h2, h3⟩ := hs; exact ⟨Bx, h1, lies_own h2 hg (fun r e => (hr r e).2), h3⟩)
    ?assign ?body ?done ?stop
  case assign =>
    rintro l pre ⟨⟨i0, q, u⟩, hx⟩ W K ⟨s, B, t, e, h1, h2, h3, h4, h5, h6, h7, h8⟩ hK
    have hsz := h3.lt
    have hsz2 := h7.size
    unfold enc
    dsimp only
    gi_wp2
    exact hK _ _ ((KeepsOthers.alloc _ _).from _) ⟨(Below.refl _ W).alloc hsz2 _, Below.heap_alloc _ _ _ (by omega)⟩ ⟨s, B, t, e, h1, h2, Lies.alloc h3 _, h4.below ((Below.refl W.heap.size W).alloc (Nat.le_refl _) _) (Nat.le_refl _), Lies.alloc h5 _, Lies.alloc h6 _, h7.alloc hsz2 _, by simp; omega⟩ ⟨W.heap.size, by omega, Lies.fresh _ _ _, rfl⟩
  case body =>
    rintro l pre ⟨⟨i0, q, u⟩, hx⟩ a' W hl ⟨r, hr⟩ ⟨s, B, t, e, h1, h2, h3, h4, h5, h6, h7, h8⟩ ⟨Bx, hBx, bX, rfl⟩ hlt
    dsimp only at bX hx
    have hsz2 := h7.size
    have c0 := Lies.cell bX 0
    have c1 := Lies.cell bX 1
    simp only [List.getElem?_cons_zero, List.getElem?_cons_succ] at c0 c1
    have c2 := h3.cell
    have HIB := Lib.hid (ib_ownz h4 h2 (undF_bd HB.out.bd h1))
    have HTL : Hid (t ≤ 10125) := Lib.hid (by rw [← h2]; exact undF_len (by rw [HM.out]; exact HML.out) h1)
    have hd : dn (pre ++ [⟨(i0, (q, u)), hx⟩]) b = backF (q, u) s := by rw [dn_snoc, h1]; rfl
    have HBK : Hid (backO (q, u) s = backF (q, u) s) := Lib.hid (if_pos ⟨hx, by rw [h2]; exact HTL.out⟩)
    have HBE : Hid (backE (q, u) s = 12) := Lib.hid (by unfold backE; rw [if_pos hx, if_pos (by rw [h2]; exact HTL.out)])
    gi_wp2
    refine ⟨trivial, ?_⟩
    refine (CallsIn.inRound l (callsIn_wide.2 (Back_any q u s B t e W HIB.out))).mono ?_
    rintro e2 w3 ⟨hres, b3⟩
    have hk3 := keeps_below b3
    have g3 := Lies.past h3 b3
    have g5 := Lies.past h5 b3
    have g6 := Lies.past h6 b3
    have g7 := h7.trans (b3.mono hsz2)
    have c4 := Lies.cell g3 0
    have c5 := Lies.cell g5 0
    have c6 := Lies.cell g6 0
    have f4 := Lies.free g3 0
    have f5 := Lies.free g5 0
    have f6 := Lies.free g6 0
    simp only [List.getElem?_cons_zero] at c4 c5 c6
    rcases hres with ⟨s2, A4, c4', hs, rfl, o4⟩ | ⟨hs, rfl⟩
    · rw [HBK.out] at hs
      obtain ⟨t4, ht4⟩ : ∃ t4, s2.length = t4 := ⟨_, rfl⟩
      rw [ht4] at o4 ⊢
      gi_wp2
      have gz := Below.setCell (p := ⟨gM, 0, none⟩) g7 (show w.heap.size ≤ gM by omega) (Value.slice A4 t4 c4')
      exact ⟨(hk3.trans (KeepsOthers.setCell _ _ _)).from _, ⟨(b3.mono hsz2).setCell (p := ⟨gM, 0, none⟩) (show w.heap.size ≤ gM by omega) _, (Below.heap_setCell _ _ _ (gM + 1) (by simp)).trans (b3.block (gM + 1) (by omega))⟩, ⟨s2, A4, t4, c4', by rw [hd, hs], ht4, Lies.set g3 0 _, (OwnZ.le o4 hsz2).other g3 (by decide) 0 _, Lies.other g5 (by simp; omega) _, Lies.other g6 (by simp; omega) _, gz, by have := b3.size; simp [World.setCell]; omega⟩⟩
    · rw [HBK.out] at hs
      rw [HBE.out]
      gi_wp2
      have y5 := Lies.set g5 0 (Value.slice none 0 0)
      have y6 := Lies.other (p := ⟨w.heap.size, 0, none⟩) g6 (by simp) (Value.slice none 0 0)
      have gz := Below.setCell (p := ⟨w.heap.size + 1, 0, none⟩) (Below.setCell (p := ⟨w.heap.size, 0, none⟩) g7 (Nat.le_refl _) (Value.slice none 0 0)) (by simp) (Value.int .i64 12)
      exact ⟨((hk3.trans (KeepsOthers.setCell _ _ _)).trans (KeepsOthers.setCell _ _ _)).from _, ⟨rfl, by rw [hd, hs], Lies.other y5 (by simp) _, Lies.set y6 0 _, gz⟩⟩
  case done =>
    rintro D ys W hD rfl ⟨s, B, t, e, h1, h2, h3, h4, h5, h6, h7, h8⟩ hK
    have hu : undF fs b = some s := by
      have := dn_all HOK.out b
      rw [HN.out] at this
      rw [← this]; exact h1
    have HO := Lib.hid (und_get hu HC.out (by rw [HM.out]; exact HML.out))
    have c2 := h3.cell
    have c5 := Lies.cell h5 0
    have c6 := Lies.cell h6 0
    have f5 := Lies.free h5 0
    have f6 := Lies.free h6 0
    simp only [List.getElem?_cons_zero] at c5 c6
    have HTL : Hid (t ≤ 10125) := Lib.hid (by rw [← h2]; exact undF_len (by rw [HM.out]; exact HML.out) hu)
    have t9 : (t : Int) ≤ 10125 := by have := HTL.out; omega
    by_cases hs : t ≤ 2000
    · have HO2 : Hid (undO fs b = some s) := Lib.hid (by rw [HO.out, if_pos (by rw [h2]; exact hs)])
      have t8 : (t : Int) ≤ 2000 := by omega
      clear hs
      gi_wp2
      have y5 := Lies.set h5 0 (Value.slice B t e)
      have y6 := Lies.other (p := ⟨w.heap.size, 0, none⟩) h6 (by simp) (Value.slice B t e)
      have z5 := Lies.other (p := ⟨w.heap.size + 1, 0, none⟩) y5 (by simp) (Value.int .i64 0)
      have z6 := Lies.set y6 0 (Value.int .i64 0)
      have hK' := ((KeepsOthers.setCell W ⟨w.heap.size, 0, none⟩ (Value.slice B t e)).trans (KeepsOthers.setCell _ ⟨w.heap.size + 1, 0, none⟩ (Value.int .i64 0))).same D _ hK rfl
      have gz := Below.setCell (p := ⟨w.heap.size + 1, 0, none⟩) (Below.setCell (p := ⟨w.heap.size, 0, none⟩) h7 (Nat.le_refl _) (Value.slice B t e)) (by simp) (Value.int .i64 0)
      refine ⟨by simp, .inl ⟨_, _, rfl, run_takeDeferred hK', ?_⟩⟩
      have hr5 := cell_kept (Lies.cell z5 0) (grownBy_putObj' _ D (.deferred none)) (fun r e => by cases e; exact ⟨_, hK', rfl⟩)
      have hr6 := cell_kept (Lies.cell z6 0) (grownBy_putObj' _ D (.deferred none)) (fun r e => by cases e; exact ⟨_, hK', rfl⟩)
      have oz := ownz_own ((h4.other h5 (by decide) 0 (Value.slice B t e)).other y6 (by decide) 0 (Value.int .i64 0)) (grownBy_putObj' _ D (.deferred none)) (fun r e => by cases e; exact ⟨_, hK', rfl⟩)
      refine ⟨.tuple #[.slice B t e, .int .i64 0], ?_, Res.some HO2.out h2 oz, gz.trans (belowK_b (w := w) (Nat.le_refl _) _ D _ _ (by omega) hK' rfl rfl)⟩
      simp [results, Try.f19, go_sem, hr5, hr6]
    · have HO2 : Hid (undO fs b = none) := Lib.hid (by rw [HO.out, if_neg (by rw [h2]; exact hs)])
      have t8 : (2000 : Int) < t := by omega
      clear hs
      gi_wp2
      have y5 := Lies.set h5 0 (Value.slice none 0 0)
      have y6 := Lies.other (p := ⟨w.heap.size, 0, none⟩) h6 (by simp) (Value.slice none 0 0)
      have z5 := Lies.other (p := ⟨w.heap.size + 1, 0, none⟩) y5 (by simp) (Value.int .i64 12)
      have z6 := Lies.set y6 0 (Value.int .i64 12)
      have hK' := ((KeepsOthers.setCell W ⟨w.heap.size, 0, none⟩ (Value.slice none 0 0)).trans (KeepsOthers.setCell _ ⟨w.heap.size + 1, 0, none⟩ (Value.int .i64 12))).same D _ hK rfl
      have gz := Below.setCell (p := ⟨w.heap.size + 1, 0, none⟩) (Below.setCell (p := ⟨w.heap.size, 0, none⟩) h7 (Nat.le_refl _) (Value.slice none 0 0)) (by simp) (Value.int .i64 12)
      refine ⟨by simp, .inl ⟨_, _, rfl, run_takeDeferred hK', ?_⟩⟩
      have hr5 := cell_kept (Lies.cell z5 0) (grownBy_putObj' _ D (.deferred none)) (fun r e => by cases e; exact ⟨_, hK', rfl⟩)
      have hr6 := cell_kept (Lies.cell z6 0) (grownBy_putObj' _ D (.deferred none)) (fun r e => by cases e; exact ⟨_, hK', rfl⟩)
      refine ⟨.tuple #[.slice none 0 0, .int .i64 12], ?_, Res.none HO2.out HE.out.symm, gz.trans (belowK_b (w := w) (Nat.le_refl _) _ D _ _ (by omega) hK' rfl rfl)⟩
      simp [results, Try.f19, go_sem, hr5, hr6]
  case stop =>
    rintro D c pre W hD ⟨k, hk, rfl⟩ ⟨rfl, h2, h5, h6, h7⟩ hK
    have HO := Lib.hid (und_nil (und_none (k := fs.length - k) (by rw [← dn_upto HOK.out (by rw [HN.out]; exact hk)]; exact h2)))
    gi_wp2
    refine ⟨by simp, .inl ⟨_, _, rfl, run_takeDeferred hK, ?_⟩⟩
    have hr5 := cell_kept (Lies.cell h5 0) (grownBy_putObj' _ D (.deferred none)) (fun r e => by cases e; exact ⟨_, hK, rfl⟩)
    have hr6 := cell_kept (Lies.cell h6 0) (grownBy_putObj' _ D (.deferred none)) (fun r e => by cases e; exact ⟨_, hK, rfl⟩)
    refine ⟨.tuple #[.slice none 0 0, .int .i64 12], ?_, Res.none HO.out HE.out.symm, h7.trans (belowK_b (w := w) (Nat.le_refl _) W D _ _ (by omega) hK rfl rfl)⟩
    simp [results, Try.f19, go_sem, hr5, hr6]
end Go.Proofs.Ytbfodmckgjeoaaa.fiU
