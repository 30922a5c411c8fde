/- ContextLast, by a walk. -/
import Derived.Test.YtpggdijhfdddpaaDoorCxL3
namespace Go.Proofs.YtpggdijhfdddpaaDoor.cxW
open Go.RowKit Go.Proofs.YtpggdijhfdddpaaDoor.base Go.Proofs.YtpggdijhfdddpaaDoor.rgP Go.Proofs.YtpggdijhfdddpaaDoor.cxP Go.Proofs.YtpggdijhfdddpaaDoor.hashP Go.Proofs.YtpggdijhfdddpaaDoor.hashW Go.Proofs.YtpggdijhfdddpaaDoor.rgW
set_option linter.unusedVariables false
set_option linter.unusedSimpArgs false
def o6 : List Int := [1, 2, 3, 4, 6, 16]
def o6n (k : Nat) : Nat := [1, 2, 3, 4, 6, 16].getD k 0
theorem o6_n : ∀ k, k < 6 → o6.getD k 0 = (o6n k : Int) := by decide
theorem tail_of (a t : List Int) (j : Nat) (h : j ≤ t.length) : (a ++ t).drop ((a ++ t).length - j) = t.drop (t.length - j) := by
  have e : (a ++ t).length - j = a.length + (t.length - j) := by simp; omega
  rw [e, ← List.drop_drop, List.drop_left]
theorem last_same {l o : Int} (hl : lvB l = true) (ho : lvB o = true) (a b t : List Int) (j : Nat) (h : j ≤ t.length) (h16 : j ≤ 16) : lastL (putR (newR l) (a ++ t)) j = lastL (putR (newR o) (b ++ t)) j := by
  have s1 := (sz_bd hl).1
  have s2 := (sz_bd ho).1
  rw [lastL_put hl (a ++ t) j (by omega) (by simp; omega), lastL_put ho (b ++ t) j (by omega) (by simp; omega), tail_of a t j h, tail_of b t j h]
theorem mk_same {l o : Int} (hl : lvB l = true) (ho : lvB o = true) (a b t : List Int) (ha : a.length ≤ 100) (hb : b.length ≤ 100) (ht : t.length ≤ 30) (k : Nat) (hk : k < 6) (h : o6n k ≤ t.length) : mkV (putR (newR l) (a ++ t)) k = mkV (putR (newR o) (b ++ t)) k := by
  have k1 := (put_new hl (a ++ t) (by simp; omega)).2.2.1
  have k2 := (put_new ho (b ++ t) (by simp; omega)).2.2.1
  unfold mkV
  rw [if_pos k1, if_pos k2]
  unfold mk
  have e : byK (putR (newR l) (a ++ t)) k = byK (putR (newR o) (b ++ t)) k := by
    unfold byK
    rcases (show k = 0 ∨ k = 1 ∨ k = 2 ∨ k = 3 ∨ k = 4 ∨ k = 5 by omega) with rfl | rfl | rfl | rfl | rfl | rfl
    · exact last_same hl ho a b t 1 h (by omega)
    · exact last_same hl ho a b t 2 h (by omega)
    · exact last_same hl ho a b t 3 h (by omega)
    · exact last_same hl ho a b t 4 h (by omega)
    · exact last_same hl ho a b t 6 h (by omega)
    · rw [if_neg (by omega), if_neg (by omega), last_same hl ho a b t 16 h (by omega)]
  rw [e]
theorem rec_put {o : Int} (ho : lvB o = true) (b t : List Int) (hb : b.length ≤ 100) (ht : t.length ≤ 30) (j : Nat) (j1 : 1 ≤ j) (j2 : j ≤ 2) (h : j ≤ t.length) : rc1 (putR (newR o) (b ++ t)) j = t.getD (t.length - j) 0 := by
  have k2 := (put_new ho (b ++ t) (by simp; omega)).2.2.1
  have s2 := (sz_bd ho).1
  rw [rc1, if_pos k2, ago_put ho (b ++ t) j j1 (by omega) (by simp; omega)]
  have e : (b ++ t).length - j = b.length + (t.length - j) := by simp; omega
  rw [e, List.getD_eq_getElem?_getD, List.getElem?_append_right (by omega), List.getD_eq_getElem?_getD]
  congr 2
  omega
theorem lit_at {w : World} {g : Nat} (hg : w.heap.size = g) : OwnI (w.alloc (.cells #[] 5)) g 5 .u8 (.slice (some ⟨g, 0, none⟩) 0 0) [] := by
  subst hg
  exact OwnI.lit w 5 .u8 [] w.heap.size (Nat.le_refl _) (by decide)
theorem bd_app {a t : List Int} (ha : ∀ z ∈ a, 0 ≤ z ∧ z ≤ 255) (ht : ∀ z ∈ t, 0 ≤ z ∧ z ≤ 255) : ∀ z ∈ a ++ t, 0 ≤ z ∧ z ≤ 255 := by
  intro z hz
  rcases List.mem_append.1 hz with h | h
  · exact ha z h
  · exact ht z h
set_option maxRecDepth 100000 in
set_option maxHeartbeats 1500000 in
theorem last_main (l o : Int) (A : Option Addr) (m d : Nat) (xa : List Int) (B : Option Addr) (n e : Nat) (xb : List Int) (C : Option Addr) (q f : Nat) (xc : List Int) (w : World) (hl : lvB l = true) (ho : lvB o = true)
    (hA : Has .u8 w A xa) (lA : xa.length = m) (bA : ∀ z ∈ xa, 0 ≤ z ∧ z ≤ 255) (hB : Has .u8 w B xb) (lB : xb.length = n) (bB : ∀ z ∈ xb, 0 ≤ z ∧ z ≤ 255) (hC : Has .u8 w C xc) (lC : xc.length = q) (bC : ∀ z ∈ xc, 0 ≤ z ∧ z ≤ 255)
    (hm : m ≤ 100) (hn : n ≤ 100) (hq : q ≤ 30) (hT : Tab w) :
    Calls Tryd.prog 5 #[.int .i64 l, .int .i64 o, .slice A m d, .slice B n e, .slice C q f] w fun e w' => e = .returned (.bool true) ∧ Below w.heap.size w w' := by
  have HTT := Lib.hid hT
  have HA := Lib.hid (And.intro hA lA)
  have HB := Lib.hid (And.intro hB lB)
  have HC := Lib.hid (And.intro hC lC)
  have HBA := Lib.hid (bd_app bA bC)
  have HBB := Lib.hid (bd_app bB bC)
  have HLV := Lib.hid (And.intro hl ho)
  have HPA := Lib.hid (put_new hl (xa ++ xc) (by simp; omega))
  have HPB := Lib.hid (put_new ho (xb ++ xc) (by simp; omega))
  have HMK : Hid (∀ k, k < 6 → o6n k ≤ q → mkV (putR (newR l) (xa ++ xc)) k = mkV (putR (newR o) (xb ++ xc)) k) := Lib.hid (fun k hk h => mk_same hl ho xa xb xc (by omega) (by omega) (by omega) k hk (by omega))
  have HRC : Hid (2 ≤ q → rc1 (putR (newR o) (xb ++ xc)) 1 = xc.getD (q - 1) 0 ∧ rc1 (putR (newR o) (xb ++ xc)) 2 = xc.getD (q - 2) 0) := Lib.hid (fun h => by rw [← lC]; exact ⟨rec_put ho xb xc (by omega) (by omega) 1 (by omega) (by omega) (by omega), rec_put ho xb xc (by omega) (by omega) 2 (by omega) (by omega) (by omega)⟩)
  have l1 := (lvB_iff l).1 hl
  have o1 := (lvB_iff o).1 ho
  have m9 : (m : Int) ≤ 100 := by omega
  have n9 : (n : Int) ≤ 100 := by omega
  have q9 : (q : Int) ≤ 30 := by omega
  have l0 := l1.1
  have l7 := l1.2
  have o0 := o1.1
  have o7 := o1.2
  clear hT hA lA bA hB lB bB hC lC bC hl ho l1 o1
  go_enter Tryd.func5, Tryd.ntmps5
  go_wp2_with fail
  refine (alive _ HTT.out).mono ?_
  rintro e0 w1 ⟨rfl, hb1⟩
  have HW1 := Lib.hid hb1
  clear hb1
  go_wp2_with (first
    | (at_builtin; refine app8 rfl (.tmp 62) _ rfl w1.heap.size _ [] rfl (OwnI.lit w1 5 .u8 [] w1.heap.size (Nat.le_refl _) (by decide)) A m d xa rfl HA.out.2 (HA.out.1.below (by have := HW1.out; (repeat' (first | (with_reducible exact Below.refl _ _) | (with_reducible assumption) | (with_reducible refine below_drewN ?_ _) | (with_reducible refine below_new ?_ _) | (with_reducible refine Below.alloc ?_ ?_ _) | (with_reducible refine Below.drew ?_) | (with_reducible refine Below.setCell ?_ ?_ _) | (with_reducible apply below_at; (case k => (with_reducible assumption)); (case hB => omega)) | (with_reducible apply below_on; (with_reducible assumption)) | (go_size; done) | (with_reducible apply size_of)))) (Nat.le_refl _)) m (by simp) (by omega) (by simp) ?_; intro A2 c2 w2 ho2 hg2 hb2; rw [List.nil_append] at ho2; have HO2 := Lib.hid ho2; have HW2 : Hid (Below w.heap.size w w2) := Lib.hid ((HW1.out.alloc HW1.out.size _).trans (hb2.mono HW1.out.size)); have HS2 : Hid (w1.heap.size ≤ w2.heap.size) := Lib.hid (by have := hb2.size; simp at this; omega); clear ho2 hg2 hb2)
    | (at_builtin; refine app8 rfl (.tmp 64) _ rfl w1.heap.size _ xa rfl HO2.out C q f xc rfl HC.out.2 (HC.out.1.below HW2.out (Nat.le_refl _)) (m + q) (by rw [HA.out.2]) (by omega) HS2.out ?_; intro A3 c3 w3 ho3 hg3 hb3; have HO3 := Lib.hid ho3; have HW3 : Hid (Below w.heap.size w w3) := Lib.hid (HW2.out.trans (hb3.mono HW1.out.size)); clear ho3 hg3 hb3))
  refine (after_ok l A3 (m + q) c3 (xa ++ xc) _ HLV.out.1 HO3.out.has (by rw [List.length_append, HA.out.2, HC.out.2]) (by omega) HBA.out).mono ?_
  rintro e0 w4 ⟨R4, n4, c4, rfl, i4, o4, hb4⟩
  have HW4 := Lib.hid (HW3.out.trans (hb4.mono HW3.out.size))
  obtain ⟨r1, hr1⟩ : ∃ r, putR (newR l) (xa ++ xc) = r := ⟨_, rfl⟩
  rw [hr1] at i4 ⊢ HMK HPA
  have I4 := Lib.hid i4
  clear i4 o4 hb4 hr1
  go_wp2_with (first
    | (at_builtin; refine app8 rfl (.tmp 72) _ rfl (w4.heap.size + 1) _ [] rfl (lit_at (by simp)) B n e xb rfl HB.out.2 (HB.out.1.below (by have := HW4.out; (repeat' (first | (with_reducible exact Below.refl _ _) | (with_reducible assumption) | (with_reducible refine below_drewN ?_ _) | (with_reducible refine below_new ?_ _) | (with_reducible refine Below.alloc ?_ ?_ _) | (with_reducible refine Below.drew ?_) | (with_reducible refine Below.setCell ?_ ?_ _) | (with_reducible apply below_at; (case k => (with_reducible assumption)); (case hB => omega)) | (with_reducible apply below_on; (with_reducible assumption)) | (go_size; done) | (with_reducible apply size_of)))) (Nat.le_refl _)) n (by simp) (by omega) (by simp) ?_; intro A5 c5 w5 ho5 hg5 hb5; rw [List.nil_append] at ho5; have HO5 := Lib.hid ho5; have HW5 : Hid (Below w.heap.size w w5) := Lib.hid (((HW4.out.alloc HW4.out.size _).alloc (by have := HW4.out.size; simp; omega) _).trans (hb5.mono (by have := HW4.out.size; omega))); have HS5 : Hid (w4.heap.size + 1 ≤ w5.heap.size) := Lib.hid (by have := hb5.size; simp at this; omega); have HL5 : Hid (Lies (w5) (w4.heap.size) 24 [.int .i64 (r1).l, .slice (R4) (n4) (c4), .int .i64 (r1).n]) := Lib.hid (Lies.below ((Lies.fresh _ _ _).alloc _) hb5 (by omega)); have HI5 : Hid (Below w4.heap.size w4 w5) := Lib.hid ((((Below.refl w4.heap.size w4).alloc (Nat.le_refl _) _).alloc (by simp) _).trans (hb5.mono (Nat.le_succ _))); clear ho5 hg5 hb5)
    | (at_builtin; refine app8 rfl (.tmp 74) _ rfl (w4.heap.size + 1) _ xb rfl HO5.out C q f xc rfl HC.out.2 (HC.out.1.below HW5.out (Nat.le_refl _)) (n + q) (by rw [HB.out.2]) (by omega) HS5.out ?_; intro A6 c6 w6 ho6 hg6 hb6; have HO6 := Lib.hid ho6; have HW6 : Hid (Below w.heap.size w w6) := Lib.hid (HW5.out.trans (hb6.mono (by have := HW4.out.size; omega))); have HL6 := Lib.hid (Lies.below HL5.out hb6 (by omega)); have HI6 := Lib.hid (I4.out.below (HI5.out.trans (hb6.mono (Nat.le_succ _)))); clear ho6 hg6 hb6))
  refine (after_ok o A6 (n + q) c6 (xb ++ xc) _ HLV.out.2 HO6.out.has (by rw [List.length_append, HB.out.2, HC.out.2]) (by omega) HBB.out).mono ?_
  rintro e0 w7 ⟨R7, n7, c7, rfl, i7, o7', hb7⟩
  have HW7 := Lib.hid (HW6.out.trans (hb7.mono HW6.out.size))
  obtain ⟨r2, hr2⟩ : ∃ r, putR (newR o) (xb ++ xc) = r := ⟨_, rfl⟩
  rw [hr2] at i7 ⊢ HMK HPB HRC
  have HS : Hid (St w (w7.alloc (.cells #[.int .i64 r2.l, .slice R7 n7 c7, .int .i64 r2.n] 24)) w4.heap.size w7.heap.size r1 R4 n4 c4 r2 R7 n7 c7) := Lib.hid ⟨HW7.out.alloc HW7.out.size _, (HI6.out.below hb7).below (grows_alloc _ _), i7.below (grows_alloc _ _), (HL6.out.past hb7).alloc _, Lies.fresh _ _ _⟩
  clear i7 o7' hb7 hr2
  have HE1 := Lib.hid (E_ok HPA.out.2.2.1)
  have HE2 := Lib.hid (E_ok HPB.out.2.2.1)
  obtain ⟨x0, x1, x2, -, -, -⟩ := HS.out.2.2.2.1.three
  have zl := HS.out.2.2.2.1.lt
  go_wp2_with fail
  refine (Of_any r1 R4 n4 c4 _ HS.out.2.1 (HTT.out.below HS.out.1 (Nat.le_refl _))).mono ?_
  rintro e0 w8 ⟨rfl, hb8⟩
  rw [HE1.out]
  have HS8 := Lib.hid (HS.out.past hb8)
  clear hb8 x0 x1 x2 zl
  have HLM := Lib.hid (Lies.fresh w8 28 [.int .u32 (mkV r1 0), .int .u32 (mkV r1 1), .int .u32 (mkV r1 2), .int .u32 (mkV r1 3), .int .u32 (mkV r1 4), .int .u32 (mkV r1 5)])
  have HS9 := Lib.hid (HS8.out.past (grows_alloc w8 (.cells #[.int .u32 (mkV r1 0), .int .u32 (mkV r1 1), .int .u32 (mkV r1 2), .int .u32 (mkV r1 3), .int .u32 (mkV r1 4), .int .u32 (mkV r1 5)] 28)))
  obtain ⟨x0, x1, x2, -, -, -⟩ := HS9.out.2.2.2.2.three
  have zl := HS8.out.2.2.2.2.lt
  go_wp2_with fail
  refine (Of_any r2 R7 n7 c7 _ HS9.out.2.2.1 (HTT.out.below HS9.out.1 (Nat.le_refl _))).mono ?_
  rintro e0 w10 ⟨rfl, hb10⟩
  rw [HE2.out]
  have HS10 := Lib.hid (HS9.out.past hb10)
  have HLM10 := Lib.hid (HLM.out.past hb10)
  have HSZ10 := Lib.hid (HLM10.out.lt)
  clear hb10 x0 x1 x2 zl
  have HT10 : Hid (∀ W : World, Below (w10.heap.size + 2) ((w10.alloc (.cells #[.int .u32 (mkV r2 0), .int .u32 (mkV r2 1), .int .u32 (mkV r2 2), .int .u32 (mkV r2 3), .int .u32 (mkV r2 4), .int .u32 (mkV r2 5)] 28)).alloc (.cells #[.int .i64 1, .int .i64 2, .int .i64 3, .int .i64 4, .int .i64 6, .int .i64 16] 3)) W → (Lies W w8.heap.size 28 [.int .u32 (mkV r1 0), .int .u32 (mkV r1 1), .int .u32 (mkV r1 2), .int .u32 (mkV r1 3), .int .u32 (mkV r1 4), .int .u32 (mkV r1 5)]) ∧ (Lies W w10.heap.size 28 [.int .u32 (mkV r2 0), .int .u32 (mkV r2 1), .int .u32 (mkV r2 2), .int .u32 (mkV r2 3), .int .u32 (mkV r2 4), .int .u32 (mkV r2 5)]) ∧ (Lies W (w10.heap.size + 1) 3 [.int .i64 1, .int .i64 2, .int .i64 3, .int .i64 4, .int .i64 6, .int .i64 16]) ∧ St w W w4.heap.size w7.heap.size r1 R4 n4 c4 r2 R7 n7 c7) := Lib.hid (fun W hW =>
    ⟨Lies.below ((HLM10.out.alloc _).alloc _) hW (by have := HSZ10.out; omega), Lies.below ((Lies.fresh _ _ _).alloc _) hW (by omega), Lies.below (Lies.fresh_at (by simp)) hW (by omega), ((HS10.out.past (grows_alloc _ _)).past (grows_alloc _ _)).past (hW.mono (by simp))⟩)
  go_wp2_with fail
  go_loopw [21] (fun i wr => ∃ k : Nat, k ≤ 6 ∧ i = .int .i64 k ∧ Below (w10.heap.size + 2) ((w10.alloc (.cells #[.int .u32 (mkV r2 0), .int .u32 (mkV r2 1), .int .u32 (mkV r2 2), .int .u32 (mkV r2 3), .int .u32 (mkV r2 4), .int .u32 (mkV r2 5)] 28)).alloc (.cells #[.int .i64 1, .int .i64 2, .int .i64 3, .int .i64 4, .int .i64 6, .int .i64 16] 3)) wr) (fun i _ => 6 - (intOf i).toNat)
  case atStart => exact ⟨0, by omega, rfl, Below.refl _ _⟩
  case round =>
    obtain ⟨k, hk, rfl, acc⟩ := hrel
    have HACC := Lib.hid acc
    obtain ⟨LM, LN, LO, S1⟩ := HT10.out _ acc
    clear acc
    by_cases hlt : k < 6
    · have k1 : (k : Int) < 6 := by omega
      have k0 : 0 ≤ (k : Int) := by omega
      have HLT := Lib.hid hlt
      have p0 : wr.cell? ⟨w10.heap.size + 1, k, none⟩ = some (.int .i64 (o6n k)) := by
        rw [LO.cell k]
        rcases (show k = 0 ∨ k = 1 ∨ k = 2 ∨ k = 3 ∨ k = 4 ∨ k = 5 by omega) with rfl | rfl | rfl | rfl | rfl | rfl <;> rfl
      by_cases hc : (o6n k : Int) ≤ q
      · have e1 : mkV r1 k = mkV r2 k := HMK.out k hlt (by omega)
        have p1 : wr.cell? ⟨w8.heap.size, k, none⟩ = some (.int .u32 (mkV r2 k)) := by
          rw [LM.cell k, ← e1]
          rcases (show k = 0 ∨ k = 1 ∨ k = 2 ∨ k = 3 ∨ k = 4 ∨ k = 5 by omega) with rfl | rfl | rfl | rfl | rfl | rfl <;> rfl
        have p2 : wr.cell? ⟨w10.heap.size, k, none⟩ = some (.int .u32 (mkV r2 k)) := by
          rw [LN.cell k]
          rcases (show k = 0 ∨ k = 1 ∨ k = 2 ∨ k = 3 ∨ k = 4 ∨ k = 5 by omega) with rfl | rfl | rfl | rfl | rfl | rfl <;> rfl
        generalize mkV r2 k = y at *
        generalize o6n k = x at *
        clear LM LN LO S1 hk hlt e1
        go_wp2_with fail
        (have RD := drawn_roads (S := fun x' => x'.cell? ⟨w10.heap.size + 1, k, none⟩ = some (.int .i64 x) ∧ x'.cell? ⟨w8.heap.size, k, none⟩ = some (.int .u32 y) ∧ x'.cell? ⟨w10.heap.size, k, none⟩ = some (.int .u32 y)) (fun _ _ h => h)); refine region_ord _ Drawn RD ⟨p0, p1, p2⟩ (by kernel_rfl) ?_; intro ops Q' hops hPQ hN; (have HNS : Hid (Region.noSelect ops = true) := Lib.hid (by rw [hops]; kernel_rfl)); (have hsz : ops.size = 16 := (by rw [hops]; rfl)); have HOP := Lib.hid hops; have HPQ := Lib.hid hPQ; have HN := Lib.hid hN; rw [hsz]; clear hops hsz hPQ hN
        refine ord_take RD 0 (at_list (by rw [HOP.out]; rfl)) HNS.out HPQ.out (by rw [HOP.out]; kernel_rfl) (by rw [HOP.out]; kernel_rfl) (by rw [HOP.out]; rfl) (fun K hK => ?_); apply Exists.intro; refine ⟨fun W hSW => ?_, hK _ ?_⟩; (focus ((try dsimp only at hSW); go_simp; try with_reducible rfl)); clear hK K; (try simp only [Act.put, List.setIfInBounds_toArray, List.set_cons_zero, List.set_cons_succ])
        refine ord_take RD 1 (at_list (by rw [HOP.out]; rfl)) HNS.out HPQ.out (by rw [HOP.out]; kernel_rfl) (by rw [HOP.out]; kernel_rfl) (by rw [HOP.out]; rfl) (fun K hK => ?_); apply Exists.intro; refine ⟨fun W hSW => ?_, hK _ ?_⟩; (focus ((try dsimp only at hSW); go_simp; try with_reducible rfl)); clear hK K; (try simp only [Act.put, List.setIfInBounds_toArray, List.set_cons_zero, List.set_cons_succ])
        refine ord_take RD 2 (at_list (by rw [HOP.out]; rfl)) HNS.out HPQ.out (by rw [HOP.out]; kernel_rfl) (by rw [HOP.out]; kernel_rfl) (by rw [HOP.out]; rfl) (fun K hK => ?_); apply Exists.intro; refine ⟨fun W hSW => ?_, hK _ ?_⟩; (focus ((try dsimp only at hSW); go_simp; try with_reducible rfl)); clear hK K; (try simp only [Act.put, List.setIfInBounds_toArray, List.set_cons_zero, List.set_cons_succ])
        refine ord_take RD 3 (at_list (by rw [HOP.out]; rfl)) HNS.out HPQ.out (by rw [HOP.out]; kernel_rfl) (by rw [HOP.out]; kernel_rfl) (by rw [HOP.out]; rfl) (fun K hK => ?_); apply Exists.intro; refine ⟨fun W hSW => ?_, hK _ ?_⟩; (focus ((try dsimp only at hSW); go_simp; try with_reducible rfl)); clear hK K; (try simp only [Act.put, List.setIfInBounds_toArray, List.set_cons_zero, List.set_cons_succ])
        refine ord_take RD 4 (at_list (by rw [HOP.out]; rfl)) HNS.out HPQ.out (by rw [HOP.out]; kernel_rfl) (by rw [HOP.out]; kernel_rfl) (by rw [HOP.out]; rfl) (fun K hK => ?_); apply Exists.intro; refine ⟨fun W hSW => ?_, hK _ ?_⟩; (focus ((try dsimp only at hSW); go_simp; try with_reducible rfl)); clear hK K; (try simp only [Act.put, List.setIfInBounds_toArray, List.set_cons_zero, List.set_cons_succ])
        refine ord_take RD 5 (at_list (by rw [HOP.out]; rfl)) HNS.out HPQ.out (by rw [HOP.out]; kernel_rfl) (by rw [HOP.out]; kernel_rfl) (by rw [HOP.out]; rfl) (fun K hK => ?_); apply Exists.intro; refine ⟨fun W hSW => ?_, hK _ ?_⟩; (focus ((try dsimp only at hSW); (obtain ⟨h1, h2, h3⟩ := hSW); go_simp; try with_reducible rfl)); clear hK K; (try simp only [Act.put, List.setIfInBounds_toArray, List.set_cons_zero, List.set_cons_succ])
        refine ord_take RD 6 (at_list (by rw [HOP.out]; rfl)) HNS.out HPQ.out (by rw [HOP.out]; kernel_rfl) (by rw [HOP.out]; kernel_rfl) (by rw [HOP.out]; rfl) (fun K hK => ?_); apply Exists.intro; refine ⟨fun W hSW => ?_, hK _ ?_⟩; (focus ((try dsimp only at hSW); go_simp; try with_reducible rfl)); clear hK K; (try simp only [Act.put, List.setIfInBounds_toArray, List.set_cons_zero, List.set_cons_succ])
        refine ord_take RD 7 (at_list (by rw [HOP.out]; rfl)) HNS.out HPQ.out (by rw [HOP.out]; kernel_rfl) (by rw [HOP.out]; kernel_rfl) (by rw [HOP.out]; rfl) (fun K hK => ?_); apply Exists.intro; refine ⟨fun W hSW => ?_, hK _ ?_⟩; (focus ((try dsimp only at hSW); go_simp; try with_reducible rfl)); clear hK K; (try simp only [Act.put, List.setIfInBounds_toArray, List.set_cons_zero, List.set_cons_succ])
        refine ord_take RD 8 (at_list (by rw [HOP.out]; rfl)) HNS.out HPQ.out (by rw [HOP.out]; kernel_rfl) (by rw [HOP.out]; kernel_rfl) (by rw [HOP.out]; rfl) (fun K hK => ?_); apply Exists.intro; refine ⟨fun W hSW => ?_, hK _ ?_⟩; (focus ((try dsimp only at hSW); go_simp; try with_reducible rfl)); clear hK K; (try simp only [Act.put, List.setIfInBounds_toArray, List.set_cons_zero, List.set_cons_succ])
        refine ord_take RD 9 (at_list (by rw [HOP.out]; rfl)) HNS.out HPQ.out (by rw [HOP.out]; kernel_rfl) (by rw [HOP.out]; kernel_rfl) (by rw [HOP.out]; rfl) (fun K hK => ?_); apply Exists.intro; refine ⟨fun W hSW => ?_, hK _ ?_⟩; (focus ((try dsimp only at hSW); go_simp; try with_reducible rfl)); clear hK K; (try simp only [Act.put, List.setIfInBounds_toArray, List.set_cons_zero, List.set_cons_succ])
        refine ord_take RD 10 (at_list (by rw [HOP.out]; rfl)) HNS.out HPQ.out (by rw [HOP.out]; kernel_rfl) (by rw [HOP.out]; kernel_rfl) (by rw [HOP.out]; rfl) (fun K hK => ?_); apply Exists.intro; refine ⟨fun W hSW => ?_, hK _ ?_⟩; (focus ((try dsimp only at hSW); (obtain ⟨h1, h2, h3⟩ := hSW); go_simp; try with_reducible rfl)); clear hK K; (try simp only [Act.put, List.setIfInBounds_toArray, List.set_cons_zero, List.set_cons_succ])
        refine ord_take RD 11 (at_list (by rw [HOP.out]; rfl)) HNS.out HPQ.out (by rw [HOP.out]; kernel_rfl) (by rw [HOP.out]; kernel_rfl) (by rw [HOP.out]; rfl) (fun K hK => ?_); apply Exists.intro; refine ⟨fun W hSW => ?_, hK _ ?_⟩; (focus ((try dsimp only at hSW); go_simp; try with_reducible rfl)); clear hK K; (try simp only [Act.put, List.setIfInBounds_toArray, List.set_cons_zero, List.set_cons_succ])
        refine ord_take RD 12 (at_list (by rw [HOP.out]; rfl)) HNS.out HPQ.out (by rw [HOP.out]; kernel_rfl) (by rw [HOP.out]; kernel_rfl) (by rw [HOP.out]; rfl) (fun K hK => ?_); apply Exists.intro; refine ⟨fun W hSW => ?_, hK _ ?_⟩; (focus ((try dsimp only at hSW); go_simp; try with_reducible rfl)); clear hK K; (try simp only [Act.put, List.setIfInBounds_toArray, List.set_cons_zero, List.set_cons_succ])
        refine ord_take RD 13 (at_list (by rw [HOP.out]; rfl)) HNS.out HPQ.out (by rw [HOP.out]; kernel_rfl) (by rw [HOP.out]; kernel_rfl) (by rw [HOP.out]; rfl) (fun K hK => ?_); apply Exists.intro; refine ⟨fun W hSW => ?_, hK _ ?_⟩; (focus ((try dsimp only at hSW); (obtain ⟨h1, h2, h3⟩ := hSW); go_simp; try with_reducible rfl)); clear hK K; (try simp only [Act.put, List.setIfInBounds_toArray, List.set_cons_zero, List.set_cons_succ])
        refine ord_take RD 14 (at_list (by rw [HOP.out]; rfl)) HNS.out HPQ.out (by rw [HOP.out]; kernel_rfl) (by rw [HOP.out]; kernel_rfl) (by rw [HOP.out]; rfl) (fun K hK => ?_); apply Exists.intro; refine ⟨fun W hSW => ?_, hK _ ?_⟩; (focus ((try dsimp only at hSW); go_simp; try with_reducible rfl)); clear hK K; (try simp only [Act.put, List.setIfInBounds_toArray, List.set_cons_zero, List.set_cons_succ])
        refine ord_take RD 15 (at_list (by rw [HOP.out]; rfl)) HNS.out HPQ.out (by rw [HOP.out]; kernel_rfl) (by rw [HOP.out]; kernel_rfl) (by rw [HOP.out]; rfl) (fun K hK => ?_); apply Exists.intro; refine ⟨fun W hSW => ?_, hK _ ?_⟩; (focus ((try dsimp only at hSW); go_simp; try with_reducible rfl)); clear hK K; (try simp only [Act.put, List.setIfInBounds_toArray, List.set_cons_zero, List.set_cons_succ])
        refine ord_done (by rw [HOP.out]; kernel_rfl) (fun W3 hWW hSW => HN.out _ _ ?_); clear HOP HNS HPQ HN RD; (try dsimp only at hSW)
        obtain ⟨nn, rfl⟩ := hWW
        clear hSW
        go_wp2_with fail
        refine ⟨⟨k + 1, by have := HLT.out; omega, by first | rfl | go_num, by have := HACC.out; (repeat' (first | (with_reducible exact Below.refl _ _) | (with_reducible assumption) | (with_reducible refine below_drewN ?_ _) | (with_reducible refine below_new ?_ _) | (with_reducible refine Below.alloc ?_ ?_ _) | (with_reducible refine Below.drew ?_) | (with_reducible refine Below.setCell ?_ ?_ _) | (with_reducible apply below_at; (case k => (with_reducible assumption)); (case hB => omega)) | (with_reducible apply below_on; (with_reducible assumption)) | (go_size; done) | (with_reducible apply size_of)))⟩, by simp [intOf]; have := HLT.out; omega⟩
      · generalize o6n k = x at *
        clear LM LN LO S1 hk hlt
        go_wp2_with fail
        (have RD := drawn_roads (S := fun x' => x'.cell? ⟨w10.heap.size + 1, k, none⟩ = some (.int .i64 x)) (fun _ _ h => h)); refine region_ord _ Drawn RD p0 (by kernel_rfl) ?_; intro ops Q' hops hPQ hN; (have HNS : Hid (Region.noSelect ops = true) := Lib.hid (by rw [hops]; kernel_rfl)); (have hsz : ops.size = 16 := (by rw [hops]; rfl)); have HOP := Lib.hid hops; have HPQ := Lib.hid hPQ; have HN := Lib.hid hN; rw [hsz]; clear hops hsz hPQ hN
        refine ord_take RD 0 (at_list (by rw [HOP.out]; rfl)) HNS.out HPQ.out (by rw [HOP.out]; kernel_rfl) (by rw [HOP.out]; kernel_rfl) (by rw [HOP.out]; rfl) (fun K hK => ?_); apply Exists.intro; refine ⟨fun W hSW => ?_, hK _ ?_⟩; (focus ((try dsimp only at hSW); go_simp; try with_reducible rfl)); clear hK K; (try simp only [Act.put, List.setIfInBounds_toArray, List.set_cons_zero, List.set_cons_succ])
        refine ord_take RD 1 (at_list (by rw [HOP.out]; rfl)) HNS.out HPQ.out (by rw [HOP.out]; kernel_rfl) (by rw [HOP.out]; kernel_rfl) (by rw [HOP.out]; rfl) (fun K hK => ?_); apply Exists.intro; refine ⟨fun W hSW => ?_, hK _ ?_⟩; (focus ((try dsimp only at hSW); go_simp; try with_reducible rfl)); clear hK K; (try simp only [Act.put, List.setIfInBounds_toArray, List.set_cons_zero, List.set_cons_succ])
        refine ord_take RD 2 (at_list (by rw [HOP.out]; rfl)) HNS.out HPQ.out (by rw [HOP.out]; kernel_rfl) (by rw [HOP.out]; kernel_rfl) (by rw [HOP.out]; rfl) (fun K hK => ?_); apply Exists.intro; refine ⟨fun W hSW => ?_, hK _ ?_⟩; (focus ((try dsimp only at hSW); go_simp; try with_reducible rfl)); clear hK K; (try simp only [Act.put, List.setIfInBounds_toArray, List.set_cons_zero, List.set_cons_succ])
        refine ord_take RD 3 (at_list (by rw [HOP.out]; rfl)) HNS.out HPQ.out (by rw [HOP.out]; kernel_rfl) (by rw [HOP.out]; kernel_rfl) (by rw [HOP.out]; rfl) (fun K hK => ?_); apply Exists.intro; refine ⟨fun W hSW => ?_, hK _ ?_⟩; (focus ((try dsimp only at hSW); go_simp; try with_reducible rfl)); clear hK K; (try simp only [Act.put, List.setIfInBounds_toArray, List.set_cons_zero, List.set_cons_succ])
        refine ord_take RD 4 (at_list (by rw [HOP.out]; rfl)) HNS.out HPQ.out (by rw [HOP.out]; kernel_rfl) (by rw [HOP.out]; kernel_rfl) (by rw [HOP.out]; rfl) (fun K hK => ?_); apply Exists.intro; refine ⟨fun W hSW => ?_, hK _ ?_⟩; (focus ((try dsimp only at hSW); go_simp; try with_reducible rfl)); clear hK K; (try simp only [Act.put, List.setIfInBounds_toArray, List.set_cons_zero, List.set_cons_succ])
        refine ord_take RD 5 (at_list (by rw [HOP.out]; rfl)) HNS.out HPQ.out (by rw [HOP.out]; kernel_rfl) (by rw [HOP.out]; kernel_rfl) (by rw [HOP.out]; rfl) (fun K hK => ?_); apply Exists.intro; refine ⟨fun W hSW => ?_, hK _ ?_⟩; (focus ((try dsimp only at hSW); go_simp; try with_reducible rfl)); clear hK K; (try simp only [Act.put, List.setIfInBounds_toArray, List.set_cons_zero, List.set_cons_succ])
        refine ord_take RD 6 (at_list (by rw [HOP.out]; rfl)) HNS.out HPQ.out (by rw [HOP.out]; kernel_rfl) (by rw [HOP.out]; kernel_rfl) (by rw [HOP.out]; rfl) (fun K hK => ?_); apply Exists.intro; refine ⟨fun W hSW => ?_, hK _ ?_⟩; (focus ((try dsimp only at hSW); (have h9 : ((x : Int) ≤ (q : Int)) = False := eq_false (by omega)); go_simp; try with_reducible rfl)); clear hK K; (try simp only [Act.put, List.setIfInBounds_toArray, List.set_cons_zero, List.set_cons_succ])
        refine ord_take RD 7 (at_list (by rw [HOP.out]; rfl)) HNS.out HPQ.out (by rw [HOP.out]; kernel_rfl) (by rw [HOP.out]; kernel_rfl) (by rw [HOP.out]; rfl) (fun K hK => ?_); apply Exists.intro; refine ⟨fun W hSW => ?_, hK _ ?_⟩; (focus ((try dsimp only at hSW); go_simp; try with_reducible rfl)); clear hK K; (try simp only [Act.put, List.setIfInBounds_toArray, List.set_cons_zero, List.set_cons_succ])
        refine ord_skip RD 8 (at_list (by rw [HOP.out]; rfl)) HNS.out HPQ.out (by rw [HOP.out]; kernel_rfl) (by rw [HOP.out]; kernel_rfl) (by rw [HOP.out]; rfl) ?_; (try simp only [Act.put, List.setIfInBounds_toArray, List.set_cons_zero, List.set_cons_succ])
        refine ord_skip RD 9 (at_list (by rw [HOP.out]; rfl)) HNS.out HPQ.out (by rw [HOP.out]; kernel_rfl) (by rw [HOP.out]; kernel_rfl) (by rw [HOP.out]; rfl) ?_; (try simp only [Act.put, List.setIfInBounds_toArray, List.set_cons_zero, List.set_cons_succ])
        refine ord_skip RD 10 (at_list (by rw [HOP.out]; rfl)) HNS.out HPQ.out (by rw [HOP.out]; kernel_rfl) (by rw [HOP.out]; kernel_rfl) (by rw [HOP.out]; rfl) ?_; (try simp only [Act.put, List.setIfInBounds_toArray, List.set_cons_zero, List.set_cons_succ])
        refine ord_skip RD 11 (at_list (by rw [HOP.out]; rfl)) HNS.out HPQ.out (by rw [HOP.out]; kernel_rfl) (by rw [HOP.out]; kernel_rfl) (by rw [HOP.out]; rfl) ?_; (try simp only [Act.put, List.setIfInBounds_toArray, List.set_cons_zero, List.set_cons_succ])
        refine ord_skip RD 12 (at_list (by rw [HOP.out]; rfl)) HNS.out HPQ.out (by rw [HOP.out]; kernel_rfl) (by rw [HOP.out]; kernel_rfl) (by rw [HOP.out]; rfl) ?_; (try simp only [Act.put, List.setIfInBounds_toArray, List.set_cons_zero, List.set_cons_succ])
        refine ord_skip RD 13 (at_list (by rw [HOP.out]; rfl)) HNS.out HPQ.out (by rw [HOP.out]; kernel_rfl) (by rw [HOP.out]; kernel_rfl) (by rw [HOP.out]; rfl) ?_; (try simp only [Act.put, List.setIfInBounds_toArray, List.set_cons_zero, List.set_cons_succ])
        refine ord_skip RD 14 (at_list (by rw [HOP.out]; rfl)) HNS.out HPQ.out (by rw [HOP.out]; kernel_rfl) (by rw [HOP.out]; kernel_rfl) (by rw [HOP.out]; rfl) ?_; (try simp only [Act.put, List.setIfInBounds_toArray, List.set_cons_zero, List.set_cons_succ])
        refine ord_take RD 15 (at_list (by rw [HOP.out]; rfl)) HNS.out HPQ.out (by rw [HOP.out]; kernel_rfl) (by rw [HOP.out]; kernel_rfl) (by rw [HOP.out]; rfl) (fun K hK => ?_); apply Exists.intro; refine ⟨fun W hSW => ?_, hK _ ?_⟩; (focus ((try dsimp only at hSW); go_simp; try with_reducible rfl)); clear hK K; (try simp only [Act.put, List.setIfInBounds_toArray, List.set_cons_zero, List.set_cons_succ])
        refine ord_done (by rw [HOP.out]; kernel_rfl) (fun W3 hWW hSW => HN.out _ _ ?_); clear HOP HNS HPQ HN RD; (try dsimp only at hSW)
        obtain ⟨nn, rfl⟩ := hWW
        clear hSW
        go_wp2_with fail
        refine ⟨⟨k + 1, by have := HLT.out; omega, by first | rfl | go_num, by have := HACC.out; (repeat' (first | (with_reducible exact Below.refl _ _) | (with_reducible assumption) | (with_reducible refine below_drewN ?_ _) | (with_reducible refine below_new ?_ _) | (with_reducible refine Below.alloc ?_ ?_ _) | (with_reducible refine Below.drew ?_) | (with_reducible refine Below.setCell ?_ ?_ _) | (with_reducible apply below_at; (case k => (with_reducible assumption)); (case hB => omega)) | (with_reducible apply below_on; (with_reducible assumption)) | (go_size; done) | (with_reducible apply size_of)))⟩, by simp [intOf]; have := HLT.out; omega⟩
    · have e6 : k = 6 := by omega
      subst e6
      have k6 : ¬ ((6 : Nat) : Int) < 6 := by omega
      have HS11 := Lib.hid S1
      clear hk hlt LM LN LO
      by_cases hq2 : (q : Int) < 2
      · go_wp2_with fail
        go_ret
        exact ⟨rfl, HS11.out.1⟩
      · obtain ⟨x0, x1, x2, -, -, -⟩ := S1.2.2.2.2.three
        obtain ⟨hy1, hy2⟩ := HRC.out (by omega)
        have HRV : Hid (rc1 r2 1 = xc.getD (q - 1) 0 ∧ rc1 r2 2 = xc.getD (q - 2) 0) := Lib.hid ⟨hy1, hy2⟩
        obtain ⟨bc, off, rfl, hbc, hcc⟩ := has_some HC.out.1 (by rw [HC.out.2]; omega)
        have HCC := Lib.hid (And.intro hbc (And.intro (hcc (q - 1) (by rw [HC.out.2]; omega)) (hcc (q - 2) (by rw [HC.out.2]; omega))))
        obtain ⟨s1, hs1⟩ : ∃ s1, q - 1 = s1 := ⟨_, rfl⟩
        obtain ⟨s2, hs2⟩ : ∃ s2, q - 2 = s2 := ⟨_, rfl⟩
        rw [hs1, hs2] at HCC HRV
        have t1 : (q : Int) - 1 = s1 := by omega
        have t2 : (q : Int) - 2 = s2 := by omega
        have t3 : (s1 : Int) < q := by omega
        have t4 : (s2 : Int) < q := by omega
        have t5 : 0 ≤ (s1 : Int) := by omega
        have t6 : 0 ≤ (s2 : Int) := by omega
        clear S1 hy1 hy2 hbc hcc hs1 hs2
        go_wp2_with fail
        refine (Recent_any r2 R7 n7 c7 _ HS11.out.2.2.1).mono ?_
        rintro e0 w12 ⟨rfl, hb12⟩
        rw [HE2.out, HRV.out.1, HRV.out.2]
        have HS12 := Lib.hid (HS11.out.past hb12)
        have u1 := (HS12.out.1.cell (p := ⟨bc, off + s1, none⟩) HCC.out.1).trans HCC.out.2.1
        have u2 := (HS12.out.1.cell (p := ⟨bc, off + s2, none⟩) HCC.out.1).trans HCC.out.2.2
        clear hb12 x0 x1 x2
        generalize xc.getD s1 0 = y1 at *
        generalize xc.getD s2 0 = y2 at *
        go_wp2_with fail
        go_ret
        exact ⟨rfl, HS12.out.1⟩
end Go.Proofs.YtpggdijhfdddpaaDoor.cxW
