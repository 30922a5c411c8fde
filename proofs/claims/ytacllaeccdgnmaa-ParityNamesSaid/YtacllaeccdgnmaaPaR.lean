/- The reference's frames and mixing, by walks. -/
import Derived.Test.YtacllaeccdgnmaaPaW4
import Derived.StillTailTactics
namespace Go.Proofs.Ytacllaeccdgnmaa.paW
set_option maxRecDepth 100000
open Go.RowKit Go.Proofs.Ytacllaeccdgnmaa.base Go.Proofs.Ytacllaeccdgnmaa.paP
set_option linter.unusedVariables false
set_option linter.unusedSimpArgs false
set_option maxRecDepth 100000
def fm (s : List Int) (k : Nat) : List Int := ((s.length / 256 : Nat) : Int) :: ((s.length % 256 : Nat) : Int) :: (s ++ List.replicate k 0)
theorem fm_step (s : List Int) (k : Nat) : fm s k ++ [0] = fm s (k + 1) := by
  unfold fm
  simp only [List.cons_append, List.append_assoc]
  rw [List.replicate_succ']
theorem fm_len (s : List Int) (k : Nat) : (fm s k).length = 2 + s.length + k := by simp [fm]; omega
theorem fm_fr {s : List Int} {k W : Nat} (h : k = W - s.length) : fm s k = fr s W := by rw [h]; rfl
set_option maxHeartbeats 2000000 in
theorem framed_any (A : Option Addr) (n c W : Nat) (s : List Int) (w : World) (hs : Has .u8 w A s) (hn : s.length = n) (hc : n ≤ c) (hl : n ≤ 5100) (hW : W ≤ 5100) :
    Calls Try.prog 37 #[.slice A n c, .int .i64 (W : Int)] w fun e w' => ∃ g c', e = .returned (.slice (some ⟨g, 0, none⟩) (fr s W).length c') ∧ OwnI w' w.heap.size 5 .u8 (.slice (some ⟨g, 0, none⟩) (fr s W).length c') (fr s W) ∧ Below w.heap.size w w' := by
  have HS := Lib.hid hs
  have HN := Lib.hid (And.intro hn (And.intro hc (And.intro hl hW)))
  have n1 : (n : Int) ≤ 5100 := by omega
  have n0 : 0 ≤ (n : Int) := by omega
  have W1 : (W : Int) ≤ 5100 := by omega
  have W0 : 0 ≤ (W : Int) := by omega
  have v1 : IntKind.u8.wrap ((n : Int) / 256) = ((n / 256 : Nat) : Int) := by
    have : (n : Int) / 256 = ((n / 256 : Nat) : Int) := by omega
    rw [this]; exact IntWalk.u8_in _ (by omega)
  have v2 : IntKind.u8.wrap ((n : Int) % 256) = ((n % 256 : Nat) : Int) := by
    have : (n : Int) % 256 = ((n % 256 : Nat) : Int) := by omega
    rw [this]; exact IntWalk.u8_in _ (by omega)
  have HHL : Hid ((s.length / 256 = n / 256) ∧ s.length % 256 = n % 256) := Lib.hid (by rw [hn]; exact ⟨rfl, rfl⟩)
  clear hs hn hc hl hW
  obtain ⟨a, ha⟩ : ∃ a, ((n / 256 : Nat) : Int) = a := ⟨_, rfl⟩
  obtain ⟨b, hb⟩ : ∃ b, ((n % 256 : Nat) : Int) = b := ⟨_, rfl⟩
  rw [ha] at v1
  rw [hb] at v2
  have HAB := Lib.hid (And.intro ha hb)
  have hlit := OwnI.lit w 5 .u8 [a, b] w.heap.size (Nat.le_refl _) (by unfold maxLen; simp)
  have HLIT := Lib.hid hlit
  have HB0 : Hid (Below w.heap.size w (w.alloc (.cells #[.int .u8 a, .int .u8 b] 5))) := Lib.hid ((Below.refl _ _).alloc (Nat.le_refl _) _)
  obtain ⟨t, ht⟩ : ∃ t, 2 + n = t := ⟨_, rfl⟩
  have HT := Lib.hid ht
  have w2 : IntKind.i64.wrap ((W : Int) + 2) = (W : Int) + 2 := IntWalk.i64_in _ (by omega)
  clear ha hb hlit ht
  go_enter Try.func37, Try.ntmps37
  go_wp2_with (at_builtin; go_loud (refine app8 rfl _ _ rfl w.heap.size _ [a, b] rfl HLIT.out A _ _ s rfl HN.out.1 (HS.out.below HB0.out (Nat.le_refl _)) t (by rw [← HT.out]; rfl) (by have := HN.out; have := HT.out; omega) (by simp) ?_); intro A1 c1 w1 ho1 hg1 hb1)
  have HO1 : Hid (OwnI w1 w.heap.size 5 .u8 (.slice A1 t c1) (fm s 0)) := Lib.hid (by
    have e : [a, b] ++ s = fm s 0 := by unfold fm; rw [HHL.out.1, HHL.out.2, HAB.out.1, HAB.out.2]; simp
    rw [← e]; exact ho1)
  have HB1 := Lib.hid (HB0.out.trans hb1)
  clear ho1 hg1 hb1
  go_loopw [5] (fun o wr => ∃ (k u c' : Nat) (A' : Option Addr), (k = 0 ∨ n + k ≤ W) ∧ u = 2 + n + k ∧ o = .slice A' u c' ∧ OwnI wr w.heap.size 5 .u8 (.slice A' u c') (fm s k) ∧ Below w.heap.size w wr) (fun o wr => match o with | .slice _ u _ => W + 2 - u | _ => 0)
  case atStart => exact ⟨0, t, c1, A1, .inl rfl, by have := HT.out; omega, rfl, HO1.out, HB1.out⟩
  case round =>
    obtain ⟨k, u, c', A', hk, hu, rfl, own, acc⟩ := hrel
    have HO := Lib.hid own
    have HA := Lib.hid acc
    have HU := Lib.hid (And.intro hk hu)
    have u0 : 0 ≤ (u : Int) := by omega
    have u1 : (u : Int) ≤ 12000 := by have := HN.out; omega
    by_cases hlt : u < W + 2
    · have q1 : (u : Int) < (W : Int) + 2 := by omega
      have HL := Lib.hid hlt
      have HOA : Hid (OwnI (wr.alloc (.cells #[.int .u8 0] 5)) w.heap.size 5 .u8 (.slice A' u c') (fm s k) ∧ Below w.heap.size w (wr.alloc (.cells #[.int .u8 0] 5)) ∧ Has .u8 (wr.alloc (.cells #[.int .u8 0] 5)) (some ⟨wr.heap.size, 0, none⟩) [0]) := Lib.hid
        ⟨own.below ((Below.refl _ _).alloc (Nat.le_refl _) _) (Nat.le_refl _), acc.alloc acc.size _, has_lit (zs := [0]) rfl (by unfold maxLen; simp)⟩
      obtain ⟨u2, hu2⟩ : ∃ u2, u + 1 = u2 := ⟨_, rfl⟩
      have HU2 := Lib.hid hu2
      clear hk hu own acc hlt hu2
      go_wp2_with (at_builtin; refine app8 rfl _ _ rfl w.heap.size _ _ rfl HOA.out.1 _ 1 _ [0] rfl rfl HOA.out.2.2 u2 (by rw [fm_len, ← HU2.out]; have := HU.out; have := HN.out; omega) (by have := HU2.out; omega) HOA.out.2.1.size ?_; intro A3 c3 w3 ho3 hg3 hb3)
      go_roundw
      case rel => exact ⟨k + 1, u2, c3, A3, .inr (by have := HU.out; have := HN.out; have := HL.out; omega), by have := HU2.out; have := HU.out; omega, rfl, by rw [← fm_step]; exact ho3, HOA.out.2.1.trans hb3⟩
      case measure => show W + 2 - u2 < W + 2 - u; have := HU2.out; have := HL.out; omega
    · have q1 : ¬ (u : Int) < (W : Int) + 2 := by omega
      have HE : Hid (fm s k = fr s W ∧ u = (fr s W).length) := Lib.hid (by
        have h1 := HN.out.1
        have e : fm s k = fr s W := fm_fr (by omega)
        exact ⟨e, by rw [← e, fm_len, h1]; exact hu⟩)
      have HG : Hid (∃ g, A' = some ⟨g, 0, none⟩) := Lib.hid (by
        obtain ⟨g, h, _⟩ := own.form (by unfold fm; simp)
        exact ⟨g, h⟩)
      clear hk hu own acc hlt
      go_wp2_with fail
      go_ret
      obtain ⟨g, rfl⟩ := HG.out
      exact ⟨g, c', by rw [← HE.out.2]; rfl, by have h := HO.out; rw [HE.out.1, HE.out.2] at h; exact h, HA.out⟩
theorem mx_take {a b : List Int} {k : Nat} (ha : k < a.length) (hb : k < b.length) : mx (a.take (k + 1)) (b.take (k + 1)) = mx (a.take k) (b.take k) ++ [xo (a.getD k 0) (b.getD k 0)] := by
  unfold mx
  rw [List.take_add_one, List.take_add_one, List.getElem?_eq_getElem ha, List.getElem?_eq_getElem hb]
  simp only [Option.toList]
  rw [List.zipWith_append (by rw [List.length_take, List.length_take]; omega)]
  simp [List.getD_eq_getElem?_getD, List.getElem?_eq_getElem ha, List.getElem?_eq_getElem hb]
set_option maxHeartbeats 2000000 in
theorem mixed_any (A B : Option Addr) (n c d : Nat) (a b : List Int) (w : World) (ha : Has .u8 w A a) (hb : Has .u8 w B b) (hn : a.length = n) (hm : b.length = n) (hl : n ≤ 100000) (ba : Byt a) (bb : Byt b) :
    Calls Try.prog 36 #[.slice A n c, .slice B n d] w fun e w' => ∃ A' c', e = .returned (.slice A' n c') ∧ OwnI w' w.heap.size 5 .u8 (.slice A' n c') (mx a b) ∧ Below w.heap.size w w' := by
  have HA := Lib.hid ha
  have HB := Lib.hid hb
  have HN := Lib.hid (And.intro hn (And.intro hm (And.intro hl (And.intro ba bb))))
  have n1 : (n : Int) ≤ 100000 := by omega
  clear ha hb hn hm hl ba bb
  go_enter Try.func36, Try.ntmps36
  go_wp2_with fail
  go_loopw [5, 6] (fun o i wr => ∃ (k c' : Nat) (A' : Option Addr), k ≤ n ∧ i = .int .i64 (k : Int) ∧ o = .slice A' k c' ∧ OwnI wr w.heap.size 5 .u8 (.slice A' k c') (mx (a.take k) (b.take k)) ∧ Below w.heap.size w wr) (fun o i wr => n - (intOf i).toNat)
  case atStart => exact ⟨0, 0, none, Nat.zero_le _, rfl, rfl, by rw [List.take_zero, List.take_zero]; exact OwnI.nil _ _ _ _, Below.refl _ _⟩
  case round =>
    obtain ⟨k, c', A', hk, rfl, rfl, own, acc⟩ := hrel
    have HO := Lib.hid own
    have HC := Lib.hid acc
    by_cases hlt : k < n
    · obtain ⟨b1, o1, rfl, hb1, hc1⟩ := has_some HA.out (by rw [HN.out.1]; omega)
      obtain ⟨b2, o2, rfl, hb2, hc2⟩ := has_some HB.out (by rw [HN.out.2.1]; omega)
      replace hc1 := hc1 k (by rw [HN.out.1]; exact hlt)
      replace hc2 := hc2 k (by rw [HN.out.2.1]; exact hlt)
      have p1 : wr.cell? ⟨b1, o1 + k, none⟩ = some (.int .u8 (a.getD k 0)) := by rw [acc.cell (p := ⟨b1, o1 + k, none⟩) hb1]; exact hc1
      have p2 : wr.cell? ⟨b2, o2 + k, none⟩ = some (.int .u8 (b.getD k 0)) := by rw [acc.cell (p := ⟨b2, o2 + k, none⟩) hb2]; exact hc2
      have x5 := xo_bits (byt_getD HN.out.2.2.2.1 k) (byt_getD HN.out.2.2.2.2 k)
      have HS := Lib.hid (mx_take (a := a) (b := b) (k := k) (by rw [HN.out.1]; exact hlt) (by rw [HN.out.2.1]; exact hlt))
      have HML : Hid ((mx (a.take k) (b.take k)).length = k) := Lib.hid (by rw [mx_len, List.length_take, List.length_take, HN.out.1, HN.out.2.1]; omega)
      have k1 : (k : Int) < n := by omega
      have k0 : 0 ≤ (k : Int) := by omega
      have HL := Lib.hid hlt
      generalize a.getD k 0 = x at *
      generalize b.getD k 0 = y at *
      obtain ⟨v, hv⟩ : ∃ v, xo x y = v := ⟨_, rfl⟩
      rw [hv] at x5 HS
      have HOA : Hid (∀ w1, Below wr.heap.size wr w1 → OwnI (w1.alloc (.cells #[.int .u8 v] 5)) w.heap.size 5 .u8 (.slice A' k c') (mx (a.take k) (b.take k)) ∧ Below w.heap.size w (w1.alloc (.cells #[.int .u8 v] 5)) ∧ Has .u8 (w1.alloc (.cells #[.int .u8 v] 5)) (some ⟨w1.heap.size, 0, none⟩) [v]) := Lib.hid fun w1 hw1 =>
        ⟨(own.below hw1 (Nat.le_refl _)).below ((Below.refl _ _).alloc (Nat.le_refl _) _) (Nat.le_refl _), (acc.trans (hw1.mono acc.size)).alloc (Nat.le_trans acc.size hw1.size) _, has_lit (zs := [v]) rfl (by unfold maxLen; simp)⟩
      have HDR : Hid (Below wr.heap.size wr wr.drew) := Lib.hid ((Below.refl _ _).drew)
      obtain ⟨k2, hk2⟩ : ∃ k2, k + 1 = k2 := ⟨_, rfl⟩
      have HK2 := Lib.hid hk2
      have HLT := Lib.hid (And.intro (And.intro hb1 hb2) (And.intro hc1 hc2))
      clear own acc hlt hk hc1 hc2 hb1 hb2 hv hk2
      go_wp2_with fail
      go_upto_region 5 with fail
      (have RD := grows_roads (S := fun x' => Below w.heap.size w x') (fun a b h1 h2 => h2.trans (h1.mono h2.size))); refine region_ord _ Grows RD (Below.drew HC.out) (by kernel_rfl) ?_; intro ops Q' hops hPQ hN; (have HNS : Hid (Region.noSelect ops = true) := Lib.hid (by rw [hops]; kernel_rfl)); (have hsz : ops.size = 13 := (by rw [hops]; rfl)); have HOP := Lib.hid hops; have HPQ := Lib.hid hPQ; have HN := Lib.hid hN; rw [hsz]; clear hops hsz hPQ hN
      refine ord_take RD 0 (at_list (by rw [HOP.out]; rfl)) HNS.out HPQ.out (by rw [HOP.out]; kernel_rfl) (by rw [HOP.out]; kernel_rfl) (by rw [HOP.out]; rfl) (fun K hK => ?_); apply Exists.intro; refine ⟨fun W hSW => ?_, hK _ ?_⟩; (focus ((try dsimp only at hSW); go_simp; try with_reducible rfl)); clear hK K; (try simp only [Act.put, List.setIfInBounds_toArray, List.set_cons_zero, List.set_cons_succ])
      refine ord_take RD 1 (at_list (by rw [HOP.out]; rfl)) HNS.out HPQ.out (by rw [HOP.out]; kernel_rfl) (by rw [HOP.out]; kernel_rfl) (by rw [HOP.out]; rfl) (fun K hK => ?_); apply Exists.intro; refine ⟨fun W hSW => ?_, hK _ ?_⟩; (focus ((try dsimp only at hSW); go_simp; try with_reducible rfl)); clear hK K; (try simp only [Act.put, List.setIfInBounds_toArray, List.set_cons_zero, List.set_cons_succ])
      refine ord_take RD 2 (at_list (by rw [HOP.out]; rfl)) HNS.out HPQ.out (by rw [HOP.out]; kernel_rfl) (by rw [HOP.out]; kernel_rfl) (by rw [HOP.out]; rfl) (fun K hK => ?_); apply Exists.intro; refine ⟨fun W hSW => ?_, hK _ ?_⟩; (focus ((try dsimp only at hSW); go_simp; try with_reducible rfl)); clear hK K; (try simp only [Act.put, List.setIfInBounds_toArray, List.set_cons_zero, List.set_cons_succ])
      refine ord_take RD 3 (at_list (by rw [HOP.out]; rfl)) HNS.out HPQ.out (by rw [HOP.out]; kernel_rfl) (by rw [HOP.out]; kernel_rfl) (by rw [HOP.out]; rfl) (fun K hK => ?_); apply Exists.intro; refine ⟨fun W hSW => ?_, hK _ ?_⟩; (focus ((try dsimp only at hSW); go_simp; try with_reducible rfl)); clear hK K; (try simp only [Act.put, List.setIfInBounds_toArray, List.set_cons_zero, List.set_cons_succ])
      refine ord_take RD 4 (at_list (by rw [HOP.out]; rfl)) HNS.out HPQ.out (by rw [HOP.out]; kernel_rfl) (by rw [HOP.out]; kernel_rfl) (by rw [HOP.out]; rfl) (fun K hK => ?_); apply Exists.intro; refine ⟨fun W hSW => ?_, hK _ ?_⟩; (focus ((try dsimp only at hSW); (have z1 := (hSW.cell (p := ⟨b1, o1 + k, none⟩) HLT.out.1.1).trans HLT.out.2.1); go_simp; try with_reducible rfl)); clear hK K; (try simp only [Act.put, List.setIfInBounds_toArray, List.set_cons_zero, List.set_cons_succ])
      refine ord_take RD 5 (at_list (by rw [HOP.out]; rfl)) HNS.out HPQ.out (by rw [HOP.out]; kernel_rfl) (by rw [HOP.out]; kernel_rfl) (by rw [HOP.out]; rfl) (fun K hK => ?_); apply Exists.intro; refine ⟨fun W hSW => ?_, hK _ ?_⟩; (focus ((try dsimp only at hSW); go_simp; try with_reducible rfl)); clear hK K; (try simp only [Act.put, List.setIfInBounds_toArray, List.set_cons_zero, List.set_cons_succ])
      refine ord_take RD 6 (at_list (by rw [HOP.out]; rfl)) HNS.out HPQ.out (by rw [HOP.out]; kernel_rfl) (by rw [HOP.out]; kernel_rfl) (by rw [HOP.out]; rfl) (fun K hK => ?_); apply Exists.intro; refine ⟨fun W hSW => ?_, hK _ ?_⟩; (focus ((try dsimp only at hSW); go_simp; try with_reducible rfl)); clear hK K; (try simp only [Act.put, List.setIfInBounds_toArray, List.set_cons_zero, List.set_cons_succ])
      refine ord_take RD 7 (at_list (by rw [HOP.out]; rfl)) HNS.out HPQ.out (by rw [HOP.out]; kernel_rfl) (by rw [HOP.out]; kernel_rfl) (by rw [HOP.out]; rfl) (fun K hK => ?_); apply Exists.intro; refine ⟨fun W hSW => ?_, hK _ ?_⟩; (focus ((try dsimp only at hSW); go_simp; try with_reducible rfl)); clear hK K; (try simp only [Act.put, List.setIfInBounds_toArray, List.set_cons_zero, List.set_cons_succ])
      refine ord_take RD 8 (at_list (by rw [HOP.out]; rfl)) HNS.out HPQ.out (by rw [HOP.out]; kernel_rfl) (by rw [HOP.out]; kernel_rfl) (by rw [HOP.out]; rfl) (fun K hK => ?_); apply Exists.intro; refine ⟨fun W hSW => ?_, hK _ ?_⟩; (focus ((try dsimp only at hSW); (have z1 := (hSW.cell (p := ⟨b2, o2 + k, none⟩) HLT.out.1.2).trans HLT.out.2.2); go_simp; try with_reducible rfl)); clear hK K; (try simp only [Act.put, List.setIfInBounds_toArray, List.set_cons_zero, List.set_cons_succ])
      refine ord_take RD 9 (at_list (by rw [HOP.out]; rfl)) HNS.out HPQ.out (by rw [HOP.out]; kernel_rfl) (by rw [HOP.out]; kernel_rfl) (by rw [HOP.out]; rfl) (fun K hK => ?_); apply Exists.intro; refine ⟨fun W hSW => ?_, hK _ ?_⟩; (focus ((try dsimp only at hSW); go_simp; try with_reducible rfl)); clear hK K; (try simp only [Act.put, List.setIfInBounds_toArray, List.set_cons_zero, List.set_cons_succ])
      refine ord_one RD 10 (by rw [HOP.out]; kernel_rfl) (at_list (by rw [HOP.out]; rfl)) (by rw [HOP.out]; rfl) (fun W2 hWW hSW K hK => ?_); (try dsimp only at hSW)
      go_simp
      have HOB := Lib.hid (HOA.out _ ((Below.drew (Below.refl wr.heap.size wr)).trans hWW))
      refine hK _ _ (RD.keep (grows_alloc W2 _) hSW) ?_
      clear hSW hWW
      clear hK K; (try simp only [Act.put, List.setIfInBounds_toArray, List.set_cons_zero, List.set_cons_succ])
      generalize hw3 : W2.alloc (.cells #[.int .u8 v] 5) = w3 at *
      generalize W2.heap.size = g3 at *
      refine ord_one RD 11 (by rw [HOP.out]; kernel_rfl) (at_list (by rw [HOP.out]; rfl)) (by rw [HOP.out]; rfl) (fun W4 hWW hSW K hK => ?_); (try dsimp only at hSW)
      refine wp_app8 rfl _ _ rfl w.heap.size _ _ rfl (HOB.out.1.below hWW (Nat.le_refl _)) _ 1 _ [v] rfl rfl (HOB.out.2.2.below hWW (Nat.le_refl _)) k2 (by rw [HML.out, HK2.out]) (by have := HN.out; have := HL.out; have := HK2.out; omega) (Nat.le_trans HOB.out.2.1.size hWW.size) ?_
      intro A3 c3 w5 ho3 hg3 hb3
      have HA5 : Hid (Below w.heap.size w w5) := Lib.hid (HOB.out.2.1.trans ((hWW.mono HOB.out.2.1.size).trans hb3))
      refine hK _ _ HA5.out ?_
      have HO5 := Lib.hid ho3
      clear ho3 hg3 hb3 hSW hWW
      clear hK K; (try simp only [Act.put, List.setIfInBounds_toArray, List.set_cons_zero, List.set_cons_succ])
      refine ord_take RD 12 (at_list (by rw [HOP.out]; rfl)) HNS.out HPQ.out (by rw [HOP.out]; kernel_rfl) (by rw [HOP.out]; kernel_rfl) (by rw [HOP.out]; rfl) (fun K hK => ?_); apply Exists.intro; refine ⟨fun W hSW => ?_, hK _ ?_⟩; (focus ((try dsimp only at hSW); go_simp; try with_reducible rfl)); clear hK K; (try simp only [Act.put, List.setIfInBounds_toArray, List.set_cons_zero, List.set_cons_succ])
      refine ord_done (by rw [HOP.out]; kernel_rfl) (fun W6 hWW hSW => HN.out _ _ ?_); clear HOP HNS HPQ HN RD; (try dsimp only at hSW)
      have HO6 := Lib.hid (And.intro (HO5.out.below hWW (Nat.le_refl _)) (HA5.out.trans (hWW.mono HA5.out.size)))
      clear hWW hSW
      go_wp2_with fail
      go_roundw
      case rel => exact ⟨k2, c3, A3, by have := HL.out; have := HK2.out; omega, by rw [← HK2.out]; go_num, rfl, by rw [← HK2.out, HS.out]; rw [HK2.out]; exact HO6.out.1, HO6.out.2⟩
      case measure => simp [intOf]; have := HK2.out; have := HL.out; omega
    · obtain rfl : k = n := by omega
      have q1 : ¬ (k : Int) < k := by omega
      have HE : Hid (mx (a.take k) (b.take k) = mx a b) := Lib.hid (by rw [List.take_of_length_le (by rw [HN.out.1]; exact Nat.le_refl _), List.take_of_length_le (by rw [HN.out.2.1]; exact Nat.le_refl _)])
      clear own acc hlt hk
      go_wp2_with fail
      go_ret
      exact ⟨A', c', rfl, by have h := HO.out; rw [HE.out] at h; exact h, HC.out⟩
end Go.Proofs.Ytacllaeccdgnmaa.paW
