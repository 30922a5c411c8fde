/- Filters: a byte moved to the front, its place, by walks. -/
import Derived.Test.YtbfodmckgjeoaaaFiW7
namespace Go.Proofs.Ytbfodmckgjeoaaa.fiW
set_option maxRecDepth 100000
open Go.RowKit Go.Proofs.Ytbfodmckgjeoaaa.base Go.Proofs.Ytbfodmckgjeoaaa.fiP
set_option linter.unusedVariables false
set_option linter.unusedSimpArgs false
theorem mv_splice {l : List Int} {i : Nat} (hi : i < l.length) : (splice l 1 (l.take i)).set 0 (l.getD i 0) = mv l i := by
  cases l with
  | nil => simp at hi
  | cons z r =>
    have hi' : i ≤ r.length := by simp at hi; omega
    unfold splice mv
    have e : ((z :: r).take i).length = i := by rw [List.length_take]; simp; omega
    rw [e, show 1 + i = i + 1 by omega]
    rfl
theorem getD_take {l : List Int} {i j : Nat} (h : j < i) : (l.take i).getD j 0 = l.getD j 0 := by
  simp only [List.getD_eq_getElem?_getD, List.getElem?_take]; rw [if_pos h]
set_option maxHeartbeats 1000000 in
theorem toFront_any (l : List Int) (g i B : Nat) (w : World) (h : OwnI w B 5 .u8 (.slice (some ⟨g, 0, none⟩) 256 256) l) (hl : l.length = 256) (hi : i < 256) :
    Calls Try.prog 40 #[.slice (some ⟨g, 0, none⟩) 256 256, .int .i64 (i : Int)] w fun e w' => e = .returned (.tuple #[]) ∧ OwnI w' B 5 .u8 (.slice (some ⟨g, 0, none⟩) 256 256) (mv l i) ∧ Else g w w' ∧ Below g w w' := by
  have HO := Lib.hid h
  have HL := Lib.hid hl
  have HI := Lib.hid hi
  have i1 : (i : Int) < 256 := by omega
  have i2 : i < 256 := hi
  have i3 : ¬ (256 < i) := by omega
  have i4 : (i : Int) ≤ 256 := by omega
  have i5 : i ≤ 256 := by omega
  have p1 := h.cell i (by rw [hl]; exact hi)
  have HB := Lib.hid h.base_le
  have HM := Lib.hid (mv_splice (l := l) (i := i) (by rw [hl]; exact hi))
  obtain ⟨x, hx⟩ : ∃ x, l.getD i 0 = x := ⟨_, rfl⟩
  rw [hx] at p1 HM
  clear h hl hi hx
  go_enter Try.func40, Try.ntmps40
  go_wp2_with fail
  clear p1
  (have RD := drawn_roads (S := fun x' => Drawn w x') (fun _ n hq => (drawn_roads (S := fun _ => True) (fun _ _ h => h)).trans hq ⟨n, rfl⟩)); refine region_ordT 5 _ Drawn RD ⟨1, rfl⟩ (by kernel_rfl) (by decide) ?_; intro ops Q' hops hPQ hN; (have HNS : Hid (Region.noSelect ops = true ∧ Region.sinkB .any ops 5 = true ∧ Region.chainB .any ops 5 = true ∧ 5 < ops.size) := Lib.hid (by rw [hops]; exact ⟨by kernel_rfl, by kernel_rfl, by kernel_rfl, by decide⟩)); (have hsz : ops.size = 6 := (by rw [hops]; rfl)); have HOP := Lib.hid hops; have HPQ := Lib.hid hPQ; have HN := Lib.hid hN; rw [hsz]; clear hops hsz hPQ hN
  refine ordT_take RD 0 (at_list (by rw [HOP.out]; rfl)) HNS.out HPQ.out (by rw [HOP.out]; kernel_rfl) (by rw [HOP.out]; kernel_rfl) (by rw [HOP.out]; rfl) (fun K hK => ?_); apply Exists.intro; refine ⟨fun W hSW => ?_, hK _ ?_⟩; (focus ((try dsimp only at hSW); go_simp; try with_reducible rfl)); clear hK K; (try simp only [Act.put, List.setIfInBounds_toArray, List.set_cons_zero, List.set_cons_succ])
  refine ordT_take RD 1 (at_list (by rw [HOP.out]; rfl)) HNS.out HPQ.out (by rw [HOP.out]; kernel_rfl) (by rw [HOP.out]; kernel_rfl) (by rw [HOP.out]; rfl) (fun K hK => ?_); apply Exists.intro; refine ⟨fun W hSW => ?_, hK _ ?_⟩; (focus ((try dsimp only at hSW); go_simp; try with_reducible rfl)); clear hK K; (try simp only [Act.put, List.setIfInBounds_toArray, List.set_cons_zero, List.set_cons_succ])
  refine ordT_take RD 2 (at_list (by rw [HOP.out]; rfl)) HNS.out HPQ.out (by rw [HOP.out]; kernel_rfl) (by rw [HOP.out]; kernel_rfl) (by rw [HOP.out]; rfl) (fun K hK => ?_); apply Exists.intro; refine ⟨fun W hSW => ?_, hK _ ?_⟩; (focus ((try dsimp only at hSW); go_simp; try with_reducible rfl)); clear hK K; (try simp only [Act.put, List.setIfInBounds_toArray, List.set_cons_zero, List.set_cons_succ])
  refine ordT_take RD 3 (at_list (by rw [HOP.out]; rfl)) HNS.out HPQ.out (by rw [HOP.out]; kernel_rfl) (by rw [HOP.out]; kernel_rfl) (by rw [HOP.out]; rfl) (fun K hK => ?_); apply Exists.intro; refine ⟨fun W hSW => ?_, hK _ ?_⟩; (focus ((try dsimp only at hSW); go_simp; try with_reducible rfl)); clear hK K; (try simp only [Act.put, List.setIfInBounds_toArray, List.set_cons_zero, List.set_cons_succ])
  refine ordT_take RD 4 (at_list (by rw [HOP.out]; rfl)) HNS.out HPQ.out (by rw [HOP.out]; kernel_rfl) (by rw [HOP.out]; kernel_rfl) (by rw [HOP.out]; rfl) (fun K hK => ?_); apply Exists.intro; refine ⟨fun W hSW => ?_, hK _ ?_⟩; (focus ((try dsimp only at hSW); go_simp; try with_reducible rfl)); clear hK K; (try simp only [Act.put, List.setIfInBounds_toArray, List.set_cons_zero, List.set_cons_succ])
  refine ordT_end (by rw [HOP.out]; kernel_rfl) (fun W hWW hSW => ?_); rw [HOP.out]; simp only [List.drop_succ_cons, List.drop_zero]; have hN := HN.out; clear HOP HNS HPQ HN RD; (try dsimp only at hSW)
  obtain ⟨q, rfl⟩ := hSW
  clear hWW
  refine wpList_plain rfl fun K hK => ?_
  refine wp_copy8 rfl _ _ rfl B g 1 255 255 256 256 l (l.take i) (HO.out.below (below_drewN (Below.refl _ _) _) (Nat.le_refl _)) rfl ⟨g, 0, none⟩ i 256 rfl ?_ (by rw [List.length_take, HL.out]; have := HI.out; omega) (by rw [List.length_take, HL.out]; have := HI.out; omega) ?_
  · intro j hj
    rw [List.length_take, HL.out] at hj
    rw [addr_add, getD_take (by omega), Nat.zero_add]
    exact HO.out.cell j (by rw [HL.out]; omega)
  · intro w2 o2 k2 b2
    refine hK _ _ ?_
    have HO2 := Lib.hid o2
    have HK2 : Hid (Else g w w2) := Lib.hid ⟨k2.1, k2.2⟩
    have HB2 : Hid (Below g w w2) := Lib.hid ((below_drewN (Below.refl _ _) q).trans b2)
    have z1 := o2.cell 0 (by rw [length_splice _ _ _ (by rw [List.length_take, HL.out]; have := HI.out; omega), HL.out]; omega)
    have z2 := o2.frozen 0
    generalize (splice l 1 (l.take i)).getD 0 0 = z at *
    clear o2 k2 b2 hK K
    go_wp2_with fail
    go_end0
    refine ⟨rfl, ?_, ?_, ?_⟩
    · rw [← HM.out]; exact HO2.out.store 0 x
    · exact HK2.out.set 0 _
    · exact Below.setCell HB2.out (Nat.le_refl _) _
end Go.Proofs.Ytbfodmckgjeoaaa.fiW
