/- The chapter's examples, by a walk. -/
import Derived.Test.YtmlfajmkgkgegaaDoorShL
namespace Go.Proofs.YtmlfajmkgkgegaaDoor.shL
open Go.RowKit Go.Proofs.YtmlfajmkgkgegaaDoor.base Go.Proofs.YtmlfajmkgkgegaaDoor.shP Go.Proofs.YtmlfajmkgkgegaaDoor.shW
set_option linter.unusedVariables false
set_option linter.unusedSimpArgs false
theorem has_mark {w : World} {e : TypeId} {zs : List Int} {g : Nat} {fr : Nat × Nat} (hg : w.heap.size = g) : Has .u8 (w.alloc (.cells (zs.map (Value.int .u8)).toArray e fr)) (some ⟨g, 0, none⟩) zs := by
  refine .inr ⟨g, 0, rfl, by rw [← hg]; simp, fun i hi => ?_⟩
  rw [Joins.cell_alloc_mark_at w _ e fr g _ hg.symm, Nat.zero_add]
  simp [List.getD_eq_getElem?_getD, List.getElem?_eq_getElem hi]
def rv (r : R8) : Value := .slice r.A r.n r.c
theorem hasL_lit {w : World} {rs : List R8} {g : Nat} (T : TypeId) (hg : w.heap.size = g) (h : ∀ r ∈ rs, InR w r) : HasL (w.alloc (.cells (rs.map rv).toArray T)) (some ⟨g, 0, none⟩) rs := by
  refine ⟨.inr ⟨g, 0, rfl, by rw [← hg]; simp, fun i hi => ?_⟩, fun r hr => (h r hr).below ((Below.refl _ _).alloc (Nat.le_refl _) _) (Nat.le_refl _)⟩
  have L := Lies.fresh_at (t := T) (cs := rs.map rv) hg
  rw [L.cell, Nat.zero_add, List.getElem?_map, List.getD_eq_getElem?_getD, List.getElem?_eq_getElem hi]
  rfl
theorem three_in {w : World} {a c : R8} (h1 : InR w a) (h2 : InR w c) : ∀ r ∈ [a, r80, c], InR w r := by
  intro r hr
  simp only [List.mem_cons, List.not_mem_nil, or_false] at hr
  rcases hr with rfl | rfl | rfl
  · exact h1
  · exact ⟨.inl rfl, rfl, Nat.le_refl _, by decide, by intro z hz; cases hz⟩
  · exact h2
theorem wpList_load_row_g {P : Program} {ops : Array Oper} {rest : List Oper} {o : Oper} {a : Act} {w : World} {Q : Exit → Act → World → Prop} (hw : Region.wanted o (yielded ops a.tmps) = true) (ty : TypeId) (x : Operand) (ho : o.op = .load ty x)
    (g : Nat) (hx : a.eval x = .pointer (some ⟨g, 0, none⟩)) (t : TypeId) (cs : Array Value) (fr : Nat × Nat) (d : TypeDesc) (hg : w.heap[g]? = some (.cells cs t fr))
    (hu : P.underlying ty = some d) (hd : (match d with | .struct _ | .array _ _ => true | _ => false) = true) (hi : (P.info? ty).map (·.size) = some cs.size)
    (h : wpList P ops Q rest (a.put o.dst (.agg cs)) w) : wpList P ops Q (o :: rest) a w :=
  wpList_step fun K hK => by rw [if_pos hw]; exact wp_load_row ty x ho g hx t cs fr d hg hu hd hi (hK _ _ h)
theorem inR_nil (w : World) : InR w r80 := ⟨.inl rfl, rfl, Nat.le_refl _, by decide, by intro z hz; cases hz⟩
def dAbc : List Int := [169, 153, 62, 54, 71, 6, 129, 106, 186, 62, 37, 113, 120, 80, 194, 108, 156, 208, 216, 157]
def aAbc : Array Value := darr dAbc
theorem aAbc_eq (w : World) : (Op.equalIn 10000 25 (.agg aAbc) (.agg aAbc)).run Tryd.prog w = .ok true w := by kernel_rfl
theorem aAbc_one : ∀ u ∈ aAbc.toList, u.oneCell' = true := by
  intro u hu
  simp only [aAbc, darr, List.mem_map] at hu
  obtain ⟨i, _, rfl⟩ := hu
  rfl
theorem aAbc_size : z20.toArray.size = aAbc.size := rfl
theorem aAbc_info : (Tryd.prog.info? 25).map (·.size) = some aAbc.size := by kernel_rfl
theorem sum_abc : sumE [97, 98, 99] = 0 ∧ darr (sumV [97, 98, 99]) = aAbc := by
  refine ⟨by decide +kernel, ?_⟩
  rw [show sumV [97, 98, 99] = dAbc by decide +kernel]; rfl
set_option maxRecDepth 100000 in
theorem dig_abc : digest [97, 98, 99] = dAbc := by decide +kernel
set_option maxRecDepth 100000 in
theorem dig_no : digest [] = [218, 57, 163, 238, 94, 107, 75, 13, 50, 85, 191, 239, 149, 96, 24, 144, 175, 216, 7, 9] := by decide +kernel
theorem pi_abc (A B : Option Addr) (rs : List R8) (h : rs = [⟨A, 1, 1, [97]⟩, r80, ⟨B, 2, 2, [98, 99]⟩]) : piE rs = 0 ∧ darr (piV rs) = aAbc := by
  subst h
  have e : wholeL [⟨A, 1, 1, [97]⟩, r80, ⟨B, 2, 2, [98, 99]⟩] = [97, 98, 99] := rfl
  have := pi_yes (rs := [⟨A, 1, 1, [97]⟩, r80, ⟨B, 2, 2, [98, 99]⟩]) (by simp) (by rw [e]; simp)
  rw [e, dig_abc] at this
  rw [this.1, this.2]; exact ⟨rfl, rfl⟩
attribute [irreducible] aAbc
set_option maxRecDepth 100000 in
set_option maxHeartbeats 4000000 in
theorem alive (w : World) (hT : Tab w) : Calls Tryd.prog 13 #[] w fun e w' => e = .returned (.bool true) ∧ Below w.heap.size w w' := by
  have HTB := Lib.hid hT
  have HONE := Lib.hid aAbc_one
  have V5 : Hid (padE 55 = 0 ∧ padV 55 = padL 55 ∧ (padV 55).length = 9) := Lib.hid (by decide +kernel)
  have V6 : Hid (padE 56 = 0 ∧ (padV 56).length = 72) := Lib.hid (by decide +kernel)
  have kc := fun (w : World) (C : Array Value) (n c g : Nat) (hg : g = w.heap.size) => Joins.run_convert_bytes_const_at (P := Tryd.prog) w 29 5 C n c g hg Tryd.underlying29 Tryd.underlying5
  clear hT
  go_enter Tryd.func13, Tryd.ntmps13
  go_wp2_with fail
  refine (Sum_any [97, 98, 99] _ 3 3 _ (HTB.out.below (by (repeat' (first | (with_reducible exact Below.refl _ _) | (with_reducible assumption) | (with_reducible refine below_drewN ?_ _) | (with_reducible refine below_new ?_ _) | (with_reducible refine Below.alloc ?_ ?_ _) | (with_reducible refine Below.drew ?_) | (with_reducible refine Below.setCell ?_ ?_ _) | (with_reducible apply below_at; (case k => (with_reducible assumption)); (case hB => omega)) | (with_reducible apply below_on; (with_reducible assumption)) | (go_size; done) | (with_reducible apply size_of)))) (Nat.le_refl _)) (has_mark (zs := [97, 98, 99]) (by simp)) rfl (by omega) (by omega) (by decide)).mono ?_
  rintro e w1 ⟨rfl, hb1⟩
  rw [sum_abc.1, sum_abc.2]
  have HB1 : Hid (Below w.heap.size w w1) := Lib.hid (by (repeat' (first | (with_reducible exact Below.refl _ _) | (with_reducible assumption) | (with_reducible refine below_drewN ?_ _) | (with_reducible refine below_new ?_ _) | (with_reducible refine Below.alloc ?_ ?_ _) | (with_reducible refine Below.drew ?_) | (with_reducible refine Below.setCell ?_ ?_ _) | (with_reducible apply below_at; (case k => (with_reducible assumption)); (case hB => omega)) | (with_reducible apply below_on; (with_reducible assumption)) | (go_size; done) | (with_reducible apply size_of))))
  clear hb1
  go_wp2_with (first | (show wpList _ _ _ ({ dst := none, op := Op.store 25 (.tmp 1) _, type := _, pos := _, after := _, guard := none } :: _) _ _; go_must (refine wpList_store_arr (P := Tryd.prog) rfl 25 (.tmp 1) (.tmp 13) rfl (w1).heap.size ?c4 aAbc ?c0 25 _ (z20_new w1 rfl) aAbc_size HONE.out aAbc_info ?_); (case c4 => rfl); (case c0 => rfl); intro w2 hR2 hb2 hz2; have HR2 := Lib.hid hR2; have HB2 : Hid (Below w1.heap.size w1 w2) := Lib.hid (((Below.refl _ _).alloc (Nat.le_refl _) _).trans hb2); clear hR2 hb2 hz2))
  refine (Pieces_any [⟨some ⟨w2.heap.size, 0, none⟩, 1, 1, [97]⟩, r80, ⟨some ⟨w2.heap.size + 1, 0, none⟩, 2, 2, [98, 99]⟩] _ 3 3 _ (HTB.out.below (by have := HB1.out; have := HB2.out; (repeat' (first | (with_reducible exact Below.refl _ _) | (with_reducible assumption) | (with_reducible refine below_drewN ?_ _) | (with_reducible refine below_new ?_ _) | (with_reducible refine Below.alloc ?_ ?_ _) | (with_reducible refine Below.drew ?_) | (with_reducible refine Below.setCell ?_ ?_ _) | (with_reducible apply below_at; (case k => (with_reducible assumption)); (case hB => omega)) | (with_reducible apply below_on; (with_reducible assumption)) | (go_size; done) | (with_reducible apply size_of)))) (Nat.le_refl _)) (hasL_lit (rs := [⟨some ⟨w2.heap.size, 0, none⟩, 1, 1, [97]⟩, r80, ⟨some ⟨w2.heap.size + 1, 0, none⟩, 2, 2, [98, 99]⟩]) 29 (by simp) (three_in ⟨(has_mark (zs := [97]) rfl).below ((Below.refl _ _).alloc (Nat.le_refl _) _) (Nat.le_refl _), rfl, Nat.le_refl 1, (by decide : 1 ≤ 9223372036854775807), (by decide : ∀ z ∈ ([97] : List Int), 0 ≤ z ∧ z ≤ 255)⟩ ⟨has_mark (zs := [98, 99]) (by simp), rfl, Nat.le_refl 2, (by decide : 2 ≤ 9223372036854775807), (by decide : ∀ z ∈ ([98, 99] : List Int), 0 ≤ z ∧ z ≤ 255)⟩)) rfl (by decide)).mono ?_
  rintro e w4 ⟨rfl, hb4⟩
  rw [(pi_abc _ _ _ rfl).1, (pi_abc _ _ _ rfl).2]
  have HB4 : Hid (Below w2.heap.size w2 w4) := Lib.hid (by (repeat' (first | (with_reducible exact Below.refl _ _) | (with_reducible assumption) | (with_reducible refine below_drewN ?_ _) | (with_reducible refine below_new ?_ _) | (with_reducible refine Below.alloc ?_ ?_ _) | (with_reducible refine Below.drew ?_) | (with_reducible refine Below.setCell ?_ ?_ _) | (with_reducible apply below_at; (case k => (with_reducible assumption)); (case hB => omega)) | (with_reducible apply below_on; (with_reducible assumption)) | (go_size; done) | (with_reducible apply size_of))))
  have HR4 := Lib.hid (Lies.past (show Lies w2 w1.heap.size 25 aAbc.toList by unfold Lies; rw [Array.toArray_toList]; exact HR2.out) HB4.out)
  clear hb4 kc
  go_wp2_with (first | (show wpList _ _ _ ({ dst := none, op := Op.store 25 (.tmp 3) _, type := _, pos := _, after := _, guard := none } :: _) _ _; go_must (refine wpList_store_arr (P := Tryd.prog) rfl 25 (.tmp 3) (.tmp 22) rfl (w4).heap.size ?c4 aAbc ?c0 25 _ (z20_new w4 rfl) aAbc_size HONE.out aAbc_info ?_); (case c4 => rfl); (case c0 => rfl); intro w5 hR5 hb5 hz5; have HR5 := Lib.hid hR5; have HB5 : Hid (Below w4.heap.size w4 w5) := Lib.hid (((Below.refl _ _).alloc (Nat.le_refl _) _).trans hb5); clear hR5 hb5 hz5))
  refine (Pad_any 55 _).mono ?_
  rintro e w6 ⟨A6, m6, c6, rfl, hm6, -, hb6⟩
  rw [V5.out.1]
  rw [V5.out.2.2] at hm6
  subst hm6
  have HB6 := Lib.hid hb6
  clear hb6
  go_wp2_with fail
  refine (Pad_any 56 _).mono ?_
  rintro e w7 ⟨A7, m7, c7, rfl, hm7, -, hb7⟩
  rw [V6.out.1]
  rw [V6.out.2] at hm7
  subst hm7
  have HB7 := Lib.hid hb7
  clear hb7
  have HW7 : Hid (Below w.heap.size w w7) := Lib.hid (by have := HB1.out; have := HB2.out; have := HB4.out; have := HB5.out; have := HB6.out; have := HB7.out; (repeat' (first | (with_reducible exact Below.refl _ _) | (with_reducible assumption) | (with_reducible refine below_drewN ?_ _) | (with_reducible refine below_new ?_ _) | (with_reducible refine Below.alloc ?_ ?_ _) | (with_reducible refine Below.drew ?_) | (with_reducible refine Below.setCell ?_ ?_ _) | (with_reducible apply below_at; (case k => (with_reducible assumption)); (case hB => omega)) | (with_reducible apply below_on; (with_reducible assumption)) | (go_size; done) | (with_reducible apply size_of))))
  go_wp2_with fail
  refine (is_yes ⟨#[]⟩ [] 218 57 163 238 9 _ (HTB.out.below HW7.out (Nat.le_refl _)) rfl (by simp) (by rw [dig_no]; rfl) (by rw [dig_no]; rfl) (by rw [dig_no]; rfl) (by rw [dig_no]; rfl) (by rw [dig_no]; rfl)).mono ?_
  rintro e w8 ⟨rfl, hb8⟩
  have HW8 := Lib.hid (HW7.out.trans (hb8.mono HW7.out.size))
  have HB8 := Lib.hid hb8
  clear hb8
  go_wp2_with fail
  refine (is_yes ⟨#[97, 98, 99]⟩ [97, 98, 99] 169 153 62 54 157 _ (HTB.out.below HW8.out (Nat.le_refl _)) rfl (by simp) (by rw [dig_abc]; rfl) (by rw [dig_abc]; rfl) (by rw [dig_abc]; rfl) (by rw [dig_abc]; rfl) (by rw [dig_abc]; rfl)).mono ?_
  rintro e w9 ⟨rfl, hb9⟩
  have HW9 := Lib.hid (HW8.out.trans (hb9.mono HW8.out.size))
  have HB9 := Lib.hid hb9
  have X5 : Lies w5 w4.heap.size 25 aAbc.toList := by unfold Lies; rw [Array.toArray_toList]; exact HR5.out
  have X1 : Lies w5 w1.heap.size 25 aAbc.toList := HR4.out.past HB5.out
  have Y5 := (((X5.past HB6.out).past HB7.out).past HB8.out).past hb9
  have Y1 := (((X1.past HB6.out).past HB7.out).past HB8.out).past hb9
  unfold Lies at Y5 Y1
  rw [Array.toArray_toList] at Y5 Y1
  have HY5 := Lib.hid Y5
  have HY1 := Lib.hid Y1
  have heq := aAbc_eq
  clear Y5 Y1 X5 X1 hb9
  go_wp2_with (first
    | (show wpList _ _ _ ({ dst := _, op := Op.load _ (.tmp 1), type := _, pos := _, after := _, guard := _ } :: _) _ _; go_must (refine wpList_load_row_g (P := Tryd.prog) (by rfl) 25 (.tmp 1) rfl w1.heap.size ?c5 25 aAbc (0, 0) _ HY1.out Tryd.underlying25 rfl aAbc_info ?_); (case c5 => rfl))
    | (show wpList _ _ _ ({ dst := _, op := Op.load _ (.tmp 3), type := _, pos := _, after := _, guard := _ } :: _) _ _; go_must (refine wpList_load_row_g (P := Tryd.prog) (by rfl) 25 (.tmp 3) rfl w4.heap.size ?c5 25 aAbc (0, 0) _ HY5.out Tryd.underlying25 rfl aAbc_info ?_); (case c5 => rfl)))
  go_ret
  exact ⟨rfl, HW9.out⟩
end Go.Proofs.YtmlfajmkgkgegaaDoor.shL
