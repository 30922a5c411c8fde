/- ShaNames, call by call. -/
import Derived.Test.YtmlfajmkgkgegaaDoorShN1
import Derived.StillTailTactics
namespace Go.Proofs.YtmlfajmkgkgegaaDoor.shL
open Go.RowKit Go.Proofs.YtmlfajmkgkgegaaDoor.base Go.Proofs.YtmlfajmkgkgegaaDoor.shP Go.Proofs.YtmlfajmkgkgegaaDoor.shW
set_option linter.unusedVariables false
set_option linter.unusedSimpArgs false
def z5a : Array Value := #[.int .u32 0, .int .u32 0, .int .u32 0, .int .u32 0, .int .u32 0]
theorem z5_new (w : World) {g : Nat} (hg : w.heap.size = g) : Lies (w.alloc (.cells #[.int .u32 0, .int .u32 0, .int .u32 0, .int .u32 0, .int .u32 0] 35)) g 35 [.int .u32 0, .int .u32 0, .int .u32 0, .int .u32 0, .int .u32 0] := Lies.fresh_at (cs := [.int .u32 0, .int .u32 0, .int .u32 0, .int .u32 0, .int .u32 0]) hg
theorem z5_one : ∀ u ∈ z5a.toList, u.oneCell' = true := by
  intro u hu
  simp only [z5a, List.mem_cons, List.not_mem_nil, or_false] at hu
  rcases hu with rfl | rfl | rfl | rfl | rfl <;> rfl
theorem z5_info : (Tryd.prog.info? 35).map (·.size) = some z5a.size := by rw [show z5a.size = 5 from rfl]; kernel_rfl
theorem still_load_row {P : Program} {ops : Array Oper} {rest : List Oper} {o : Oper} {a : Act} {w : World} {Q : Act → Prop} (hw : Region.wanted o (yielded ops a.tmps) = true) (ty : TypeId) (x : Operand) (ho : o.op = .load ty x)
    (g : Nat) (hx : a.eval x = .pointer (some ⟨g, 0, none⟩)) (t : TypeId) (cs : Array Value) (fr : Nat × Nat) (d : TypeDesc) (hg : w.heap[g]? = some (.cells cs t fr))
    (hu : P.underlying ty = some d) (hd : (match d with | .struct _ | .array _ _ => true | _ => false) = true) (hi : (P.info? ty).map (·.size) = some cs.size)
    (h : wpStill P ops w Q rest (a.put o.dst (.agg cs))) : wpStill P ops w Q (o :: rest) a := by
  refine wpStill_step fun K hK => ?_
  rw [if_pos hw]
  unfold Oper.still execOp
  simp only [ho, hx, Instr.loadAt, Instr.sureAddr, Sem.run_bind, Sem.run_pure, Result.andThen_ok, run_loadVar_row w g t ty cs fr d hg hu hd hi]
  exact ⟨rfl, hK _ h⟩
theorem two_in {w : World} {a c : R8} (h1 : InR w a) (h2 : InR w c) : ∀ r ∈ [a, c], InR w r := by
  intro r hr
  simp only [List.mem_cons, List.not_mem_nil, or_false] at hr
  rcases hr with rfl | rfl
  · exact h1
  · exact h2
set_option maxRecDepth 100000 in
set_option maxHeartbeats 8000000 in
theorem names (w : World) (hT : Tab w) : Calls Tryd.prog 3 #[] w fun e w' => e = .returned (.bool true) ∧ Below w.heap.size w w' := by
  have HTB := Lib.hid hT
  clear hT
  obtain ⟨va, hva⟩ := sum_form (List.replicate 20001 (0 : Int))
  have Va : Hid (sumE (List.replicate 20001 (0 : Int)) = 4 ∧ sumV (List.replicate 20001 (0 : Int)) = wbytes va) := Lib.hid ⟨s20001, hva⟩
  have Pa := Lib.hid (done1 va)
  clear hva
  obtain ⟨vb, hvb⟩ := sum_form (List.replicate 20000 (0 : Int))
  have Vb : Hid (sumE (List.replicate 20000 (0 : Int)) = 0 ∧ sumV (List.replicate 20000 (0 : Int)) = wbytes vb) := Lib.hid ⟨s20000, hvb⟩
  have Pb := Lib.hid (done1 vb)
  clear hvb
  obtain ⟨vc, hvc⟩ := pi_form (List.replicate 21 r80)
  have Vc : Hid (piE (List.replicate 21 r80) = 4 ∧ piV (List.replicate 21 r80) = wbytes vc) := Lib.hid ⟨p21, hvc⟩
  have Pc := Lib.hid (done1 vc)
  clear hvc
  obtain ⟨vd, hvd⟩ := dg_form []
  have Vd : Hid (piE (List.replicate 20 r80) = 0 ∧ piV (List.replicate 20 r80) = wbytes vd) := Lib.hid (by rw [← hvd]; exact p20)
  have Vf : Hid (piE [] = 0 ∧ piV [] = wbytes vd) := Lib.hid (by rw [← hvd]; exact p0)
  have Pd := Lib.hid (done1 vd)
  clear hvd
  have VA := Lib.hid pad_a
  have VB := Lib.hid pad_b
  have VC := Lib.hid pad_c
  have VD := Lib.hid pad_d
  have m0 := mz20001
  have m1 := mz20000
  have m2 := mz63
  have m3 := mz65
  have m4 := mr21
  have m5 := mr20
  go_enter Tryd.func3, Tryd.ntmps3
  go_wp2_with fail
  refine (is_yes ⟨#[97, 98, 99, 100, 98, 99, 100, 101, 99, 100, 101, 102, 100, 101, 102, 103, 101, 102, 103, 104, 102, 103, 104, 105, 103, 104, 105, 106, 104, 105, 106, 107, 105, 106, 107, 108, 106, 107, 108, 109, 107, 108, 109, 110, 108, 109, 110, 111, 109, 110, 111, 112, 110, 111, 112, 113]⟩ sTwo 132 152 62 68 241 _ (HTB.out.below (by (repeat' (first | (with_reducible exact Below.refl _ _) | (with_reducible assumption) | (with_reducible refine below_drewN ?_ _) | (with_reducible refine below_new ?_ _) | (with_reducible refine Below.alloc ?_ ?_ _) | (with_reducible refine Below.drew ?_) | (with_reducible refine Below.setCell ?_ ?_ _) | (with_reducible apply below_at; (case k => (with_reducible assumption)); (case hB => omega)) | (with_reducible apply below_on; (with_reducible assumption)) | (go_size; done) | (with_reducible apply size_of)))) (Nat.le_refl _)) bl_two (by simp [sTwo]) dig_two.1 dig_two.2.1 dig_two.2.2.1 dig_two.2.2.2.1 dig_two.2.2.2.2).mono ?_
  rintro e w1 ⟨rfl, hb1⟩
  have HW1 : Hid (Below w.heap.size w w1) := Lib.hid (by (repeat' (first | (with_reducible exact Below.refl _ _) | (with_reducible assumption) | (with_reducible refine below_drewN ?_ _) | (with_reducible refine below_new ?_ _) | (with_reducible refine Below.alloc ?_ ?_ _) | (with_reducible refine Below.drew ?_) | (with_reducible refine Below.setCell ?_ ?_ _) | (with_reducible apply below_at; (case k => (with_reducible assumption)); (case hB => omega)) | (with_reducible apply below_on; (with_reducible assumption)) | (go_size; done) | (with_reducible apply size_of))))
  clear hb1
  go_wp2_with fail
  refine (Sum_any (List.replicate 20001 (0 : Int)) _ 20001 20001 _ (HTB.out.below (by have := HW1.out; (repeat' (first | (with_reducible exact Below.refl _ _) | (with_reducible assumption) | (with_reducible refine below_drewN ?_ _) | (with_reducible refine below_new ?_ _) | (with_reducible refine Below.alloc ?_ ?_ _) | (with_reducible refine Below.drew ?_) | (with_reducible refine Below.setCell ?_ ?_ _) | (with_reducible apply below_at; (case k => (with_reducible assumption)); (case hB => omega)) | (with_reducible apply below_on; (with_reducible assumption)) | (go_size; done) | (with_reducible apply size_of)))) (Nat.le_refl _)) (has_zC _ _ 20001 (by simp [maxLen]) rfl) (List.length_replicate ..) (by omega) (by omega) (fun z hz => by rw [(List.mem_replicate.1 hz).2]; decide)).mono ?_
  rintro e w2 ⟨rfl, hb2⟩
  rw [Va.out.1, Va.out.2]
  have HW2 : Hid (Below w.heap.size w w2) := Lib.hid (by have := HW1.out; (repeat' (first | (with_reducible exact Below.refl _ _) | (with_reducible assumption) | (with_reducible refine below_drewN ?_ _) | (with_reducible refine below_new ?_ _) | (with_reducible refine Below.alloc ?_ ?_ _) | (with_reducible refine Below.drew ?_) | (with_reducible refine Below.setCell ?_ ?_ _) | (with_reducible apply below_at; (case k => (with_reducible assumption)); (case hB => omega)) | (with_reducible apply below_on; (with_reducible assumption)) | (go_size; done) | (with_reducible apply size_of))))
  have HS2 : Hid (Below w1.heap.size w1 w2) := Lib.hid (by (repeat' (first | (with_reducible exact Below.refl _ _) | (with_reducible assumption) | (with_reducible refine below_drewN ?_ _) | (with_reducible refine below_new ?_ _) | (with_reducible refine Below.alloc ?_ ?_ _) | (with_reducible refine Below.drew ?_) | (with_reducible refine Below.setCell ?_ ?_ _) | (with_reducible apply below_at; (case k => (with_reducible assumption)); (case hB => omega)) | (with_reducible apply below_on; (with_reducible assumption)) | (go_size; done) | (with_reducible apply size_of))))
  clear hb2
  go_wp2_with (first | (show wpList _ _ _ ({ dst := none, op := Op.store 25 (.tmp 2) _, type := _, pos := _, after := _, guard := none } :: _) _ _; go_must (refine wpList_store_arr (P := Tryd.prog) rfl 25 (.tmp 2) (.tmp 31) rfl (w2).heap.size ?c4 (darr (wbytes va)) ?c0 25 _ (z20_new w2 rfl) rfl (Pa).out (info20 va) ?_); (case c4 => rfl); (case c0 => rfl); intro x2 hR hb hz; have HX2 : Hid (Below w.heap.size w x2) := Lib.hid ((HW2.out.alloc HW2.out.size _).trans (hb.mono HW2.out.size)); have HY2 : Hid (Below w2.heap.size w2 x2) := Lib.hid (((Below.refl _ _).alloc (Nat.le_refl _) _).trans hb); clear hR hb hz))
  refine (Sum_any (List.replicate 20000 (0 : Int)) _ 20000 20000 _ (HTB.out.below (by have := HX2.out; (repeat' (first | (with_reducible exact Below.refl _ _) | (with_reducible assumption) | (with_reducible refine below_drewN ?_ _) | (with_reducible refine below_new ?_ _) | (with_reducible refine Below.alloc ?_ ?_ _) | (with_reducible refine Below.drew ?_) | (with_reducible refine Below.setCell ?_ ?_ _) | (with_reducible apply below_at; (case k => (with_reducible assumption)); (case hB => omega)) | (with_reducible apply below_on; (with_reducible assumption)) | (go_size; done) | (with_reducible apply size_of)))) (Nat.le_refl _)) (has_zC _ _ 20000 (by simp [maxLen]) rfl) (List.length_replicate ..) (by omega) (by omega) (fun z hz => by rw [(List.mem_replicate.1 hz).2]; decide)).mono ?_
  rintro e w3 ⟨rfl, hb3⟩
  rw [Vb.out.1, Vb.out.2]
  have HW3 : Hid (Below w.heap.size w w3) := Lib.hid (by have := HX2.out; (repeat' (first | (with_reducible exact Below.refl _ _) | (with_reducible assumption) | (with_reducible refine below_drewN ?_ _) | (with_reducible refine below_new ?_ _) | (with_reducible refine Below.alloc ?_ ?_ _) | (with_reducible refine Below.drew ?_) | (with_reducible refine Below.setCell ?_ ?_ _) | (with_reducible apply below_at; (case k => (with_reducible assumption)); (case hB => omega)) | (with_reducible apply below_on; (with_reducible assumption)) | (go_size; done) | (with_reducible apply size_of))))
  have HS3 : Hid (Below x2.heap.size x2 w3) := Lib.hid (by (repeat' (first | (with_reducible exact Below.refl _ _) | (with_reducible assumption) | (with_reducible refine below_drewN ?_ _) | (with_reducible refine below_new ?_ _) | (with_reducible refine Below.alloc ?_ ?_ _) | (with_reducible refine Below.drew ?_) | (with_reducible refine Below.setCell ?_ ?_ _) | (with_reducible apply below_at; (case k => (with_reducible assumption)); (case hB => omega)) | (with_reducible apply below_on; (with_reducible assumption)) | (go_size; done) | (with_reducible apply size_of))))
  clear hb3
  go_wp2_with (first | (show wpList _ _ _ ({ dst := none, op := Op.store 25 (.tmp 4) _, type := _, pos := _, after := _, guard := none } :: _) _ _; go_must (refine wpList_store_arr (P := Tryd.prog) rfl 25 (.tmp 4) (.tmp 36) rfl (w3).heap.size ?c4 (darr (wbytes vb)) ?c0 25 _ (z20_new w3 rfl) rfl (Pb).out (info20 vb) ?_); (case c4 => rfl); (case c0 => rfl); intro x3 hR hb hz; have HX3 : Hid (Below w.heap.size w x3) := Lib.hid ((HW3.out.alloc HW3.out.size _).trans (hb.mono HW3.out.size)); have HY3 : Hid (Below w3.heap.size w3 x3) := Lib.hid (((Below.refl _ _).alloc (Nat.le_refl _) _).trans hb); clear hR hb hz))
  refine (Pieces_any (List.replicate 21 r80) _ 21 21 _ (HTB.out.below (by have := HX3.out; (repeat' (first | (with_reducible exact Below.refl _ _) | (with_reducible assumption) | (with_reducible refine below_drewN ?_ _) | (with_reducible refine below_new ?_ _) | (with_reducible refine Below.alloc ?_ ?_ _) | (with_reducible refine Below.drew ?_) | (with_reducible refine Below.setCell ?_ ?_ _) | (with_reducible apply below_at; (case k => (with_reducible assumption)); (case hB => omega)) | (with_reducible apply below_on; (with_reducible assumption)) | (go_size; done) | (with_reducible apply size_of)))) (Nat.le_refl _)) (hasL_zL _ 21 rfl) (List.length_replicate ..) (by decide)).mono ?_
  rintro e w4 ⟨rfl, hb4⟩
  rw [Vc.out.1, Vc.out.2]
  have HW4 : Hid (Below w.heap.size w w4) := Lib.hid (by have := HX3.out; (repeat' (first | (with_reducible exact Below.refl _ _) | (with_reducible assumption) | (with_reducible refine below_drewN ?_ _) | (with_reducible refine below_new ?_ _) | (with_reducible refine Below.alloc ?_ ?_ _) | (with_reducible refine Below.drew ?_) | (with_reducible refine Below.setCell ?_ ?_ _) | (with_reducible apply below_at; (case k => (with_reducible assumption)); (case hB => omega)) | (with_reducible apply below_on; (with_reducible assumption)) | (go_size; done) | (with_reducible apply size_of))))
  have HS4 : Hid (Below x3.heap.size x3 w4) := Lib.hid (by (repeat' (first | (with_reducible exact Below.refl _ _) | (with_reducible assumption) | (with_reducible refine below_drewN ?_ _) | (with_reducible refine below_new ?_ _) | (with_reducible refine Below.alloc ?_ ?_ _) | (with_reducible refine Below.drew ?_) | (with_reducible refine Below.setCell ?_ ?_ _) | (with_reducible apply below_at; (case k => (with_reducible assumption)); (case hB => omega)) | (with_reducible apply below_on; (with_reducible assumption)) | (go_size; done) | (with_reducible apply size_of))))
  clear hb4
  go_wp2_with (first | (show wpList _ _ _ ({ dst := none, op := Op.store 25 (.tmp 6) _, type := _, pos := _, after := _, guard := none } :: _) _ _; go_must (refine wpList_store_arr (P := Tryd.prog) rfl 25 (.tmp 6) (.tmp 41) rfl (w4).heap.size ?c4 (darr (wbytes vc)) ?c0 25 _ (z20_new w4 rfl) rfl (Pc).out (info20 vc) ?_); (case c4 => rfl); (case c0 => rfl); intro x4 hR hb hz; have HX4 : Hid (Below w.heap.size w x4) := Lib.hid ((HW4.out.alloc HW4.out.size _).trans (hb.mono HW4.out.size)); have HY4 : Hid (Below w4.heap.size w4 x4) := Lib.hid (((Below.refl _ _).alloc (Nat.le_refl _) _).trans hb); clear hR hb hz))
  refine (Pieces_any (List.replicate 20 r80) _ 20 20 _ (HTB.out.below (by have := HX4.out; (repeat' (first | (with_reducible exact Below.refl _ _) | (with_reducible assumption) | (with_reducible refine below_drewN ?_ _) | (with_reducible refine below_new ?_ _) | (with_reducible refine Below.alloc ?_ ?_ _) | (with_reducible refine Below.drew ?_) | (with_reducible refine Below.setCell ?_ ?_ _) | (with_reducible apply below_at; (case k => (with_reducible assumption)); (case hB => omega)) | (with_reducible apply below_on; (with_reducible assumption)) | (go_size; done) | (with_reducible apply size_of)))) (Nat.le_refl _)) (hasL_zL _ 20 rfl) (List.length_replicate ..) (by decide)).mono ?_
  rintro e w5 ⟨rfl, hb5⟩
  rw [Vd.out.1, Vd.out.2]
  have HW5 : Hid (Below w.heap.size w w5) := Lib.hid (by have := HX4.out; (repeat' (first | (with_reducible exact Below.refl _ _) | (with_reducible assumption) | (with_reducible refine below_drewN ?_ _) | (with_reducible refine below_new ?_ _) | (with_reducible refine Below.alloc ?_ ?_ _) | (with_reducible refine Below.drew ?_) | (with_reducible refine Below.setCell ?_ ?_ _) | (with_reducible apply below_at; (case k => (with_reducible assumption)); (case hB => omega)) | (with_reducible apply below_on; (with_reducible assumption)) | (go_size; done) | (with_reducible apply size_of))))
  have HS5 : Hid (Below x4.heap.size x4 w5) := Lib.hid (by (repeat' (first | (with_reducible exact Below.refl _ _) | (with_reducible assumption) | (with_reducible refine below_drewN ?_ _) | (with_reducible refine below_new ?_ _) | (with_reducible refine Below.alloc ?_ ?_ _) | (with_reducible refine Below.drew ?_) | (with_reducible refine Below.setCell ?_ ?_ _) | (with_reducible apply below_at; (case k => (with_reducible assumption)); (case hB => omega)) | (with_reducible apply below_on; (with_reducible assumption)) | (go_size; done) | (with_reducible apply size_of))))
  clear hb5
  go_wp2_with (first | (show wpList _ _ _ ({ dst := none, op := Op.store 25 (.tmp 8) _, type := _, pos := _, after := _, guard := none } :: _) _ _; go_must (refine wpList_store_arr (P := Tryd.prog) rfl 25 (.tmp 8) (.tmp 46) rfl (w5).heap.size ?c4 (darr (wbytes vd)) ?c0 25 _ (z20_new w5 rfl) rfl (Pd).out (info20 vd) ?_); (case c4 => rfl); (case c0 => rfl); intro x5 hR hb hz; have HX5 : Hid (Below w.heap.size w x5) := Lib.hid ((HW5.out.alloc HW5.out.size _).trans (hb.mono HW5.out.size)); have HY5 : Hid (Below w5.heap.size w5 x5) := Lib.hid (((Below.refl _ _).alloc (Nat.le_refl _) _).trans hb); have HR5 := Lib.hid hR; clear hR hb hz))
  obtain ⟨ve, hve⟩ := pi_form [⟨some ⟨x5.heap.size, 0, none⟩, 20000, 20000, (List.replicate 20000 (0 : Int))⟩, ⟨some ⟨x5.heap.size + 1, 0, none⟩, 1, 1, [1]⟩]
  have Ve : Hid (piE [⟨some ⟨x5.heap.size, 0, none⟩, 20000, 20000, (List.replicate 20000 (0 : Int))⟩, ⟨some ⟨x5.heap.size + 1, 0, none⟩, 1, 1, [1]⟩] = 4 ∧ piV [⟨some ⟨x5.heap.size, 0, none⟩, 20000, 20000, (List.replicate 20000 (0 : Int))⟩, ⟨some ⟨x5.heap.size + 1, 0, none⟩, 1, 1, [1]⟩] = wbytes ve) := Lib.hid ⟨p2 _ _ _ rfl, hve⟩
  have Pe := Lib.hid (done1 ve)
  clear hve
  refine (Pieces_any [⟨some ⟨x5.heap.size, 0, none⟩, 20000, 20000, (List.replicate 20000 (0 : Int))⟩, ⟨some ⟨x5.heap.size + 1, 0, none⟩, 1, 1, [1]⟩] _ 2 2 _ (HTB.out.below (by have := HX5.out; (repeat' (first | (with_reducible exact Below.refl _ _) | (with_reducible assumption) | (with_reducible refine below_drewN ?_ _) | (with_reducible refine below_new ?_ _) | (with_reducible refine Below.alloc ?_ ?_ _) | (with_reducible refine Below.drew ?_) | (with_reducible refine Below.setCell ?_ ?_ _) | (with_reducible apply below_at; (case k => (with_reducible assumption)); (case hB => omega)) | (with_reducible apply below_on; (with_reducible assumption)) | (go_size; done) | (with_reducible apply size_of)))) (Nat.le_refl _)) (hasL_lit (rs := [⟨some ⟨x5.heap.size, 0, none⟩, 20000, 20000, (List.replicate 20000 (0 : Int))⟩, ⟨some ⟨x5.heap.size + 1, 0, none⟩, 1, 1, [1]⟩]) 29 (by simp) (two_in ⟨(has_zC x5 _ 20000 (by simp [maxLen]) rfl).below ((Below.refl _ _).alloc (Nat.le_refl _) _) (Nat.le_refl _), List.length_replicate .., Nat.le_refl 20000, (by decide : 20000 ≤ 9223372036854775807), (fun z hz => by rw [(List.mem_replicate.1 hz).2]; decide)⟩ ⟨has_lit (zs := [1]) (by simp) (by simp [maxLen]), rfl, Nat.le_refl 1, (by decide : 1 ≤ 9223372036854775807), (by decide : ∀ z ∈ ([1] : List Int), 0 ≤ z ∧ z ≤ 255)⟩)) rfl (by decide)).mono ?_
  rintro e w6 ⟨rfl, hb6⟩
  rw [Ve.out.1, Ve.out.2]
  have HW6 : Hid (Below w.heap.size w w6) := Lib.hid (by have := HX5.out; (repeat' (first | (with_reducible exact Below.refl _ _) | (with_reducible assumption) | (with_reducible refine below_drewN ?_ _) | (with_reducible refine below_new ?_ _) | (with_reducible refine Below.alloc ?_ ?_ _) | (with_reducible refine Below.drew ?_) | (with_reducible refine Below.setCell ?_ ?_ _) | (with_reducible apply below_at; (case k => (with_reducible assumption)); (case hB => omega)) | (with_reducible apply below_on; (with_reducible assumption)) | (go_size; done) | (with_reducible apply size_of))))
  have HS6 : Hid (Below x5.heap.size x5 w6) := Lib.hid (by (repeat' (first | (with_reducible exact Below.refl _ _) | (with_reducible assumption) | (with_reducible refine below_drewN ?_ _) | (with_reducible refine below_new ?_ _) | (with_reducible refine Below.alloc ?_ ?_ _) | (with_reducible refine Below.drew ?_) | (with_reducible refine Below.setCell ?_ ?_ _) | (with_reducible apply below_at; (case k => (with_reducible assumption)); (case hB => omega)) | (with_reducible apply below_on; (with_reducible assumption)) | (go_size; done) | (with_reducible apply size_of))))
  clear hb6
  go_wp2_with (first | (show wpList _ _ _ ({ dst := none, op := Op.store 25 (.tmp 10) _, type := _, pos := _, after := _, guard := none } :: _) _ _; go_must (refine wpList_store_arr (P := Tryd.prog) rfl 25 (.tmp 10) (.tmp 53) rfl (w6).heap.size ?c4 (darr (wbytes ve)) ?c0 25 _ (z20_new w6 rfl) rfl (Pe).out (info20 ve) ?_); (case c4 => rfl); (case c0 => rfl); intro x6 hR hb hz; have HX6 : Hid (Below w.heap.size w x6) := Lib.hid ((HW6.out.alloc HW6.out.size _).trans (hb.mono HW6.out.size)); have HY6 : Hid (Below w6.heap.size w6 x6) := Lib.hid (((Below.refl _ _).alloc (Nat.le_refl _) _).trans hb); clear hR hb hz))
  refine (Pieces_any [] none 0 0 _ (HTB.out.below (by have := HX6.out; (repeat' (first | (with_reducible exact Below.refl _ _) | (with_reducible assumption) | (with_reducible refine below_drewN ?_ _) | (with_reducible refine below_new ?_ _) | (with_reducible refine Below.alloc ?_ ?_ _) | (with_reducible refine Below.drew ?_) | (with_reducible refine Below.setCell ?_ ?_ _) | (with_reducible apply below_at; (case k => (with_reducible assumption)); (case hB => omega)) | (with_reducible apply below_on; (with_reducible assumption)) | (go_size; done) | (with_reducible apply size_of)))) (Nat.le_refl _)) ⟨.inl rfl, by simp⟩ rfl (by decide)).mono ?_
  rintro e w7 ⟨rfl, hb7⟩
  rw [Vf.out.1, Vf.out.2]
  have HW7 : Hid (Below w.heap.size w w7) := Lib.hid (by have := HX6.out; (repeat' (first | (with_reducible exact Below.refl _ _) | (with_reducible assumption) | (with_reducible refine below_drewN ?_ _) | (with_reducible refine below_new ?_ _) | (with_reducible refine Below.alloc ?_ ?_ _) | (with_reducible refine Below.drew ?_) | (with_reducible refine Below.setCell ?_ ?_ _) | (with_reducible apply below_at; (case k => (with_reducible assumption)); (case hB => omega)) | (with_reducible apply below_on; (with_reducible assumption)) | (go_size; done) | (with_reducible apply size_of))))
  have HS7 : Hid (Below x6.heap.size x6 w7) := Lib.hid (by (repeat' (first | (with_reducible exact Below.refl _ _) | (with_reducible assumption) | (with_reducible refine below_drewN ?_ _) | (with_reducible refine below_new ?_ _) | (with_reducible refine Below.alloc ?_ ?_ _) | (with_reducible refine Below.drew ?_) | (with_reducible refine Below.setCell ?_ ?_ _) | (with_reducible apply below_at; (case k => (with_reducible assumption)); (case hB => omega)) | (with_reducible apply below_on; (with_reducible assumption)) | (go_size; done) | (with_reducible apply size_of))))
  clear hb7
  go_wp2_with (first | (show wpList _ _ _ ({ dst := none, op := Op.store 25 (.tmp 12) _, type := _, pos := _, after := _, guard := none } :: _) _ _; go_must (refine wpList_store_arr (P := Tryd.prog) rfl 25 (.tmp 12) (.tmp 57) rfl (w7).heap.size ?c4 (darr (wbytes vd)) ?c0 25 _ (z20_new w7 rfl) rfl (Pd).out (info20 vd) ?_); (case c4 => rfl); (case c0 => rfl); intro x7 hR hb hz; have HX7 : Hid (Below w.heap.size w x7) := Lib.hid ((HW7.out.alloc HW7.out.size _).trans (hb.mono HW7.out.size)); have HY7 : Hid (Below w7.heap.size w7 x7) := Lib.hid (((Below.refl _ _).alloc (Nat.le_refl _) _).trans hb); have HR7 := Lib.hid hR; clear hR hb hz))
  refine (Pad_any (-1) _).mono ?_
  rintro e w8 ⟨A8, m8, c8, rfl, hm8, own8, hb8⟩
  rw [VA.out.1]
  clear hm8 own8
  have HW8 : Hid (Below w.heap.size w w8) := Lib.hid (by have := HX7.out; (repeat' (first | (with_reducible exact Below.refl _ _) | (with_reducible assumption) | (with_reducible refine below_drewN ?_ _) | (with_reducible refine below_new ?_ _) | (with_reducible refine Below.alloc ?_ ?_ _) | (with_reducible refine Below.drew ?_) | (with_reducible refine Below.setCell ?_ ?_ _) | (with_reducible apply below_at; (case k => (with_reducible assumption)); (case hB => omega)) | (with_reducible apply below_on; (with_reducible assumption)) | (go_size; done) | (with_reducible apply size_of))))
  have HS8 : Hid (Below x7.heap.size x7 w8) := Lib.hid (by (repeat' (first | (with_reducible exact Below.refl _ _) | (with_reducible assumption) | (with_reducible refine below_drewN ?_ _) | (with_reducible refine below_new ?_ _) | (with_reducible refine Below.alloc ?_ ?_ _) | (with_reducible refine Below.drew ?_) | (with_reducible refine Below.setCell ?_ ?_ _) | (with_reducible apply below_at; (case k => (with_reducible assumption)); (case hB => omega)) | (with_reducible apply below_on; (with_reducible assumption)) | (go_size; done) | (with_reducible apply size_of))))
  clear hb8
  go_wp2_with fail
  refine (Pad_any 20001 _).mono ?_
  rintro e w9 ⟨A9, m9, c9, rfl, hm9, own9, hb9⟩
  rw [VB.out.1]
  clear hm9 own9
  have HW9 : Hid (Below w.heap.size w w9) := Lib.hid (by have := HW8.out; (repeat' (first | (with_reducible exact Below.refl _ _) | (with_reducible assumption) | (with_reducible refine below_drewN ?_ _) | (with_reducible refine below_new ?_ _) | (with_reducible refine Below.alloc ?_ ?_ _) | (with_reducible refine Below.drew ?_) | (with_reducible refine Below.setCell ?_ ?_ _) | (with_reducible apply below_at; (case k => (with_reducible assumption)); (case hB => omega)) | (with_reducible apply below_on; (with_reducible assumption)) | (go_size; done) | (with_reducible apply size_of))))
  have HS9 : Hid (Below w8.heap.size w8 w9) := Lib.hid (by (repeat' (first | (with_reducible exact Below.refl _ _) | (with_reducible assumption) | (with_reducible refine below_drewN ?_ _) | (with_reducible refine below_new ?_ _) | (with_reducible refine Below.alloc ?_ ?_ _) | (with_reducible refine Below.drew ?_) | (with_reducible refine Below.setCell ?_ ?_ _) | (with_reducible apply below_at; (case k => (with_reducible assumption)); (case hB => omega)) | (with_reducible apply below_on; (with_reducible assumption)) | (go_size; done) | (with_reducible apply size_of))))
  clear hb9
  go_wp2_with fail
  refine (Pad_any 20000 _).mono ?_
  rintro e w10 ⟨A10, m10, c10, rfl, hm10, own10, hb10⟩
  rw [VC.out.1]
  rw [VC.out.2.1] at hm10
  subst hm10
  have HO10 := Lib.hid own10.has
  clear own10
  have HW10 : Hid (Below w.heap.size w w10) := Lib.hid (by have := HW9.out; (repeat' (first | (with_reducible exact Below.refl _ _) | (with_reducible assumption) | (with_reducible refine below_drewN ?_ _) | (with_reducible refine below_new ?_ _) | (with_reducible refine Below.alloc ?_ ?_ _) | (with_reducible refine Below.drew ?_) | (with_reducible refine Below.setCell ?_ ?_ _) | (with_reducible apply below_at; (case k => (with_reducible assumption)); (case hB => omega)) | (with_reducible apply below_on; (with_reducible assumption)) | (go_size; done) | (with_reducible apply size_of))))
  have HS10 : Hid (Below w9.heap.size w9 w10) := Lib.hid (by (repeat' (first | (with_reducible exact Below.refl _ _) | (with_reducible assumption) | (with_reducible refine below_drewN ?_ _) | (with_reducible refine below_new ?_ _) | (with_reducible refine Below.alloc ?_ ?_ _) | (with_reducible refine Below.drew ?_) | (with_reducible refine Below.setCell ?_ ?_ _) | (with_reducible apply below_at; (case k => (with_reducible assumption)); (case hB => omega)) | (with_reducible apply below_on; (with_reducible assumption)) | (go_size; done) | (with_reducible apply size_of))))
  clear hb10
  go_wp2_with fail
  refine (Pad_any 0 _).mono ?_
  rintro e w11 ⟨A11, m11, c11, rfl, hm11, own11, hb11⟩
  rw [VD.out.1]
  rw [VD.out.2.1] at hm11
  subst hm11
  have HO11 := Lib.hid own11.has
  clear own11
  have HW11 : Hid (Below w.heap.size w w11) := Lib.hid (by have := HW10.out; (repeat' (first | (with_reducible exact Below.refl _ _) | (with_reducible assumption) | (with_reducible refine below_drewN ?_ _) | (with_reducible refine below_new ?_ _) | (with_reducible refine Below.alloc ?_ ?_ _) | (with_reducible refine Below.drew ?_) | (with_reducible refine Below.setCell ?_ ?_ _) | (with_reducible apply below_at; (case k => (with_reducible assumption)); (case hB => omega)) | (with_reducible apply below_on; (with_reducible assumption)) | (go_size; done) | (with_reducible apply size_of))))
  have HS11 : Hid (Below w10.heap.size w10 w11) := Lib.hid (by (repeat' (first | (with_reducible exact Below.refl _ _) | (with_reducible assumption) | (with_reducible refine below_drewN ?_ _) | (with_reducible refine below_new ?_ _) | (with_reducible refine Below.alloc ?_ ?_ _) | (with_reducible refine Below.drew ?_) | (with_reducible refine Below.setCell ?_ ?_ _) | (with_reducible apply below_at; (case k => (with_reducible assumption)); (case hB => omega)) | (with_reducible apply below_on; (with_reducible assumption)) | (go_size; done) | (with_reducible apply size_of))))
  clear hb11
  go_wp2_with fail
  refine (Block_any ⟨0, 0, 0, 0, 0⟩ (List.replicate 63 (0 : Int)) _ 63 63 _ (has_zC _ _ 63 (by simp [maxLen]) rfl) (List.length_replicate ..) (by omega) (by omega) (fun z hz => by rw [(List.mem_replicate.1 hz).2]; decide) (by unfold In5; decide)).mono ?_
  rintro e w12 ⟨rfl, hb12⟩
  rw [(bl63 (List.replicate 63 (0 : Int)) (by rw [List.length_replicate]; omega) ⟨0, 0, 0, 0, 0⟩).1, (bl63 (List.replicate 63 (0 : Int)) (by rw [List.length_replicate]; omega) ⟨0, 0, 0, 0, 0⟩).2]
  dsimp only
  have HW12 : Hid (Below w.heap.size w w12) := Lib.hid (by have := HW11.out; (repeat' (first | (with_reducible exact Below.refl _ _) | (with_reducible assumption) | (with_reducible refine below_drewN ?_ _) | (with_reducible refine below_new ?_ _) | (with_reducible refine Below.alloc ?_ ?_ _) | (with_reducible refine Below.drew ?_) | (with_reducible refine Below.setCell ?_ ?_ _) | (with_reducible apply below_at; (case k => (with_reducible assumption)); (case hB => omega)) | (with_reducible apply below_on; (with_reducible assumption)) | (go_size; done) | (with_reducible apply size_of))))
  have HS12 : Hid (Below w11.heap.size w11 w12) := Lib.hid (by (repeat' (first | (with_reducible exact Below.refl _ _) | (with_reducible assumption) | (with_reducible refine below_drewN ?_ _) | (with_reducible refine below_new ?_ _) | (with_reducible refine Below.alloc ?_ ?_ _) | (with_reducible refine Below.drew ?_) | (with_reducible refine Below.setCell ?_ ?_ _) | (with_reducible apply below_at; (case k => (with_reducible assumption)); (case hB => omega)) | (with_reducible apply below_on; (with_reducible assumption)) | (go_size; done) | (with_reducible apply size_of))))
  clear hb12
  go_wp2_with (first | (show wpList _ _ _ ({ dst := none, op := Op.store 35 (.tmp 22) _, type := _, pos := _, after := _, guard := none } :: _) _ _; go_must (refine wpList_store_arr (P := Tryd.prog) rfl 35 (.tmp 22) (.tmp 79) rfl (w12).heap.size ?c4 z5a ?c0 35 _ (z5_new w12 rfl) rfl z5_one z5_info ?_); (case c4 => rfl); (case c0 => rfl); intro x12 hR hb hz; have HX12 : Hid (Below w.heap.size w x12) := Lib.hid ((HW12.out.alloc HW12.out.size _).trans (hb.mono HW12.out.size)); have HY12 : Hid (Below w12.heap.size w12 x12) := Lib.hid (((Below.refl _ _).alloc (Nat.le_refl _) _).trans hb); clear hR hb hz))
  refine (Block_any ⟨0, 0, 0, 0, 0⟩ (List.replicate 65 (0 : Int)) _ 65 65 _ (has_zC _ _ 65 (by simp [maxLen]) rfl) (List.length_replicate ..) (by omega) (by omega) (fun z hz => by rw [(List.mem_replicate.1 hz).2]; decide) (by unfold In5; decide)).mono ?_
  rintro e w13 ⟨rfl, hb13⟩
  rw [(bl63 (List.replicate 65 (0 : Int)) (by rw [List.length_replicate]; omega) ⟨0, 0, 0, 0, 0⟩).1, (bl63 (List.replicate 65 (0 : Int)) (by rw [List.length_replicate]; omega) ⟨0, 0, 0, 0, 0⟩).2]
  dsimp only
  have HW13 : Hid (Below w.heap.size w w13) := Lib.hid (by have := HX12.out; (repeat' (first | (with_reducible exact Below.refl _ _) | (with_reducible assumption) | (with_reducible refine below_drewN ?_ _) | (with_reducible refine below_new ?_ _) | (with_reducible refine Below.alloc ?_ ?_ _) | (with_reducible refine Below.drew ?_) | (with_reducible refine Below.setCell ?_ ?_ _) | (with_reducible apply below_at; (case k => (with_reducible assumption)); (case hB => omega)) | (with_reducible apply below_on; (with_reducible assumption)) | (go_size; done) | (with_reducible apply size_of))))
  have HS13 : Hid (Below x12.heap.size x12 w13) := Lib.hid (by (repeat' (first | (with_reducible exact Below.refl _ _) | (with_reducible assumption) | (with_reducible refine below_drewN ?_ _) | (with_reducible refine below_new ?_ _) | (with_reducible refine Below.alloc ?_ ?_ _) | (with_reducible refine Below.drew ?_) | (with_reducible refine Below.setCell ?_ ?_ _) | (with_reducible apply below_at; (case k => (with_reducible assumption)); (case hB => omega)) | (with_reducible apply below_on; (with_reducible assumption)) | (go_size; done) | (with_reducible apply size_of))))
  clear hb13
  go_upto_region 14 with (first | (show wpList _ _ _ ({ dst := none, op := Op.store 35 (.tmp 24) _, type := _, pos := _, after := _, guard := none } :: _) _ _; go_must (refine wpList_store_arr (P := Tryd.prog) rfl 35 (.tmp 24) (.tmp 85) rfl (w13).heap.size ?c4 z5a ?c0 35 _ (z5_new w13 rfl) rfl z5_one z5_info ?_); (case c4 => rfl); (case c0 => rfl); intro x13 hR hb hz; have HX13 : Hid (Below w.heap.size w x13) := Lib.hid ((HW13.out.alloc HW13.out.size _).trans (hb.mono HW13.out.size)); have HY13 : Hid (Below w13.heap.size w13 x13) := Lib.hid (((Below.refl _ _).alloc (Nat.le_refl _) _).trans hb); clear hR hb hz))
  have B11 := HS12.out.trans (HY12.out.mono HS12.out.size)
  have B11b := B11.trans (HS13.out.mono B11.size)
  have B11c := B11b.trans (HY13.out.mono B11b.size)
  have B10 := HS11.out.trans (B11c.mono HS11.out.size)
  have X7 : Lies x7 w7.heap.size 25 (darr (wbytes vd)).toList := by unfold Lies; rw [Array.toArray_toList]; exact HR7.out
  have X5 : Lies x5 w5.heap.size 25 (darr (wbytes vd)).toList := by unfold Lies; rw [Array.toArray_toList]; exact HR5.out
  have Y7 := (((X7.past HS8.out).past HS9.out).past HS10.out).past B10
  have Y5 := (((((((X5.past HS6.out).past HY6.out).past HS7.out).past HY7.out).past HS8.out).past HS9.out).past HS10.out).past B10
  unfold Lies at Y5 Y7
  rw [Array.toArray_toList] at Y5 Y7
  have HZ5 := Lib.hid Y5
  have HZ7 := Lib.hid Y7
  obtain ⟨b1, f1, rfl, hb1, hc1⟩ := has_some (HO10.out.below B10 (Nat.le_refl _)) (by rw [VC.out.2.1]; omega)
  obtain ⟨b2, f2, rfl, hb2, hc2⟩ := has_some (HO11.out.below B11c (Nat.le_refl _)) (by rw [VD.out.2.1]; omega)
  have p0 := hc1 0 (by rw [VC.out.2.1]; omega)
  rw [VC.out.2.2.1, Nat.add_zero] at p0
  have p29 := hc1 29 (by rw [VC.out.2.1]; omega)
  rw [VC.out.2.2.2.1] at p29
  have p30 := hc1 30 (by rw [VC.out.2.1]; omega)
  rw [VC.out.2.2.2.2.1] at p30
  have p31 := hc1 31 (by rw [VC.out.2.1]; omega)
  rw [VC.out.2.2.2.2.2] at p31
  have q0 := hc2 0 (by rw [VD.out.2.1]; omega)
  rw [VD.out.2.2.1, Nat.add_zero] at q0
  have q63 := hc2 63 (by rw [VD.out.2.1]; omega)
  rw [VD.out.2.2.2] at q63
  clear hc1 hc2 B11 B11b B11c B10 X5 X7 Y5 Y7
  have heq := arr_same vd
  go_upto_region 16 with fail
  refine wp_region_lit ?_
  iterate 28 (refine wpList_step fun K hK => ?_; go_simp; refine hK _ _ ?_; clear hK K)
  refine wpList_load_row_g (P := Tryd.prog) ?hw1 25 (.tmp 8) rfl w5.heap.size rfl 25 (darr (wbytes vd)) (0, 0) _ HZ5.out Tryd.underlying25 rfl (info20 vd) ?_
  case hw1 => first | rfl | kernel_rfl
  refine wpList_load_row_g (P := Tryd.prog) ?hw2 25 (.tmp 12) rfl w7.heap.size rfl 25 (darr (wbytes vd)) (0, 0) _ HZ7.out Tryd.underlying25 rfl (info20 vd) ?_
  case hw2 => first | rfl | kernel_rfl
  go_wp2_with fail
  refine (alive _ (HTB.out.below HX13.out (Nat.le_refl _))).mono ?_
  rintro e w14 ⟨rfl, hb14⟩
  go_wp2_with fail
  go_ret
  exact ⟨rfl, HX13.out.trans (hb14.mono HX13.out.size)⟩
end Go.Proofs.YtmlfajmkgkgegaaDoor.shL
