/- ShaPieces, by a walk. -/
import Derived.Test.YtmlfajmkgkgegaaDoorShL3
namespace Go.Proofs.YtmlfajmkgkgegaaDoor.shL
open Go.RowKit Go.Proofs.YtmlfajmkgkgegaaDoor.base Go.Proofs.YtmlfajmkgkgegaaDoor.shP Go.Proofs.YtmlfajmkgkgegaaDoor.shW
set_option linter.unusedVariables false
set_option linter.unusedSimpArgs false
theorem step_store_arr {P : Program} {ops : Array Oper} {o : Oper} {a : Act} {w : World} {K : Act → World → Prop} {Q : Exit → Act → World → Prop} {E : Prop} (hgd : o.guard = none) (ty : TypeId) (p x : Operand) (ho : o.op = .store ty p x)
    (g : Nat) (hp : a.eval p = .pointer (some ⟨g, 0, none⟩)) (cs : Array Value) (hx : a.eval x = .agg cs) (t : TypeId) (old : Array Value) (hg : w.heap[g]? = some (.cells old t (0, 0))) (hs : old.size = cs.size) (h1 : ∀ v ∈ cs.toList, v.oneCell' = true)
    (hi : (P.info? ty).map (·.size) = some cs.size)
    (h : ∀ w', w'.heap[g]? = some (.cells cs t (0, 0)) → Below g w w' → w'.heap.size = w.heap.size → K (a.put o.dst undef) w') :
    if Region.wanted o (yielded ops a.tmps) = true then Oper.wp P o a w K Q else E := by
  have hw : Region.wanted o (yielded ops a.tmps) = true := by simp [Region.wanted, hgd]
  rw [if_pos hw]
  have hr := Go.Proofs.YtmlfajmkgkgegaaDoor.base.run_storeVar_row (P := P) w g t ty old cs hg hs h1 hi
  have hh := heap_setCells_row g t cs.toList 0 w old hg
  rw [setMany_all old cs hs] at hh
  have := h _ hh (below_cells g (Nat.le_refl _) cs.toList 0 (Below.refl _ _)) (size_cells g _ _ _)
  unfold Oper.wp execOp
  simp only [ho, hp, hx, Instr.storeAt, Instr.sureAddr, Sem.run_bind, Sem.run_pure, Result.andThen_ok, hr]
  exact this
theorem there_of {w : World} {g : Nat} {t : TypeId} {cs : List Value} {n : Nat} (h : Lies w g t cs) (hn : n ≤ cs.length) : w.there g 0 n := by
  intro j hj
  rw [Nat.zero_add]
  refine ⟨?_, h.free j⟩
  rw [h.cell, List.getElem?_eq_getElem (by omega)]
  rfl
theorem hasL_dr {w : World} {P : Option Addr} {rs : List R8} (h : HasL w P rs) : HasL w.drew P rs := h.below ((Below.refl _ _).drew) (Nat.le_refl _)
theorem hasL_al {w : World} {P : Option Addr} {rs : List R8} (h : HasL w P rs) (o : Obj) : HasL (w.alloc o) P rs := h.below ((Below.refl _ _).alloc (Nat.le_refl _) _) (Nat.le_refl _)
theorem whole_len_le {w : World} {P : Option Addr} {rs : List R8} (h : HasL w P rs) (hl : longB rs = false) : (wholeL rs).length ≤ 2000000 := by
  obtain ⟨h1, h2⟩ := longB_no hl
  have key : ∀ l : List R8, (∀ r ∈ l, r.b.length ≤ 40000) → ((l.map R8.b).flatten).length ≤ 40000 * l.length := by
    intro l
    induction l with
    | nil => intro _; simp
    | cons a l ih =>
      intro hh
      have := ih fun r hr => hh r (by simp [hr])
      have := hh a (by simp)
      simp only [List.map_cons, List.flatten_cons, List.length_append, List.length_cons]
      omega
  have := key rs fun r hr => by
    have := (h.all r hr).e
    have := h2 r hr
    omega
  unfold wholeL
  omega
theorem fin20 {w w6 W : World} {g q : Nat} {zs : List Value} (v : W5) (hz : Lies W g 25 zs) (hs : zs.length = 20) (hX : w6.heap[q]? = some (.cells (darr (wbytes v)) 25 (0, 0))) (hq : q < w6.heap.size) (h6 : Below w.heap.size w w6) (h6W : Below w6.heap.size w6 W) (hg : w6.heap.size ≤ g) :
    (W.setCells g 0 (List.map (Value.int .u8) (wbytes v))).heap[g]? = some (.cells (darr (wbytes v)) 25 (0, 0)) ∧ (W.setCells g 0 (List.map (Value.int .u8) (wbytes v))).heap[q]? = some (.cells (darr (wbytes v)) 25 (0, 0)) ∧ Below w.heap.size w (W.setCells g 0 (List.map (Value.int .u8) (wbytes v))) := by
  have hd : List.map (Value.int .u8) (wbytes v) = (darr (wbytes v)).toList := by simp [darr]
  rw [hd]
  have hb : Below w6.heap.size w6 (W.setCells g 0 (darr (wbytes v)).toList) := below_cells g hg _ 0 h6W
  refine ⟨?_, ?_, h6.trans (hb.mono h6.size)⟩
  · have h1 := heap_setCells_row g 25 (darr (wbytes v)).toList 0 W _ hz
    rw [setMany_all _ _ (by rw [dsize]; simpa using hs)] at h1
    exact h1
  · have X : Lies w6 q 25 (darr (wbytes v)).toList := by unfold Lies; rw [Array.toArray_toList]; exact hX
    have X := X.below hb hq
    unfold Lies at X
    rw [Array.toArray_toList] at X
    exact X
set_option maxRecDepth 100000 in
set_option maxHeartbeats 4000000 in
theorem pieces (P : Option Addr) (m d : Nat) (rs : List R8) (i : Int) (w : World) (hR : RowsB w P m d rs) (l1 : -9223372036854775808 ≤ i) (l2 : i ≤ 9223372036854775807) (hT : Tab w) :
    Calls Tryd.prog 5 #[.slice P m d, .int .i64 i] w fun e w' => e = .returned (.bool true) ∧ Below w.heap.size w w' := by
  have HTB := Lib.hid hT
  have HR := Lib.hid hR
  have HM : Hid (m ≤ 9223372036854775807) := Lib.hid (by have := hR.c1; have := hR.c2; omega)
  have m9 : (m : Int) ≤ 9223372036854775807 := by have := HM.out; omega
  clear hR hT
  cases hg : longB rs
  · have HWL := Lib.hid (whole_len_le HR.out.h hg)
    have HG := Lib.hid hg
    clear hg
    by_cases c20 : (m : Int) ≤ 20
    · have c20' : ¬ (20 : Int) < m := by omega
      go_enter Tryd.func5, Tryd.ntmps5
      go_wp2_with fail
      refine (rLong rs P m d _ HR.out.h HR.out.l HM.out).mono ?_
      rintro e w' ⟨rfl, rfl⟩
      rw [HG.out]
      go_wp2_with fail
      refine (rWhole rs P m d _ HR.out.h HR.out.l HM.out HWL.out).mono ?_
      rintro e w1 ⟨A1, n, c1, rfl, hn, -, hb1⟩
      have HN := Lib.hid hn
      have HB1 := Lib.hid hb1
      have n9 : (n : Int) ≤ 2000000 := by have := HWL.out; omega
      clear hn hb1
      by_cases c14 : (n : Int) ≤ 14000
      · have c14' : ¬ (14000 : Int) < n := by omega
        have HV := Lib.hid (pi_yes (rs := rs) (by rw [HR.out.l]; omega) (by rw [← HN.out]; omega))
        have HS : Hid (sumE (wholeL rs) = 0 ∧ sumV (wholeL rs) = digest (wholeL rs)) := Lib.hid ⟨by rw [sumE, if_pos (by rw [← HN.out]; omega)], by rw [sumV, if_pos (by rw [← HN.out]; omega)]⟩
        have HBD : Hid (∀ z ∈ wholeL rs, 0 ≤ z ∧ z ≤ 255) := Lib.hid (by rw [← wholeK_all rs rs.length (Nat.le_refl _)]; exact whole_bd HR.out.h _)
        obtain ⟨v, hv⟩ := dg_form (wholeL rs)
        rw [hv] at HV HS
        have HVV := Lib.hid hv
        have HP := Lib.hid (done1 v)
        clear hv
        go_wp2_with fail
        refine (rWhole rs P m d _ (HR.out.h.below HB1.out (Nat.le_refl _)) HR.out.l HM.out HWL.out).mono ?_
        rintro e w2 ⟨A, n2, c, rfl, hn2, own2, hb2⟩
        obtain rfl : n = n2 := HN.out.trans hn2.symm
        have HO2 := Lib.hid own2
        have HB2 : Hid (Below w.heap.size w w2) := Lib.hid (HB1.out.trans (hb2.mono HB1.out.size))
        clear hn2 own2 hb2
        go_wp2_with fail
        refine (Pieces_any rs P m d _ (HTB.out.below HB2.out (Nat.le_refl _)) (HR.out.h.below HB2.out (Nat.le_refl _)) HR.out.l HM.out).mono ?_
        rintro e w3 ⟨rfl, hb3⟩
        rw [HV.out.1, HV.out.2]
        have HO3 := Lib.hid (HO2.out.past hb3)
        have HB3 : Hid (Below w.heap.size w w3) := Lib.hid (HB2.out.trans (hb3.mono HB2.out.size))
        clear hb3
        go_wp2_with (show wpList _ _ _ ({ dst := none, op := Op.store 25 (.tmp 6) _, type := _, pos := _, after := _, guard := none } :: _) _ _; go_must (refine wpList_store_arr (P := Tryd.prog) rfl 25 (.tmp 6) (.tmp 31) rfl (w3).heap.size ?c4 (darr (wbytes v)) ?c0 25 _ (z20_new w3 rfl) rfl HP.out (info20 v) ?_); (case c4 => rfl); (case c0 => rfl); intro w4 hR4 hb4 hz4; have HR4 := Lib.hid hR4; have hb34 : Below w3.heap.size w3 w4 := ((Below.refl _ _).alloc (Nat.le_refl _) _).trans hb4; have HO4 := Lib.hid (HO3.out.past hb34); have HB34 := Lib.hid hb34; have HB4 : Hid (Below w.heap.size w w4) := Lib.hid ((HB3.out.alloc HB3.out.size _).trans (hb4.mono HB3.out.size)); clear hR4 hb4 hz4 hb34)
        refine (Sum_any (wholeL rs) A n c _ (HTB.out.below HB4.out (Nat.le_refl _)) HO4.out.has HN.out.symm HO4.out.bounds.2.1 (by omega) HBD.out).mono ?_
        rintro e w5 ⟨rfl, hb5⟩
        rw [HS.out.1, HS.out.2]
        have HO5 := Lib.hid (HO4.out.past hb5)
        have X5 := Lies.past (show Lies w4 w3.heap.size 25 (darr (wbytes v)).toList by unfold Lies; rw [Array.toArray_toList]; exact HR4.out) hb5
        have HX5 := Lib.hid X5
        have HB5 : Hid (Below w.heap.size w w5) := Lib.hid (HB4.out.trans (hb5.mono HB4.out.size))
        clear hb5 X5
        have heq := arr_same v
        by_cases ci : 0 ≤ i
        · by_cases ci2 : i ≤ n
          · obtain ⟨q, rfl⟩ := Int.eq_ofNat_of_zero_le ci
            have cq : ¬ (n : Int) < q := by omega
            have HQ : Hid (q ≤ n) := Lib.hid (by omega)
            go_upto_region 10 with (first | (show wpList _ _ _ ({ dst := none, op := Op.store 25 (.tmp 8) _, type := _, pos := _, after := _, guard := none } :: _) _ _; go_must (refine wpList_store_arr (P := Tryd.prog) rfl 25 (.tmp 8) (.tmp 36) rfl (w5).heap.size ?c4 (darr (wbytes v)) ?c0 25 _ (z20_new w5 rfl) rfl HP.out (info20 v) ?_); (case c4 => rfl); (case c0 => rfl); intro w6 hR6 hb6 hz6; have HR6 := Lib.hid hR6; have hb56 : Below w5.heap.size w5 w6 := ((Below.refl _ _).alloc (Nat.le_refl _) _).trans hb6; have HO6 := Lib.hid (HO5.out.past hb56); have X6 := HX5.out.past hb56; unfold Lies at X6; rw [Array.toArray_toList] at X6; have HX6 := Lib.hid X6; have HB6 : Hid (Below w.heap.size w w6) := Lib.hid (HB5.out.trans (hb56.mono HB5.out.size)); clear hR6 hb6 hz6 hb56 X6) | (show wpList _ _ _ ({ dst := _, op := Op.load _ (.tmp 6), type := _, pos := _, after := _, guard := _ } :: _) _ _; go_must (refine wpList_load_row_g (P := Tryd.prog) (by rfl) 25 (.tmp 6) rfl (w3).heap.size ?c5 25 (darr (wbytes v)) (0, 0) _ (HX6).out Tryd.underlying25 rfl (info20 v) ?_); (case c5 => rfl)) | (show wpList _ _ _ ({ dst := _, op := Op.load _ (.tmp 8), type := _, pos := _, after := _, guard := _ } :: _) _ _; go_must (refine wpList_load_row_g (P := Tryd.prog) (by rfl) 25 (.tmp 8) rfl (w5).heap.size ?c5 25 (darr (wbytes v)) (0, 0) _ (HR6).out Tryd.underlying25 rfl (info20 v) ?_); (case c5 => rfl)))
            have nc := HO6.out.bounds
            obtain ⟨D, hD⟩ : ∃ D : Option Addr, (if c = q then A else A.map (·.add q)) = D := ⟨_, rfl⟩
            have HHD : Hid (Has .u8 w6 D ((wholeL rs).drop q)) := Lib.hid (by rw [← hD]; exact HO6.out.has.cut (by rw [← HN.out]; exact HQ.out) (by rw [← HN.out]; exact nc.2.1))
            have HHA : Hid (Has .u8 w6 A ((wholeL rs).take q)) := Lib.hid (HO6.out.has.front q)
            have HLN : Hid (n ≤ c ∧ c ≤ 9223372036854775807) := Lib.hid nc.2
            have s1 : (q : Int) ≤ c := by have := HQ.out; omega
            have s2 : (q : Int) ≤ n := by have := HQ.out; omega
            have s3 : (n : Int) ≤ c := by omega
            have HBE : Hid (Below w6.heap.size w6 w6) := Lib.hid (Below.refl _ _)
            have HX36 : Hid (w3.heap.size < w6.heap.size) := Lib.hid (lt_of_block HX6.out)
            have HPW : Hid (piE [⟨A, q, c, (wholeL rs).take q⟩, ⟨D, n - q, c - q, (wholeL rs).drop q⟩] = 0 ∧ piV [⟨A, q, c, (wholeL rs).take q⟩, ⟨D, n - q, c - q, (wholeL rs).drop q⟩] = wbytes v) := Lib.hid (by
              have e : wholeL [⟨A, q, c, (wholeL rs).take q⟩, ⟨D, n - q, c - q, (wholeL rs).drop q⟩] = wholeL rs := by
                show List.flatten [(wholeL rs).take q, (wholeL rs).drop q] = _
                simp
              have := pi_yes (rs := [⟨A, q, c, (wholeL rs).take q⟩, ⟨D, n - q, c - q, (wholeL rs).drop q⟩]) (by simp) (by rw [e, ← HN.out]; omega)
              rw [e, HVV.out] at this
              exact this)
            have HIN2 : Hid (∀ W : World, Below w6.heap.size w6 W → ∀ r ∈ [⟨A, q, c, (wholeL rs).take q⟩, ⟨D, n - q, c - q, (wholeL rs).drop q⟩], InR W r) := Lib.hid (fun W hW r hr => by
              simp only [List.mem_cons, List.not_mem_nil, or_false] at hr
              rcases hr with rfl | rfl
              · exact ⟨HHA.out.below hW (Nat.le_refl _), (by show ((wholeL rs).take q).length = q; rw [List.length_take, ← HN.out]; have := HQ.out; omega), (by show q ≤ c; omega), HLN.out.2, bd_take HBD.out q⟩
              · exact ⟨HHD.out.below hW (Nat.le_refl _), (by show ((wholeL rs).drop q).length = n - q; rw [List.length_drop, ← HN.out]), (by show n - q ≤ c - q; omega), (by show c - q ≤ 9223372036854775807; have := HLN.out.2; omega), fun z h => HBD.out z (List.mem_of_mem_drop h)⟩)
            clear nc
            go_cut [10, 11] (fun s e wx => ∃ g : Nat, s = .pointer (some ⟨g, 0, none⟩) ∧ e = .int .i64 0 ∧ wx.heap[g]? = some (.cells (darr (wbytes v)) 25 (0, 0)) ∧ wx.heap[w3.heap.size]? = some (.cells (darr (wbytes v)) 25 (0, 0)) ∧ Below w.heap.size w wx)
            case first =>
              have hinf : Option.map (fun x => x.size) (Tryd.prog.info? 25) = some (List.map (Value.int IntKind.u8) (wbytes v)).length := by rw [List.length_map, wbytes_len]; kernel_rfl
              go_region_held3 (fun x' => True) (trivial) (first | (go_simp; go_at_call 10; refine (Pieces_any [⟨A, q, c, (wholeL rs).take q⟩, ⟨D, n - q, c - q, (wholeL rs).drop q⟩] _ 2 2 _ (HTB.out.below (by have := HB6.out; (repeat' (first | (with_reducible exact Below.refl _ _) | (with_reducible assumption) | (with_reducible refine below_drewN ?_ _) | (with_reducible refine below_new ?_ _) | (with_reducible refine Below.alloc ?_ ?_ _) | (with_reducible refine Below.drew ?_) | (with_reducible refine Below.setCell ?_ ?_ _) | (with_reducible apply below_at; (case k => (with_reducible assumption)); (case hB => omega)) | (with_reducible apply below_on; (with_reducible assumption)) | (go_size; done) | (with_reducible apply size_of)))) (Nat.le_refl _)) (by first | exact hasL_dr (hasL_lit (rs := [⟨A, q, c, (wholeL rs).take q⟩, ⟨D, n - q, c - q, (wholeL rs).drop q⟩]) 29 (by simp) (HIN2.out _ (by (repeat' (first | (with_reducible exact Below.refl _ _) | (with_reducible assumption) | (with_reducible refine below_drewN ?_ _) | (with_reducible refine below_new ?_ _) | (with_reducible refine Below.alloc ?_ ?_ _) | (with_reducible refine Below.drew ?_) | (with_reducible refine Below.setCell ?_ ?_ _) | (with_reducible apply below_at; (case k => (with_reducible assumption)); (case hB => omega)) | (with_reducible apply below_on; (with_reducible assumption)) | (go_size; done) | (with_reducible apply size_of)))))) | exact hasL_dr (hasL_al (hasL_lit (rs := [⟨A, q, c, (wholeL rs).take q⟩, ⟨D, n - q, c - q, (wholeL rs).drop q⟩]) 29 (by simp) (HIN2.out _ (by (repeat' (first | (with_reducible exact Below.refl _ _) | (with_reducible assumption) | (with_reducible refine below_drewN ?_ _) | (with_reducible refine below_new ?_ _) | (with_reducible refine Below.alloc ?_ ?_ _) | (with_reducible refine Below.drew ?_) | (with_reducible refine Below.setCell ?_ ?_ _) | (with_reducible apply below_at; (case k => (with_reducible assumption)); (case hB => omega)) | (with_reducible apply below_on; (with_reducible assumption)) | (go_size; done) | (with_reducible apply size_of)))))) _)) rfl (by decide)).mono ?_; rintro e w8 ⟨rfl, hb8⟩; rw [HPW.out.1, HPW.out.2]; have hth1 : (w8.alloc (.cells #[.int .u8 0, .int .u8 0, .int .u8 0, .int .u8 0, .int .u8 0, .int .u8 0, .int .u8 0, .int .u8 0, .int .u8 0, .int .u8 0, .int .u8 0, .int .u8 0, .int .u8 0, .int .u8 0, .int .u8 0, .int .u8 0, .int .u8 0, .int .u8 0, .int .u8 0, .int .u8 0] 25)).there w8.heap.size 0 (List.map (Value.int IntKind.u8) (wbytes v)).length := there_of (z20_new w8 rfl) (by simp [z20, wbytes_len]); first | (refine lay (P := Lies w8 w6.heap.size 25 [.int .u8 0, .int .u8 0, .int .u8 0, .int .u8 0, .int .u8 0, .int .u8 0, .int .u8 0, .int .u8 0, .int .u8 0, .int .u8 0, .int .u8 0, .int .u8 0, .int .u8 0, .int .u8 0, .int .u8 0, .int .u8 0, .int .u8 0, .int .u8 0, .int .u8 0, .int .u8 0]) ?_ ?_; (focus ((repeat' (first | (with_reducible assumption) | (with_reducible exact Lies.fresh _ _ _) | (with_reducible apply Lies.fresh_at; (first | (with_reducible rfl) | (simp; done))) | (with_reducible refine Lies.drew ?_) | (with_reducible refine Lies.drewN ?_ _) | (with_reducible refine Lies.alloc ?_ _) | (with_reducible apply Lies.past; case hb => (with_reducible assumption)) | (with_reducible apply Lies.keeps; (case k => (with_reducible assumption)); (case ht => decide)) | (with_reducible apply Lies.store3) | (with_reducible apply Lies.other; case hp => (first | omega | (simp; done) | (simp; omega))))); done)); intro Z8; have hth2 : w8.there w6.heap.size 0 (List.map (Value.int IntKind.u8) (wbytes v)).length := there_of Z8 (by simp [wbytes_len]); have HZ8 := Lib.hid Z8; clear Z8) | (refine lay (P := Lies w8 (w6.heap.size + 1) 25 [.int .u8 0, .int .u8 0, .int .u8 0, .int .u8 0, .int .u8 0, .int .u8 0, .int .u8 0, .int .u8 0, .int .u8 0, .int .u8 0, .int .u8 0, .int .u8 0, .int .u8 0, .int .u8 0, .int .u8 0, .int .u8 0, .int .u8 0, .int .u8 0, .int .u8 0, .int .u8 0]) ?_ ?_; (focus ((repeat' (first | (with_reducible assumption) | (with_reducible exact Lies.fresh _ _ _) | (with_reducible apply Lies.fresh_at; (first | (with_reducible rfl) | (simp; done))) | (with_reducible refine Lies.drew ?_) | (with_reducible refine Lies.drewN ?_ _) | (with_reducible refine Lies.alloc ?_ _) | (with_reducible apply Lies.past; case hb => (with_reducible assumption)) | (with_reducible apply Lies.keeps; (case k => (with_reducible assumption)); (case ht => decide)) | (with_reducible apply Lies.store3) | (with_reducible apply Lies.other; case hp => (first | omega | (simp; done) | (simp; omega))))); done)); intro Z8; have hth2 : w8.there (w6.heap.size + 1) 0 (List.map (Value.int IntKind.u8) (wbytes v)).length := there_of Z8 (by simp [wbytes_len]); have HZ8 := Lib.hid Z8; clear Z8) | skip))
              all_goals
                go_wp2_with fail
                go_meet
                first
                  | exact ⟨_, rfl, rfl, fin20 v HZ8.out rfl HX6.out HX36.out HB6.out (by (repeat' (first | (with_reducible exact Below.refl _ _) | (with_reducible assumption) | (with_reducible refine below_drewN ?_ _) | (with_reducible refine below_new ?_ _) | (with_reducible refine Below.alloc ?_ ?_ _) | (with_reducible refine Below.drew ?_) | (with_reducible refine Below.setCell ?_ ?_ _) | (with_reducible apply below_at; (case k => (with_reducible assumption)); (case hB => omega)) | (with_reducible apply below_on; (with_reducible assumption)) | (go_size; done) | (with_reducible apply size_of)))) (by omega)⟩
                  | exact ⟨_, rfl, rfl, fin20 v (z20_new w8 rfl) (by simp [z20]) HX6.out HX36.out HB6.out (by (repeat' (first | (with_reducible exact Below.refl _ _) | (with_reducible assumption) | (with_reducible refine below_drewN ?_ _) | (with_reducible refine below_new ?_ _) | (with_reducible refine Below.alloc ?_ ?_ _) | (with_reducible refine Below.drew ?_) | (with_reducible refine Below.setCell ?_ ?_ _) | (with_reducible apply below_at; (case k => (with_reducible assumption)); (case hB => omega)) | (with_reducible apply below_on; (with_reducible assumption)) | (go_size; done) | (with_reducible apply size_of)))) (by have := hb8.size; simp at this; omega)⟩
            case rest =>
              obtain ⟨g, rfl, rfl, hg, hx, hbx⟩ := hcut
              rename World => wx
              have HG2 := Lib.hid hg
              have HX2 := Lib.hid hx
              have HBX := Lib.hid hbx
              clear hg hx hbx
              go_wp2_with (first | (show wpList _ _ _ ({ dst := _, op := Op.load _ (.tmp 6), type := _, pos := _, after := _, guard := _ } :: _) _ _; go_must (refine wpList_load_row_g (P := Tryd.prog) (by rfl) 25 (.tmp 6) rfl (w3).heap.size ?c5 25 (darr (wbytes v)) (0, 0) _ (HX2).out Tryd.underlying25 rfl (info20 v) ?_); (case c5 => rfl)) | (show wpList _ _ _ ({ dst := _, op := Op.load _ (.tmp 10), type := _, pos := _, after := _, guard := _ } :: _) _ _; go_must (refine wpList_load_row_g (P := Tryd.prog) (by rfl) 25 (.tmp 10) rfl g ?c5 25 (darr (wbytes v)) (0, 0) _ (HG2).out Tryd.underlying25 rfl (info20 v) ?_); (case c5 => rfl)))
              refine (alive _ (HTB.out.below HBX.out (Nat.le_refl _))).mono ?_
              rintro e w7 ⟨rfl, hb7⟩
              go_wp2_with fail
              go_ret
              exact ⟨rfl, HBX.out.trans (hb7.mono HBX.out.size)⟩
          · have ci3 : (n : Int) < i := by omega
            go_wp2_with (first | (show wpList _ _ _ ({ dst := none, op := Op.store 25 (.tmp 8) _, type := _, pos := _, after := _, guard := none } :: _) _ _; go_must (refine wpList_store_arr (P := Tryd.prog) rfl 25 (.tmp 8) (.tmp 36) rfl (w5).heap.size ?c4 (darr (wbytes v)) ?c0 25 _ (z20_new w5 rfl) rfl HP.out (info20 v) ?_); (case c4 => rfl); (case c0 => rfl); intro w6 hR6 hb6 hz6; have HR6 := Lib.hid hR6; have hb56 : Below w5.heap.size w5 w6 := ((Below.refl _ _).alloc (Nat.le_refl _) _).trans hb6; have HO6 := Lib.hid (HO5.out.past hb56); have X6 := HX5.out.past hb56; unfold Lies at X6; rw [Array.toArray_toList] at X6; have HX6 := Lib.hid X6; have HB6 : Hid (Below w.heap.size w w6) := Lib.hid (HB5.out.trans (hb56.mono HB5.out.size)); clear hR6 hb6 hz6 hb56 X6) | (show wpList _ _ _ ({ dst := _, op := Op.load _ (.tmp 6), type := _, pos := _, after := _, guard := _ } :: _) _ _; go_must (refine wpList_load_row_g (P := Tryd.prog) (by rfl) 25 (.tmp 6) rfl (w3).heap.size ?c5 25 (darr (wbytes v)) (0, 0) _ (HX6).out Tryd.underlying25 rfl (info20 v) ?_); (case c5 => rfl)) | (show wpList _ _ _ ({ dst := _, op := Op.load _ (.tmp 8), type := _, pos := _, after := _, guard := _ } :: _) _ _; go_must (refine wpList_load_row_g (P := Tryd.prog) (by rfl) 25 (.tmp 8) rfl (w5).heap.size ?c5 25 (darr (wbytes v)) (0, 0) _ (HR6).out Tryd.underlying25 rfl (info20 v) ?_); (case c5 => rfl)))
            refine (alive _ (HTB.out.below HB6.out (Nat.le_refl _))).mono ?_
            rintro e w7 ⟨rfl, hb7⟩
            go_wp2_with fail
            go_ret
            exact ⟨rfl, HB6.out.trans (hb7.mono HB6.out.size)⟩
        · have ci3 : i < 0 := by omega
          go_wp2_with (first | (show wpList _ _ _ ({ dst := none, op := Op.store 25 (.tmp 8) _, type := _, pos := _, after := _, guard := none } :: _) _ _; go_must (refine wpList_store_arr (P := Tryd.prog) rfl 25 (.tmp 8) (.tmp 36) rfl (w5).heap.size ?c4 (darr (wbytes v)) ?c0 25 _ (z20_new w5 rfl) rfl HP.out (info20 v) ?_); (case c4 => rfl); (case c0 => rfl); intro w6 hR6 hb6 hz6; have HR6 := Lib.hid hR6; have hb56 : Below w5.heap.size w5 w6 := ((Below.refl _ _).alloc (Nat.le_refl _) _).trans hb6; have HO6 := Lib.hid (HO5.out.past hb56); have X6 := HX5.out.past hb56; unfold Lies at X6; rw [Array.toArray_toList] at X6; have HX6 := Lib.hid X6; have HB6 : Hid (Below w.heap.size w w6) := Lib.hid (HB5.out.trans (hb56.mono HB5.out.size)); clear hR6 hb6 hz6 hb56 X6) | (show wpList _ _ _ ({ dst := _, op := Op.load _ (.tmp 6), type := _, pos := _, after := _, guard := _ } :: _) _ _; go_must (refine wpList_load_row_g (P := Tryd.prog) (by rfl) 25 (.tmp 6) rfl (w3).heap.size ?c5 25 (darr (wbytes v)) (0, 0) _ (HX6).out Tryd.underlying25 rfl (info20 v) ?_); (case c5 => rfl)) | (show wpList _ _ _ ({ dst := _, op := Op.load _ (.tmp 8), type := _, pos := _, after := _, guard := _ } :: _) _ _; go_must (refine wpList_load_row_g (P := Tryd.prog) (by rfl) 25 (.tmp 8) rfl (w5).heap.size ?c5 25 (darr (wbytes v)) (0, 0) _ (HR6).out Tryd.underlying25 rfl (info20 v) ?_); (case c5 => rfl)))
          refine (alive _ (HTB.out.below HB6.out (Nat.le_refl _))).mono ?_
          rintro e w7 ⟨rfl, hb7⟩
          go_wp2_with fail
          go_ret
          exact ⟨rfl, HB6.out.trans (hb7.mono HB6.out.size)⟩
      · have c14' : (14000 : Int) < n := by omega
        go_wp2_with fail
        refine (alive _ (HTB.out.below HB1.out (Nat.le_refl _))).mono ?_
        rintro e w7 ⟨rfl, hb7⟩
        go_wp2_with fail
        go_ret
        exact ⟨rfl, HB1.out.trans (hb7.mono HB1.out.size)⟩
    · have c20' : (20 : Int) < m := by omega
      go_enter Tryd.func5, Tryd.ntmps5
      go_wp2_with fail
      refine (rLong rs P m d _ HR.out.h HR.out.l HM.out).mono ?_
      rintro e w' ⟨rfl, rfl⟩
      rw [HG.out]
      go_wp2_with fail
      refine (alive _ HTB.out).mono ?_
      rintro e w7 ⟨rfl, hb7⟩
      go_wp2_with fail
      go_ret
      exact ⟨rfl, hb7⟩
  · have HG := Lib.hid hg
    clear hg
    go_enter Tryd.func5, Tryd.ntmps5
    go_wp2_with fail
    refine (rLong rs P m d _ HR.out.h HR.out.l HM.out).mono ?_
    rintro e w' ⟨rfl, rfl⟩
    rw [HG.out]
    go_wp2_with fail
    refine (alive _ HTB.out).mono ?_
    rintro e w7 ⟨rfl, hb7⟩
    go_wp2_with fail
    go_ret
    exact ⟨rfl, hb7⟩
end Go.Proofs.YtmlfajmkgkgegaaDoor.shL
