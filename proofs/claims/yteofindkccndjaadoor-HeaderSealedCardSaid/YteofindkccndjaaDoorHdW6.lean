/- Parse, by a walk. -/
import Derived.Test.YteofindkccndjaaDoorHdW5
import Derived.Test.YteofindkccndjaaDoorShWB
namespace Go.Proofs.YteofindkccndjaaDoor.hdW
set_option maxRecDepth 100000
open Go.RowKit Go.Proofs.YteofindkccndjaaDoor.base Go.Proofs.YteofindkccndjaaDoor.hdP
set_option linter.unusedVariables false
set_option linter.unusedSimpArgs false
def pvV (b : List Int) (i k : Nat) : List Value := (pvL b i k).map (Value.int .i64)
theorem pvV_at (b : List Int) {i : Nat} (k : Nat) (h : i < 5) : (pvV b i k)[i]? = some (.int .i64 (cv b i k)) := by rw [pvV, List.getElem?_map, pv_at b k h]; rfl
theorem pvV_set (b : List Int) {i k : Nat} (h : i < 5) (x : Int) (hx : x = cv b i (k + 1)) : (pvV b i k).set i (.int .i64 x) = pvV b i (k + 1) := by
  rw [pvV, ← List.map_set, pv_set b h x hx]; rfl
theorem wp_st {ops : Array Oper} {rest : List Oper} {o : Oper} {a : Act} {w : World} {Q : Exit → Act → World → Prop} {g : Nat} {h0 h : Hd} (hgd : o.guard = none) (p x : Operand) (ho : o.op = .store 25 p x) (k : HdAt w g h0) (b0 : Bd h0) (hb : Bd h)
    (hp : a.eval p = .pointer (some ⟨g, 0, none⟩)) (hx : a.eval x = .agg (hv h)) (H : ∀ w', HdAt w' g h → Below g w w' → w'.heap.size = w.heap.size → wpList Tryd.prog ops Q rest (a.put o.dst undef) w') : wpList Tryd.prog ops Q (o :: rest) a w :=
  wpList_store_arr hgd 25 p x ho g hp (hv h) hx 25 (hv h0) k.row (by rw [← hv_size h0 b0, ← hv_size h hb]) (hv_one h) (info25 h hb) fun w' k1 k2 k3 => H w' (by unfold HdAt Lies; rw [k1]; unfold hv; rfl) k2 k3
theorem ret_hd {fn : Func} {p t : Tmp} {h : Hd} (hr : fn.results = #[.cell p 25, .tmp t]) (tmps : Array Value) (w : World) (g : Nat) (hb : Bd h) (hp : tmps.getD p undef = .pointer (some ⟨g, 0, none⟩)) (k : HdAt w g h) :
    (results fn tmps).run Tryd.prog w = .ok (.tuple #[.agg (hv h), tmps.getD t undef]) w :=
  shW.results_cell_tmp hr tmps w g 25 (hv h) (0, 0) _ hp k.row Tryd.underlying25 rfl (info25 h hb)
theorem arr_at (W : World) (a : Addr) (c : Nat) : (Instr.arrayAt 23 (.slice (some a) 20 c)).run Tryd.prog W = .ok (.pointer (some a)) W := by kernel_rfl
theorem info23 {s : List Int} (h : s.length = 20) : (Tryd.prog.info? 23).map (·.size) = some (sv s).length := by
  rw [sv, List.length_map, h]; kernel_rfl
theorem quiet_mid {o : Oper} {a : Act} {w : World} {C : World → Prop} {g off : Nat} {s : List Int} (x : Operand) (ho : o.op = .load 23 x) (k : w.rangeAt g off (sv s)) (h : s.length = 20)
    (hx : a.eval x = .pointer (some ⟨g, off, none⟩)) : Oper.quietAt Tryd.prog o a C w (.agg (sv s).toArray) := by
  unfold Oper.quietAt execOp
  simp only [ho, hx, Instr.loadAt, Instr.sureAddr, Sem.run_bind, Sem.run_pure, Result.andThen_ok, run_loadVar_mid w g off 23 (sv s) _ k Tryd.underlying23 rfl (info23 h)]
  exact ⟨rfl, rfl⟩
theorem rng_of {w : World} {b : List Int} {bb off : Nat} (hc : ∀ j, j < b.length → w.cell? ⟨bb, off + j, none⟩ = some (.int .u8 (b.getD j 0))) (n : Nat) : w.rangeAt bb (off + n) (sv (b.drop n)) := fun j v hv => by
  rw [sv, List.getElem?_map, List.getElem?_drop] at hv
  have hj : n + j < b.length := by
    rcases Nat.lt_or_ge (n + j) b.length with h | h
    · exact h
    · rw [List.getElem?_eq_none h] at hv; cases hv
  rw [Nat.add_assoc, hc _ hj, ← hv, List.getD_eq_getElem?_getD, List.getElem?_eq_getElem hj]; rfl
theorem in_at {w wr : World} {b : List Int} {A : Option Addr} (h : Has .u8 w A b) (hb : Below w.heap.size w wr) {k : Nat} (hk : k < b.length) : ∃ bb off, A = some ⟨bb, off, none⟩ ∧ bb < w.heap.size ∧ ∀ j, j < b.length → wr.cell? ⟨bb, off + j, none⟩ = some (.int .u8 (b.getD j 0)) := by
  obtain ⟨bb, off, hA, hlt, hc⟩ := has_some h (by omega)
  exact ⟨bb, off, hA, hlt, fun j hj => by rw [hb.cell (p := ⟨bb, off + j, none⟩) hlt]; exact hc j hj⟩
set_option maxRecDepth 100000 in
set_option maxHeartbeats 1600000 in
theorem Parse_any (b : List Int) (A : Option Addr) (n d : Nat) (w : World) (hT : TabP w) (hA : Has .u8 w A b) (hl : b.length = n) (hd : n ≤ d) (hm : n ≤ 9223372036854775807) (hb : ∀ z ∈ b, 0 ≤ z ∧ z ≤ 255) :
    Calls Tryd.prog 11 #[.slice A n d] w fun e w' => e = .returned (.tuple #[.agg (hv (paV b)), .int .i64 (paE b)]) ∧ Below w.heap.size w w' := by
  have n9 : (n : Int) ≤ 9223372036854775807 := by omega
  have zv := zv_nul
  have bn := bld_nul
  have HZ := Lib.hid (hdAt_new w nul)
  have HONE := Lib.hid hv_one
  have HT := Lib.hid hT
  have HA := Lib.hid hA
  have HL := Lib.hid hl
  have HB := Lib.hid hb
  have B0 : Hid (Below w.heap.size w (w.alloc (.cells (hv nul) 25))) := Lib.hid (by (repeat' (first | (with_reducible exact Below.refl _ _) | (with_reducible assumption) | (with_reducible refine below_drewN ?_ _) | (with_reducible refine below_new ?_ _) | (with_reducible refine Below.alloc ?_ ?_ _) | (with_reducible refine Below.drew ?_) | (with_reducible refine Below.setCell ?_ ?_ _) | (with_reducible apply below_at; (case k => (with_reducible assumption)); (case hB => omega)) | (with_reducible apply below_on; (with_reducible assumption)) | (go_size; done) | (with_reducible apply size_of))))
  have HS0 : Hid ((w.alloc (.cells (hv nul) 25)).heap.size = w.heap.size + 1) := Lib.hid (by simp)
  by_cases c : n = 28
  · subst c
    have HD : Hid (28 ≤ d) := Lib.hid hd
    have d28 : (28 : Int) ≤ d := by omega
    clear hT hA hl hd hm hb n9
    go_enter Tryd.func11, Tryd.ntmps11
    go_upto_region 3 with fail
    generalize (w.alloc (.cells (hv nul) 25)) = w0 at *
    have HZ' : Hid (HdAt w0 w.heap.size nul) := HZ
    have V2 := Lib.hid (Lies.fresh w0 56 (pvV b 0 0))
    have GB := (Below.refl w0.heap.size w0).alloc (Nat.le_refl _) (.cells (pvV b 0 0).toArray 56)
    have B2 := Lib.hid (below_bs B0.out GB)
    have HZ2 := Lib.hid (HZ.out.past GB)
    have HT2 := Lib.hid ((HT.out.past B0.out).past GB)
    have HS2 : Hid ((w0.alloc (.cells (pvV b 0 0).toArray 56)).heap.size = w0.heap.size + 1) := Lib.hid (by simp)
    clear HZ' HZ GB B0 HT
    go_upto_region 4 with fail
    rw [show (#[.int .i64 0, .int .i64 0, .int .i64 0, .int .i64 0, .int .i64 0] : Array Value) = (pvV b 0 0).toArray from rfl]
    generalize (w0.alloc (.cells (pvV b 0 0).toArray 56)) = w2 at *
    generalize w0.heap.size = gv at *
    go_wp2_with (show wpList _ _ _ ({ dst := _, op := Op.load 59 _, type := _, pos := _, after := _, guard := none } :: _) _ _; go_must (refine wpList_load_mid (P := Tryd.prog) rfl 59 _ rfl _ 0 rfl _ _ HT2.out.rng Tryd.underlying59 rfl info59 ?_))
    go_loopw [14] (fun iv wr => ∃ i : Nat, i ≤ 5 ∧ iv = .int .i64 i ∧ Lies wr gv 56 (pvV b i 0) ∧ HdAt wr w.heap.size nul ∧ Below w.heap.size w wr) (fun iv _ => 5 - (intOf iv).toNat)
    case atStart => exact ⟨0, by omega, rfl, V2.out, HZ2.out, B2.out⟩
    case round =>
      have HSZ0 : Hid (gv = w.heap.size + 1) := HS0
      clear V2 B2 HZ2 HT2 HS2 HS0
      obtain ⟨i, hi, rfl, V, Z, acc⟩ := hrel
      have HV := Lib.hid V
      have HZ := Lib.hid Z
      have HACC := Lib.hid acc
      by_cases hlt : i < 5
      · have ix := pt_ix hlt
        have HST := Lib.hid (at_step hlt)
        have k1 : (i : Int) < 5 := by omega
        have HLT := Lib.hid hlt
        have hlv := V.lt
        have HSZ : Hid (gv < wr.heap.size ∧ w.heap.size < gv) := Lib.hid (by have := HSZ0.out; omega)
        clear V Z acc hlt hi
        go_upto_region 7 with fail
        have R := Lies.fresh wr 58 [.int .i64 (atN i : Nat), .int .i64 (wdN i : Nat)]
        have GB := (Below.refl wr.heap.size wr).alloc (Nat.le_refl _) (.cells #[Value.int .i64 (atN i : Nat), Value.int .i64 (wdN i : Nat)] 58)
        replace HV := Lib.hid (HV.out.past GB)
        replace HZ := Lib.hid (HZ.out.past GB)
        replace HACC := Lib.hid (below_bs HACC.out GB)
        have HR := Lib.hid R
        have hw := R.cell 1
        simp only [List.getElem?_cons_succ, List.getElem?_cons_zero] at hw
        clear ix hlv R GB
        have hrs : Hid (wr.heap.size ≠ gv ∧ wr.heap.size ≠ w.heap.size) := Lib.hid (by have := HSZ.out; omega)
        rw [show [Value.int .i64 (atN i : Nat), Value.int .i64 (wdN i : Nat)].toArray = #[Value.int .i64 (atN i : Nat), Value.int .i64 (wdN i : Nat)] from rfl] at HR hw
        generalize (wr.alloc (.cells #[Value.int .i64 (atN i : Nat), Value.int .i64 (wdN i : Nat)] 58)) = w3 at *
        generalize hgr : wr.heap.size = gr at *
        have HNX := Lib.hid (pv_next b HLT.out)
        have HCS : Hid (∀ k, k < wdN i → cv b i (k + 1) = 256 * cv b i k + b.getD (atN i + k) 0) := Lib.hid (fun k hk => cv_step b HLT.out hk)
        have HCB : Hid (∀ k, k < wdN i → 0 ≤ cv b i k ∧ cv b i k ≤ 255) := Lib.hid (fun k hk => cv_bd (fun j => shW.getD_bd HB.out j) hk)
        generalize hat : atN i = at_ at *
        generalize hwd : wdN i = wd at *
        go_wp2_with fail
        go_loopw [20] (fun kv wr => ∃ k : Nat, k ≤ wd ∧ kv = .int .i64 k ∧ Lies wr gv 56 (pvV b i k) ∧ HdAt wr w.heap.size nul ∧ Lies wr gr 58 [.int .i64 at_, .int .i64 wd] ∧ Below w.heap.size w wr) (fun kv _ => wd - (intOf kv).toNat)
        case atStart => exact ⟨0, by omega, rfl, HV.out, HZ.out, HR.out, HACC.out⟩
        case round =>
          clear HV HZ HR HACC hw
          obtain ⟨k, hk, rfl, V, Z, R, acc⟩ := hrel
          have HACC := Lib.hid acc
          have HV := Lib.hid V
          have HZ := Lib.hid Z
          have HR := Lib.hid R
          by_cases hkt : k < wd
          · have p0 := R.cell 0
            have p1 := R.cell 1
            simp only [List.getElem?_cons_succ, List.getElem?_cons_zero] at p0 p1
            have pv := V.cell i
            rw [pvV_at b k HLT.out] at pv
            have pf := V.free i
            have hst := HST.out
            have hx := HCS.out k hkt
            have hc0 := HCB.out k hkt
            obtain ⟨q, hq⟩ : ∃ q, at_ + k = q := ⟨_, rfl⟩
            rw [hq] at hx
            have q8 : q < 28 := by omega
            obtain ⟨bb, off, rfl, hbb, hcc⟩ := in_at HA.out acc (show q < b.length by rw [HL.out]; exact q8)
            have pb := hcc q (by rw [HL.out]; exact q8)
            have hb0 := shW.getD_bd HB.out q
            have j1 : IntKind.i64.wrap ((at_ : Int) + (k : Int)) = (q : Int) := by
              rw [show (at_ : Int) + (k : Int) = (q : Int) by omega]; exact IntWalk.i64_in _ (by omega)
            have HX2 : Hid (∀ x, x = cv b i (k + 1) → (pvV b i k).set i (.int .i64 x) = pvV b i (k + 1)) := Lib.hid (fun x hx => pvV_set b HLT.out x hx)
            generalize hcn : cv b i (k + 1) = cn at *
            generalize cv b i k = cc at *
            generalize b.getD q 0 = y at *
            have q9 : (q : Int) < 28 := by omega
            have e1 : IntKind.i64.wrap (cc * 256) = cc * 256 := IntWalk.i64_in _ (by omega)
            have e2 : bits .or .i64 (cc * 256) y = 256 * cc + y := bitor_lo hc0 hb0
            have e3 : IntKind.i64.wrap y = y := IntWalk.i64_in _ (by omega)
            have kw : (k : Int) < wd := by omega
            have wd2 : (wd : Int) ≤ 2 := by omega
            have HKT := Lib.hid hkt
            have HX := Lib.hid hx
            clear V Z R acc hwd hat hq hst hkt hk hcc hx
            go_wp2_with fail
            go_still_tail 15, (by kernel_rfl)
            go_wp2_with fail
            refine ⟨⟨k + 1, by have := HKT.out; omega, by go_num, ?_, ?_, ?_, ?_⟩, by simp [intOf]; have := HKT.out; omega⟩
            · have := HV.out.set i (.int .i64 (256 * cc + y))
              rw [HX2.out _ HX.out.symm] at this
              exact this.drew
            · exact Lies.drew (Lies.other HZ.out (by have := HSZ.out; simp; omega) _)
            · exact (HR.out.other (by have := hrs.out; simp; omega) _).drew
            · exact (Below.setCell HACC.out (p := ⟨gv, i, none⟩) (by have := HSZ.out; simp; omega) _).drew
          · obtain rfl : k = wd := by omega
            have k1 : ¬ (k : Int) < k := by omega
            have HAT := Lib.hid (And.intro hat hwd)
            clear hkt hk V Z R acc
            go_wp2_with fail
            refine ⟨⟨i + 1, by have := HLT.out; omega, by go_num, ?_, HZ.out, HACC.out⟩, by simp [intOf]; have := HLT.out; omega⟩
            rw [pvV, ← HNX.out]; exact HV.out
      · obtain rfl : i = 5 := by omega
        clear V Z acc hlt hi
        go_upto_region 13 with fail
        have acc := HACC.out
        obtain ⟨bb, off, rfl, hbb, hcc⟩ := in_at HA.out acc (show 8 < b.length by rw [HL.out]; omega)
        have HRG := Lib.hid (rng_of hcc 8)
        have HBL : Hid (bb < wr.heap.size) := Lib.hid (by have := acc.size; omega)
        have HOF : Hid (of_bd HL.out HB.out = of_bd HL.out HB.out) := Lib.hid rfl
        obtain ⟨x, hx⟩ : ∃ x, of_ b = x := ⟨_, rfl⟩
        have HBX : Hid (Bd x) := Lib.hid (by rw [← hx]; exact of_bd HL.out HB.out)
        have HV5 : Hid (Lies wr gv 56 [.int .i64 x.mo, .int .i64 x.me, .int .i64 x.of, .int .i64 x.ra, .int .i64 x.le]) := Lib.hid (by
          have := HV.out
          rw [pvV, pv_5, hx] at this; exact this)
        have HPV : Hid (paV b = (if Ok x then x else nul) ∧ paE b = (if Ok x then 0 else 12)) := Lib.hid (by
          rw [← hx]
          by_cases k : Ok (of_ b)
          · have t : paB b := ⟨HL.out, k⟩
            exact ⟨by rw [paV, if_pos t, if_pos k], by rw [paE, if_pos t, if_pos k]⟩
          · have t : ¬ paB b := fun h => k h.2
            exact ⟨by rw [paV, if_neg t, if_neg k], by rw [paE, if_neg t, if_neg k]⟩)
        have hxs : b.drop 8 = x.s := by rw [← hx]; rfl
        rw [hxs] at HRG
        have m1 : IntKind.u8.wrap x.mo = x.mo := by have := HBX.out.mo; show x.mo % 256 = _; omega
        have d8 : ¬ d = 8 := by have := HD.out; omega
        have aa := arr_at
        clear HV acc hcc hbb hx hxs HOF
        clear zv
        (have RD := grows_roads (S := fun x' => Below wr.heap.size wr x') (fun a b h1 h2 => below_bs h2 h1)); refine region_ordT 17 _ Grows RD (Below.drew (Below.refl wr.heap.size wr)) (by kernel_rfl) (by decide) ?_; intro ops Q' hops hPQ hN; (have HNS : Hid (Region.noSelect ops = true ∧ Region.sinkB .any ops 17 = true ∧ Region.chainB .any ops 17 = true ∧ 17 < ops.size) := Lib.hid (by rw [hops]; exact ⟨by kernel_rfl, by kernel_rfl, by kernel_rfl, by decide⟩)); (have hsz : ops.size = 18 := (by rw [hops]; rfl)); have HOP := Lib.hid hops; have HPQ := Lib.hid hPQ; have HN := Lib.hid hN; rw [hsz]; clear hops hsz hPQ hN
        refine ordT_take RD 0 (at_list (by rw [HOP.out]; rfl)) HNS.out HPQ.out (by rw [HOP.out]; kernel_rfl) (by rw [HOP.out]; kernel_rfl) (by rw [HOP.out]; rfl) (fun K hK => ?_); apply Exists.intro; refine ⟨fun W hSW => ?_, hK _ ?_⟩; (focus ((try dsimp only at hSW); go_simp; try with_reducible rfl)); clear hK K; (try simp only [Act.put, List.setIfInBounds_toArray, List.set_cons_zero, List.set_cons_succ])
        refine ordT_take RD 1 (at_list (by rw [HOP.out]; rfl)) HNS.out HPQ.out (by rw [HOP.out]; kernel_rfl) (by rw [HOP.out]; kernel_rfl) (by rw [HOP.out]; rfl) (fun K hK => ?_); apply Exists.intro; refine ⟨fun W hSW => ?_, hK _ ?_⟩; (focus ((try dsimp only at hSW); (have z := (HV5.out.past hSW).cell 0; simp only [List.getElem?_cons_succ, List.getElem?_cons_zero] at z); go_simp; try with_reducible rfl)); clear hK K; (try simp only [Act.put, List.setIfInBounds_toArray, List.set_cons_zero, List.set_cons_succ])
        refine ordT_take RD 2 (at_list (by rw [HOP.out]; rfl)) HNS.out HPQ.out (by rw [HOP.out]; kernel_rfl) (by rw [HOP.out]; kernel_rfl) (by rw [HOP.out]; rfl) (fun K hK => ?_); apply Exists.intro; refine ⟨fun W hSW => ?_, hK _ ?_⟩; (focus ((try dsimp only at hSW); go_simp; try with_reducible rfl)); clear hK K; (try simp only [Act.put, List.setIfInBounds_toArray, List.set_cons_zero, List.set_cons_succ])
        refine ordT_take RD 3 (at_list (by rw [HOP.out]; rfl)) HNS.out HPQ.out (by rw [HOP.out]; kernel_rfl) (by rw [HOP.out]; kernel_rfl) (by rw [HOP.out]; rfl) (fun K hK => ?_); apply Exists.intro; refine ⟨fun W hSW => ?_, hK _ ?_⟩; (focus ((try dsimp only at hSW); go_simp; try with_reducible rfl)); clear hK K; (try simp only [Act.put, List.setIfInBounds_toArray, List.set_cons_zero, List.set_cons_succ])
        refine ordT_take RD 4 (at_list (by rw [HOP.out]; rfl)) HNS.out HPQ.out (by rw [HOP.out]; kernel_rfl) (by rw [HOP.out]; kernel_rfl) (by rw [HOP.out]; rfl) (fun K hK => ?_); apply Exists.intro; refine ⟨fun W hSW => ?_, hK _ ?_⟩; (focus ((try dsimp only at hSW); (have z := (HV5.out.past hSW).cell 1; simp only [List.getElem?_cons_succ, List.getElem?_cons_zero] at z); go_simp; try with_reducible rfl)); clear hK K; (try simp only [Act.put, List.setIfInBounds_toArray, List.set_cons_zero, List.set_cons_succ])
        refine ordT_take RD 5 (at_list (by rw [HOP.out]; rfl)) HNS.out HPQ.out (by rw [HOP.out]; kernel_rfl) (by rw [HOP.out]; kernel_rfl) (by rw [HOP.out]; rfl) (fun K hK => ?_); apply Exists.intro; refine ⟨fun W hSW => ?_, hK _ ?_⟩; (focus ((try dsimp only at hSW); go_simp; try with_reducible rfl)); clear hK K; (try simp only [Act.put, List.setIfInBounds_toArray, List.set_cons_zero, List.set_cons_succ])
        refine ordT_take RD 6 (at_list (by rw [HOP.out]; rfl)) HNS.out HPQ.out (by rw [HOP.out]; kernel_rfl) (by rw [HOP.out]; kernel_rfl) (by rw [HOP.out]; rfl) (fun K hK => ?_); apply Exists.intro; refine ⟨fun W hSW => ?_, hK _ ?_⟩; (focus ((try dsimp only at hSW); (have z := (HV5.out.past hSW).cell 2; simp only [List.getElem?_cons_succ, List.getElem?_cons_zero] at z); go_simp; try with_reducible rfl)); clear hK K; (try simp only [Act.put, List.setIfInBounds_toArray, List.set_cons_zero, List.set_cons_succ])
        refine ordT_take RD 7 (at_list (by rw [HOP.out]; rfl)) HNS.out HPQ.out (by rw [HOP.out]; kernel_rfl) (by rw [HOP.out]; kernel_rfl) (by rw [HOP.out]; rfl) (fun K hK => ?_); apply Exists.intro; refine ⟨fun W hSW => ?_, hK _ ?_⟩; (focus ((try dsimp only at hSW); go_simp; try with_reducible rfl)); clear hK K; (try simp only [Act.put, List.setIfInBounds_toArray, List.set_cons_zero, List.set_cons_succ])
        refine ordT_take RD 8 (at_list (by rw [HOP.out]; rfl)) HNS.out HPQ.out (by rw [HOP.out]; kernel_rfl) (by rw [HOP.out]; kernel_rfl) (by rw [HOP.out]; rfl) (fun K hK => ?_); apply Exists.intro; refine ⟨fun W hSW => ?_, hK _ ?_⟩; (focus ((try dsimp only at hSW); (have z := (HV5.out.past hSW).cell 3; simp only [List.getElem?_cons_succ, List.getElem?_cons_zero] at z); go_simp; try with_reducible rfl)); clear hK K; (try simp only [Act.put, List.setIfInBounds_toArray, List.set_cons_zero, List.set_cons_succ])
        refine ordT_take RD 9 (at_list (by rw [HOP.out]; rfl)) HNS.out HPQ.out (by rw [HOP.out]; kernel_rfl) (by rw [HOP.out]; kernel_rfl) (by rw [HOP.out]; rfl) (fun K hK => ?_); apply Exists.intro; refine ⟨fun W hSW => ?_, hK _ ?_⟩; (focus ((try dsimp only at hSW); go_simp; try with_reducible rfl)); clear hK K; (try simp only [Act.put, List.setIfInBounds_toArray, List.set_cons_zero, List.set_cons_succ])
        refine ordT_take RD 10 (at_list (by rw [HOP.out]; rfl)) HNS.out HPQ.out (by rw [HOP.out]; kernel_rfl) (by rw [HOP.out]; kernel_rfl) (by rw [HOP.out]; rfl) (fun K hK => ?_); apply Exists.intro; refine ⟨fun W hSW => ?_, hK _ ?_⟩; (focus ((try dsimp only at hSW); (have z := (HV5.out.past hSW).cell 4; simp only [List.getElem?_cons_succ, List.getElem?_cons_zero] at z); go_simp; try with_reducible rfl)); clear hK K; (try simp only [Act.put, List.setIfInBounds_toArray, List.set_cons_zero, List.set_cons_succ])
        refine ordT_take RD 11 (at_list (by rw [HOP.out]; rfl)) HNS.out HPQ.out (by rw [HOP.out]; kernel_rfl) (by rw [HOP.out]; kernel_rfl) (by rw [HOP.out]; rfl) (fun K hK => ?_); apply Exists.intro; refine ⟨fun W hSW => ?_, hK _ ?_⟩; (focus ((try dsimp only at hSW); go_simp; try with_reducible rfl)); clear hK K; (try simp only [Act.put, List.setIfInBounds_toArray, List.set_cons_zero, List.set_cons_succ])
        refine ordT_take RD 12 (at_list (by rw [HOP.out]; rfl)) HNS.out HPQ.out (by rw [HOP.out]; kernel_rfl) (by rw [HOP.out]; kernel_rfl) (by rw [HOP.out]; rfl) (fun K hK => ?_); apply Exists.intro; refine ⟨fun W hSW => ?_, hK _ ?_⟩; (focus ((try dsimp only at hSW); go_simp; try with_reducible rfl)); clear hK K; (try simp only [Act.put, List.setIfInBounds_toArray, List.set_cons_zero, List.set_cons_succ])
        refine ordT_take RD 13 (at_list (by rw [HOP.out]; rfl)) HNS.out HPQ.out (by rw [HOP.out]; kernel_rfl) (by rw [HOP.out]; kernel_rfl) (by rw [HOP.out]; rfl) (fun K hK => ?_); apply Exists.intro; refine ⟨fun W hSW => ?_, hK _ ?_⟩; (focus ((try dsimp only at hSW); go_simp; try with_reducible rfl)); clear hK K; (try simp only [Act.put, List.setIfInBounds_toArray, List.set_cons_zero, List.set_cons_succ])
        refine ordT_take RD 14 (at_list (by rw [HOP.out]; rfl)) HNS.out HPQ.out (by rw [HOP.out]; kernel_rfl) (by rw [HOP.out]; kernel_rfl) (by rw [HOP.out]; rfl) (fun K hK => ?_); apply Exists.intro; refine ⟨fun W hSW => ?_, hK _ ?_⟩; (focus ((try dsimp only at hSW); exact quiet_mid _ rfl (fun j v hv => by rw [hSW.cell (p := ⟨bb, _, none⟩) HBL.out]; exact HRG.out j v hv) (HBX.out.n) rfl)); clear hK K; (try simp only [Act.put, List.setIfInBounds_toArray, List.set_cons_zero, List.set_cons_succ])
        refine ordT_take RD 15 (at_list (by rw [HOP.out]; rfl)) HNS.out HPQ.out (by rw [HOP.out]; kernel_rfl) (by rw [HOP.out]; kernel_rfl) (by rw [HOP.out]; rfl) (fun K hK => ?_); apply Exists.intro; refine ⟨fun W hSW => ?_, hK _ ?_⟩; (focus ((try dsimp only at hSW); exact (quiet_build _ _ rfl (by rw [Array.toList_map]; exact built_all x.mo x.me x.of x.ra x.le x.s HBX.out.n)))); clear hK K; (try simp only [Act.put, List.setIfInBounds_toArray, List.set_cons_zero, List.set_cons_succ])
        rw [show (⟨x.mo, x.me, x.of, x.ra, x.le, x.s⟩ : Hd) = x from rfl]
        have zv := zv_nul
        refine ordT_one RD 16 (by rw [HOP.out]; kernel_rfl) (at_list (by rw [HOP.out]; rfl)) (by rw [HOP.out]; rfl) (fun W0 hWW hSW K hK => ?_); (try dsimp only at hSW)
        go_simp
        have GA := (Below.refl W0.heap.size W0).alloc (Nat.le_refl _) (.cells (hv nul) 25)
        refine hK _ _ (RD.keep GA hSW) ?_
        have HN0 := Lib.hid (hdAt_new W0 nul)
        have HG0 : Hid (w.heap.size < W0.heap.size) := Lib.hid (HZ.out.past hSW).lt
        have HS0 : Hid (wr.heap.size ≤ W0.heap.size) := Lib.hid hSW.size
        clear hSW hWW GA
        clear hK K; (try simp only [Act.put, List.setIfInBounds_toArray, List.set_cons_zero, List.set_cons_succ])
        generalize (W0.alloc (.cells (hv nul) 25)) = w4 at *
        generalize W0.heap.size = gx at *
        refine ordT_end (by rw [HOP.out]; kernel_rfl) (fun W1 hWW hSW => ?_); rw [HOP.out]; simp only [List.drop_succ_cons, List.drop_zero]; have hN := HN.out; clear HOP HNS HPQ HN RD; (try dsimp only at hSW)
        have HN : Hid (∀ (a : Act) (w : World), _ → Q' Exit.normal a w) := Lib.hid hN
        have B1 := Lib.hid (below_bs HACC.out hSW)
        have HZ1 := Lib.hid (HZ.out.past hSW)
        have HN1 := Lib.hid (HN0.out.past hWW)
        clear hN hWW hSW aa d8 HV5 HRG HZ HACC HN0
        go_wp2_with (show wpList _ _ _ ({ dst := none, op := Op.store 25 _ _, type := _, pos := _, after := _, guard := none } :: _) _ _; go_must (refine wp_st (g := gx) (h := x) rfl _ _ rfl (HN1.out) (nul_bd) (HBX.out) rfl rfl ?_); intro w9 hR9 hb9 hz9)
        have B9 := Lib.hid (B1.out.trans (hb9.mono (Nat.le_of_lt HG0.out)))
        have HZ9 := Lib.hid (HZ1.out.below hb9 HG0.out)
        have HR9 := Lib.hid hR9
        have HS9 : Hid (w.heap.size < w9.heap.size) := Lib.hid HZ9.out.lt
        clear hR9 hb9 hz9 HN1 HZ1 B1
        refine HN.out _ _ ?_
        have HBD := HBX
        go_wp2_with (show wpList _ _ _ ({ dst := _, op := Op.load 25 _, type := _, pos := _, after := _, guard := _ } :: _) _ _; go_must (refine wp_ld (by rfl) _ rfl (HR9.out) HBD.out rfl ?_))
        refine (Check_any x w9 HBX.out).mono ?_
        rintro e w10 ⟨rfl, b10⟩
        have HR10 := Lib.hid (HR9.out.past b10)
        have B10 := Lib.hid (below_bs B9.out b10)
        have HZ10 := Lib.hid (HZ9.out.past b10)
        clear b10
        by_cases k : Ok x
        · have HPW : Hid (paV b = x ∧ paE b = 0) := Lib.hid (by rw [HPV.out.1, HPV.out.2, if_pos k, if_pos k]; exact ⟨rfl, rfl⟩)
          rw [hdE_yes k]
          clear k
          go_wp2_with (first | (show wpList _ _ _ ({ dst := _, op := Op.load 25 _, type := _, pos := _, after := _, guard := _ } :: _) _ _; go_must (refine wp_ld (by rfl) _ rfl (HR10.out) HBD.out rfl ?_)) | (show wpList _ _ _ ({ dst := none, op := Op.store 25 _ _, type := _, pos := _, after := _, guard := none } :: _) _ _; go_must (refine wp_st (g := w.heap.size) (h := x) rfl _ _ rfl (HZ10.out) (nul_bd) (HBX.out) rfl rfl ?_); intro w11 hR11 hb11 hz11))
          refine bodyPost_ret (ret_hd (by exact Tryd.results11) _ _ _ (HBX.out) rfl (hR11)) rfl ?_
          exact ⟨by rw [HPW.out.1, HPW.out.2]; rfl, B10.out.trans hb11⟩
        · have HPW : Hid (paV b = nul ∧ paE b = 12) := Lib.hid (by rw [HPV.out.1, HPV.out.2, if_neg k, if_neg k]; exact ⟨rfl, rfl⟩)
          rw [hdE_no k]
          clear k
          go_wp2_with (first | (show wpList _ _ _ ({ dst := none, op := Op.store 25 _ _, type := _, pos := _, after := _, guard := none } :: _) _ _; go_must (refine wp_st (g := w.heap.size) (h := nul) rfl _ _ rfl (HZ10.out) (nul_bd) (nul_bd) rfl rfl ?_); intro w11 hR11 hb11 hz11))
          refine bodyPost_ret (ret_hd (by exact Tryd.results11) _ _ _ (nul_bd) rfl (hR11)) rfl ?_
          exact ⟨by rw [HPW.out.1, HPW.out.2]; rfl, B10.out.trans hb11⟩
  · have HV : Hid (paV b = nul ∧ paE b = 12) := Lib.hid (by
      have : ¬ paB b := fun h => c (by rw [← HL.out]; exact h.1)
      exact ⟨if_neg this, if_neg this⟩)
    have c' : ¬ (n : Int) = 28 := by omega
    clear hT hA hl hd hm hb c
    go_enter Tryd.func11, Tryd.ntmps11
    go_wp2_with (show wpList _ _ _ ({ dst := none, op := Op.store 25 _ _, type := _, pos := _, after := _, guard := none } :: _) _ _; go_must (refine wp_st (g := w.heap.size) (h := nul) rfl _ _ rfl (HZ.out) (nul_bd) (nul_bd) rfl rfl ?_); intro w9 hR9 hb9 hz9)
    refine bodyPost_ret (ret_hd (by exact Tryd.results11) _ _ _ (nul_bd) rfl (hR9)) rfl ?_
    exact ⟨by rw [HV.out.1, HV.out.2]; rfl, B0.out.trans hb9⟩
end Go.Proofs.YteofindkccndjaaDoor.hdW
