/- Digest of both, by walks. -/
import Derived.Test.YteofindkccndjaaDoorHdE
import Derived.Test.YteofindkccndjaaDoorShWH
import Derived.Test.YteofindkccndjaaDoorShL1
namespace Go.Proofs.YteofindkccndjaaDoor.hdP
set_option maxRecDepth 100000
open Go.Proofs.YteofindkccndjaaDoor.shP Go.Proofs.YteofindkccndjaaDoor.shW
def dgE (h : Hd) (r : List Int) : Int := if Ok h then (if (r.length : Int) = h.ra then 0 else 2) else 8
def dgV (h : Hd) (r : List Int) : List Int := if Ok h ∧ (r.length : Int) = h.ra then digest (fr h ++ r) else zd
theorem dg_ok {h : Hd} {r : List Int} (k : Ok h) (e : (r.length : Int) = h.ra) : dgE h r = 0 ∧ dgV h r = digest (fr h ++ r) := ⟨by rw [dgE, if_pos k, if_pos e], if_pos ⟨k, e⟩⟩
theorem dg_len {h : Hd} {r : List Int} (k : Ok h) (e : ¬ (r.length : Int) = h.ra) : dgE h r = 2 ∧ dgV h r = zd := ⟨by rw [dgE, if_pos k, if_neg e], if_neg fun x => e x.2⟩
theorem dg_no {h : Hd} {r : List Int} (k : ¬ Ok h) : dgE h r = 8 ∧ dgV h r = zd := ⟨if_neg k, if_neg fun x => k x.1⟩
theorem digest_bd (b : List Int) : ∀ z ∈ digest b, 0 ≤ z ∧ z ≤ 255 := shL.wbytes_bd _
theorem digest_n (b : List Int) : (digest b).length = 20 := rfl
theorem zd_bd : ∀ z ∈ zd, 0 ≤ z ∧ z ≤ 255 := by intro z hz; rw [(List.mem_replicate.1 hz).2]; omega
theorem dgV_bd (h : Hd) (r : List Int) : (dgV h r).length = 20 ∧ ∀ z ∈ dgV h r, 0 ≤ z ∧ z ≤ 255 := by
  unfold dgV; split
  · exact ⟨rfl, digest_bd _⟩
  · exact ⟨rfl, zd_bd⟩
end Go.Proofs.YteofindkccndjaaDoor.hdP
namespace Go.Proofs.YteofindkccndjaaDoor.hdW
set_option maxRecDepth 100000
open Go.RowKit Go.Proofs.YteofindkccndjaaDoor.base Go.Proofs.YteofindkccndjaaDoor.hdP Go.Proofs.YteofindkccndjaaDoor.shP
set_option linter.unusedVariables false
set_option linter.unusedSimpArgs false
set_option maxRecDepth 100000
theorem sv_one' (s : List Int) : ∀ v ∈ (sv s).toArray.toList, v.oneCell' = true := by
  intro v hv
  obtain ⟨z, _, rfl⟩ := List.mem_map.1 (by simpa [sv] using hv : v ∈ s.map (Value.int .u8)); rfl
theorem wp_s20 {ops : Array Oper} {rest : List Oper} {o : Oper} {a : Act} {w : World} {Q : Exit → Act → World → Prop} {g : Nat} {l0 l : List Int} (hgd : o.guard = none) (p x : Operand) (ho : o.op = .store 23 p x) (k : Lies w g 23 (sv l0)) (e0 : l0.length = 20) (e : l.length = 20)
    (hp : a.eval p = .pointer (some ⟨g, 0, none⟩)) (hx : a.eval x = .agg (sv l).toArray) (H : ∀ w', Lies w' g 23 (sv l) → Below g w w' → w'.heap.size = w.heap.size → wpList Tryd.prog ops Q rest (a.put o.dst undef) w') : wpList Tryd.prog ops Q (o :: rest) a w :=
  wpList_store_arr hgd 23 p x ho g hp (sv l).toArray hx 23 (sv l0).toArray k (by simp [sv, e0, e]) (sv_one' l) (by rw [show (sv l).toArray.size = (sv l).length from rfl]; exact info23 e) fun w' k1 k2 k3 => H w' k1 k2 k3
theorem ret_s20 {fn : Func} {p t : Tmp} {l : List Int} (hr : fn.results = #[.cell p 23, .tmp t]) (tmps : Array Value) (w : World) (g : Nat) (e : l.length = 20) (hp : tmps.getD p undef = .pointer (some ⟨g, 0, none⟩)) (k : Lies w g 23 (sv l)) :
    (results fn tmps).run Tryd.prog w = .ok (.tuple #[.agg (sv l).toArray, tmps.getD t undef]) w :=
  shW.results_cell_tmp hr tmps w g 23 (sv l).toArray (0, 0) _ hp k Tryd.underlying23 rfl (by rw [show (sv l).toArray.size = (sv l).length from rfl]; exact info23 e)
theorem z20_at (w : World) {g : Nat} (hg : w.heap.size = g) : Lies (w.alloc (.cells #[.int .u8 0, .int .u8 0, .int .u8 0, .int .u8 0, .int .u8 0, .int .u8 0, .int .u8 0, .int .u8 0, .int .u8 0, .int .u8 0, .int .u8 0, .int .u8 0, .int .u8 0, .int .u8 0, .int .u8 0, .int .u8 0, .int .u8 0, .int .u8 0, .int .u8 0, .int .u8 0] 23)) g 23 (sv shW.zd) := shW.z20_new w hg
set_option maxHeartbeats 1600000 in
theorem Digest_any (h : Hd) (r : List Int) (A : Option Addr) (n d : Nat) (w : World) (hT : TabP w) (hS : shW.Tab w) (hb : Bd h) (hA : Has .u8 w A r) (hl : r.length = n) (hd : n ≤ d) (hm : d ≤ 9223372036854775807) (hr : ∀ z ∈ r, 0 ≤ z ∧ z ≤ 255) :
    Calls Tryd.prog 15 #[.agg (hv h), .slice A n d] w fun e w' => e = .returned (.tuple #[.agg (sv (dgV h r)).toArray, .int .i64 (dgE h r)]) ∧ Below w.heap.size w w' := by
  have HBD := Lib.hid hb
  have HT := Lib.hid hT
  have HS := Lib.hid hS
  have HA := Lib.hid hA
  have HL := Lib.hid hl
  have HD := Lib.hid (And.intro hd hm)
  have HR := Lib.hid hr
  have n9 : (n : Int) ≤ 9223372036854775807 := by omega
  have A0 := hdAt_new w h
  have S0 : (w.alloc (.cells (hv h) 25)).heap.size = w.heap.size + 1 := by simp
  have Z0 := Lib.hid (z20_at (w.alloc (.cells (hv h) 25)) S0)
  have G0 := (Below.refl w.heap.size w).alloc (Nat.le_refl _) (.cells (hv h) 25)
  have G1 := (Below.refl (w.alloc (.cells (hv h) 25)).heap.size (w.alloc (.cells (hv h) 25))).alloc (Nat.le_refl _) (.cells #[.int .u8 0, .int .u8 0, .int .u8 0, .int .u8 0, .int .u8 0, .int .u8 0, .int .u8 0, .int .u8 0, .int .u8 0, .int .u8 0, .int .u8 0, .int .u8 0, .int .u8 0, .int .u8 0, .int .u8 0, .int .u8 0, .int .u8 0, .int .u8 0, .int .u8 0, .int .u8 0] 23)
  have HA0 := Lib.hid (A0.past G1)
  have B0 := Lib.hid (below_bs G0 G1)
  clear hT hS hb hA hl hd hm hr A0 G0 G1 S0
  go_enter Tryd.func15, Tryd.ntmps15
  go_upto_region 1 with fail
  generalize ((w.alloc (.cells (hv h) 25)).alloc (.cells #[.int .u8 0, .int .u8 0, .int .u8 0, .int .u8 0, .int .u8 0, .int .u8 0, .int .u8 0, .int .u8 0, .int .u8 0, .int .u8 0, .int .u8 0, .int .u8 0, .int .u8 0, .int .u8 0, .int .u8 0, .int .u8 0, .int .u8 0, .int .u8 0, .int .u8 0, .int .u8 0] 23)) = w0 at *
  have HGS : Hid (w.heap.size ≤ w.heap.size + 1) := Lib.hid (Nat.le_succ _)
  generalize w.heap.size + 1 = gs at *
  go_wp2_with (show wpList _ _ _ ({ dst := _, op := Op.load 25 _, type := _, pos := _, after := _, guard := _ } :: _) _ _; go_must (refine wp_ld (by rfl) _ rfl (HA0.out) HBD.out rfl ?_))
  refine (Check_any h w0 HBD.out).mono ?_
  rintro e w1 ⟨rfl, b1⟩
  have B1 := Lib.hid (below_bs B0.out b1)
  have HA1 := Lib.hid (HA0.out.past b1)
  have Z1 := Lib.hid (Lies.past Z0.out b1)
  clear b1 B0 HA0 Z0
  by_cases k : Ok h
  · rw [hdE_yes k]
    have HK := Lib.hid k
    clear k
    have a3 := HA1.out.c3
    by_cases e : (n : Int) = h.ra
    · have HDG := Lib.hid (dg_ok (r := r) HK.out (by rw [HL.out]; exact e))
      have HN : Hid (n ≤ 4096) := Lib.hid (by have := HK.out; unfold Ok at this; omega)
      rw [← e] at a3
      clear e
      go_wp2_with (show wpList _ _ _ ({ dst := _, op := Op.load 25 _, type := _, pos := _, after := _, guard := _ } :: _) _ _; go_must (refine wp_ld (by rfl) _ rfl (HA1.out) HBD.out rfl ?_))
      refine (front_ok h w1 (HT.out.past B1.out) HK.out).mono ?_
      rintro e w2 ⟨g, rfl, o2, b2⟩
      have O2 := Lib.hid o2.has
      have B2 := Lib.hid (below_bs B1.out b2)
      have Z2 := Lib.hid (Lies.past Z1.out b2)
      clear o2 b2 B1 HA1 Z1 a3
      go_wp2_with fail
      have GL := (Below.refl w2.heap.size w2).alloc (Nat.le_refl _) (.cells #[.slice (some ⟨g, 0, none⟩) 8 8, .slice A n d] 26)
      have HLL := shL.hasL_lit (w := w2) (rs := [⟨some ⟨g, 0, none⟩, 8, 8, fr h⟩, ⟨A, n, d, r⟩]) 26 (g := w2.heap.size) rfl (by
        intro q hq
        simp only [List.mem_cons, List.not_mem_nil, or_false] at hq
        rcases hq with rfl | rfl
        · exact ⟨O2.out, rfl, Nat.le_refl _, (by decide : 8 ≤ 9223372036854775807), fr_bd HK.out⟩
        · exact ⟨HA.out.below B2.out (Nat.le_refl _), HL.out, HD.out.1, HD.out.2, HR.out⟩)
      have HPI : Hid (shW.piE [⟨some ⟨g, 0, none⟩, 8, 8, fr h⟩, ⟨A, n, d, r⟩] = 0 ∧ shW.piV [⟨some ⟨g, 0, none⟩, 8, 8, fr h⟩, ⟨A, n, d, r⟩] = digest (fr h ++ r)) := Lib.hid (by
        have e : shW.wholeL [⟨some ⟨g, 0, none⟩, 8, 8, fr h⟩, ⟨A, n, d, r⟩] = fr h ++ r := by simp [shW.wholeL]
        have := shW.pi_yes (rs := [⟨some ⟨g, 0, none⟩, 8, 8, fr h⟩, ⟨A, n, d, r⟩]) (by simp) (by rw [e, List.length_append, HL.out]; have := HN.out; simp [fr]; omega)
        rw [e] at this; exact this)
      refine (shW.Pieces_any [⟨some ⟨g, 0, none⟩, 8, 8, fr h⟩, ⟨A, n, d, r⟩] _ 2 2 _ (HS.out.below (below_bs B2.out GL) (Nat.le_refl _)) HLL rfl (by omega)).mono ?_
      rintro e w3 ⟨rfl, b3⟩
      rw [HPI.out.1, HPI.out.2]
      have G3 := below_bs GL b3
      have B3 := Lib.hid (below_bs B2.out G3)
      have Z3 := Lib.hid (Lies.past Z2.out G3)
      have HDL := Lib.hid (digest_n (fr h ++ r))
      clear GL HLL b3 G3 B2 Z2 O2 HPI
      generalize digest (fr h ++ r) = dl at *
      go_wp2_with (show wpList _ _ _ ({ dst := none, op := Op.store 23 _ _, type := _, pos := _, after := _, guard := none } :: _) _ _; go_must (refine wp_s20 (g := gs) (l := dl) rfl _ _ rfl (Z3.out) rfl (HDL.out) rfl rfl ?_); intro w9 hR9 hb9 hz9)
      refine bodyPost_ret (ret_s20 (by exact Tryd.results15) _ _ _ (HDL.out) rfl (hR9)) rfl ?_
      exact ⟨by rw [HDG.out.1, HDG.out.2]; rfl, B3.out.trans (hb9.mono HGS.out)⟩
    · have HDG := Lib.hid (dg_len (r := r) HK.out (by rw [HL.out]; exact e))
      have e' : ((n : Int) == h.ra) = false := by simpa using e
      go_wp2_with (show wpList _ _ _ ({ dst := none, op := Op.store 23 _ _, type := _, pos := _, after := _, guard := none } :: _) _ _; go_must (refine wp_s20 (g := gs) (l := shW.zd) rfl _ _ rfl (Z1.out) rfl (rfl) rfl rfl ?_); intro w9 hR9 hb9 hz9)
      refine bodyPost_ret (ret_s20 (by exact Tryd.results15) _ _ _ (rfl) rfl (hR9)) rfl ?_
      exact ⟨by rw [HDG.out.1, HDG.out.2]; rfl, B1.out.trans (hb9.mono HGS.out)⟩
  · rw [hdE_no k]
    have HDG := Lib.hid (dg_no (r := r) k)
    clear k
    go_wp2_with (show wpList _ _ _ ({ dst := none, op := Op.store 23 _ _, type := _, pos := _, after := _, guard := none } :: _) _ _; go_must (refine wp_s20 (g := gs) (l := shW.zd) rfl _ _ rfl (Z1.out) rfl (rfl) rfl rfl ?_); intro w9 hR9 hb9 hz9)
    refine bodyPost_ret (ret_s20 (by exact Tryd.results15) _ _ _ (rfl) rfl (hR9)) rfl ?_
    exact ⟨by rw [HDG.out.1, HDG.out.2]; rfl, B1.out.trans (hb9.mono HGS.out)⟩
set_option maxHeartbeats 1600000 in
theorem rOf_hd (h : Hd) (r : List Int) (A : Option Addr) (n d : Nat) (w : World) (hb : Bd h) (k : Ok h) (hA : Has .u8 w A r) (hl : r.length = n) (hn : n ≤ 20000) (hr : ∀ z ∈ r, 0 ≤ z ∧ z ≤ 255) :
    Calls Tryd.prog 27 #[.agg (hv h), .slice A n d] w fun e w' => e = .returned (.agg (sv (digest (fr h ++ r))).toArray) ∧ Below w.heap.size w w' := by
  have HBD := Lib.hid hb
  have HK := Lib.hid k
  have HA := Lib.hid hA
  have HL := Lib.hid hl
  have HN := Lib.hid hn
  have HR := Lib.hid hr
  have A0 := hdAt_new w h
  have S0 : (w.alloc (.cells (hv h) 25)).heap.size = w.heap.size + 1 := by simp
  have Z0 := Lib.hid (z20_at (w.alloc (.cells (hv h) 25)) S0)
  have G0 := (Below.refl w.heap.size w).alloc (Nat.le_refl _) (.cells (hv h) 25)
  have G1 := (Below.refl (w.alloc (.cells (hv h) 25)).heap.size (w.alloc (.cells (hv h) 25))).alloc (Nat.le_refl _) (.cells #[.int .u8 0, .int .u8 0, .int .u8 0, .int .u8 0, .int .u8 0, .int .u8 0, .int .u8 0, .int .u8 0, .int .u8 0, .int .u8 0, .int .u8 0, .int .u8 0, .int .u8 0, .int .u8 0, .int .u8 0, .int .u8 0, .int .u8 0, .int .u8 0, .int .u8 0, .int .u8 0] 23)
  have HA0 := Lib.hid (A0.past G1)
  have B0 := Lib.hid (below_bs G0 G1)
  clear hb k hA hl hn hr A0 G0 G1 S0
  go_enter Tryd.func27, Tryd.ntmps27
  go_upto_region 1 with fail
  generalize ((w.alloc (.cells (hv h) 25)).alloc (.cells #[.int .u8 0, .int .u8 0, .int .u8 0, .int .u8 0, .int .u8 0, .int .u8 0, .int .u8 0, .int .u8 0, .int .u8 0, .int .u8 0, .int .u8 0, .int .u8 0, .int .u8 0, .int .u8 0, .int .u8 0, .int .u8 0, .int .u8 0, .int .u8 0, .int .u8 0, .int .u8 0] 23)) = w0 at *
  have HGS : Hid (w.heap.size ≤ w.heap.size + 1) := Lib.hid (Nat.le_succ _)
  generalize w.heap.size + 1 = gs at *
  go_wp2_with (show wpList _ _ _ ({ dst := _, op := Op.load 25 _, type := _, pos := _, after := _, guard := _ } :: _) _ _; go_must (refine wp_ld (by rfl) _ rfl (HA0.out) HBD.out rfl ?_))
  refine (rFront h w0 HK.out).mono ?_
  rintro e w1 ⟨C, c, rfl, o1, b1⟩
  have O1 := Lib.hid o1
  have B1 := Lib.hid (below_bs B0.out b1)
  have Z1 := Lib.hid (Lies.past Z0.out b1)
  have HLT : Hid (gs < w0.heap.size) := Lib.hid (Z0.out.lt)
  have HS1 : Hid (w0.heap.size ≤ w1.heap.size) := Lib.hid b1.size
  have HA1 := Lib.hid (HA.out.below (below_bs B0.out b1) (Nat.le_refl _))
  have HTOT : Hid ((fr h ++ r).length = 8 + n) := Lib.hid (by rw [List.length_append, HL.out]; rfl)
  have HFB : Hid (∀ z ∈ fr h ++ r, 0 ≤ z ∧ z ≤ 255) := Lib.hid (fun z hz => by
    rcases List.mem_append.1 hz with x | x
    · exact fr_bd HK.out z x
    · exact HR.out z x)
  clear o1 b1 Z0 HA0 B0
  go_wp2_with (at_builtin; go_loud (refine app8 rfl _ _ rfl w0.heap.size _ (fr h) rfl O1.out _ _ _ _ rfl HL.out HA1.out (8 + n) (by simp [fr]) (by have := HN.out; omega) HS1.out ?_; intro A4 c4 w4 ho hk hb; have O4 := Lib.hid ho.has; have G4 := Lib.hid hb; clear ho hk hb))
  have B4 := Lib.hid (B1.out.trans (G4.out.mono (by have := HLT.out; have := HGS.out; omega)))
  have Z4 := Lib.hid (Lies.below Z1.out G4.out HLT.out)
  clear G4 B1 Z1 O1
  refine (shW.rOf (fr h ++ r) A4 (8 + n) c4 w4 O4.out HTOT.out (by have := HN.out; omega) HFB.out).mono ?_
  rintro e w5 ⟨rfl, b5⟩
  have B5 := Lib.hid (below_bs B4.out b5)
  have Z5 := Lib.hid (Lies.past Z4.out b5)
  have HDL := Lib.hid (digest_n (fr h ++ r))
  clear b5 B4 Z4
  generalize hdl : digest (fr h ++ r) = dl at *
  have HDE := Lib.hid hdl
  clear hdl
  go_wp2_with (show wpList _ _ _ ({ dst := none, op := Op.store 23 _ _, type := _, pos := _, after := _, guard := none } :: _) _ _; go_must (refine wp_s20 (g := gs) (l := dl) rfl _ _ rfl (Z5.out) rfl (HDL.out) rfl rfl ?_); intro w9 hR9 hb9 hz9)
  refine bodyPost_ret (results_cell_row (by exact Tryd.results27) _ _ gs 23 (sv dl).toArray (0, 0) _ rfl hR9 Tryd.underlying23 rfl (by rw [show (sv dl).toArray.size = (sv dl).length from rfl]; exact info23 HDL.out)) rfl ⟨by rw [HDE.out], B5.out.trans (hb9.mono HGS.out)⟩
set_option maxHeartbeats 1600000 in
theorem rDigest (h : Hd) (r : List Int) (A : Option Addr) (n d : Nat) (w : World) (hb : Bd h) (hA : Has .u8 w A r) (hl : r.length = n) (hd : n ≤ d) (hm : d ≤ 9223372036854775807) (hr : ∀ z ∈ r, 0 ≤ z ∧ z ≤ 255) :
    Calls Tryd.prog 16 #[.agg (hv h), .slice A n d] w fun e w' => e = .returned (.tuple #[.agg (sv (dgV h r)).toArray, .int .i64 (dgE h r)]) ∧ Below w.heap.size w w' := by
  have HBD := Lib.hid hb
  have HA := Lib.hid hA
  have HL := Lib.hid hl
  have HR := Lib.hid hr
  have n9 : (n : Int) ≤ 9223372036854775807 := by omega
  have A0 := hdAt_new w h
  have S0 : (w.alloc (.cells (hv h) 25)).heap.size = w.heap.size + 1 := by simp
  have Z0 := Lib.hid (z20_at (w.alloc (.cells (hv h) 25)) S0)
  have G0 := (Below.refl w.heap.size w).alloc (Nat.le_refl _) (.cells (hv h) 25)
  have G1 := (Below.refl (w.alloc (.cells (hv h) 25)).heap.size (w.alloc (.cells (hv h) 25))).alloc (Nat.le_refl _) (.cells #[.int .u8 0, .int .u8 0, .int .u8 0, .int .u8 0, .int .u8 0, .int .u8 0, .int .u8 0, .int .u8 0, .int .u8 0, .int .u8 0, .int .u8 0, .int .u8 0, .int .u8 0, .int .u8 0, .int .u8 0, .int .u8 0, .int .u8 0, .int .u8 0, .int .u8 0, .int .u8 0] 23)
  have HA0 := Lib.hid (A0.past G1)
  have B0 := Lib.hid (below_bs G0 G1)
  clear hb hA hl hd hm hr A0 G0 G1 S0
  go_enter Tryd.func16, Tryd.ntmps16
  go_upto_region 1 with fail
  generalize ((w.alloc (.cells (hv h) 25)).alloc (.cells #[.int .u8 0, .int .u8 0, .int .u8 0, .int .u8 0, .int .u8 0, .int .u8 0, .int .u8 0, .int .u8 0, .int .u8 0, .int .u8 0, .int .u8 0, .int .u8 0, .int .u8 0, .int .u8 0, .int .u8 0, .int .u8 0, .int .u8 0, .int .u8 0, .int .u8 0, .int .u8 0] 23)) = w0 at *
  have HGS : Hid (w.heap.size ≤ w.heap.size + 1) := Lib.hid (Nat.le_succ _)
  generalize w.heap.size + 1 = gs at *
  go_wp2_with (show wpList _ _ _ ({ dst := _, op := Op.load 25 _, type := _, pos := _, after := _, guard := _ } :: _) _ _; go_must (refine wp_ld (by rfl) _ rfl (HA0.out) HBD.out rfl ?_))
  refine (rCheck h w0 HBD.out).mono ?_
  rintro e w1 ⟨rfl, b1⟩
  have B1 := Lib.hid (below_bs B0.out b1)
  have HA1 := Lib.hid (HA0.out.past b1)
  have Z1 := Lib.hid (Lies.past Z0.out b1)
  clear b1 B0 HA0 Z0
  by_cases k : Ok h
  · rw [hdE_yes k]
    have HK := Lib.hid k
    clear k
    have a3 := HA1.out.c3
    by_cases e : (n : Int) = h.ra
    · have HDG := Lib.hid (dg_ok (r := r) HK.out (by rw [HL.out]; exact e))
      have HN : Hid (n ≤ 4096) := Lib.hid (by have := HK.out; unfold Ok at this; omega)
      rw [← e] at a3
      clear e
      go_wp2_with (show wpList _ _ _ ({ dst := _, op := Op.load 25 _, type := _, pos := _, after := _, guard := _ } :: _) _ _; go_must (refine wp_ld (by rfl) _ rfl (HA1.out) HBD.out rfl ?_))
      refine (rOf_hd h r A n d w1 HBD.out HK.out (HA.out.below B1.out (Nat.le_refl _)) HL.out (by have := HN.out; omega) HR.out).mono ?_
      rintro e w3 ⟨rfl, b3⟩
      have B3 := Lib.hid (below_bs B1.out b3)
      have Z3 := Lib.hid (Lies.past Z1.out b3)
      have HDL := Lib.hid (digest_n (fr h ++ r))
      clear b3 B1 Z1 HA1 a3
      generalize digest (fr h ++ r) = dl at *
      go_wp2_with (show wpList _ _ _ ({ dst := none, op := Op.store 23 _ _, type := _, pos := _, after := _, guard := none } :: _) _ _; go_must (refine wp_s20 (g := gs) (l := dl) rfl _ _ rfl (Z3.out) rfl (HDL.out) rfl rfl ?_); intro w9 hR9 hb9 hz9)
      refine bodyPost_ret (ret_s20 (by exact Tryd.results16) _ _ _ (HDL.out) rfl (hR9)) rfl ?_
      exact ⟨by rw [HDG.out.1, HDG.out.2]; rfl, B3.out.trans (hb9.mono HGS.out)⟩
    · have HDG := Lib.hid (dg_len (r := r) HK.out (by rw [HL.out]; exact e))
      have e' : ((n : Int) == h.ra) = false := by simpa using e
      go_wp2_with (show wpList _ _ _ ({ dst := none, op := Op.store 23 _ _, type := _, pos := _, after := _, guard := none } :: _) _ _; go_must (refine wp_s20 (g := gs) (l := shW.zd) rfl _ _ rfl (Z1.out) rfl (rfl) rfl rfl ?_); intro w9 hR9 hb9 hz9)
      refine bodyPost_ret (ret_s20 (by exact Tryd.results16) _ _ _ (rfl) rfl (hR9)) rfl ?_
      exact ⟨by rw [HDG.out.1, HDG.out.2]; rfl, B1.out.trans (hb9.mono HGS.out)⟩
  · rw [hdE_no k]
    have HDG := Lib.hid (dg_no (r := r) k)
    have HNO := Lib.hid (hdE_no k)
    clear k
    go_wp2_with (show wpList _ _ _ ({ dst := _, op := Op.load 25 _, type := _, pos := _, after := _, guard := _ } :: _) _ _; go_must (refine wp_ld (by rfl) _ rfl (HA1.out) HBD.out rfl ?_))
    refine (rCheck h w1 HBD.out).mono ?_
    rintro e w2 ⟨rfl, b2⟩
    rw [HNO.out]
    have B2 := Lib.hid (below_bs B1.out b2)
    have Z2 := Lib.hid (Lies.past Z1.out b2)
    clear b2 B1 Z1 HA1
    go_wp2_with (show wpList _ _ _ ({ dst := none, op := Op.store 23 _ _, type := _, pos := _, after := _, guard := none } :: _) _ _; go_must (refine wp_s20 (g := gs) (l := shW.zd) rfl _ _ rfl (Z2.out) rfl (rfl) rfl rfl ?_); intro w9 hR9 hb9 hz9)
    refine bodyPost_ret (ret_s20 (by exact Tryd.results16) _ _ _ (rfl) rfl (hR9)) rfl ?_
    exact ⟨by rw [HDG.out.1, HDG.out.2]; rfl, B2.out.trans (hb9.mono HGS.out)⟩
end Go.Proofs.YteofindkccndjaaDoor.hdW
namespace Go.Proofs.YteofindkccndjaaDoor.hdP
set_option maxRecDepth 100000
def slV (h : Hd) (r : List Int) : Hd := if dgE h r = 0 then ⟨h.mo, h.me, h.of, h.ra, h.le, dgV h r⟩ else nul
theorem sl_yes {h : Hd} {r : List Int} (e : dgE h r = 0) : slV h r = ⟨h.mo, h.me, h.of, h.ra, h.le, dgV h r⟩ := if_pos e
theorem sl_no {h : Hd} {r : List Int} (e : ¬ dgE h r = 0) : slV h r = nul := if_neg e
theorem dgE_bd (h : Hd) (r : List Int) : 0 ≤ dgE h r ∧ dgE h r ≤ 8 := by unfold dgE; split <;> (try split) <;> omega
theorem sl_bd {h : Hd} {r : List Int} (hb : Bd h) : Bd (⟨h.mo, h.me, h.of, h.ra, h.le, dgV h r⟩ : Hd) := ⟨hb.mo, hb.me, hb.of, hb.ra, hb.le, (dgV_bd h r).1, (dgV_bd h r).2⟩
theorem slV_bd {h : Hd} {r : List Int} (hb : Bd h) : Bd (slV h r) := by
  unfold slV; split
  · exact sl_bd hb
  · exact nul_bd
def rgB (h : Hd) (r : List Int) : Bool := decide (Ok h ∧ (r.length : Int) = h.ra ∧ dgV h r = h.s)
theorem rg_no {h : Hd} {r : List Int} (k : ¬ Ok h) : rgB h r = false := decide_eq_false fun x => k x.1
theorem rg_len {h : Hd} {r : List Int} (k : ¬ (r.length : Int) = h.ra) : rgB h r = false := decide_eq_false fun x => k x.2.1
theorem rg_ok {h : Hd} {r : List Int} (k : Ok h) (e : (r.length : Int) = h.ra) : rgB h r = decide (dgV h r = h.s) := by
  unfold rgB
  by_cases c : dgV h r = h.s
  · rw [decide_eq_true c, decide_eq_true ⟨k, e, c⟩]
  · rw [decide_eq_false c, decide_eq_false (fun x => c x.2.2)]
end Go.Proofs.YteofindkccndjaaDoor.hdP
namespace Go.Proofs.YteofindkccndjaaDoor.hdW
set_option maxRecDepth 100000
open Go.RowKit Go.Proofs.YteofindkccndjaaDoor.base Go.Proofs.YteofindkccndjaaDoor.hdP Go.Proofs.YteofindkccndjaaDoor.shP
set_option linter.unusedVariables false
set_option linter.unusedSimpArgs false
set_option maxRecDepth 100000
theorem wp_l20 {ops : Array Oper} {rest : List Oper} {o : Oper} {a : Act} {w : World} {Q : Exit → Act → World → Prop} {g : Nat} {l : List Int} (hgd : o.guard = none) (x : Operand) (ho : o.op = .load 23 x) (k : Lies w g 23 (sv l)) (e : l.length = 20)
    (hx : a.eval x = .pointer (some ⟨g, 0, none⟩)) (H : wpList Tryd.prog ops Q rest (a.put o.dst (.agg (sv l).toArray)) w) : wpList Tryd.prog ops Q (o :: rest) a w :=
  wpList_load_row hgd 23 x ho g hx 23 (sv l).toArray (0, 0) _ k Tryd.underlying23 rfl (by rw [show (sv l).toArray.size = (sv l).length from rfl]; exact info23 e) H
theorem sv_all (s : List Int) : (sv s).toArray.all (·.oneCell') = true := all_oneCell_toArray fun v hv => by
  obtain ⟨z, _, rfl⟩ := List.mem_map.1 hv; rfl
theorem there_sum {w : World} {g : Nat} {h : Hd} (k : HdAt w g h) (hb : Bd h) : w.there g 5 20 := by
  intro i hi
  refine ⟨?_, Lies.free k (5 + i)⟩
  rw [Lies.cell k (5 + i), List.getElem?_eq_getElem (by simp [hl, sv, hb.n]; omega)]
  rfl
theorem cells_lie (g : Nat) (t : TypeId) : ∀ (vs : List Value) (o : Nat) (w : World) (cur : List Value), Lies w g t cur → o + vs.length ≤ cur.length → Lies (w.setCells g o vs) g t (cur.take o ++ vs ++ cur.drop (o + vs.length))
  | [], o, w, cur, h, _ => by simpa [World.setCells] using h
  | v :: r, o, w, cur, h, hl => by
    simp only [List.length_cons] at hl
    have := cells_lie g t r (o + 1) _ _ (h.set o v) (by simp; omega)
    rw [World.setCells]
    rw [show (cur.set o v).take (o + 1) ++ r ++ (cur.set o v).drop (o + 1 + r.length) = cur.take o ++ v :: r ++ cur.drop (o + (r.length + 1)) by
      rw [List.take_set, List.drop_set, if_pos (by omega), show o + 1 + r.length = o + (r.length + 1) by omega, base.take_snoc v cur o (by omega), List.set_append_right _ _ (by simp; omega)]
      have : o - (List.take o cur).length = 0 := by simp; omega
      rw [this]; simp] at this
    exact this
theorem lies_cells {g g' : Nat} {t : TypeId} {cs : List Value} (h : g' ≠ g) : ∀ (vs : List Value) (o : Nat) {w : World}, Lies w g t cs → Lies (w.setCells g' o vs) g t cs
  | [], _, _, k => k
  | v :: r, o, w, k => by
    rw [World.setCells]
    exact lies_cells h r (o + 1) (Lies.other k (p := ⟨g', o, none⟩) h v)
theorem set_sum {w : World} {g : Nat} {b : Hd} {l : List Int} (k : HdAt w g b) (hb : Bd b) (e : l.length = 20) : HdAt (w.setCells g 5 (sv l)) g ⟨b.mo, b.me, b.of, b.ra, b.le, l⟩ := by
  have := cells_lie g 25 (sv l) 5 w (hl b) k (by simp [hl, sv, hb.n, e])
  rw [show (hl b).take 5 ++ sv l ++ (hl b).drop (5 + (sv l).length) = hl ⟨b.mo, b.me, b.of, b.ra, b.le, l⟩ by
    have e1 : (sv l).length = 20 := by simp [sv, e]
    have e2 : (hl b).drop (5 + 20) = [] := List.drop_eq_nil_of_le (by simp [hl, sv, hb.n])
    rw [e1, e2, List.append_nil]; rfl] at this
  exact this
set_option maxHeartbeats 1600000 in
theorem Seal_any (h : Hd) (r : List Int) (A : Option Addr) (n d : Nat) (w : World) (hT : TabP w) (hS : shW.Tab w) (hb : Bd h) (hA : Has .u8 w A r) (hl : r.length = n) (hd : n ≤ d) (hm : d ≤ 9223372036854775807) (hr : ∀ z ∈ r, 0 ≤ z ∧ z ≤ 255) :
    Calls Tryd.prog 17 #[.agg (hv h), .slice A n d] w fun e w' => e = .returned (.tuple #[.agg (hv (slV h r)), .int .i64 (dgE h r)]) ∧ Below w.heap.size w w' := by
  have HT := Lib.hid hT
  have HS := Lib.hid hS
  have HBD := Lib.hid hb
  have HA := Lib.hid hA
  have HL := Lib.hid hl
  have HD := Lib.hid (And.intro hd hm)
  have HR := Lib.hid hr
  have zv := zv_nul
  have bn := bld_nul
  have HBR := Lib.hid (dgV_bd h r)
  have HEB := Lib.hid (dgE_bd h r)
  have A0 := hdAt_new w h
  have S0 : (w.alloc (.cells (hv h) 25)).heap.size = w.heap.size + 1 := by simp
  have N0 := hdAt_new (w.alloc (.cells (hv h) 25)) nul
  rw [S0] at N0
  have G0 := (Below.refl w.heap.size w).alloc (Nat.le_refl _) (.cells (hv h) 25)
  have G1 := (Below.refl (w.alloc (.cells (hv h) 25)).heap.size (w.alloc (.cells (hv h) 25))).alloc (Nat.le_refl _) (.cells (hv nul) 25)
  have HA0 := Lib.hid (A0.past G1)
  have HN0 := Lib.hid N0
  have B0 := Lib.hid (below_bs G0 G1)
  clear hb hA hl hd hm hr A0 N0 G0 G1 S0 hT hS
  go_enter Tryd.func17, Tryd.ntmps17
  go_upto_region 1 with fail
  generalize ((w.alloc (.cells (hv h) 25)).alloc (.cells (hv nul) 25)) = w0 at *
  have HGB : Hid (w.heap.size ≤ w.heap.size + 1) := Lib.hid (Nat.le_succ _)
  have HNE : Hid (w.heap.size ≠ w.heap.size + 1) := Lib.hid (by omega)
  generalize w.heap.size + 1 = gb at *
  go_wp2_with (show wpList _ _ _ ({ dst := _, op := Op.load 25 _, type := _, pos := _, after := _, guard := _ } :: _) _ _; go_must (refine wp_ld (by rfl) _ rfl (HA0.out) HBD.out rfl ?_))
  refine (Digest_any h r A n d w0 (HT.out.past B0.out) (HS.out.below B0.out (Nat.le_refl _)) HBD.out (HA.out.below B0.out (Nat.le_refl _)) HL.out HD.out.1 HD.out.2 HR.out).mono ?_
  rintro e w1 ⟨rfl, b1⟩
  have B1 := Lib.hid (below_bs B0.out b1)
  have HA1 := Lib.hid (HA0.out.past b1)
  have HN1 := Lib.hid (HN0.out.past b1)
  have HGS := Lib.hid HA1.out.lt
  have HGN := Lib.hid HN1.out.lt
  clear b1 B0 HA0 HN0
  have HSY : Hid (dgE h r = 0 → slV h r = ⟨h.mo, h.me, h.of, h.ra, h.le, dgV h r⟩) := Lib.hid sl_yes
  have HSN : Hid (¬ dgE h r = 0 → slV h r = nul) := Lib.hid sl_no
  obtain ⟨de, hde⟩ : ∃ v, dgE h r = v := ⟨_, rfl⟩
  obtain ⟨dv, hdv⟩ : ∃ v, dgV h r = v := ⟨_, rfl⟩
  rw [hde] at HSY HSN HEB
  rw [hdv] at HSY HBR
  rw [hde, hdv]
  have HDE := Lib.hid hde
  clear hde hdv
  have e9 := HEB.out
  by_cases c : de = 0
  · subst c
    clear HSN
    have HX : Hid (Bd (⟨h.mo, h.me, h.of, h.ra, h.le, dv⟩ : Hd)) := Lib.hid ⟨HBD.out.mo, HBD.out.me, HBD.out.of, HBD.out.ra, HBD.out.le, HBR.out.1, HBR.out.2⟩
    go_wp2_with (first | ((show wpList _ _ _ ({ dst := none, op := Op.store 23 (.tmp 6) _, type := _, pos := _, after := _, guard := none } :: _) _ _; go_must (refine wp_s20 (g := w1.heap.size) (l := dv) rfl _ _ rfl (z20_at w1 rfl) rfl (HBR.out.1) rfl rfl ?_); intro w2 hR2 hb2 hz2); have HR2 := Lib.hid hR2; have G2 : Below w1.heap.size w1 w2 := (((Below.refl w1.heap.size w1).alloc (Nat.le_refl _) _).trans hb2); have HA2 := Lib.hid (HA1.out.past G2); have HN2 := Lib.hid (HN1.out.past G2); have B2 := Lib.hid (below_bs B1.out G2); clear hR2 hb2 hz2 G2) | (show wpList _ _ _ ({ dst := _, op := Op.load 23 _, type := _, pos := _, after := _, guard := none } :: _) _ _; go_must (refine wp_l20 rfl _ rfl (HR2.out) (HBR.out.1) rfl ?_)) | ((show wpList _ _ _ ({ dst := none, op := Op.store 23 _ _, type := _, pos := _, after := _, guard := none } :: _) _ _; go_must (refine wpList_store_mid (P := Tryd.prog) rfl 23 _ _ rfl _ 5 (sv dv).toArray rfl rfl (by rw [show (sv dv).toArray.size = 20 by simp [sv, HBR.out.1]]; exact there_sum HA2.out HBD.out) (by rw [show (sv dv).toArray.size = (sv dv).length from rfl]; exact info23 HBR.out.1) (sv_all _) ?_)); have HA3 := Lib.hid (set_sum HA2.out HBD.out HBR.out.1); have HN3 := Lib.hid (lies_cells HNE.out (sv dv) 5 HN2.out); have B3 := Lib.hid (below_cells w.heap.size (Nat.le_refl _) (sv dv) 5 B2.out)) | (show wpList _ _ _ ({ dst := _, op := Op.load 25 _, type := _, pos := _, after := _, guard := _ } :: _) _ _; go_must (refine wp_ld (by rfl) _ rfl (HA3.out) (HX.out) rfl ?_)) | (show wpList _ _ _ ({ dst := none, op := Op.store 25 _ _, type := _, pos := _, after := _, guard := none } :: _) _ _; go_must (refine wp_st (g := gb) (h := ⟨h.mo, h.me, h.of, h.ra, h.le, dv⟩) rfl _ _ rfl (HN3.out) (nul_bd) (HX.out) rfl rfl ?_); intro w9 hR9 hb9 hz9))
    refine bodyPost_ret (ret_hd (by exact Tryd.results17) _ _ _ (HX.out) rfl (hR9)) rfl ?_
    exact ⟨by rw [HSY.out (by trivial), HDE.out]; rfl, B3.out.trans (hb9.mono HGB.out)⟩
  · have e' : (de == 0) = false := by simpa using c
    have HSW := Lib.hid (HSN.out c)
    clear HSY HSN
    go_wp2_with (first | ((show wpList _ _ _ ({ dst := none, op := Op.store 23 (.tmp 6) _, type := _, pos := _, after := _, guard := none } :: _) _ _; go_must (refine wp_s20 (g := w1.heap.size) (l := dv) rfl _ _ rfl (z20_at w1 rfl) rfl (HBR.out.1) rfl rfl ?_); intro w2 hR2 hb2 hz2); have G2 : Below w1.heap.size w1 w2 := (((Below.refl w1.heap.size w1).alloc (Nat.le_refl _) _).trans hb2); have HN2 := Lib.hid (HN1.out.past G2); have B2 := Lib.hid (below_bs B1.out G2); clear hR2 hb2 hz2 G2) | (show wpList _ _ _ ({ dst := none, op := Op.store 25 _ _, type := _, pos := _, after := _, guard := none } :: _) _ _; go_must (refine wp_st (g := gb) (h := nul) rfl _ _ rfl (HN2.out) (nul_bd) (nul_bd) rfl rfl ?_); intro w9 hR9 hb9 hz9))
    refine bodyPost_ret (ret_hd (by exact Tryd.results17) _ _ _ (nul_bd) rfl (hR9)) rfl ?_
    exact ⟨by rw [HSW.out, HDE.out]; rfl, B2.out.trans (hb9.mono HGB.out)⟩
end Go.Proofs.YteofindkccndjaaDoor.hdW
namespace Go.Proofs.YteofindkccndjaaDoor.hdW
set_option maxRecDepth 100000
open Go.RowKit Go.Proofs.YteofindkccndjaaDoor.base Go.Proofs.YteofindkccndjaaDoor.hdP Go.Proofs.YteofindkccndjaaDoor.shP
set_option linter.unusedVariables false
set_option linter.unusedSimpArgs false
set_option maxRecDepth 100000
set_option maxHeartbeats 1600000 in
theorem rSeal (h : Hd) (r : List Int) (A : Option Addr) (n d : Nat) (w : World) (hb : Bd h) (hA : Has .u8 w A r) (hl : r.length = n) (hd : n ≤ d) (hm : d ≤ 9223372036854775807) (hr : ∀ z ∈ r, 0 ≤ z ∧ z ≤ 255) :
    Calls Tryd.prog 18 #[.agg (hv h), .slice A n d] w fun e w' => e = .returned (.tuple #[.agg (hv (slV h r)), .int .i64 (dgE h r)]) ∧ Below w.heap.size w w' := by
  have HBD := Lib.hid hb
  have HA := Lib.hid hA
  have HL := Lib.hid hl
  have HD := Lib.hid (And.intro hd hm)
  have HR := Lib.hid hr
  have zv := zv_nul
  have bn := bld_nul
  have HBR := Lib.hid (dgV_bd h r)
  have HEB := Lib.hid (dgE_bd h r)
  have A0 := hdAt_new w h
  have S0 : (w.alloc (.cells (hv h) 25)).heap.size = w.heap.size + 1 := by simp
  have N0 := hdAt_new (w.alloc (.cells (hv h) 25)) nul
  rw [S0] at N0
  have G0 := (Below.refl w.heap.size w).alloc (Nat.le_refl _) (.cells (hv h) 25)
  have G1 := (Below.refl (w.alloc (.cells (hv h) 25)).heap.size (w.alloc (.cells (hv h) 25))).alloc (Nat.le_refl _) (.cells (hv nul) 25)
  have HA0 := Lib.hid (A0.past G1)
  have HN0 := Lib.hid N0
  have B0 := Lib.hid (below_bs G0 G1)
  clear hb hA hl hd hm hr A0 N0 G0 G1 S0
  go_enter Tryd.func18, Tryd.ntmps18
  go_upto_region 1 with fail
  generalize ((w.alloc (.cells (hv h) 25)).alloc (.cells (hv nul) 25)) = w0 at *
  have HGB : Hid (w.heap.size ≤ w.heap.size + 1) := Lib.hid (Nat.le_succ _)
  have HNE : Hid (w.heap.size ≠ w.heap.size + 1) := Lib.hid (by omega)
  generalize w.heap.size + 1 = gb at *
  go_wp2_with (show wpList _ _ _ ({ dst := _, op := Op.load 25 _, type := _, pos := _, after := _, guard := _ } :: _) _ _; go_must (refine wp_ld (by rfl) _ rfl (HA0.out) HBD.out rfl ?_))
  refine (rDigest h r A n d w0 HBD.out (HA.out.below B0.out (Nat.le_refl _)) HL.out HD.out.1 HD.out.2 HR.out).mono ?_
  rintro e w1 ⟨rfl, b1⟩
  have B1 := Lib.hid (below_bs B0.out b1)
  have HA1 := Lib.hid (HA0.out.past b1)
  have HN1 := Lib.hid (HN0.out.past b1)
  have HGS := Lib.hid HA1.out.lt
  have HGN := Lib.hid HN1.out.lt
  clear b1 B0 HA0 HN0
  have HSY : Hid (dgE h r = 0 → slV h r = ⟨h.mo, h.me, h.of, h.ra, h.le, dgV h r⟩) := Lib.hid sl_yes
  have HSN : Hid (¬ dgE h r = 0 → slV h r = nul) := Lib.hid sl_no
  obtain ⟨de, hde⟩ : ∃ v, dgE h r = v := ⟨_, rfl⟩
  obtain ⟨dv, hdv⟩ : ∃ v, dgV h r = v := ⟨_, rfl⟩
  rw [hde] at HSY HSN HEB
  rw [hdv] at HSY HBR
  rw [hde, hdv]
  have HDE := Lib.hid hde
  clear hde hdv
  have e9 := HEB.out
  by_cases c : de = 0
  · subst c
    clear HSN
    have HX : Hid (Bd (⟨h.mo, h.me, h.of, h.ra, h.le, dv⟩ : Hd)) := Lib.hid ⟨HBD.out.mo, HBD.out.me, HBD.out.of, HBD.out.ra, HBD.out.le, HBR.out.1, HBR.out.2⟩
    go_wp2_with (first | ((show wpList _ _ _ ({ dst := none, op := Op.store 23 (.tmp 6) _, type := _, pos := _, after := _, guard := none } :: _) _ _; go_must (refine wp_s20 (g := w1.heap.size) (l := dv) rfl _ _ rfl (z20_at w1 rfl) rfl (HBR.out.1) rfl rfl ?_); intro w2 hR2 hb2 hz2); have HR2 := Lib.hid hR2; have G2 : Below w1.heap.size w1 w2 := (((Below.refl w1.heap.size w1).alloc (Nat.le_refl _) _).trans hb2); have HA2 := Lib.hid (HA1.out.past G2); have HN2 := Lib.hid (HN1.out.past G2); have B2 := Lib.hid (below_bs B1.out G2); clear hR2 hb2 hz2 G2) | (show wpList _ _ _ ({ dst := _, op := Op.load 23 _, type := _, pos := _, after := _, guard := none } :: _) _ _; go_must (refine wp_l20 rfl _ rfl (HR2.out) (HBR.out.1) rfl ?_)) | ((show wpList _ _ _ ({ dst := none, op := Op.store 23 _ _, type := _, pos := _, after := _, guard := none } :: _) _ _; go_must (refine wpList_store_mid (P := Tryd.prog) rfl 23 _ _ rfl _ 5 (sv dv).toArray rfl rfl (by rw [show (sv dv).toArray.size = 20 by simp [sv, HBR.out.1]]; exact there_sum HA2.out HBD.out) (by rw [show (sv dv).toArray.size = (sv dv).length from rfl]; exact info23 HBR.out.1) (sv_all _) ?_)); have HA3 := Lib.hid (set_sum HA2.out HBD.out HBR.out.1); have HN3 := Lib.hid (lies_cells HNE.out (sv dv) 5 HN2.out); have B3 := Lib.hid (below_cells w.heap.size (Nat.le_refl _) (sv dv) 5 B2.out)) | (show wpList _ _ _ ({ dst := _, op := Op.load 25 _, type := _, pos := _, after := _, guard := _ } :: _) _ _; go_must (refine wp_ld (by rfl) _ rfl (HA3.out) (HX.out) rfl ?_)) | (show wpList _ _ _ ({ dst := none, op := Op.store 25 _ _, type := _, pos := _, after := _, guard := none } :: _) _ _; go_must (refine wp_st (g := gb) (h := ⟨h.mo, h.me, h.of, h.ra, h.le, dv⟩) rfl _ _ rfl (HN3.out) (nul_bd) (HX.out) rfl rfl ?_); intro w9 hR9 hb9 hz9))
    refine bodyPost_ret (ret_hd (by exact Tryd.results18) _ _ _ (HX.out) rfl (hR9)) rfl ?_
    exact ⟨by rw [HSY.out (by trivial), HDE.out]; rfl, B3.out.trans (hb9.mono HGB.out)⟩
  · have e' : (de == 0) = false := by simpa using c
    have HSW := Lib.hid (HSN.out c)
    clear HSY HSN
    go_wp2_with (first | ((show wpList _ _ _ ({ dst := none, op := Op.store 23 (.tmp 6) _, type := _, pos := _, after := _, guard := none } :: _) _ _; go_must (refine wp_s20 (g := w1.heap.size) (l := dv) rfl _ _ rfl (z20_at w1 rfl) rfl (HBR.out.1) rfl rfl ?_); intro w2 hR2 hb2 hz2); have G2 : Below w1.heap.size w1 w2 := (((Below.refl w1.heap.size w1).alloc (Nat.le_refl _) _).trans hb2); have HN2 := Lib.hid (HN1.out.past G2); have B2 := Lib.hid (below_bs B1.out G2); clear hR2 hb2 hz2 G2) | (show wpList _ _ _ ({ dst := none, op := Op.store 25 _ _, type := _, pos := _, after := _, guard := none } :: _) _ _; go_must (refine wp_st (g := gb) (h := nul) rfl _ _ rfl (HN2.out) (nul_bd) (nul_bd) rfl rfl ?_); intro w9 hR9 hb9 hz9))
    refine bodyPost_ret (ret_hd (by exact Tryd.results18) _ _ _ (nul_bd) rfl (hR9)) rfl ?_
    exact ⟨by rw [HSW.out, HDE.out]; rfl, B2.out.trans (hb9.mono HGB.out)⟩
end Go.Proofs.YteofindkccndjaaDoor.hdW
namespace Go.Proofs.YteofindkccndjaaDoor.hdW
set_option maxRecDepth 100000
open Go.RowKit Go.Proofs.YteofindkccndjaaDoor.base Go.Proofs.YteofindkccndjaaDoor.hdP Go.Proofs.YteofindkccndjaaDoor.shP
set_option linter.unusedVariables false
set_option linter.unusedSimpArgs false
set_option maxRecDepth 100000
theorem eq_s (a b : List Int) (la : a.length = 20) (lb : b.length = 20) (ha : ∀ z ∈ a, 0 ≤ z ∧ z ≤ 255) (hb : ∀ z ∈ b, 0 ≤ z ∧ z ≤ 255) (w : World) : (Op.equalIn 10000 23 (.agg (sv a).toArray) (.agg (sv b).toArray)).run Tryd.prog w = .ok (decide (a = b)) w := eq_sum 9998 a b la lb ha hb w
set_option maxHeartbeats 1600000 in
theorem Right_any (h : Hd) (r : List Int) (A : Option Addr) (n d : Nat) (w : World) (hT : TabP w) (hS : shW.Tab w) (hb : Bd h) (hA : Has .u8 w A r) (hl : r.length = n) (hd : n ≤ d) (hm : d ≤ 9223372036854775807) (hr : ∀ z ∈ r, 0 ≤ z ∧ z ≤ 255) :
    Calls Tryd.prog 19 #[.agg (hv h), .slice A n d] w fun e w' => e = .returned (.tuple #[.bool (rgB h r), .int .i64 (hdE h)]) ∧ Below w.heap.size w w' := by
  have HT := Lib.hid hT
  have HS := Lib.hid hS
  have HBD := Lib.hid hb
  have HA := Lib.hid hA
  have HL := Lib.hid hl
  have HD := Lib.hid (And.intro hd hm)
  have HR := Lib.hid hr
  have n9 : (n : Int) ≤ 9223372036854775807 := by omega
  have HBR := Lib.hid (dgV_bd h r)
  have A0 := Lib.hid (hdAt_new w h)
  have B0 : Hid (Below w.heap.size w (w.alloc (.cells (hv h) 25))) := Lib.hid (by (repeat' (first | (with_reducible exact Below.refl _ _) | (with_reducible assumption) | (with_reducible refine below_drewN ?_ _) | (with_reducible refine below_new ?_ _) | (with_reducible refine Below.alloc ?_ ?_ _) | (with_reducible refine Below.drew ?_) | (with_reducible refine Below.setCell ?_ ?_ _) | (with_reducible apply below_at; (case k => (with_reducible assumption)); (case hB => omega)) | (with_reducible apply below_on; (with_reducible assumption)) | (go_size; done) | (with_reducible apply size_of))))
  clear hT hS hb hA hl hd hm hr
  go_enter Tryd.func19, Tryd.ntmps19
  go_upto_region 1 with fail
  generalize (w.alloc (.cells (hv h) 25)) = w0 at *
  go_wp2_with (show wpList _ _ _ ({ dst := _, op := Op.load 25 _, type := _, pos := _, after := _, guard := _ } :: _) _ _; go_must (refine wp_ld (by rfl) _ rfl (A0.out) HBD.out rfl ?_))
  refine (Check_any h w0 HBD.out).mono ?_
  rintro e w1 ⟨rfl, b1⟩
  have B1 := Lib.hid (below_bs B0.out b1)
  have A1 := Lib.hid (A0.out.past b1)
  clear b1 B0 A0
  by_cases k : Ok h
  · have HDK := Lib.hid (hdE_yes k)
    rw [HDK.out]
    have HK := Lib.hid k
    clear k
    have a3 := A1.out.c3
    by_cases e : (n : Int) = h.ra
    · have HDG := Lib.hid (dg_ok (r := r) HK.out (by rw [HL.out]; exact e)).1
      have HRG := Lib.hid (rg_ok (r := r) HK.out (by rw [HL.out]; exact e))
      rw [← e] at a3
      clear e
      go_wp2_with (show wpList _ _ _ ({ dst := _, op := Op.load 25 _, type := _, pos := _, after := _, guard := _ } :: _) _ _; go_must (refine wp_ld (by rfl) _ rfl (A1.out) HBD.out rfl ?_))
      refine (Digest_any h r A n d w1 (HT.out.past B1.out) (HS.out.below B1.out (Nat.le_refl _)) HBD.out (HA.out.below B1.out (Nat.le_refl _)) HL.out HD.out.1 HD.out.2 HR.out).mono ?_
      rintro e w2 ⟨rfl, b2⟩
      rw [HDG.out]
      have B2 := Lib.hid (below_bs B1.out b2)
      have A2 := Lib.hid (A1.out.past b2)
      clear b2 B1 A1 a3
      generalize dgV h r = dv at *
      have eqs := eq_s dv h.s HBR.out.1 HBD.out.n HBR.out.2 HBD.out.s
      go_wp2_with (first | ((show wpList _ _ _ ({ dst := none, op := Op.store 23 (.tmp 7) _, type := _, pos := _, after := _, guard := none } :: _) _ _; go_must (refine wp_s20 (g := w2.heap.size) (l := dv) rfl _ _ rfl (z20_at w2 rfl) rfl (HBR.out.1) rfl rfl ?_); intro w3 hR3 hb3 hz3); have HR3 := Lib.hid hR3; have G3 : Below w2.heap.size w2 w3 := (((Below.refl w2.heap.size w2).alloc (Nat.le_refl _) _).trans hb3); have A3 := Lib.hid (A2.out.past G3); have B3 := Lib.hid (below_bs B2.out G3); clear hR3 hb3 hz3 G3) | (show wpList _ _ _ ({ dst := _, op := Op.load _ (.tmp 7), type := _, pos := _, after := _, guard := _ } :: _) _ _; (show wpList _ _ _ ({ dst := _, op := Op.load 23 _, type := _, pos := _, after := _, guard := none } :: _) _ _; go_must (refine wp_l20 rfl _ rfl (HR3.out) (HBR.out.1) rfl ?_))) | (show wpList _ _ _ ({ dst := _, op := Op.load 23 _, type := _, pos := _, after := _, guard := none } :: _) _ _; go_must (refine wpList_load_mid (P := Tryd.prog) rfl 23 _ rfl _ 5 rfl _ _ (HdAt.rng A3.out) Tryd.underlying23 rfl (info23 HBD.out.n) ?_)))
      go_ret2
      exact ⟨by rw [HRG.out, HDK.out]; rfl, B3.out⟩
    · have HRG := Lib.hid (rg_len (h := h) (r := r) (by rw [HL.out]; exact e))
      have e' : ((n : Int) == h.ra) = false := by simpa using e
      go_wp2_with fail
      go_ret2
      exact ⟨by rw [HRG.out, HDK.out]; rfl, B1.out⟩
  · have HDK := Lib.hid (hdE_no k)
    have HRG := Lib.hid (rg_no (r := r) k)
    rw [HDK.out]
    clear k
    go_wp2_with fail
    go_ret2
    exact ⟨by rw [HRG.out, HDK.out]; rfl, B1.out⟩
set_option maxHeartbeats 1600000 in
theorem rRight (h : Hd) (r : List Int) (A : Option Addr) (n d : Nat) (w : World) (hb : Bd h) (hA : Has .u8 w A r) (hl : r.length = n) (hd : n ≤ d) (hm : d ≤ 9223372036854775807) (hr : ∀ z ∈ r, 0 ≤ z ∧ z ≤ 255) :
    Calls Tryd.prog 20 #[.agg (hv h), .slice A n d] w fun e w' => e = .returned (.tuple #[.bool (rgB h r), .int .i64 (hdE h)]) ∧ Below w.heap.size w w' := by
  have HBD := Lib.hid hb
  have HA := Lib.hid hA
  have HL := Lib.hid hl
  have HR := Lib.hid hr
  have n9 : (n : Int) ≤ 9223372036854775807 := by omega
  have HBR := Lib.hid (dgV_bd h r)
  have A0 := Lib.hid (hdAt_new w h)
  have B0 : Hid (Below w.heap.size w (w.alloc (.cells (hv h) 25))) := Lib.hid (by (repeat' (first | (with_reducible exact Below.refl _ _) | (with_reducible assumption) | (with_reducible refine below_drewN ?_ _) | (with_reducible refine below_new ?_ _) | (with_reducible refine Below.alloc ?_ ?_ _) | (with_reducible refine Below.drew ?_) | (with_reducible refine Below.setCell ?_ ?_ _) | (with_reducible apply below_at; (case k => (with_reducible assumption)); (case hB => omega)) | (with_reducible apply below_on; (with_reducible assumption)) | (go_size; done) | (with_reducible apply size_of))))
  clear hb hA hl hd hm hr
  go_enter Tryd.func20, Tryd.ntmps20
  go_upto_region 1 with fail
  generalize (w.alloc (.cells (hv h) 25)) = w0 at *
  go_wp2_with (show wpList _ _ _ ({ dst := _, op := Op.load 25 _, type := _, pos := _, after := _, guard := _ } :: _) _ _; go_must (refine wp_ld (by rfl) _ rfl (A0.out) HBD.out rfl ?_))
  refine (rCheck h w0 HBD.out).mono ?_
  rintro e w1 ⟨rfl, b1⟩
  have B1 := Lib.hid (below_bs B0.out b1)
  have A1 := Lib.hid (A0.out.past b1)
  clear b1 B0 A0
  by_cases k : Ok h
  · have HDK := Lib.hid (hdE_yes k)
    rw [HDK.out]
    have HK := Lib.hid k
    clear k
    by_cases e : (n : Int) = h.ra
    · have HDV := Lib.hid (dg_ok (r := r) HK.out (by rw [HL.out]; exact e)).2
      have HRG := Lib.hid (rg_ok (r := r) HK.out (by rw [HL.out]; exact e))
      have HNN : Hid (n ≤ 4096) := Lib.hid (by have := HK.out; unfold Ok at this; omega)
      have HE := Lib.hid e
      clear e
      go_upto_region 3 with fail
      have eqs := eq_s (dgV h r) h.s HBR.out.1 HBD.out.n HBR.out.2 HBD.out.s
      generalize hdv : dgV h r = dv at *
      clear hdv
      have HDV' : Hid (dv = digest (fr h ++ r)) := HDV
      (have RD := grows_roads (S := fun x' => Below w1.heap.size w1 x') (fun a b h1 h2 => below_bs h2 h1)); refine region_ord _ Grows RD (Below.drew (Below.refl w1.heap.size w1)) (by kernel_rfl) ?_; intro ops Q' hops hPQ hN; (have HNS : Hid (Region.noSelect ops = true) := Lib.hid (by rw [hops]; kernel_rfl)); (have hsz : ops.size = 15 := (by rw [hops]; rfl)); have HOP := Lib.hid hops; have HPQ := Lib.hid hPQ; have HN := Lib.hid hN; rw [hsz]; clear hops hsz hPQ hN
      refine ord_take RD 0 (at_list (by rw [HOP.out]; rfl)) HNS.out HPQ.out (by rw [HOP.out]; kernel_rfl) (by rw [HOP.out]; kernel_rfl) (by rw [HOP.out]; rfl) (fun K hK => ?_); apply Exists.intro; refine ⟨fun W hSW => ?_, hK _ ?_⟩; (focus ((try dsimp only at hSW); go_simp; try with_reducible rfl)); clear hK K; (try simp only [Act.put, List.setIfInBounds_toArray, List.set_cons_zero, List.set_cons_succ])
      refine ord_take RD 1 (at_list (by rw [HOP.out]; rfl)) HNS.out HPQ.out (by rw [HOP.out]; kernel_rfl) (by rw [HOP.out]; kernel_rfl) (by rw [HOP.out]; rfl) (fun K hK => ?_); apply Exists.intro; refine ⟨fun W hSW => ?_, hK _ ?_⟩; (focus ((try dsimp only at hSW); go_simp; try with_reducible rfl)); clear hK K; (try simp only [Act.put, List.setIfInBounds_toArray, List.set_cons_zero, List.set_cons_succ])
      refine ord_take RD 2 (at_list (by rw [HOP.out]; rfl)) HNS.out HPQ.out (by rw [HOP.out]; kernel_rfl) (by rw [HOP.out]; kernel_rfl) (by rw [HOP.out]; rfl) (fun K hK => ?_); apply Exists.intro; refine ⟨fun W hSW => ?_, hK _ ?_⟩; (focus ((try dsimp only at hSW); go_simp; try with_reducible rfl)); clear hK K; (try simp only [Act.put, List.setIfInBounds_toArray, List.set_cons_zero, List.set_cons_succ])
      refine ord_take RD 3 (at_list (by rw [HOP.out]; rfl)) HNS.out HPQ.out (by rw [HOP.out]; kernel_rfl) (by rw [HOP.out]; kernel_rfl) (by rw [HOP.out]; rfl) (fun K hK => ?_); apply Exists.intro; refine ⟨fun W hSW => ?_, hK _ ?_⟩; (focus ((try dsimp only at hSW); (have z := (A1.out.past hSW).c3; rw [← HE.out] at z); go_simp; try with_reducible rfl)); clear hK K; (try simp only [Act.put, List.setIfInBounds_toArray, List.set_cons_zero, List.set_cons_succ])
      refine ord_take RD 4 (at_list (by rw [HOP.out]; rfl)) HNS.out HPQ.out (by rw [HOP.out]; kernel_rfl) (by rw [HOP.out]; kernel_rfl) (by rw [HOP.out]; rfl) (fun K hK => ?_); apply Exists.intro; refine ⟨fun W hSW => ?_, hK _ ?_⟩; (focus ((try dsimp only at hSW); go_simp; try with_reducible rfl)); clear hK K; (try simp only [Act.put, List.setIfInBounds_toArray, List.set_cons_zero, List.set_cons_succ])
      refine ord_take RD 5 (at_list (by rw [HOP.out]; rfl)) HNS.out HPQ.out (by rw [HOP.out]; kernel_rfl) (by rw [HOP.out]; kernel_rfl) (by rw [HOP.out]; rfl) (fun K hK => ?_); apply Exists.intro; refine ⟨fun W hSW => ?_, hK _ ?_⟩; (focus ((try dsimp only at hSW); go_simp; try with_reducible rfl)); clear hK K; (try simp only [Act.put, List.setIfInBounds_toArray, List.set_cons_zero, List.set_cons_succ])
      refine ord_take RD 6 (at_list (by rw [HOP.out]; rfl)) HNS.out HPQ.out (by rw [HOP.out]; kernel_rfl) (by rw [HOP.out]; kernel_rfl) (by rw [HOP.out]; rfl) (fun K hK => ?_); apply Exists.intro; refine ⟨fun W hSW => ?_, hK _ ?_⟩; (focus ((try dsimp only at hSW); exact quiet_ld _ rfl (A1.out.past hSW) (HBD.out) rfl)); clear hK K; (try simp only [Act.put, List.setIfInBounds_toArray, List.set_cons_zero, List.set_cons_succ])
      refine ord_take RD 7 (at_list (by rw [HOP.out]; rfl)) HNS.out HPQ.out (by rw [HOP.out]; kernel_rfl) (by rw [HOP.out]; kernel_rfl) (by rw [HOP.out]; rfl) (fun K hK => ?_); apply Exists.intro; refine ⟨fun W hSW => ?_, hK _ ?_⟩; (focus ((try dsimp only at hSW); go_simp; try with_reducible rfl)); clear hK K; (try simp only [Act.put, List.setIfInBounds_toArray, List.set_cons_zero, List.set_cons_succ])
      refine ord_take RD 8 (at_list (by rw [HOP.out]; rfl)) HNS.out HPQ.out (by rw [HOP.out]; kernel_rfl) (by rw [HOP.out]; kernel_rfl) (by rw [HOP.out]; rfl) (fun K hK => ?_); apply Exists.intro; refine ⟨fun W hSW => ?_, hK _ ?_⟩; (focus ((try dsimp only at hSW); go_simp; exact ((rOf_hd h r A n d W HBD.out HK.out ((HA.out.below B1.out (Nat.le_refl _)).below hSW (Nat.le_refl _)) HL.out (by have := HNN.out; omega) HR.out).mono fun e w' ⟨h1, h2⟩ => ⟨h1.trans (by rw [← HDV'.out]), h2⟩))); clear hK K; (try simp only [Act.put, List.setIfInBounds_toArray, List.set_cons_zero, List.set_cons_succ])
      refine ord_take RD 9 (at_list (by rw [HOP.out]; rfl)) HNS.out HPQ.out (by rw [HOP.out]; kernel_rfl) (by rw [HOP.out]; kernel_rfl) (by rw [HOP.out]; rfl) (fun K hK => ?_); apply Exists.intro; refine ⟨fun W hSW => ?_, hK _ ?_⟩; (focus ((try dsimp only at hSW); go_simp; try with_reducible rfl)); clear hK K; (try simp only [Act.put, List.setIfInBounds_toArray, List.set_cons_zero, List.set_cons_succ])
      refine ord_take RD 10 (at_list (by rw [HOP.out]; rfl)) HNS.out HPQ.out (by rw [HOP.out]; kernel_rfl) (by rw [HOP.out]; kernel_rfl) (by rw [HOP.out]; rfl) (fun K hK => ?_); apply Exists.intro; refine ⟨fun W hSW => ?_, hK _ ?_⟩; (focus ((try dsimp only at hSW); exact quiet_mid _ rfl (HdAt.rng (A1.out.past hSW)) (HBD.out.n) rfl)); clear hK K; (try simp only [Act.put, List.setIfInBounds_toArray, List.set_cons_zero, List.set_cons_succ])
      refine ord_take RD 11 (at_list (by rw [HOP.out]; rfl)) HNS.out HPQ.out (by rw [HOP.out]; kernel_rfl) (by rw [HOP.out]; kernel_rfl) (by rw [HOP.out]; rfl) (fun K hK => ?_); apply Exists.intro; refine ⟨fun W hSW => ?_, hK _ ?_⟩; (focus ((try dsimp only at hSW); go_simp; try with_reducible rfl)); clear hK K; (try simp only [Act.put, List.setIfInBounds_toArray, List.set_cons_zero, List.set_cons_succ])
      refine ord_take RD 12 (at_list (by rw [HOP.out]; rfl)) HNS.out HPQ.out (by rw [HOP.out]; kernel_rfl) (by rw [HOP.out]; kernel_rfl) (by rw [HOP.out]; rfl) (fun K hK => ?_); apply Exists.intro; refine ⟨fun W hSW => ?_, hK _ ?_⟩; (focus ((try dsimp only at hSW); go_simp; try with_reducible rfl)); clear hK K; (try simp only [Act.put, List.setIfInBounds_toArray, List.set_cons_zero, List.set_cons_succ])
      refine ord_take RD 13 (at_list (by rw [HOP.out]; rfl)) HNS.out HPQ.out (by rw [HOP.out]; kernel_rfl) (by rw [HOP.out]; kernel_rfl) (by rw [HOP.out]; rfl) (fun K hK => ?_); apply Exists.intro; refine ⟨fun W hSW => ?_, hK _ ?_⟩; (focus ((try dsimp only at hSW); go_simp; try with_reducible rfl)); clear hK K; (try simp only [Act.put, List.setIfInBounds_toArray, List.set_cons_zero, List.set_cons_succ])
      refine ord_take RD 14 (at_list (by rw [HOP.out]; rfl)) HNS.out HPQ.out (by rw [HOP.out]; kernel_rfl) (by rw [HOP.out]; kernel_rfl) (by rw [HOP.out]; rfl) (fun K hK => ?_); apply Exists.intro; refine ⟨fun W hSW => ?_, hK _ ?_⟩; (focus ((try dsimp only at hSW); go_simp; try with_reducible rfl)); clear hK K; (try simp only [Act.put, List.setIfInBounds_toArray, List.set_cons_zero, List.set_cons_succ])
      refine ord_done (by rw [HOP.out]; kernel_rfl) (fun W9 hWW hSW => HN.out _ _ ?_); clear HOP HNS HPQ HN RD; (try dsimp only at hSW)
      have B9 := Lib.hid (below_bs B1.out hSW)
      clear hSW hWW
      go_wp2_with fail
      go_ret2
      exact ⟨by rw [HRG.out, HDK.out]; rfl, B9.out⟩
    · have HRG := Lib.hid (rg_len (h := h) (r := r) (by rw [HL.out]; exact e))
      have e' : ((n : Int) == h.ra) = false := by simpa using e
      go_upto_region 3 with fail
      (have RD := grows_roads (S := fun x' => Below w1.heap.size w1 x') (fun a b h1 h2 => below_bs h2 h1)); refine region_ord _ Grows RD (Below.drew (Below.refl w1.heap.size w1)) (by kernel_rfl) ?_; intro ops Q' hops hPQ hN; (have HNS : Hid (Region.noSelect ops = true) := Lib.hid (by rw [hops]; kernel_rfl)); (have hsz : ops.size = 15 := (by rw [hops]; rfl)); have HOP := Lib.hid hops; have HPQ := Lib.hid hPQ; have HN := Lib.hid hN; rw [hsz]; clear hops hsz hPQ hN
      refine ord_take RD 0 (at_list (by rw [HOP.out]; rfl)) HNS.out HPQ.out (by rw [HOP.out]; kernel_rfl) (by rw [HOP.out]; kernel_rfl) (by rw [HOP.out]; rfl) (fun K hK => ?_); apply Exists.intro; refine ⟨fun W hSW => ?_, hK _ ?_⟩; (focus ((try dsimp only at hSW); go_simp; try with_reducible rfl)); clear hK K; (try simp only [Act.put, List.setIfInBounds_toArray, List.set_cons_zero, List.set_cons_succ])
      refine ord_take RD 1 (at_list (by rw [HOP.out]; rfl)) HNS.out HPQ.out (by rw [HOP.out]; kernel_rfl) (by rw [HOP.out]; kernel_rfl) (by rw [HOP.out]; rfl) (fun K hK => ?_); apply Exists.intro; refine ⟨fun W hSW => ?_, hK _ ?_⟩; (focus ((try dsimp only at hSW); go_simp; try with_reducible rfl)); clear hK K; (try simp only [Act.put, List.setIfInBounds_toArray, List.set_cons_zero, List.set_cons_succ])
      refine ord_take RD 2 (at_list (by rw [HOP.out]; rfl)) HNS.out HPQ.out (by rw [HOP.out]; kernel_rfl) (by rw [HOP.out]; kernel_rfl) (by rw [HOP.out]; rfl) (fun K hK => ?_); apply Exists.intro; refine ⟨fun W hSW => ?_, hK _ ?_⟩; (focus ((try dsimp only at hSW); go_simp; try with_reducible rfl)); clear hK K; (try simp only [Act.put, List.setIfInBounds_toArray, List.set_cons_zero, List.set_cons_succ])
      refine ord_take RD 3 (at_list (by rw [HOP.out]; rfl)) HNS.out HPQ.out (by rw [HOP.out]; kernel_rfl) (by rw [HOP.out]; kernel_rfl) (by rw [HOP.out]; rfl) (fun K hK => ?_); apply Exists.intro; refine ⟨fun W hSW => ?_, hK _ ?_⟩; (focus ((try dsimp only at hSW); (have z := (A1.out.past hSW).c3); go_simp; try with_reducible rfl)); clear hK K; (try simp only [Act.put, List.setIfInBounds_toArray, List.set_cons_zero, List.set_cons_succ])
      refine ord_take RD 4 (at_list (by rw [HOP.out]; rfl)) HNS.out HPQ.out (by rw [HOP.out]; kernel_rfl) (by rw [HOP.out]; kernel_rfl) (by rw [HOP.out]; rfl) (fun K hK => ?_); apply Exists.intro; refine ⟨fun W hSW => ?_, hK _ ?_⟩; (focus ((try dsimp only at hSW); go_simp; try with_reducible rfl)); clear hK K; (try simp only [Act.put, List.setIfInBounds_toArray, List.set_cons_zero, List.set_cons_succ])
      refine ord_take RD 5 (at_list (by rw [HOP.out]; rfl)) HNS.out HPQ.out (by rw [HOP.out]; kernel_rfl) (by rw [HOP.out]; kernel_rfl) (by rw [HOP.out]; rfl) (fun K hK => ?_); apply Exists.intro; refine ⟨fun W hSW => ?_, hK _ ?_⟩; (focus ((try dsimp only at hSW); go_simp; try with_reducible rfl)); clear hK K; (try simp only [Act.put, List.setIfInBounds_toArray, List.set_cons_zero, List.set_cons_succ])
      refine ord_skip RD 6 (at_list (by rw [HOP.out]; rfl)) HNS.out HPQ.out (by rw [HOP.out]; kernel_rfl) (by rw [HOP.out]; kernel_rfl) (by rw [HOP.out]; rfl) ?_; (try simp only [Act.put, List.setIfInBounds_toArray, List.set_cons_zero, List.set_cons_succ])
      refine ord_skip RD 7 (at_list (by rw [HOP.out]; rfl)) HNS.out HPQ.out (by rw [HOP.out]; kernel_rfl) (by rw [HOP.out]; kernel_rfl) (by rw [HOP.out]; rfl) ?_; (try simp only [Act.put, List.setIfInBounds_toArray, List.set_cons_zero, List.set_cons_succ])
      refine ord_skip RD 8 (at_list (by rw [HOP.out]; rfl)) HNS.out HPQ.out (by rw [HOP.out]; kernel_rfl) (by rw [HOP.out]; kernel_rfl) (by rw [HOP.out]; rfl) ?_; (try simp only [Act.put, List.setIfInBounds_toArray, List.set_cons_zero, List.set_cons_succ])
      refine ord_skip RD 9 (at_list (by rw [HOP.out]; rfl)) HNS.out HPQ.out (by rw [HOP.out]; kernel_rfl) (by rw [HOP.out]; kernel_rfl) (by rw [HOP.out]; rfl) ?_; (try simp only [Act.put, List.setIfInBounds_toArray, List.set_cons_zero, List.set_cons_succ])
      refine ord_skip RD 10 (at_list (by rw [HOP.out]; rfl)) HNS.out HPQ.out (by rw [HOP.out]; kernel_rfl) (by rw [HOP.out]; kernel_rfl) (by rw [HOP.out]; rfl) ?_; (try simp only [Act.put, List.setIfInBounds_toArray, List.set_cons_zero, List.set_cons_succ])
      refine ord_skip RD 11 (at_list (by rw [HOP.out]; rfl)) HNS.out HPQ.out (by rw [HOP.out]; kernel_rfl) (by rw [HOP.out]; kernel_rfl) (by rw [HOP.out]; rfl) ?_; (try simp only [Act.put, List.setIfInBounds_toArray, List.set_cons_zero, List.set_cons_succ])
      refine ord_take RD 12 (at_list (by rw [HOP.out]; rfl)) HNS.out HPQ.out (by rw [HOP.out]; kernel_rfl) (by rw [HOP.out]; kernel_rfl) (by rw [HOP.out]; rfl) (fun K hK => ?_); apply Exists.intro; refine ⟨fun W hSW => ?_, hK _ ?_⟩; (focus ((try dsimp only at hSW); go_simp; try with_reducible rfl)); clear hK K; (try simp only [Act.put, List.setIfInBounds_toArray, List.set_cons_zero, List.set_cons_succ])
      refine ord_take RD 13 (at_list (by rw [HOP.out]; rfl)) HNS.out HPQ.out (by rw [HOP.out]; kernel_rfl) (by rw [HOP.out]; kernel_rfl) (by rw [HOP.out]; rfl) (fun K hK => ?_); apply Exists.intro; refine ⟨fun W hSW => ?_, hK _ ?_⟩; (focus ((try dsimp only at hSW); go_simp; try with_reducible rfl)); clear hK K; (try simp only [Act.put, List.setIfInBounds_toArray, List.set_cons_zero, List.set_cons_succ])
      refine ord_take RD 14 (at_list (by rw [HOP.out]; rfl)) HNS.out HPQ.out (by rw [HOP.out]; kernel_rfl) (by rw [HOP.out]; kernel_rfl) (by rw [HOP.out]; rfl) (fun K hK => ?_); apply Exists.intro; refine ⟨fun W hSW => ?_, hK _ ?_⟩; (focus ((try dsimp only at hSW); go_simp; try with_reducible rfl)); clear hK K; (try simp only [Act.put, List.setIfInBounds_toArray, List.set_cons_zero, List.set_cons_succ])
      refine ord_done (by rw [HOP.out]; kernel_rfl) (fun W9 hWW hSW => HN.out _ _ ?_); clear HOP HNS HPQ HN RD; (try dsimp only at hSW)
      have B9 := Lib.hid (below_bs B1.out hSW)
      clear hSW hWW
      go_wp2_with fail
      go_ret2
      exact ⟨by rw [HRG.out, HDK.out]; rfl, B9.out⟩
  · have HDK := Lib.hid (hdE_no k)
    have HRG := Lib.hid (rg_no (r := r) k)
    rw [HDK.out]
    clear k
    go_wp2_with (show wpList _ _ _ ({ dst := _, op := Op.load 25 _, type := _, pos := _, after := _, guard := _ } :: _) _ _; go_must (refine wp_ld (by rfl) _ rfl (A1.out) HBD.out rfl ?_))
    refine (rCheck h w1 HBD.out).mono ?_
    rintro e w2 ⟨rfl, b2⟩
    have B2 := Lib.hid (below_bs B1.out b2)
    clear b2
    rw [HDK.out]
    go_wp2_with fail
    go_ret2
    exact ⟨by rw [HRG.out, HDK.out]; rfl, B2.out⟩
end Go.Proofs.YteofindkccndjaaDoor.hdW
