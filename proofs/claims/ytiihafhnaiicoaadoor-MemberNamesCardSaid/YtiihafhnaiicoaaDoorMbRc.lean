/- One record read. -/
import Derived.Test.YtiihafhnaiicoaaDoorPk2
import Derived.Test.YtiihafhnaiicoaaDoorMbAs
namespace Go.Proofs.YtiihafhnaiicoaaDoor.mbW
set_option maxRecDepth 100000
open Go.RowKit Go.Proofs.YtiihafhnaiicoaaDoor.base Go.Proofs.YtiihafhnaiicoaaDoor.shP Go.Proofs.YtiihafhnaiicoaaDoor.shW Go.Proofs.YtiihafhnaiicoaaDoor.ocP Go.Proofs.YtiihafhnaiicoaaDoor.ocW
open Go.Proofs.YtiihafhnaiicoaaDoor.trW (IsD sv zd_isD digest_isD z20_at)
set_option linter.unusedVariables false
set_option linter.unusedSimpArgs false
set_option maxRecDepth 100000
/-- A struct of two cells stored. -/
structure St2 (w : World) (g : Nat) (t : TypeId) (a b : Value) (w' : World) : Prop where
  l : Lies w' g t [a, b]
  gr : w.grownBy w' (some g)
  be : Below g w w'
  s : w'.heap.size = w.heap.size
theorem two_st {w : World} {g : Nat} {t : TypeId} {x y : Value} (K : Lies w g t [x, y]) (a b : Value) : St2 w g t a b ((w.setCell ⟨g, 0, none⟩ a).setCell ⟨g, 1, none⟩ b) :=
  ⟨lies_store2 K, far_set (far_set (World.grownBy.refl _ _) _) _, Below.setCell (Below.setCell (Below.refl _ _) (p := ⟨g, 0, none⟩) (Nat.le_refl _) _) (p := ⟨g, 1, none⟩) (Nat.le_refl _) _, by simp⟩
theorem ret_rc2 {fn : Func} {p t : Tmp} {r : Rc} (hr : fn.results = #[.cell p 54, .tmp t]) (tmps : Array Value) (w : World) (g : Nat) (hp : tmps.getD p undef = .pointer (some ⟨g, 0, none⟩)) (k : Lies w g 54 (rcE r)) :
    (results fn tmps).run Tryd.prog w = .ok (.tuple #[.agg (RE.enc r).toArray, tmps.getD t undef]) w :=
  shW.results_cell_tmp (P := Tryd.prog) hr tmps w g 54 (rcE r).toArray (0, 0) _ hp k Tryd.underlying54 rfl (by have := info22; rw [this]; show some 22 = some _; rw [List.size_toArray]; exact congrArg some (RE.len r).symm)
theorem arr_m (W : World) (a : Addr) (c : Nat) : (Instr.arrayAt 52 (.slice (some a) 20 c)).run Tryd.prog W = .ok (.pointer (some a)) W := by kernel_rfl
def RCP (b : List Int) (p g : Nat) (w : World) (e : Ending) (w' : World) : Prop :=
  (fits b p ∧ ∃ A n d, e = .returned (.tuple #[.agg (RE.enc (rcAt b p)).toArray, .nilIface]) ∧ Lies w' g 83 [.slice A n d, .int .i64 (nx b p : Int)] ∧ OwnZ w' w.heap.size (.slice A n d) b ∧ n = b.length ∧ w.grownBy w' (some g) ∧ Below g w w') ∨
  (¬ fits b p ∧ e = .returned (.tuple #[.agg (RE.enc rc0).toArray, .iface 89 (.agg #[.int .i64 18])]) ∧ Below w.heap.size w w')
theorem grown_mid {w x y z : World} {g : Nat} (h1 : Below w.heap.size w x) (h2 : x.grownBy y (some g)) (h3 : Below w.heap.size y z) : w.grownBy z (some g) :=
  ⟨h3.os.trans (h2.os.trans h1.os), h3.tape.trans (h2.tape.trans h1.tape), h3.output.trans (h2.output.trans h1.output), Nat.le_trans h1.size (Nat.le_trans h2.size h3.size), fun k hk hne => (h3.block k hk).trans ((h2.block k (Nat.lt_of_lt_of_le hk h1.size) hne).trans (h1.block k hk))⟩
set_option maxHeartbeats 6400000 in
theorem recordP (b : List Int) (p g : Nat) (A : Option Addr) (n d : Nat) (w : World) (hb : Byt8 b) (hl : b.length ≤ 50000) (hp : p ≤ b.length) (K : Lies w g 83 [.slice A n d, .int .i64 (p : Int)]) (h : CuIn w A n d ⟨b, (p : Int)⟩) :
    Calls Tryd.prog 48 #[.pointer (some ⟨g, 0, none⟩)] w (RCP b p g w) := by
  have HB := Lib.hid hb
  have HL := Lib.hid hl
  have HP := Lib.hid hp
  have HK := Lib.hid K
  have HC := Lib.hid h
  obtain ⟨x0, x1, -, -⟩ := K.two
  have lt := K.lt
  have HG := Lib.hid lt
  have LZ := Lib.hid (z22_at w rfl)
  have B1 := Lib.hid (mb_new w (.cells #[.string ⟨#[]⟩, .int .i64 0, .int .u8 0, .int .u8 0, .int .u8 0, .int .u8 0, .int .u8 0, .int .u8 0, .int .u8 0, .int .u8 0, .int .u8 0, .int .u8 0, .int .u8 0, .int .u8 0, .int .u8 0, .int .u8 0, .int .u8 0, .int .u8 0, .int .u8 0, .int .u8 0, .int .u8 0, .int .u8 0] 54))
  have HS1 : Hid (w.heap.size < (w.alloc (.cells #[.string ⟨#[]⟩, .int .i64 0, .int .u8 0, .int .u8 0, .int .u8 0, .int .u8 0, .int .u8 0, .int .u8 0, .int .u8 0, .int .u8 0, .int .u8 0, .int .u8 0, .int .u8 0, .int .u8 0, .int .u8 0, .int .u8 0, .int .u8 0, .int .u8 0, .int .u8 0, .int .u8 0, .int .u8 0, .int .u8 0] 54)).heap.size) := Lib.hid (by simp)
  clear hb hl hp K h
  go_enter Tryd.func48, Tryd.ntmps48
  go_wp2_with fail
  refine (ReadString_any ⟨b, (p : Int)⟩ A n d 1 255 _ (HC.out.below B1.out) (by decide) (by decide)).mono ?_
  rintro e w2 ⟨A2, n2, c2, B2, m2, d2, rfl, hn2, hm2, ho2, hv2, hb2⟩
  have L2 := Lib.hid (LZ.out.past hb2)
  have BB := Lib.hid (mb_bb B1.out hb2)
  have HS2 : Hid (w.heap.size < w2.heap.size) := Lib.hid (Nat.lt_of_lt_of_le HS1.out hb2.size)
  by_cases f1 : p + 1 + nl b p ≤ b.length
  case neg =>
    have e1 := rs_no HB.out HL.out HP.out f1
    have NF : Hid (¬ fits b p) := Lib.hid (by unfold fits; omega)
    rw [e1]
    clear hn2 hm2 ho2 hv2 hb2 f1 e1 x0 x1 lt B1 LZ
    go_wp2_with (first | (show wpList _ _ _ ({ dst := none, op := Op.store 54 _ _, type := _, pos := _, after := _, guard := _ } :: _) _ _; go_must (refine Enc.wp_st RE (x := rc0) (g := w.heap.size) (P := Tryd.prog) info22 (by rfl) _ _ rfl (L2.out.alloc _) rfl rfl ?_); intro w5 hR hg hb hz))
    (refine bodyPost_ret (ret_rc2 (by exact Tryd.results48) _ _ _ rfl hR) rfl ?_; exact .inr ⟨NF.out, rfl, ((BB.out.alloc (by have := HS2.out; omega) _).trans hb)⟩)
  obtain ⟨e1, e2, e3⟩ := rs_yes HB.out HL.out f1
  obtain ⟨q, hq⟩ : ∃ q, p + 1 + nl b p = q := ⟨_, rfl⟩
  rw [hq] at e2 f1
  have HQ := Lib.hid hq
  have F1 := Lib.hid f1
  have e2a : (rsC ⟨b, (p : Int)⟩ 1 255).a = (q : Int) := by rw [e2]
  rw [e1, e2a]
  rw [e2] at hn2 ho2
  rw [e3] at hm2 hv2
  have O2 := Lib.hid ho2
  have N2 := Lib.hid hn2
  have V2 := Lib.hid hv2
  have M2 := Lib.hid hm2
  have BW := Lib.hid hb2.size
  clear hn2 hm2 ho2 hv2 hb2 f1 e1 e2 e2a e3 hq x0 x1 lt B1 LZ
  have G2 := mb_new w2 (.cells #[.slice A2 n2 c2, .int .i64 (q : Int)] 79)
  have LC := Lib.hid (Lies.fresh w2 79 [.slice A2 n2 c2, .int .i64 (q : Int)])
  have O3 := Lib.hid (O2.out.alloc (.cells #[.slice A2 n2 c2, .int .i64 (q : Int)] 79))
  have V3 := Lib.hid (V2.out.alloc (.cells #[.slice A2 n2 c2, .int .i64 (q : Int)] 79))
  have L3 := Lib.hid (L2.out.past G2)
  have BB3 := Lib.hid (mb_bb BB.out G2)
  have HSS : Hid ((w2.alloc (.cells #[.slice A2 n2 c2, .int .i64 (q : Int)] 79)).heap.size = w2.heap.size + 1) := Lib.hid (by simp)
  have CI := Lib.hid (cu_of HB.out O3.out N2.out F1.out HL.out)
  clear G2 O2 V2 L2 BB O3
  go_wp2_with fail
  obtain ⟨wa, hwa⟩ : ∃ wa, w2.alloc (.cells #[.slice A2 n2 c2, .int .i64 (q : Int)] 79) = wa := ⟨_, rfl⟩
  rw [hwa] at LC V3 L3 BB3 HSS CI ⊢
  clear hwa
  obtain ⟨g4, hg4⟩ : ∃ g4, w2.heap.size = g4 := ⟨_, rfl⟩
  rw [hg4] at LC HSS HS2 BW ⊢
  clear hg4
  refine (Read_any ⟨b, (q : Int)⟩ A2 n2 c2 2 65535 wa CI.out (by decide) (by decide)).mono ?_
  rintro e w3 ⟨A3, n3, c3, rfl, hn3, ho3, hb3⟩
  have LC3 := Lib.hid (LC.out.past hb3)
  have L4 := Lib.hid (L3.out.past hb3)
  have V4 := Lib.hid (V3.out.past hb3)
  have BB4 := Lib.hid (mb_bb BB3.out hb3)
  obtain ⟨y0, y1, u0, u1⟩ := LC3.out.two
  have lt := LC3.out.lt
  have LLT := Lib.hid lt
  by_cases f2 : q + 2 ≤ b.length
  case neg =>
    have NF : Hid (¬ fits b p) := Lib.hid (by have := HQ.out; unfold fits; omega)
    have e1 := rd_no HL.out F1.out f2
    rw [e1]
    have HA : (rdC ⟨b, (q : Int)⟩ 2 65535).a = 0 := by unfold rdC; rw [if_neg (by rw [e1]; decide)]
    rw [HA]
    clear hn3 ho3 hb3 f2 e1 HA LC L3 V3 V4 BB3 CI
    go_wp2_with (first | (show wpList _ _ _ ({ dst := none, op := Op.store 54 _ _, type := _, pos := _, after := _, guard := _ } :: _) _ _; go_must (refine Enc.wp_st RE (x := rc0) (g := w.heap.size) (P := Tryd.prog) info22 (by rfl) _ _ rfl (((L4.out.other (p := ⟨g4, 0, none⟩) (by have := HS2.out; show g4 ≠ _; omega) _).other (p := ⟨g4, 1, none⟩) (by have := HS2.out; show g4 ≠ _; omega) _)) rfl rfl ?_); intro w5 hR hg hb hz))
    (refine bodyPost_ret (ret_rc2 (by exact Tryd.results48) _ _ _ rfl hR) rfl ?_; exact .inr ⟨NF.out, rfl, (((BB4.out.setCell (p := ⟨g4, 0, none⟩) (by have := HS2.out; show w.heap.size ≤ g4; omega) _).setCell (p := ⟨g4, 1, none⟩) (by have := HS2.out; show w.heap.size ≤ g4; omega) _).trans hb)⟩)
  obtain ⟨e1, e2, e3⟩ := rd_yes HB.out HL.out f2
  obtain ⟨r, hr⟩ : ∃ r, q + 2 = r := ⟨_, rfl⟩
  rw [hr] at e2 f2
  have HR := Lib.hid hr
  have F2 := Lib.hid f2
  have e2a : (rdC ⟨b, (q : Int)⟩ 2 65535).a = (r : Int) := by rw [e2]
  rw [e1, e2a, e3]
  rw [e2] at hn3 ho3
  obtain ⟨z, hz⟩ : ∃ z, b.getD q 0 * 256 + b.getD (q + 1) 0 = z := ⟨_, rfl⟩
  rw [hz]
  have HZ : Hid (b.getD q 0 * 256 + b.getD (q + 1) 0 = z ∧ 0 ≤ z ∧ z ≤ 65535) := Lib.hid ⟨hz, by have := HB.out.at q; have := HB.out.at (q + 1); omega, by have := HB.out.at q; have := HB.out.at (q + 1); omega⟩
  have S3 := Lib.hid (two_st LC3.out (.slice A3 n3 c3) (.int .i64 (r : Int)))
  have O3 := Lib.hid (OwnZ.store2 ho3 LC3.out (by decide) (a := .slice A3 n3 c3) (b := .int .i64 (r : Int)))
  have N3 := Lib.hid hn3
  have V5 := Lib.hid (OwnZ.store2 V4.out LC3.out (by decide) (a := .slice A3 n3 c3) (b := .int .i64 (r : Int)))
  have L5 := Lib.hid (L4.out.far S3.out.gr (by have := HS2.out; omega))
  have BB5 := Lib.hid (Below.far BB4.out S3.out.gr (by have := HS2.out; omega))
  have CI3 := Lib.hid (cu_of HB.out O3.out N3.out F2.out HL.out)
  clear hn3 ho3 hb3 f2 e1 e2 e2a e3 hr hz LC L3 V3 V4 BB3 CI LC3 L4 BB4
  go_wp2_with fail
  obtain ⟨wx, hwx⟩ : ∃ wx, (w3.setCell ⟨g4, 0, none⟩ (.slice A3 n3 c3)).setCell ⟨g4, 1, none⟩ (.int .i64 (r : Int)) = wx := ⟨_, rfl⟩
  rw [hwx] at S3 O3 V5 L5 BB5 CI3 ⊢
  have HXS : Hid (w.heap.size < wx.heap.size) := Lib.hid (by have := S3.out.s; have := LLT.out; have := HS2.out; omega)
  clear hwx y0 y1 u0 u1 lt
  refine (Take_any ⟨b, (r : Int)⟩ A3 n3 c3 20 wx CI3.out (by decide) (by decide)).mono ?_
  rintro e w6 ⟨A6, n6, c6, D6, k6, j6, rfl, hn6, hk6, ho6, hd6, hb6⟩
  have LC6 := Lib.hid (S3.out.l.past hb6)
  have L6 := Lib.hid (L5.out.past hb6)
  have V6 := Lib.hid (V5.out.past hb6)
  have BB6 := Lib.hid (mb_bb BB5.out hb6)
  have BW6 := Lib.hid hb6.size
  obtain ⟨y0, y1, u0, u1⟩ := LC6.out.two
  have lt := LC6.out.lt
  by_cases f3 : r + 20 ≤ b.length
  case neg =>
    have NF : Hid (¬ fits b p) := Lib.hid (by have := HQ.out; have := HR.out; unfold fits; omega)
    have e1 := tk_no HL.out F2.out f3
    rw [e1]
    have HA : (tkC ⟨b, (r : Int)⟩ 20).a = 0 := by unfold tkC; rw [if_neg (by rw [e1]; decide)]
    rw [HA]
    clear hn6 hk6 ho6 hd6 hb6 f3 e1 HA S3 O3 V5 L5 BB5 CI3 V6 LC6
    go_wp2_with (first | (show wpList _ _ _ ({ dst := none, op := Op.store 54 _ _, type := _, pos := _, after := _, guard := _ } :: _) _ _; go_must (refine Enc.wp_st RE (x := rc0) (g := w.heap.size) (P := Tryd.prog) info22 (by rfl) _ _ rfl (((L6.out.other (p := ⟨g4, 0, none⟩) (by have := HS2.out; show g4 ≠ _; omega) _).other (p := ⟨g4, 1, none⟩) (by have := HS2.out; show g4 ≠ _; omega) _)) rfl rfl ?_); intro w5 hR hg hb hz))
    (refine bodyPost_ret (ret_rc2 (by exact Tryd.results48) _ _ _ rfl hR) rfl ?_; exact .inr ⟨NF.out, rfl, (((BB6.out.setCell (p := ⟨g4, 0, none⟩) (by have := HS2.out; show w.heap.size ≤ g4; omega) _).setCell (p := ⟨g4, 1, none⟩) (by have := HS2.out; show w.heap.size ≤ g4; omega) _).trans hb)⟩)
  obtain ⟨e1, e2, e3⟩ := tk_yes HL.out f3
  obtain ⟨t, ht⟩ : ∃ t, r + 20 = t := ⟨_, rfl⟩
  rw [ht] at e2 f3
  have HT := Lib.hid ht
  have F3 := Lib.hid f3
  have e2a : (tkC ⟨b, (r : Int)⟩ 20).a = (t : Int) := by rw [e2]
  rw [e1, e2a]
  rw [e2] at hn6 ho6
  rw [e3] at hk6 hd6
  have HDD := Lib.hid (sum_isD (p := r) HB.out (by omega))
  rw [HDD.out.len] at hk6
  subst hk6
  obtain ⟨dg, hdg⟩ : ∃ dg, (b.drop r).take 20 = dg := ⟨_, rfl⟩
  rw [hdg] at HDD hd6
  have HDG := Lib.hid hdg
  have S6 := Lib.hid (two_st LC6.out (.slice A6 n6 c6) (.int .i64 (t : Int)))
  have O6 := Lib.hid (OwnZ.store2 ho6 LC6.out (by decide) (a := .slice A6 n6 c6) (b := .int .i64 (t : Int)))
  have D7 := Lib.hid (OwnZ.store2 hd6 LC6.out (by decide) (a := .slice A6 n6 c6) (b := .int .i64 (t : Int)))
  have N6 := Lib.hid hn6
  have V7 := Lib.hid (OwnZ.store2 V6.out LC6.out (by decide) (a := .slice A6 n6 c6) (b := .int .i64 (t : Int)))
  have L7 := Lib.hid (L6.out.far S6.out.gr (by have := HS2.out; omega))
  have BB7 := Lib.hid (Below.far BB6.out S6.out.gr (by have := HS2.out; omega))
  have K7 := Lib.hid (HK.out.past BB7.out)
  obtain ⟨v0, v1, s0, s1⟩ := K7.out.two
  have lt7 := K7.out.lt
  have NE : Hid (g ≠ g4 ∧ g < w.heap.size) := Lib.hid ⟨by have := HG.out; have := HS2.out; omega, HG.out⟩
  have S7 := Lib.hid (two_st K7.out (.slice A6 n6 c6) (.int .i64 (t : Int)))
  have O8 := Lib.hid (OwnZ.store2 O6.out K7.out (by decide) (a := .slice A6 n6 c6) (b := .int .i64 (t : Int)))
  have D8 := Lib.hid (OwnZ.store2 D7.out K7.out (by decide) (a := .slice A6 n6 c6) (b := .int .i64 (t : Int)))
  have V8 := Lib.hid (OwnZ.store2 V7.out K7.out (by decide) (a := .slice A6 n6 c6) (b := .int .i64 (t : Int)))
  have L8 := Lib.hid (L7.out.far S7.out.gr (by have := HG.out; omega))
  have yz := S6.out.l.two
  obtain ⟨z0, z1, -, -⟩ := yz
  have ltz := S6.out.l.lt
  have FT : Hid (fits b p ∧ nx b p = t) := Lib.hid (by have := HQ.out; have := HR.out; have := HT.out; unfold fits nx; omega)
  clear hn6 ho6 hd6 hb6 f3 e1 e2 e2a e3 ht hdg S3 O3 V5 L5 BB5 CI3 V6 LC6 L6 O6 D7 V7 L7
  go_upto_region 11 with fail
  obtain ⟨wy, hwy⟩ : ∃ wy, (w6.setCell ⟨g4, 0, none⟩ (.slice A6 n6 c6)).setCell ⟨g4, 1, none⟩ (.int .i64 (t : Int)) = wy := ⟨_, rfl⟩
  rw [hwy] at S6 BB7 K7 S7 O8 D8 V8 L8 ⊢
  clear hwy y0 y1 u0 u1 lt v0 v1 s0 s1 lt7 z0 z1 ltz
  obtain ⟨wz, hwz⟩ : ∃ wz, (wy.setCell ⟨g, 0, none⟩ (.slice A6 n6 c6)).setCell ⟨g, 1, none⟩ (.int .i64 (t : Int)) = wz := ⟨_, rfl⟩
  rw [hwz] at S7 O8 D8 V8 L8 ⊢
  clear hwz S6 K7
  obtain ⟨g9, rfl, -, -, od⟩ := D8.out.at_head (by decide)
  have RD9 : Hid (∀ x', Below wz.heap.size wz x' → x'.rangeAt g9 0 (sv dg)) := Lib.hid (fun x' h j v hv => by
    have hj : j < dg.length := by
      rcases Nat.lt_or_ge j dg.length with h | h
      · exact h
      · rw [sv, List.getElem?_map, List.getElem?_eq_none h] at hv; cases hv
    have := (od.below h (Nat.le_refl _)).cell j hj
    rw [Nat.zero_add, this]
    rw [sv, List.getElem?_map, List.getElem?_eq_getElem hj] at hv
    rw [List.getD_eq_getElem?_getD, List.getElem?_eq_getElem hj]
    exact hv)
  have aa := arr_m
  clear od
  (have RD := grows_roads (S := fun x' => Below wz.heap.size wz x') (fun a b h1 h2 => h2.trans (h1.mono h2.size))); refine region_ordT 8 _ Grows RD (Below.drew (Below.refl _ _)) (by kernel_rfl) (by decide) ?_; intro ops Q' hops hPQ hN; (have HNS : Hid (Region.noSelect ops = true ∧ Region.sinkB .any ops 8 = true ∧ Region.chainB .any ops 8 = true ∧ 8 < ops.size) := Lib.hid (by rw [hops]; exact ⟨by kernel_rfl, by kernel_rfl, by kernel_rfl, by decide⟩)); (have hsz : ops.size = 10 := (by rw [hops]; rfl)); have HOP := Lib.hid hops; have HPQ := Lib.hid hPQ; have HN := Lib.hid hN; rw [hsz]; clear hops hsz hPQ hN
  refine ordT_take RD 0 (at_list (by rw [HOP.out]; rfl)) HNS.out HPQ.out (by rw [HOP.out]; kernel_rfl) (by rw [HOP.out]; kernel_rfl) (by rw [HOP.out]; rfl) (fun K hK => ?_); apply Exists.intro; refine ⟨fun W hSW => ?_, hK _ ?_⟩; (focus ((try dsimp only at hSW); go_simp; try with_reducible rfl)); clear hK K; (try simp only [Act.put, List.setIfInBounds_toArray, List.set_cons_zero, List.set_cons_succ])
  refine ordT_take RD 1 (at_list (by rw [HOP.out]; rfl)) HNS.out HPQ.out (by rw [HOP.out]; kernel_rfl) (by rw [HOP.out]; kernel_rfl) (by rw [HOP.out]; rfl) (fun K hK => ?_); apply Exists.intro; refine ⟨fun W hSW => ?_, hK _ ?_⟩; (focus ((try dsimp only at hSW); have cv := conv8 (c := d2) (V8.out.has.below hSW (Nat.le_refl _)) M2.out.symm; go_simp; try with_reducible rfl)); clear hK K; (try simp only [Act.put, List.setIfInBounds_toArray, List.set_cons_zero, List.set_cons_succ])
  refine ordT_take RD 2 (at_list (by rw [HOP.out]; rfl)) HNS.out HPQ.out (by rw [HOP.out]; kernel_rfl) (by rw [HOP.out]; kernel_rfl) (by rw [HOP.out]; rfl) (fun K hK => ?_); apply Exists.intro; refine ⟨fun W hSW => ?_, hK _ ?_⟩; (focus ((try dsimp only at hSW); go_simp; try with_reducible rfl)); clear hK K; (try simp only [Act.put, List.setIfInBounds_toArray, List.set_cons_zero, List.set_cons_succ])
  refine ordT_take RD 3 (at_list (by rw [HOP.out]; rfl)) HNS.out HPQ.out (by rw [HOP.out]; kernel_rfl) (by rw [HOP.out]; kernel_rfl) (by rw [HOP.out]; rfl) (fun K hK => ?_); apply Exists.intro; refine ⟨fun W hSW => ?_, hK _ ?_⟩; (focus ((try dsimp only at hSW); (have wz0 : IntKind.i64.wrap z = z := (by rw [IntKind.wrap_i64]; have := HZ.out; omega)); go_simp; try with_reducible rfl)); clear hK K; (try simp only [Act.put, List.setIfInBounds_toArray, List.set_cons_zero, List.set_cons_succ])
  refine ordT_take RD 4 (at_list (by rw [HOP.out]; rfl)) HNS.out HPQ.out (by rw [HOP.out]; kernel_rfl) (by rw [HOP.out]; kernel_rfl) (by rw [HOP.out]; rfl) (fun K hK => ?_); apply Exists.intro; refine ⟨fun W hSW => ?_, hK _ ?_⟩; (focus ((try dsimp only at hSW); go_simp; try with_reducible rfl)); clear hK K; (try simp only [Act.put, List.setIfInBounds_toArray, List.set_cons_zero, List.set_cons_succ])
  refine ordT_take RD 5 (at_list (by rw [HOP.out]; rfl)) HNS.out HPQ.out (by rw [HOP.out]; kernel_rfl) (by rw [HOP.out]; kernel_rfl) (by rw [HOP.out]; rfl) (fun K hK => ?_); apply Exists.intro; refine ⟨fun W hSW => ?_, hK _ ?_⟩; (focus ((try dsimp only at hSW); go_simp; try with_reducible rfl)); clear hK K; (try simp only [Act.put, List.setIfInBounds_toArray, List.set_cons_zero, List.set_cons_succ])
  refine ordT_take RD 6 (at_list (by rw [HOP.out]; rfl)) HNS.out HPQ.out (by rw [HOP.out]; kernel_rfl) (by rw [HOP.out]; kernel_rfl) (by rw [HOP.out]; rfl) (fun K hK => ?_); apply Exists.intro; refine ⟨fun W hSW => ?_, hK _ ?_⟩; (focus ((try dsimp only at hSW); exact trW.quiet_ld (l := dg) _ rfl (RD9.out _ hSW) (HDD.out.len) rfl)); clear hK K; (try simp only [Act.put, List.setIfInBounds_toArray, List.set_cons_zero, List.set_cons_succ])
  refine ordT_take RD 7 (at_list (by rw [HOP.out]; rfl)) HNS.out HPQ.out (by rw [HOP.out]; kernel_rfl) (by rw [HOP.out]; kernel_rfl) (by rw [HOP.out]; rfl) (fun K hK => ?_); apply Exists.intro; refine ⟨fun W hSW => ?_, hK _ ?_⟩; (focus ((try dsimp only at hSW); exact (quiet_rec _ _ _ rfl HDD.out.len rfl rfl rfl))); clear hK K; (try simp only [Act.put, List.setIfInBounds_toArray, List.set_cons_zero, List.set_cons_succ])
  refine ordT_end (by rw [HOP.out]; kernel_rfl) (fun W1 hWW hSW => ?_); rw [HOP.out]; simp only [List.drop_succ_cons, List.drop_zero]; have hN := HN.out; clear HOP HNS HPQ HN RD; (try dsimp only at hSW)
  have LF := Lib.hid (L8.out.past hSW)
  have KF := Lib.hid (S7.out.l.past hSW)
  have OF := Lib.hid (O8.out.past hSW)
  have BF := Lib.hid hSW
  clear hSW hWW aa
  have RCE : Hid (rcAt b p = ⟨bstr ((b.drop (p + 1)).take (nl b p)), z, dg⟩) := Lib.hid (by
    have h1 := HQ.out
    have h2 := HR.out
    unfold rcAt
    rw [h1, show p + 2 + nl b p = q + 1 by omega, show p + 3 + nl b p = r by omega, HZ.out.1, HDG.out])
  go_wp2_with (show wpList _ _ _ ({ dst := none, op := Op.store 54 (.tmp 2) _, type := _, pos := _, after := _, guard := _ } :: _) _ _; go_must (refine Enc.wp_st RE (g := w.heap.size) (P := Tryd.prog) info22 (by rfl) _ _ rfl (LF.out) rfl rfl ?_); intro w9 hR9 hg9 hb9 hz9)
  refine bodyPost_ret (ret_rc2 (by exact Tryd.results48) _ _ _ rfl hR9) rfl ?_
  have hww : w.heap.size ≤ wz.heap.size := Nat.le_trans BB7.out.size (by have := S7.out.s; omega)
  refine .inl ⟨FT.out.1, A6, n6, c6, by rw [RCE.out]; rfl, ?_, ?_, N6.out, ?_, ?_⟩
  · rw [FT.out.2]; exact KF.out.far hg9 (by have := HG.out; omega)
  · exact (OwnZ.far OF.out hg9 HXS.out).mono (Nat.le_of_lt HXS.out)
  · exact grown_mid BB7.out S7.out.gr ((BF.out.mono hww).trans hb9)
  · exact (BB7.out.mono (by have := HG.out; omega)).trans (S7.out.be.trans ((BF.out.mono (by have := HG.out; omega)).trans (hb9.mono (by have := HG.out; omega))))
end Go.Proofs.YtiihafhnaiicoaaDoor.mbW
