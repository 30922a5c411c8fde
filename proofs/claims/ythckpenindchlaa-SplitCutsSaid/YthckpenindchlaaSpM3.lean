/- What is missing: the program's. -/
import Derived.Test.YthckpenindchlaaSpM2
namespace Go.Proofs.Ythckpenindchlaa.spW
set_option maxRecDepth 100000
open Go.RowKit Go.Proofs.Ythckpenindchlaa.base Go.Proofs.Ythckpenindchlaa.mbW
set_option linter.unusedVariables false
set_option linter.unusedSimpArgs false
set_option maxRecDepth 100000
theorem IPi : Enc.Info PE Try.prog 27 24 := IP
/-- append of what may be nothing. -/
theorem app_any {w : World} {ops : Array Oper} {rest : List Oper} {o : Oper} {a : Act} {Q : Exit → Act → World → Prop} (hw : Region.wanted o (yielded ops a.tmps) = true) (s x : Operand)
    (ho : o.op = .call { callee := .builtin .append, args := #[s, x], argTypes := #[27, 27] })
    (B : Nat) (A0 : Option Addr) (n0 c0 : Nat) (xs : List Pc) (hs : a.eval s = .slice A0 n0 c0) (hown : PE.Own w B (.slice A0 n0 c0) xs) (hn0 : xs.length = n0) (A : Option Addr) (m c : Nat) (ys : List Pc) (hx : a.eval x = .slice A m c) (hm : ys.length = m) (hA : PE.Own w B (.slice A m c) ys) (hl : xs.length + m ≤ 1000000) (hB : B ≤ w.heap.size)
    (h : ∀ A' c' w', PE.Own w' B (.slice A' (n0 + m) c') (xs ++ ys) → w.grownBy w' (Value.slice A0 n0 c0).ownBlock → Below B w w' → wpList Try.prog ops Q rest (a.put o.dst (.slice A' (n0 + m) c')) w') : wpList Try.prog ops Q (o :: rest) a w := by
  rcases A with _ | ad
  · have hc := hA.2
    rcases hc with ⟨e, h0⟩ | ⟨g, cap, cur, e, _⟩
    · injection e with _ e1 e2
      subst e1 e2
      have hy : ys = [] := List.eq_nil_of_length_eq_zero h0
      subst hy
      obtain ⟨i, z, h1, h2, h3, h4, h5⟩ := IP.i
      refine wpList_step fun K hK => ?_
      rw [if_pos hw]
      have hr := run_append_owned_none (P := Try.prog) (w := w) B 27 o.type 46 i 3 IP.u h1 (.slice A0 n0 c0) xs.length (PE.row xs) hown
      unfold Oper.wp execOp
      simp only [ho, resolve, invoke, builtin, Sem.run_bind, Sem.run_pure, Result.andThen_ok, List.map_toArray, List.map_cons, List.map_nil, hs, hx, hr]
      exact hK _ _ (h A0 c0 w (by rw [List.append_nil]; exact hown) (World.grownBy.refl _ _) (Below.refl _ _))
    · injection e with e1 _ _
      cases e1
  · exact Enc.app PE IP (by decide) hw s x ho B _ xs hs hown ad m c ys hx hm hA.has hl hB (n0 + m) (by rw [hn0]) h
set_option maxHeartbeats 12800000 in
theorem missing_any (zs : List Int) (P : Option Addr) (m d : Nat) (l : List Pc) (Q : Option Addr) (n c : Nat) (w : World) (hZ : ZsB w P m d zs) (hL : PsB w Q n c l) (hs : szE zs = 0) (hcp : cpE zs l = 0) :
    Calls Try.prog 28 #[.slice P m d, .slice Q n c] w (PxP (msT zs l m) w) := by
  have HZ := Lib.hid hZ
  have HZL := Lib.hid hZ.l
  have HL := Lib.hid hL
  have HLL := Lib.hid hL.ln
  have m9 : (m : Int) ≤ 16 := by have := (sz_zero hs).2.1; have := hZ.l; omega
  have n9 : (n : Int) ≤ 600 := by have := (cp_zero hcp).1; have := hL.ln; omega
  have HS := Lib.hid hs
  have HWI := Lib.hid (cp_zero hcp).2
  clear hZ hL hs hcp
  go_enter Try.func28, Try.ntmps28
  go_wp2_with fail
  go_loopw [5, 14] (fun lv iv wr => ∃ (k np : Nat) (A : Option Addr) (c' : Nat), k ≤ m ∧ iv = .int .i64 (k : Int) ∧ lv = .slice A np c' ∧ (msT zs l k).length = np ∧ PE.Own wr w.heap.size (.slice A np c') (msT zs l k) ∧ Below w.heap.size w wr) (fun _ iv _ => m - (intOf iv).toNat)
  case atStart => exact ⟨0, 0, none, 0, Nat.zero_le _, rfl, rfl, rfl, Enc.Own.nil _ _, Below.refl _ _⟩
  case round =>
    obtain ⟨k, np, A, c', hk, rfl, rfl, hnp, own, acc⟩ := hrel
    rename World => wr
    have HO := Lib.hid own
    have HACC := Lib.hid acc
    have HNP := Lib.hid hnp
    by_cases hlt : k < m
    · obtain ⟨b, off, rfl, hb, hc⟩ := zsAt HZ.out hlt
      have x0 := hc k hlt wr acc
      have ltb : b < wr.heap.size := Nat.lt_of_lt_of_le hb acc.size
      have HK := Lib.hid hlt
      have k1 : (k : Int) < m := by omega
      have k0 : 0 ≤ (k : Int) := by omega
      have HZ1 := sz_one HS.out (k := k) (by rw [HZL.out]; exact hlt)
      have HMS := Lib.hid (ms_small HS.out l (k := k + 1) (by rw [HZL.out]; omega))
      obtain ⟨z, hz⟩ : ∃ z : Nat, zs.getD k 0 = (z : Int) := ⟨(zs.getD k 0).toNat, by omega⟩
      have HMT : Hid (msT zs l (k + 1) = msT zs l k ++ gp k (cvT l k z n) z) := Lib.hid (by rw [msT, hz, HLL.out, Int.toNat_natCast])
      have HZK := Lib.hid hz
      rw [hz] at x0 HZ1
      have HZB := Lib.hid HZ1
      have z9 : z ≤ 8192 := by omega
      clear hk hlt own acc hnp hc hb hz
      go_wp2_with (show wpList _ _ _ ({ dst := _, op := Op.makeSlice 67 _ _, type := _, pos := _, after := _, guard := _ } :: _) _ _; go_must (refine makeB rfl _ _ rfl .i64 .i64 (z) rfl rfl ((by omega)) w.heap.size ?hbs ?_); (case hbs => exact HACC.out.size); intro w8 ho8 hb8)
      have O8 := Lib.hid (HO.out.past hb8)
      have C8 := Lib.hid ho8
      have B8 := Lib.hid (mb_bb HACC.out hb8)
      have HNE := Lib.hid (HO.out.apart (g := wr.heap.size) (Nat.le_refl _))
      have HG8 := Lib.hid HACC.out.size
      have HG9 := Lib.hid (OwnB.base_le ho8).2
      obtain ⟨g8, hg8⟩ : ∃ g, wr.heap.size = g := ⟨_, rfl⟩
      rw [hg8] at C8 HNE HG8 HG9 ⊢
      clear ho8 hb8 hg8 HO HACC x0 ltb
      go_loopw [23] (fun iv wq => ∃ t : Nat, t ≤ n ∧ iv = .int .i64 (t : Int) ∧ OwnB wq w.heap.size 4 (.slice (some ⟨g8, 0, none⟩) z z) (cvT l k z t) ∧ PE.Own wq w.heap.size (.slice A np c') (msT zs l k) ∧ Below w.heap.size w wq) (fun iv _ => n - (intOf iv).toNat)
      case atStart => exact ⟨0, Nat.zero_le _, rfl, C8.out, O8.out, B8.out⟩
      case round =>
        clear C8 O8 B8
        obtain ⟨t, ht, rfl, cov, own, acc⟩ := hrel
        rename World => wq
        have HO := Lib.hid own
        have HACC := Lib.hid acc
        have HCV := Lib.hid cov
        by_cases hlt : t < n
        · obtain ⟨b2, off2, rfl, hb2, hc2⟩ := psAt HL.out hlt
          have HRG := Lib.hid (hc2 t hlt wq acc)
          have HT := Lib.hid hlt
          have t1 : (t : Int) < n := by omega
          have t0 : 0 ≤ (t : Int) := by omega
          have HWP := Lib.hid (HWI.out t (by rw [HLL.out]; exact hlt))
          have HCT : Hid (cvT l k z (t + 1) = if (l.getD t pc0).m = (k : Int) then setR (cvT l k z t) (l.getD t pc0).o.toNat (l.getD t pc0).r.toNat else cvT l k z t) := Lib.hid rfl
          have HBD := Lib.hid (psZ HL.out hlt)
          generalize l.getD t pc0 = p at *
          obtain ⟨pm, po, pr⟩ := p
          dsimp only at HCT HBD
          have G := mb_new wq (.cells #[.int .i64 pm, .int .i64 po, .int .i64 pr] 46)
          have B1 := Lib.hid (mb_bb acc G)
          have O1 := Lib.hid (own.past G)
          have C1 := Lib.hid (OwnB.below cov G (Nat.le_refl _))
          clear ht hlt cov own acc hc2 hb2 HO HACC G
          by_cases hm : pm = (k : Int)
          · subst hm
            have HE : Hid (cvT l k z (t + 1) = setR (cvT l k z t) po.toNat pr.toNat) := Lib.hid (by rw [HCT.out, if_pos rfl])
            obtain ⟨ho1, ho2, ho3, ho4, ho5, ho6⟩ := HWP.out
            dsimp only at ho3 ho4 ho5 ho6
            rw [Int.toNat_natCast, HZK.out] at ho5 ho6
            obtain ⟨q, rfl⟩ : ∃ q : Nat, po = (q : Int) := ⟨po.toNat, by omega⟩
            obtain ⟨r, rfl⟩ : ∃ r : Nat, pr = (r : Int) := ⟨pr.toNat, by omega⟩
            rw [Int.toNat_natCast, Int.toNat_natCast] at HE
            have HQR : Hid (q + r ≤ z) := Lib.hid (by omega)
            have L1 := Lib.hid (Lies.fresh wq 46 [.int .i64 (k : Int), .int .i64 (q : Int), .int .i64 (r : Int)])
            have r9 : (r : Int) ≤ 8192 := by have := HZB.out; omega
            have r0 : 0 ≤ (r : Int) := by omega
            have q0 : 0 ≤ (q : Int) := by omega
            have q9 : (q : Int) ≤ 8192 := by have := HZB.out; omega
            have HGQ : Hid (g8 < wq.heap.size) := Lib.hid (OwnB.base_le HCV.out).2
            clear ho1 ho2 ho3 ho4 ho5 ho6 HWP HCT HCV
            go_wp2_with (show wpList _ _ _ ({ dst := _, op := Op.load 46 _, type := _, pos := _, after := _, guard := _ } :: _) _ _; go_must (refine wp_ldP ((k : Int)) ((q : Int)) ((r : Int)) (by rfl) _ rfl (HRG.out) rfl ?_))
            have HSZ : Hid (g8 < (wq.alloc (.cells #[.int .i64 (k : Int), .int .i64 (q : Int), .int .i64 (r : Int)] 46)).heap.size) := Lib.hid (by simp; have := HGQ.out; omega)
            generalize (wq.alloc (.cells #[.int .i64 (k : Int), .int .i64 (q : Int), .int .i64 (r : Int)] 46)) = w1 at *
            go_loopw [33] (fun uv wz => ∃ u : Nat, u ≤ r ∧ uv = .int .i64 (u : Int) ∧ OwnB wz w.heap.size 4 (.slice (some ⟨g8, 0, none⟩) z z) (setR (cvT l k z t) q u) ∧ PE.Own wz w.heap.size (.slice A np c') (msT zs l k) ∧ Lies wz wq.heap.size 46 [.int .i64 (k : Int), .int .i64 (q : Int), .int .i64 (r : Int)] ∧ Below w.heap.size w wz) (fun uv _ => r - (intOf uv).toNat)
            case atStart => exact ⟨0, Nat.zero_le _, rfl, by rw [setR_zero]; exact C1.out, O1.out, L1.out, B1.out⟩
            case round =>
              clear C1 O1 L1 B1
              obtain ⟨u, hu, rfl, cov, own, lie, acc⟩ := hrel
              rename World => wz
              by_cases hlt : u < r
              · obtain ⟨y0, y1, y2, -, -, -⟩ := lie.three
                have ltq := lie.lt
                have HU := Lib.hid hlt
                have u1 : (u : Int) < r := by omega
                have u0 : 0 ≤ (u : Int) := by omega
                have hqu : q + u < (setR (cvT l k z t) q u).length := by rw [setR_len, cvT_len]; have := HQR.out; omega
                have cc := cov.cell (q + u) hqu
                have cf := cov.frozen (q + u)
                have ltg := (OwnB.base_le cov).2
                have HC2 := Lib.hid (cov.store (q + u) true)
                have HST := Lib.hid (setR_step (cvT l k z t) q u (by rw [cvT_len]; have := HQR.out; omega))
                have HO2 := Lib.hid (own.kept (far_set (World.grownBy.refl _ _) (.bool true) (i := q + u)) HNE.out)
                have HL2 := Lib.hid (lie.other (p := ⟨g8, q + u, none⟩) (by have := HGQ.out; show g8 ≠ wq.heap.size; omega) (.bool true))
                have HB2 := Lib.hid (acc.setCell (p := ⟨g8, q + u, none⟩) HG8.out (.bool true))
                have t2 : ((q : Int) + (u : Int)).toNat = q + u := by omega
                have i1 : 0 ≤ (q : Int) + u := by omega
                have i2 : (q : Int) + u < z := by have := HQR.out; omega
                clear hu hlt cov own lie acc hqu
                go_wp2_with fail
                go_roundw
                case rel => exact ⟨u + 1, HU.out, by go_num, by rw [← HST.out]; exact HC2.out, HO2.out, HL2.out, HB2.out⟩
                case measure => simp [intOf]; have := HU.out; omega
              · have u1 : ¬ (u : Int) < r := by omega
                obtain rfl : u = r := by omega
                have HC2 := Lib.hid cov
                have HO2 := Lib.hid own
                have HB2 := Lib.hid acc
                clear hu hlt cov own lie acc
                go_wp2_with fail
                go_roundw
                case rel => exact ⟨t + 1, HT.out, by go_num, by rw [HE.out]; exact HC2.out, HO2.out, HB2.out⟩
                case measure => simp [intOf]; have := HT.out; omega
          · have HE : Hid (cvT l k z (t + 1) = cvT l k z t) := Lib.hid (by rw [HCT.out, if_neg hm])
            clear HCT HWP HCV
            go_wp2_with (show wpList _ _ _ ({ dst := _, op := Op.load 46 _, type := _, pos := _, after := _, guard := _ } :: _) _ _; go_must (refine wp_ldP (pm) (po) (pr) (by rfl) _ rfl (HRG.out) rfl ?_))
            go_roundw
            case rel => exact ⟨t + 1, HT.out, by go_num, by rw [HE.out]; exact C1.out, O1.out, B1.out⟩
            case measure => simp [intOf]; have := HT.out; omega
        · have t1 : ¬ (t : Int) < n := by omega
          obtain rfl : t = n := by omega
          clear ht hlt cov own acc
          go_wp2_with fail
          refine (gaps_any (k : Int) (cvT l k z t) (some ⟨g8, 0, none⟩) z z wq HCV.out.has (cvT_len _ _ _ _) z9).mono ?_
          rintro e wn ⟨A2, n2, c2, rfl, hn2, ho2, hb2⟩
          have O3 := Lib.hid (HO.out.past hb2)
          have G3 := Lib.hid (ho2.mono HACC.out.size)
          have B3 := Lib.hid (mb_bb HACC.out hb2)
          have HN2 := Lib.hid hn2
          have HLN : Hid ((msT zs l k).length + n2 ≤ 8192) := Lib.hid (by have := HMS.out; rw [HMT.out, List.length_append, ← hn2] at this; exact this)
          clear hn2 ho2 hb2 HO HACC HCV
          go_wp2_with (at_builtin; refine app_any (by rfl) _ _ rfl w.heap.size A np c' (msT zs l k) rfl O3.out HNP.out A2 n2 c2 (gp k (cvT l k z t) z) rfl HN2.out.symm G3.out (by have := HLN.out; omega) B3.out.size ?_; intro A7 c7 w7 ho7 hg7 hb7)
          go_roundw
          case rel => exact ⟨k + 1, np + n2, A7, c7, HK.out, by go_num, rfl, by rw [HMT.out, List.length_append, HNP.out, ← HN2.out], by rw [HMT.out]; exact ho7, B3.out.trans hb7⟩
          case measure => simp [intOf]; have := HK.out; omega
    · have k1 : ¬ (k : Int) < m := by omega
      obtain rfl : k = m := by omega
      clear hk hlt own acc hnp
      go_wp2_with fail
      go_ret
      exact ⟨A, np, c', rfl, HNP.out.symm, HO.out, HACC.out⟩
end Go.Proofs.Ythckpenindchlaa.spW
