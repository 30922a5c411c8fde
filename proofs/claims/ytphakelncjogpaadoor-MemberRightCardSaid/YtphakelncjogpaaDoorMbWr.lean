/- Write, the program's. -/
import Derived.Test.YtphakelncjogpaaDoorMbWP
namespace Go.Proofs.YtphakelncjogpaaDoor.mbW
set_option maxRecDepth 100000
open Go.RowKit Go.Proofs.YtphakelncjogpaaDoor.base Go.Proofs.YtphakelncjogpaaDoor.shP Go.Proofs.YtphakelncjogpaaDoor.shW Go.Proofs.YtphakelncjogpaaDoor.ocP Go.Proofs.YtphakelncjogpaaDoor.ocW
open Go.Proofs.YtphakelncjogpaaDoor.trW (IsD sv zd_isD digest_isD z20_at)
set_option linter.unusedVariables false
set_option linter.unusedSimpArgs false
set_option maxRecDepth 100000
set_option maxHeartbeats 6400000 in
theorem Write_any (rs : List Rc) (P : Option Addr) (m d : Nat) (w : World) (hT : Tab w) (hR : RecB w P m d rs) :
    Calls Tryd.prog 18 #[.slice P m d] w (WrP rs w) := by
  have m9 : (m : Int) ≤ 9223372036854775807 := by have := hR.c1; have := hR.c2; omega
  have HR := Lib.hid hR
  have HL := Lib.hid hR.l
  go_enter Tryd.func18, Tryd.ntmps18
  go_wp2_with fail
  refine (Valid_any rs P m d w hT hR).mono ?_
  rintro e w1 ⟨rfl, b1⟩
  clear hR hT
  have B1 := Lib.hid b1
  clear b1
  rcases vl_cases rs with hc | hc
  case inr =>
    have HC : Hid (vlE rs ≠ 0) := Lib.hid (by omega)
    have HF := Lib.hid (wr_no HC.out)
    rcases hc with hc | hc | hc <;>
    · have HCC := Lib.hid hc
      rw [hc]
      clear hc
      go_wp2_with fail
      go_ret2
      exact ⟨none, 0, 0, by rw [HCC.out]; rfl, by rw [HF.out]; rfl, Nat.le_refl _, by omega, .inl HF.out, B1.out⟩
  case inl =>
    have HC := Lib.hid hc
    have HZ := Lib.hid (vl_zero hc)
    have hm := HZ.out.1
    rw [HL.out] at hm
    have HM := Lib.hid hm
    rw [hc]
    clear hc hm
    go_wp2_with fail
    go_loopw [5, 18] (fun bv iv wq => ∃ (k n : Nat) (A : Option Addr) (c : Nat), k ≤ m ∧ iv = .int .i64 (k : Int) ∧ bv = .slice A n c ∧ n = (tabB (rs.take k)).length ∧ n ≤ 100 * k ∧ OwnI wq w.heap.size 5 .u8 (.slice A n c) (tabB (rs.take k)) ∧ Below w.heap.size w wq) (fun _ iv _ => m - (intOf iv).toNat)
    case atStart => exact ⟨0, 0, none, 0, Nat.zero_le _, rfl, rfl, rfl, by omega, OwnI.nil _ _ _ _, B1.out⟩
    case round =>
      clear B1
      obtain ⟨k, n, A, c, hk, rfl, rfl, hn, hn2, own, acc⟩ := hrel
      rename World => wq
      have HN := Lib.hid (And.intro hn hn2)
      have HO := Lib.hid own
      have HACC := Lib.hid acc
      by_cases hlt : k < m
      · obtain ⟨b, off, rfl, hb⟩ := HR.out.h.some (by rw [HL.out]; omega)
        have RX := Lib.hid ((HR.out.h.past acc).rng (i := k) (by rw [HL.out]; exact hlt))
        have HK := Lib.hid hlt
        have hmem : rs.getD k RE.d ∈ rs := by rw [List.getD_eq_getElem?_getD, List.getElem?_eq_getElem (by rw [HL.out]; exact hlt)]; exact List.getElem_mem _
        have HSD := Lib.hid (HR.out.d _ hmem)
        have HOK := Lib.hid (HZ.out.2.1 k (by rw [HL.out]; exact hlt))
        have HSN := Lib.hid (tabB_snoc rs (k := k) (by rw [HL.out]; exact hlt))
        have k1 : (k : Int) < m := by omega
        have k0 : 0 ≤ (k : Int) := by omega
        have hd0 : RE.d = rc0 := rfl
        rw [hd0] at RX HSD
        generalize rs.getD k rc0 = q at *
        obtain ⟨nm, sz, sm⟩ := q
        clear hmem hd0
        have HNS := Lib.hid (nm_size HOK.out.1)
        have HLN := Lib.hid (rcB_len (r := ⟨nm, sz, sm⟩) HSD.out.len)
        have z0 : 0 ≤ sz := HOK.out.2.1
        have z9 : sz ≤ 8192 := HOK.out.2.2.1
        dsimp only at HNS HSD HLN
        have LZ := Lib.hid (z22_at wq rfl)
        have HGG := Lib.hid (mb_new wq (.cells #[.string ⟨#[]⟩, .int .i64 0, .int .u8 0, .int .u8 0, .int .u8 0, .int .u8 0, .int .u8 0, .int .u8 0, .int .u8 0, .int .u8 0, .int .u8 0, .int .u8 0, .int .u8 0, .int .u8 0, .int .u8 0, .int .u8 0, .int .u8 0, .int .u8 0, .int .u8 0, .int .u8 0, .int .u8 0, .int .u8 0] 54))
        have HGS : Hid ((wq.alloc (.cells #[.string ⟨#[]⟩, .int .i64 0, .int .u8 0, .int .u8 0, .int .u8 0, .int .u8 0, .int .u8 0, .int .u8 0, .int .u8 0, .int .u8 0, .int .u8 0, .int .u8 0, .int .u8 0, .int .u8 0, .int .u8 0, .int .u8 0, .int .u8 0, .int .u8 0, .int .u8 0, .int .u8 0, .int .u8 0, .int .u8 0] 54)).heap.size = wq.heap.size + 1) := Lib.hid (by simp)
        clear hk hn hn2 hlt own acc hb
        go_upto_region 8 with (first | (show wpList _ _ _ ({ dst := _, op := Op.load 54 _, type := _, pos := _, after := _, guard := _ } :: _) _ _; go_must (refine Enc.wp_ld RE (x := ⟨nm, sz, sm⟩) (P := Tryd.prog) Tryd.underlying54 rfl info22 (by rfl) _ rfl (RX.out) rfl ?_)) | (show wpList _ _ _ ({ dst := none, op := Op.store 54 (.tmp 7) _, type := _, pos := _, after := _, guard := _ } :: _) _ _; go_must (refine Enc.wp_st RE (g := wq.heap.size) (P := Tryd.prog) info22 (by rfl) _ _ rfl (LZ.out) rfl rfl ?_); intro w5 hR5 hg5 hb5 hz5))
        have BQ := HGG.out.trans hb5
        have L5 := Lib.hid hR5
        have O5 := Lib.hid (ownI_past HO.out BQ)
        have B5 := Lib.hid (mb_bb HACC.out BQ)
        have y0 : w5.cell? ⟨wq.heap.size, 0, none⟩ = some (.string nm) := L5.out.cell 0
        have HNG := Lib.hid (own_ne HO.out (Nat.le_refl _))
        obtain ⟨g8, hg8⟩ : ∃ g8, wq.heap.size = g8 := ⟨_, rfl⟩
        have HS5 : Hid (g8 < w5.heap.size) := Lib.hid (by rw [hz5, HGS.out]; omega)
        rw [hg8] at y0 L5 HNG ⊢
        clear BQ hR5 hg5 hb5 hz5 HACC HGG LZ RX HO HGS hg8
        obtain ⟨cc, wB, hcv, hh, hc1, hc2, hbb, hlt⟩ := conv_m nm w5 (by have := HNS.out; omega)
        have HH := Lib.hid (And.intro hh (And.intro hc1 hc2))
        have LB := Lib.hid (L5.out.past hbb)
        have OB := Lib.hid (ownI_past O5.out hbb)
        have BB := Lib.hid (mb_bb B5.out hbb)
        have HSB : Hid (w5.heap.size < wB.heap.size) := Lib.hid hlt
        clear hh hc1 hc2 hbb hlt
        go_wp2_with fail
        refine (String_any (bl nm) 1 _ nm.size cc wB HH.out.1 (bl_len nm) HH.out.2.1 HH.out.2.2).mono ?_
        rintro e w6 ⟨A6, n6, c6, rfl, hn6, ho6, hb6⟩
        rw [(str_name HNS.out.2).1]
        rw [(str_name HNS.out.2).2] at hn6 ho6
        have L6 := Lib.hid (LB.out.past hb6)
        have O6 := Lib.hid (ownI_past OB.out hb6)
        have B6 := Lib.hid (mb_bb BB.out hb6)
        have H6 := Lib.hid ho6
        have N6 := Lib.hid hn6
        have S6 := Lib.hid hb6.size
        have y1 : w6.cell? ⟨g8, 1, none⟩ = some (.int .i64 sz) := L6.out.cell 1
        clear hcv y0 hn6 ho6 hb6 L5 O5 B5 LB OB BB HH
        go_wp2_with fail
        refine (Number_any sz 2 w6 z0 (by omega)).mono ?_
        rintro e w7 ⟨A7, n7, c7, rfl, hn7, ho7, hb7⟩
        rw [(num_size z0 z9).1]
        rw [(num_size z0 z9).2] at hn7 ho7
        have L7 := Lib.hid (L6.out.past hb7)
        have O7 := Lib.hid (ownI_past O6.out hb7)
        have B7 := Lib.hid (mb_bb B6.out hb7)
        have H7 := Lib.hid (H6.out.past hb7)
        rw [digs_len] at hn7
        subst hn7
        have N6' : Hid (n6 = nm.size + 1) := Lib.hid (by rw [N6.out, List.length_append, digs_len, bl_len]; omega)
        obtain ⟨g6, rfl, g61, g62, o6⟩ := H7.out.at_head (by have := N6'.out; omega)
        obtain ⟨g7, rfl, g71, g72, o7⟩ := ho7.at_head (by decide)
        have E6 : Hid (∀ i, i < n6 → w7.cell? ⟨g6, 0 + i, none⟩ = some (.int .u8 ((digs nm.size 1 ++ bl nm).getD i 0))) := Lib.hid (fun i hi => by rw [Nat.zero_add]; exact o6.cell i (by rw [← N6.out]; exact hi))
        have E7 : Hid (∀ i, i < 2 → w7.cell? ⟨g7, 0 + i, none⟩ = some (.int .u8 ((digs sz 2).getD i 0))) := Lib.hid (fun i hi => by rw [Nat.zero_add]; exact o7.cell i (by rw [digs_len]; exact hi))
        have NE7 := Lib.hid (own_ne O6.out g71)
        have LT7 := Lib.hid (And.intro g72 L7.out.lt)
        have HB7 := Lib.hid B7.out.size
        clear hb7 L6 O6 B6 H6 H7 y1 g61 g62 g71 o6 o7 ho7
        go_upto_region 15 with (at_builtin; refine app8k (by rfl) _ _ rfl w.heap.size (.slice A n c) (tabB (rs.take k)) rfl O7.out g6 0 n6 c6 (digs nm.size 1 ++ bl nm) rfl N6.out.symm E6.out (n + n6) (by rw [HN.out.1]) (by have := HN.out.2; have := HM.out; have := HK.out; have := N6'.out; have := HNS.out; omega) HB7.out ?_; intro A8 c8 w8 ho8 hg8 hb8 hk8)
        have L8 := Lib.hid (L7.out.grown hg8 HNG.out)
        have E8 : Hid (∀ i, i < 2 → w8.cell? ⟨g7, 0 + i, none⟩ = some (.int .u8 ((digs sz 2).getD i 0))) := Lib.hid (fun i hi => hg8.cell (E7.out i hi) NE7.out)
        have NG8 := Lib.hid (ne_own hk8 HNG.out LT7.out.2)
        have NS8 := Lib.hid (ne_own hk8 NE7.out LT7.out.1)
        have LG8 := Lib.hid (Nat.lt_of_lt_of_le LT7.out.2 hg8.size)
        have B8 := Lib.hid (B7.out.trans hb8)
        have HB8 := Lib.hid (Nat.le_trans HB7.out hg8.size)
        have O8 := Lib.hid ho8
        have HNN : Hid (n + n6 + 2 + 20 ≤ 100 * (k + 1)) := Lib.hid (by have := HN.out.2; have := N6'.out; have := HNS.out; omega)
        have HT8 : Hid (n + n6 = (tabB (rs.take k) ++ (digs nm.size 1 ++ bl nm)).length) := Lib.hid (by rw [List.length_append, ← N6.out, ← HN.out.1])
        clear L7 E6 E7 NE7 LT7 B7 HB7 hg8 hb8 hk8 ho8 HNG O7
        go_upto_region 16 with (at_builtin; refine app8k (by rfl) _ _ rfl w.heap.size (.slice A8 (n + n6) c8) (tabB (rs.take k) ++ (digs nm.size 1 ++ bl nm)) rfl O8.out g7 0 2 c7 (digs sz 2) rfl (digs_len _ _) E8.out (n + n6 + 2) (by rw [← HT8.out]) (by have := HNN.out; have := HM.out; have := HK.out; omega) HB8.out ?_; intro A9 c9 w9 ho9 hg9 hb9 hk9)
        have L9 := Lib.hid (L8.out.grown hg9 NG8.out)
        have E9 := Lib.hid (sum_cell L9.out HSD.out.len)
        have B9 := Lib.hid (B8.out.trans hb9)
        have HB9 := Lib.hid (Nat.le_trans HB8.out hg9.size)
        have O9 := Lib.hid ho9
        have HT9 : Hid (n + n6 + 2 = ((tabB (rs.take k) ++ (digs nm.size 1 ++ bl nm)) ++ digs sz 2).length) := Lib.hid (by rw [List.length_append, ← HT8.out, digs_len])
        clear L8 E8 NG8 NS8 LG8 B8 HB8 hg9 hb9 hk9 ho9 O8
        go_wp2_with (at_builtin; refine app8k (by rfl) _ _ rfl w.heap.size (.slice A9 (n + n6 + 2) c9) ((tabB (rs.take k) ++ (digs nm.size 1 ++ bl nm)) ++ digs sz 2) rfl O9.out g8 2 20 20 sm rfl HSD.out.len E9.out (n + n6 + 2 + 20) (by rw [← HT9.out]) (by have := HNN.out; have := HM.out; have := HK.out; omega) HB9.out ?_; intro Aa ca wa hoa hga hba hka)
        have HFI : Hid (tabB (rs.take (k + 1)) = ((tabB (rs.take k) ++ (digs nm.size 1 ++ bl nm)) ++ digs sz 2) ++ sm) := Lib.hid (by rw [HSN.out]; unfold rcB; simp only [List.append_assoc])
        go_roundw
        case rel => exact ⟨k + 1, n + n6 + 2 + 20, Aa, ca, HK.out, by go_num, rfl, by rw [HFI.out, List.length_append, ← HT9.out, HSD.out.len], HNN.out, by rw [HFI.out]; exact hoa, B9.out.trans hba⟩
        case measure => simp [intOf]; have := HK.out; omega
      · have k1 : ¬ (k : Int) < m := by omega
        have HF : Hid (wrV rs = tabB (rs.take k)) := Lib.hid (by rw [wr_ok HC.out, List.take_of_length_le (by rw [HL.out]; omega)])
        have HBD := Lib.hid (OwnZ.bounds (.inl own))
        have HHS := Lib.hid own.has
        have HN1 := Lib.hid hn
        clear hk hn hn2 hlt acc HN own HO
        go_wp2_with fail
        go_ret2
        exact ⟨A, n, c, by rw [HC.out]; rfl, by rw [HF.out]; exact HN1.out, HBD.out.2.1, HBD.out.2.2, by rw [HF.out]; exact HHS.out, HACC.out⟩
end Go.Proofs.YtphakelncjogpaaDoor.mbW
