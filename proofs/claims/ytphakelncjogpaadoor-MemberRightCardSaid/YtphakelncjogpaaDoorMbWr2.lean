/- Write, the reference's. -/
import Derived.Test.YtphakelncjogpaaDoorMbWr
namespace Go.Proofs.YtphakelncjogpaaDoor.mbW
set_option maxRecDepth 100000
open Go.RowKit Go.Proofs.YtphakelncjogpaaDoor.base Go.Proofs.YtphakelncjogpaaDoor.shP Go.Proofs.YtphakelncjogpaaDoor.shW Go.Proofs.YtphakelncjogpaaDoor.ocP Go.Proofs.YtphakelncjogpaaDoor.ocW
open Go.Proofs.YtphakelncjogpaaDoor.trW (IsD sv zd_isD digest_isD z20_at)
set_option linter.unusedVariables false
set_option linter.unusedSimpArgs false
set_option maxRecDepth 100000
theorem digs1 {n : Int} (h : 0 ≤ n) (h2 : n ≤ 255) : digs n 1 = [n] := by
  show [n / 256 ^ (1 - 1 - 0) % 256] = [n]
  congr 1
  show n / 1 % 256 = n
  omega
theorem digs2 (n : Int) : digs n 2 = [n / 256 % 256, n % 256] := by
  show [n / 256 ^ (2 - 1 - 0) % 256, n / 256 ^ (2 - 1 - 1) % 256] = _
  congr 1
  congr 1
  show n / 1 % 256 = n % 256
  omega
theorem has_cells {w : World} {k : IntKind} {g o : Nat} {ys : List Int} (h : Has k w (some ⟨g, o, none⟩) ys) : ∀ i, i < ys.length → w.cell? ⟨g, o + i, none⟩ = some (.int k (ys.getD i 0)) := by
  intro i hi
  rcases h with h | ⟨b, off, e, _, hc⟩
  · rw [h] at hi; simp at hi
  · injection e with e
    injection e with e1 e2
    subst e1 e2
    exact hc i hi
set_option maxHeartbeats 6400000 in
theorem Bytes_any (rs : List Rc) (P : Option Addr) (m d : Nat) (w : World) (hR : RecB w P m d rs) (hv : vlE rs = 0) :
    Calls Tryd.prog 37 #[.slice P m d] w fun e w' => ∃ A n c, e = .returned (.slice A n c) ∧ n = (tabB rs).length ∧ n ≤ c ∧ c ≤ 9223372036854775807 ∧ Has .u8 w' A (tabB rs) ∧ Below w.heap.size w w' := by
  have m9 : (m : Int) ≤ 9223372036854775807 := by have := hR.c1; have := hR.c2; omega
  have HR := Lib.hid hR
  have HL := Lib.hid hR.l
  have HZ := Lib.hid (vl_zero hv)
  have hm := HZ.out.1
  rw [HL.out] at hm
  have HM := Lib.hid hm
  clear hR hv hm
  go_enter Tryd.func37, Tryd.ntmps37
  go_wp2_with fail
  go_loopw [3, 4] (fun bv iv wq => ∃ (k n : Nat) (A : Option Addr) (c : Nat), k ≤ m ∧ iv = .int .i64 (k : Int) ∧ bv = .slice A n c ∧ n = (tabB (rs.take k)).length ∧ n ≤ 100 * k ∧ OwnI wq w.heap.size 5 .u8 (.slice A n c) (tabB (rs.take k)) ∧ Below w.heap.size w wq) (fun _ iv _ => m - (intOf iv).toNat)
  case atStart => exact ⟨0, 0, none, 0, Nat.zero_le _, rfl, rfl, rfl, by omega, OwnI.nil _ _ _ _, Below.refl _ _⟩
  case round =>
    obtain ⟨k, n, A, c, hk, rfl, rfl, hn, hn2, own, acc⟩ := hrel
    rename World => wq
    have HN := Lib.hid (And.intro hn hn2)
    have HO := Lib.hid own
    have HACC := Lib.hid acc
    by_cases hlt : k < m
    · obtain ⟨b, off, rfl, hb⟩ := HR.out.h.some (by rw [HL.out]; omega)
      have RX := Lib.hid ((HR.out.h.past acc).rng (i := k) (by rw [HL.out]; exact hlt))
      have HK := Lib.hid hlt
      have hmem : rs.getD k RE.d ∈ rs := by rw [List.getD_eq_getElem?_getD, List.getElem?_eq_getElem (by rw [HL.out]; exact hlt)]; exact List.getElem_mem _
      have HSD := Lib.hid (HR.out.d _ hmem)
      have HOK := Lib.hid (HZ.out.2.1 k (by rw [HL.out]; exact hlt))
      have HSN := Lib.hid (tabB_snoc rs (k := k) (by rw [HL.out]; exact hlt))
      have k1 : (k : Int) < m := by omega
      have k0 : 0 ≤ (k : Int) := by omega
      have hd0 : RE.d = rc0 := rfl
      rw [hd0] at RX HSD
      generalize rs.getD k rc0 = q at *
      obtain ⟨nm, sz, sm⟩ := q
      clear hmem hd0
      have HNS := Lib.hid (nm_size HOK.out.1)
      have HLN := Lib.hid (rcB_len (r := ⟨nm, sz, sm⟩) HSD.out.len)
      have z0 : 0 ≤ sz := HOK.out.2.1
      have z9 : sz ≤ 8192 := HOK.out.2.2.1
      dsimp only at HNS HSD HLN
      have LZ := Lib.hid (z22_at wq rfl)
      have HGG := Lib.hid (mb_new wq (.cells #[.string ⟨#[]⟩, .int .i64 0, .int .u8 0, .int .u8 0, .int .u8 0, .int .u8 0, .int .u8 0, .int .u8 0, .int .u8 0, .int .u8 0, .int .u8 0, .int .u8 0, .int .u8 0, .int .u8 0, .int .u8 0, .int .u8 0, .int .u8 0, .int .u8 0, .int .u8 0, .int .u8 0, .int .u8 0, .int .u8 0] 54))
      have HGS : Hid ((wq.alloc (.cells #[.string ⟨#[]⟩, .int .i64 0, .int .u8 0, .int .u8 0, .int .u8 0, .int .u8 0, .int .u8 0, .int .u8 0, .int .u8 0, .int .u8 0, .int .u8 0, .int .u8 0, .int .u8 0, .int .u8 0, .int .u8 0, .int .u8 0, .int .u8 0, .int .u8 0, .int .u8 0, .int .u8 0, .int .u8 0, .int .u8 0] 54)).heap.size = wq.heap.size + 1) := Lib.hid (by simp)
      clear hk hn hn2 hlt own acc hb
      go_upto_region 6 with (first | (show wpList _ _ _ ({ dst := _, op := Op.load 54 _, type := _, pos := _, after := _, guard := _ } :: _) _ _; go_must (refine Enc.wp_ld RE (x := ⟨nm, sz, sm⟩) (P := Tryd.prog) Tryd.underlying54 rfl info22 (by rfl) _ rfl (RX.out) rfl ?_)) | (show wpList _ _ _ ({ dst := none, op := Op.store 54 (.tmp 5) _, type := _, pos := _, after := _, guard := _ } :: _) _ _; go_must (refine Enc.wp_st RE (g := wq.heap.size) (P := Tryd.prog) info22 (by rfl) _ _ rfl (LZ.out) rfl rfl ?_); intro w5 hR5 hg5 hb5 hz5))
      have BQ := HGG.out.trans hb5
      have L5 := Lib.hid hR5
      have O5 := Lib.hid (ownI_past HO.out BQ)
      have B5 := Lib.hid (mb_bb HACC.out BQ)
      have y0 : w5.cell? ⟨wq.heap.size, 0, none⟩ = some (.string nm) := L5.out.cell 0
      have HNG := Lib.hid (own_ne HO.out (Nat.le_refl _))
      obtain ⟨g8, hg8⟩ : ∃ g8, wq.heap.size = g8 := ⟨_, rfl⟩
      have HS5 : Hid (g8 < w5.heap.size) := Lib.hid (by rw [hz5, HGS.out]; omega)
      rw [hg8] at y0 L5 HNG ⊢
      clear BQ hR5 hg5 hb5 hz5 HACC HGG LZ RX HO HGS hg8
      have n40 : (nm.size : Int) ≤ 40 := by have := HNS.out.2; omega
      have n0 : 0 ≤ (nm.size : Int) := by omega
      have y0' : (w5.alloc (.cells #[.int .u8 (nm.size : Int)] 5)).cell? ⟨g8, 0, none⟩ = some (.string nm) := (L5.out.past (mb_new w5 _)).cell 0
      have LA := Lib.hid (L5.out.past (mb_new w5 (.cells #[.int .u8 (nm.size : Int)] 5)))
      have OA := Lib.hid (ownI_past O5.out (mb_new w5 (.cells #[.int .u8 (nm.size : Int)] 5)))
      have BA := Lib.hid (mb_bb B5.out (mb_new w5 (.cells #[.int .u8 (nm.size : Int)] 5)))
      have EA : Hid (∀ i, i < 1 → (w5.alloc (.cells #[.int .u8 (nm.size : Int)] 5)).cell? ⟨w5.heap.size, 0 + i, none⟩ = some (.int .u8 ([(nm.size : Int)].getD i 0))) := Lib.hid (fun i hi => by
        obtain rfl : i = 0 := by omega
        exact (Lies.fresh w5 5 [.int .u8 (nm.size : Int)]).cell 0)
      have HBA := Lib.hid BA.out.size
      go_upto_region 7 with (at_builtin; refine app8k (by rfl) _ _ rfl w.heap.size (.slice A n c) (tabB (rs.take k)) rfl OA.out w5.heap.size 0 1 1 [(nm.size : Int)] rfl rfl EA.out (n + 1) (by rw [HN.out.1]) (by have := HN.out.2; have := HM.out; have := HK.out; omega) HBA.out ?_; intro A6 c6 w6 ho6 hg6 hb6 hk6)
      have L6 := Lib.hid (LA.out.grown hg6 HNG.out)
      have NG6 := Lib.hid (ne_own hk6 HNG.out (by have := LA.out.lt; exact this))
      have B6 := Lib.hid (BA.out.trans hb6)
      have O6 := Lib.hid ho6
      have HT6 : Hid (n + 1 = (tabB (rs.take k) ++ [(nm.size : Int)]).length) := Lib.hid (by rw [List.length_append, ← HN.out.1]; rfl)
      clear LA OA BA EA HBA hg6 hb6 hk6 ho6 HNG O5 L5 B5 y0 y0'
      obtain ⟨cc, wB, hcv, hh, hc1, hc2, hbb, hlt⟩ := conv_m nm w6 (by have := HNS.out; omega)
      have y0 : w6.cell? ⟨g8, 0, none⟩ = some (.string nm) := L6.out.cell 0
      have EB : Hid (∀ i, i < nm.size → wB.cell? ⟨w6.heap.size, 0 + i, none⟩ = some (.int .u8 ((bl nm).getD i 0))) := Lib.hid (fun i hi => has_cells hh i (by rw [bl_len]; exact hi))
      have LB := Lib.hid (L6.out.past hbb)
      have OB := Lib.hid (ownI_past O6.out hbb)
      have BB := Lib.hid (mb_bb B6.out hbb)
      have HBB := Lib.hid BB.out.size
      clear hh hc1 hc2 hbb hlt
      go_upto_region 8 with (at_builtin; refine app8k (by rfl) _ _ rfl w.heap.size (.slice A6 (n + 1) c6) (tabB (rs.take k) ++ [(nm.size : Int)]) rfl OB.out w6.heap.size 0 nm.size cc (bl nm) rfl (bl_len nm) EB.out (n + 1 + nm.size) (by rw [← HT6.out]) (by have := HN.out.2; have := HM.out; have := HK.out; have := HNS.out; omega) HBB.out ?_; intro A7 c7 w7 ho7 hg7 hb7 hk7)
      have L7 := Lib.hid (LB.out.grown hg7 NG6.out)
      have NG7 := Lib.hid (ne_own hk7 NG6.out (by have := LB.out.lt; exact this))
      have B7 := Lib.hid (BB.out.trans hb7)
      have O7 := Lib.hid ho7
      have HT7 : Hid (n + 1 + nm.size = ((tabB (rs.take k) ++ [(nm.size : Int)]) ++ bl nm).length) := Lib.hid (by rw [List.length_append, ← HT6.out, bl_len])
      clear hcv y0 LB OB BB EB HBB hg7 hb7 hk7 ho7 NG6 O6 L6 B6
      have y1 : w7.cell? ⟨g8, 1, none⟩ = some (.int .i64 sz) := L7.out.cell 1
      have LA := Lib.hid (L7.out.past (mb_new w7 (.cells #[.int .u8 (sz / 256), .int .u8 (sz % 256)] 5)))
      have OA := Lib.hid (ownI_past O7.out (mb_new w7 (.cells #[.int .u8 (sz / 256), .int .u8 (sz % 256)] 5)))
      have BA := Lib.hid (mb_bb B7.out (mb_new w7 (.cells #[.int .u8 (sz / 256), .int .u8 (sz % 256)] 5)))
      have EA : Hid (∀ i, i < 2 → (w7.alloc (.cells #[.int .u8 (sz / 256), .int .u8 (sz % 256)] 5)).cell? ⟨w7.heap.size, 0 + i, none⟩ = some (.int .u8 ([sz / 256, sz % 256].getD i 0))) := Lib.hid (fun i hi => by
        rcases (by omega : i = 0 ∨ i = 1) with rfl | rfl
        · exact (Lies.fresh w7 5 [.int .u8 (sz / 256), .int .u8 (sz % 256)]).cell 0
        · exact (Lies.fresh w7 5 [.int .u8 (sz / 256), .int .u8 (sz % 256)]).cell 1)
      have HBA := Lib.hid BA.out.size
      have HNN : Hid (n + 1 + nm.size + 2 + 20 ≤ 100 * (k + 1)) := Lib.hid (by have := HN.out.2; have := HNS.out; omega)
      go_upto_region 9 with (at_builtin; refine app8k (by rfl) _ _ rfl w.heap.size (.slice A7 (n + 1 + nm.size) c7) ((tabB (rs.take k) ++ [(nm.size : Int)]) ++ bl nm) rfl OA.out w7.heap.size 0 2 2 [sz / 256, sz % 256] rfl rfl EA.out (n + 1 + nm.size + 2) (by rw [← HT7.out]) (by have := HNN.out; have := HM.out; have := HK.out; omega) HBA.out ?_; intro A8 c8 w8 ho8 hg8 hb8 hk8)
      have L8 := Lib.hid (LA.out.grown hg8 NG7.out)
      have E8 := Lib.hid (sum_cell L8.out HSD.out.len)
      have B8 := Lib.hid (BA.out.trans hb8)
      have HB8 := Lib.hid B8.out.size
      have O8 := Lib.hid ho8
      have HT8 : Hid (n + 1 + nm.size + 2 = (((tabB (rs.take k) ++ [(nm.size : Int)]) ++ bl nm) ++ [sz / 256, sz % 256]).length) := Lib.hid (by rw [List.length_append, ← HT7.out]; rfl)
      clear LA OA BA EA HBA hg8 hb8 hk8 ho8 NG7 O7 L7 B7 y1
      have HFI : Hid (tabB (rs.take (k + 1)) = (((tabB (rs.take k) ++ [(nm.size : Int)]) ++ bl nm) ++ [sz / 256, sz % 256]) ++ sm) := Lib.hid (by
        rw [HSN.out]
        unfold rcB
        dsimp only
        rw [digs1 (by omega) (by omega), digs2, show sz / 256 % 256 = sz / 256 by omega]
        simp only [List.append_assoc])
      go_wp2_with (at_builtin; refine app8k (by rfl) _ _ rfl w.heap.size (.slice A8 (n + 1 + nm.size + 2) c8) (((tabB (rs.take k) ++ [(nm.size : Int)]) ++ bl nm) ++ [sz / 256, sz % 256]) rfl O8.out g8 2 20 20 sm rfl HSD.out.len E8.out (n + 1 + nm.size + 2 + 20) (by rw [← HT8.out]) (by have := HNN.out; have := HM.out; have := HK.out; omega) HB8.out ?_; intro A9 c9 w9 ho9 hg9 hb9 hk9)
      go_roundw
      case rel => exact ⟨k + 1, n + 1 + nm.size + 2 + 20, A9, c9, HK.out, by go_num, rfl, by rw [HFI.out, List.length_append, ← HT8.out, HSD.out.len], HNN.out, by rw [HFI.out]; exact ho9, B8.out.trans hb9⟩
      case measure => simp [intOf]; have := HK.out; omega
    · have k1 : ¬ (k : Int) < m := by omega
      have HF : Hid (tabB rs = tabB (rs.take k)) := Lib.hid (by rw [List.take_of_length_le (by rw [HL.out]; omega)])
      have HBD := Lib.hid (OwnZ.bounds (.inl own))
      have HHS := Lib.hid own.has
      have HN1 := Lib.hid hn
      clear hk hn hn2 hlt acc HN own HO
      go_wp2_with fail
      go_ret
      exact ⟨A, n, c, rfl, by rw [HF.out]; exact HN1.out, HBD.out.2.1, HBD.out.2.2, by rw [HF.out]; exact HHS.out, HACC.out⟩
set_option maxHeartbeats 6400000 in
theorem rWrite_any (rs : List Rc) (P : Option Addr) (m d : Nat) (w : World) (hR : RecB w P m d rs) :
    Calls Tryd.prog 19 #[.slice P m d] w (WrP rs w) := by
  have HR := Lib.hid hR
  go_enter Tryd.func19, Tryd.ntmps19
  go_wp2_with fail
  refine (rValid_any rs P m d w hR).mono ?_
  rintro e w1 ⟨rfl, b1⟩
  clear hR
  have B1 := Lib.hid b1
  have HR1 := Lib.hid (HR.out.below b1 (Nat.le_refl _))
  clear b1
  rcases vl_cases rs with hc | hc
  case inr =>
    have HC : Hid (vlE rs ≠ 0) := Lib.hid (by omega)
    have HF := Lib.hid (wr_no HC.out)
    have HRV := Lib.hid (rValid_any rs P m d w1 HR1.out)
    rcases hc with hc | hc | hc <;>
    · have HCC := Lib.hid hc
      rw [hc] at HRV ⊢
      clear hc
      go_wp2_with fail
      refine HRV.out.mono ?_
      rintro e w2 ⟨rfl, b2⟩
      have B2 := Lib.hid (mb_bb B1.out b2)
      clear b2
      go_wp2_with fail
      go_ret2
      exact ⟨none, 0, 0, by rw [HCC.out]; rfl, by rw [HF.out]; rfl, Nat.le_refl _, by omega, .inl HF.out, B2.out⟩
  case inl =>
    have HC := Lib.hid hc
    rw [hc]
    clear hc
    go_wp2_with fail
    refine (Bytes_any rs P m d w1 HR1.out HC.out).mono ?_
    rintro e w2 ⟨A, n, c, rfl, hn, h1, h2, hh, b2⟩
    have HX := Lib.hid (And.intro hn (And.intro h1 (And.intro h2 hh)))
    have B2 := Lib.hid (mb_bb B1.out b2)
    clear hn h1 h2 hh b2
    go_wp2_with fail
    go_ret2
    exact ⟨A, n, c, by rw [HC.out]; rfl, by rw [wr_ok HC.out]; exact HX.out.1, HX.out.2.1, HX.out.2.2.1, by rw [wr_ok HC.out]; exact HX.out.2.2.2, B2.out⟩
end Go.Proofs.YtphakelncjogpaaDoor.mbW
