/- A table read. -/
import Derived.Test.YtiihafhnaiicoaaDoorMbRc
import Derived.Test.YtiihafhnaiicoaaDoorPk0
namespace Go.Proofs.YtiihafhnaiicoaaDoor.mbW
set_option maxRecDepth 100000
open Go.RowKit Go.Proofs.YtiihafhnaiicoaaDoor.base Go.Proofs.YtiihafhnaiicoaaDoor.shP Go.Proofs.YtiihafhnaiicoaaDoor.shW Go.Proofs.YtiihafhnaiicoaaDoor.ocP Go.Proofs.YtiihafhnaiicoaaDoor.ocW
open Go.Proofs.YtiihafhnaiicoaaDoor.trW (IsD sv zd_isD digest_isD z20_at)
set_option linter.unusedVariables false
set_option linter.unusedSimpArgs false
set_option maxRecDepth 100000
def flR (l : List Rc) (n : Nat) : List Rc := l ++ List.replicate (n - l.length) rc0
theorem flR_nil (n : Nat) : flR [] n = List.replicate n rc0 := rfl
theorem flR_len {l : List Rc} {n : Nat} (h : l.length ≤ n) : (flR l n).length = n := by unfold flR; rw [List.length_append, List.length_replicate]; omega
theorem flR_all {l : List Rc} {n : Nat} (h : l.length = n) : flR l n = l := by unfold flR; rw [h, Nat.sub_self]; simp
theorem flR_set {l : List Rc} {n : Nat} (x : Rc) (h : l.length < n) : (flR l n).set l.length x = flR (l ++ [x]) n := by
  unfold flR
  rw [List.set_append_right _ _ (Nat.le_refl _), Nat.sub_self, show n - l.length = (n - (l ++ [x]).length) + 1 by simp; omega, List.replicate_succ, List.set_cons_zero]
  simp
theorem rcAt_ok {b : List Int} {p : Nat} (hb : Byt8 b) (hf : fits b p) : (0 ≤ (rcAt b p).sz ∧ (rcAt b p).sz ≤ 65535) ∧ IsD (rcAt b p).sum := by
  unfold fits at hf
  refine ⟨?_, sum_isD hb (by omega)⟩
  have h1 := hb.at (p + 1 + nl b p)
  have h2 := hb.at (p + 2 + nl b p)
  show 0 ≤ b.getD (p + 1 + nl b p) 0 * 256 + b.getD (p + 2 + nl b p) 0 ∧ b.getD (p + 1 + nl b p) 0 * 256 + b.getD (p + 2 + nl b p) 0 ≤ 65535
  omega
theorem rdS_ok {b : List Int} (hb : Byt8 b) : ∀ {k p : Nat} {l : List Rc}, rdS b k = some (l, p) → ∀ r ∈ l, (0 ≤ r.sz ∧ r.sz ≤ 65535) ∧ IsD r.sum
  | 0, p, l, h => by
    simp only [rdS, Option.some.injEq, Prod.mk.injEq] at h
    obtain ⟨rfl, rfl⟩ := h
    simp
  | k + 1, p, l, h => by
    rw [rdS] at h
    rcases e : rdS b k with _ | ⟨l', p'⟩
    · rw [e] at h; cases h
    · rw [e] at h
      simp only at h
      by_cases hf : fits b p'
      · rw [if_pos hf] at h
        simp only [Option.some.injEq, Prod.mk.injEq] at h
        obtain ⟨rfl, rfl⟩ := h
        intro r hr
        rw [List.mem_append, List.mem_singleton] at hr
        rcases hr with hr | rfl
        · exact rdS_ok hb e r hr
        · exact rcAt_ok hb hf
      · rw [if_neg hf] at h; cases h
theorem cu_far {wa wr : World} {g n d : Nat} {A : Option Addr} {c : Cu} (h : CuIn wa A n d c) (hg : wa.grownBy wr (some g)) (hne : ∀ a, A = some a → c.b ≠ [] → a.block ≠ g) : CuIn wr A n d c :=
  ⟨h.a1, h.a2, by
    by_cases e : c.b = []
    · exact .inl e
    · exact h.h.far hg (fun a ha => hne a ha e), h.e, h.c1, h.c2, h.b⟩
/-- What table answers. -/
def TBP (b : List Int) (n g : Nat) (w : World) (e : Ending) (w' : World) : Prop :=
  Below g w w' ∧ ((∃ (l : List Rc) (p : Nat) (A : Addr) (c : Nat) (X : Option Addr) (u v : Nat), rdS b n = some (l, p) ∧ vlE l = 0 ∧ e = .returned (.tuple #[.slice (some A) n c, .nilIface]) ∧ RE.Own w' w.heap.size (.slice (some A) n c) l ∧ Lies w' g 83 [.slice X u v, .int .i64 (p : Int)]) ∨ (∃ (l : List Rc) (p : Nat), rdS b n = some (l, p) ∧ vlE l ≠ 0 ∧ e = .returned (.tuple #[.slice none 0 0, .iface 104 (.agg #[.int .i64 (vlE l)])])) ∨ (rdS b n = none ∧ e = .returned (.tuple #[.slice none 0 0, .iface 89 (.agg #[.int .i64 18])])))
set_option maxHeartbeats 6400000 in
theorem table_any (b : List Int) (n g : Nat) (A : Option Addr) (m d : Nat) (w0 w : World) (hb : Byt8 b) (hl : b.length ≤ 50000) (hn : n ≤ 16) (K : Lies w g 83 [.slice A m d, .int .i64 0]) (h : CuIn w A m d ⟨b, 0⟩) (hT : Tab w0) (h0 : Below w0.heap.size w0 w) (hg : w0.heap.size ≤ g) :
    Calls Tryd.prog 40 #[.pointer (some ⟨g, 0, none⟩), .int .i64 (n : Int)] w (TBP b n g w) := by
  have HB := Lib.hid hb
  have HL := Lib.hid hl
  have HN := Lib.hid hn
  have HT := Lib.hid hT
  have H0 := Lib.hid h0
  have HG := Lib.hid hg
  have HGL := Lib.hid K.lt
  have n16 : (n : Int) ≤ 16 := by omega
  have kr := mkR n (by omega)
  have HK := Lib.hid (K.past (mb_new w (.cells (rCells n) 54)))
  have HC := Lib.hid (h.below (mb_new w (.cells (rCells n) 54)))
  have B1 := Lib.hid ((mb_new w (.cells (rCells n) 54)).mono (Nat.le_of_lt K.lt))
  have O1 := Lib.hid (own_r w n (by omega) (Nat.le_refl _) rfl)
  have S1 : Hid (w.heap.size < (w.alloc (.cells (rCells n) 54)).heap.size) := Lib.hid (by simp)
  have HA0' := Lib.hid h.h
  clear hb hl hT h0 hg K h hn
  go_enter Tryd.func40, Tryd.ntmps40
  go_wp2_with fail
  generalize (w.alloc (.cells (rCells n) 54)) = w1 at *
  obtain ⟨g6, hg6⟩ : ∃ g6, w.heap.size = g6 := ⟨_, rfl⟩
  have HG6 : Hid (w.heap.size = g6) := Lib.hid hg6
  have HA0 : Hid (∀ a, A = some a → b ≠ [] → a.block ≠ g6) := Lib.hid (fun a ha hne => by
    rcases HA0'.out with h | ⟨x, o, h, hx, _⟩
    · exact absurd h hne
    · rw [ha] at h; injection h with h; subst h; show x ≠ g6; have := HG6.out; omega)
  rw [hg6]
  have O1' : Hid (RE.Own w1 w.heap.size (.slice (some ⟨g6, 0, none⟩) n n) (List.replicate n rc0)) := Lib.hid (by have := O1.out; rw [hg6] at this; rw [hg6]; exact this)
  clear kr O1 hg6
  go_loopw [15] (fun iv wr => ∃ (k p : Nat) (l : List Rc) (A' : Option Addr) (m' d' : Nat), k ≤ n ∧ iv = .int .i64 (k : Int) ∧ rdS b k = some (l, p) ∧ RE.Own wr w.heap.size (.slice (some ⟨g6, 0, none⟩) n n) (flR l n) ∧ Lies wr g 83 [.slice A' m' d', .int .i64 (p : Int)] ∧ CuIn wr A' m' d' ⟨b, (p : Int)⟩ ∧ (∀ a, A' = some a → b ≠ [] → a.block ≠ g6) ∧ Below g w wr ∧ w.heap.size < wr.heap.size) (fun iv _ => n - (intOf iv).toNat)
  case atStart => exact ⟨0, 0, [], A, m, d, Nat.zero_le _, rfl, rfl, O1'.out, HK.out, HC.out, HA0.out, B1.out, S1.out⟩
  case round =>
    clear HK HC B1 O1' S1
    obtain ⟨k, p, l, A', m', d', hk, rfl, hr, own, K, CI, hna, acc, hsz⟩ := hrel
    rename World => wr
    have HR := Lib.hid hr
    have HO := Lib.hid own
    have HK := Lib.hid K
    have HC := Lib.hid CI
    have HACC := Lib.hid acc
    have HSZ := Lib.hid hsz
    have HP := Lib.hid (rdS_le HB.out hr)
    by_cases hlt : k < n
    · have HLT := Lib.hid hlt
      have k1 : (k : Int) < n := by omega
      have k0 : 0 ≤ (k : Int) := by omega
      clear hk hlt hr own K CI acc hsz
      go_wp2_with fail
      refine (recordP b p g A' m' d' wr HB.out HL.out HP.out.2.1 HK.out HC.out).mono ?_
      rintro e w3 hh
      rcases hh with ⟨hf, A2, n2, c2, rfl, K3, OZ3, hn3, hgr, hbe⟩ | ⟨hf, rfl, hbe⟩
      · have HF := Lib.hid hf
        have HRS := Lib.hid (rdS_step HR.out hf)
        have GN := mb_new w3 (.cells #[.string ⟨#[]⟩, .int .i64 0, .int .u8 0, .int .u8 0, .int .u8 0, .int .u8 0, .int .u8 0, .int .u8 0, .int .u8 0, .int .u8 0, .int .u8 0, .int .u8 0, .int .u8 0, .int .u8 0, .int .u8 0, .int .u8 0, .int .u8 0, .int .u8 0, .int .u8 0, .int .u8 0, .int .u8 0, .int .u8 0] 54)
        have LZ := Lib.hid (z22_at w3 rfl)
        have O3 := Lib.hid (HO.out.kept hgr (by
          intro e
          have : g6 = g := by simpa [Value.ownBlock] using e
          have h1 := HG6.out
          have h2 := HGL.out
          omega))
        have CI3 := Lib.hid (cu_of (p := nx b p) HB.out OZ3 hn3 (by unfold fits at hf; unfold nx; exact hf) HL.out)
        have HA3 : Hid (∀ a, A2 = some a → b ≠ [] → a.block ≠ g6) := Lib.hid (fun a ha hne => by
          obtain ⟨x, e, h1, h2, _⟩ := OwnZ.head OZ3 hne
          rw [ha] at e; injection e with e; subst e
          show x ≠ g6
          have := HG6.out; have := HSZ.out; omega)
        have B3 := Lib.hid (HACC.out.trans hbe)
        have SZ3 := Lib.hid (Nat.lt_of_lt_of_le HSZ.out hgr.size)
        have K33 := Lib.hid K3
        have HAP : Hid (g6 < w3.heap.size) := Lib.hid (by rw [← HG6.out]; exact SZ3.out)
        have HPL := Lib.hid (rcAt_ok HB.out hf)
        have HLE : Hid (l.length = k) := Lib.hid HP.out.2.2
        have HGG := Lib.hid GN
        clear hf K3 OZ3 hn3 hgr hbe GN HO HK HC HACC HSZ
        go_wp2_with (first | (show wpList _ _ _ ({ dst := none, op := Op.store 54 (.tmp 8) _, type := _, pos := _, after := _, guard := _ } :: _) _ _; go_must (refine Enc.wp_st RE (g := w3.heap.size) (P := Tryd.prog) info22 (by rfl) _ _ rfl (LZ.out) rfl rfl ?_); intro w5 hR5 hg5 hb5 hz5; have BQ := HGG.out.trans hb5; have L5 := Lib.hid hR5; have K5 := Lib.hid (K33.out.past BQ); have C5 := Lib.hid (CI3.out.below BQ); have O5 := Lib.hid (O3.out.past BQ); have B5 := Lib.hid (B3.out.trans (BQ.mono (Nat.le_of_lt K33.out.lt))); have S5 := Lib.hid (Nat.lt_of_lt_of_le SZ3.out BQ.size); clear BQ hR5 hg5 hb5 hz5) | (show wpList _ _ _ ({ dst := _, op := Op.load 54 _, type := _, pos := _, after := _, guard := _ } :: _) _ _; go_must (refine Enc.wp_ld RE (x := rcAt b p) (P := Tryd.prog) Tryd.underlying54 rfl info22 (by rfl) _ rfl (trW.rng_lies L5.out) rfl ?_)) | (show wpList _ _ _ ({ dst := none, op := Op.store 54 (.tmp 29) _, type := _, pos := _, after := _, guard := _ } :: _) _ _; go_must (refine Enc.wp_se RE (i := k) (x := rcAt b p) (P := Tryd.prog) info22 (by rfl) _ _ rfl (O5.out) (HLT.out) ?hp rfl ?_); (case hp => first | rfl | (simp [addr_add]; done)); intro w6 hO6 hg6 hb6 hz6))
        have hset := flR_set (l := l) (n := n) (rcAt b p) (by rw [HLE.out]; exact HLT.out)
        rw [HLE.out] at hset
        rw [hset] at hO6
        go_roundw
        case rel => exact ⟨k + 1, nx b p, l ++ [rcAt b p], A2, n2, c2, HLT.out, by go_num, HRS.out, hO6, K5.out.far hg6 (by have := HG6.out; have := HGL.out; omega), cu_far C5.out hg6 HA3.out, HA3.out, B5.out.trans (hb6.mono (by have := HG6.out; have := HGL.out; omega)), Nat.lt_of_lt_of_le S5.out hg6.size⟩
        case measure => simp [intOf]; have := HLT.out; omega
      · have HST := Lib.hid (rdS_none (rdS_stop HR.out hf) n HLT.out)
        have LZ := Lib.hid (z22_at w3 rfl)
        have HGG := Lib.hid (mb_new w3 (.cells #[.string ⟨#[]⟩, .int .i64 0, .int .u8 0, .int .u8 0, .int .u8 0, .int .u8 0, .int .u8 0, .int .u8 0, .int .u8 0, .int .u8 0, .int .u8 0, .int .u8 0, .int .u8 0, .int .u8 0, .int .u8 0, .int .u8 0, .int .u8 0, .int .u8 0, .int .u8 0, .int .u8 0, .int .u8 0, .int .u8 0] 54))
        have B3 := Lib.hid (HACC.out.trans (hbe.mono (by have := HSZ.out; have := HGL.out; omega)))
        have SZ3 := Lib.hid (Nat.lt_of_lt_of_le HSZ.out hbe.size)
        clear hf hbe HO HK HC HACC HSZ
        go_wp2_with (first | (show wpList _ _ _ ({ dst := none, op := Op.store 54 _ _, type := _, pos := _, after := _, guard := _ } :: _) _ _; go_must (refine Enc.wp_st RE (x := rc0) (g := w3.heap.size) (P := Tryd.prog) info22 (by rfl) _ _ rfl (LZ.out) rfl rfl ?_); intro w5 hR5 hg5 hb5 hz5))
        go_ret2
        exact ⟨B3.out.trans ((HGG.out.trans hb5).mono (by have := SZ3.out; have := HGL.out; omega)), .inr (.inr ⟨HST.out, rfl⟩)⟩
    · have k1 : ¬ (k : Int) < n := by omega
      obtain rfl : k = n := by omega
      have HFL : Hid (flR l k = l) := Lib.hid (flR_all HP.out.2.2)
      have HO2 := Lib.hid (show RE.Own wr w.heap.size (.slice (some ⟨g6, 0, none⟩) k k) l by rw [← HFL.out]; exact HO.out)
      have HOK := Lib.hid (rdS_ok HB.out HR.out)
      have BW := Lib.hid (H0.out.trans (HACC.out.mono HG.out))
      clear hk hlt hr own K CI acc hsz HO
      go_wp2_with fail
      refine (Valid_any l (some ⟨g6, 0, none⟩) k k wr (HT.out.below BW.out (Nat.le_refl _)) ⟨HO2.out.has, HP.out.2.2, Nat.le_refl _, by omega, fun r hr => by have := (HOK.out r hr).1; omega, fun r hr => (HOK.out r hr).2⟩).mono ?_
      rintro e w4 ⟨rfl, b4⟩
      have O4 := Lib.hid (HO2.out.past b4)
      have K4 := Lib.hid (HK.out.past b4)
      have B4 := Lib.hid (HACC.out.trans (b4.mono (by have := HSZ.out; have := HGL.out; omega)))
      clear b4 HO2 HK HACC
      by_cases hv : vlE l = 0
      · have HV := Lib.hid hv
        rw [hv]
        clear hv
        go_wp2_with fail
        go_ret2
        exact ⟨B4.out, .inl ⟨l, p, _, k, A', m', d', HR.out, HV.out, rfl, O4.out, K4.out⟩⟩
      · have HV := Lib.hid hv
        rcases vl_cases l with hc | hc | hc | hc
        · exact absurd hc hv
        all_goals
          have HCC := Lib.hid hc
          rw [hc]
          clear hc hv
          go_wp2_with fail
          go_ret2
          exact ⟨B4.out, .inr (.inl ⟨l, p, HR.out, HV.out, by rw [HCC.out]; rfl⟩)⟩
end Go.Proofs.YtiihafhnaiicoaaDoor.mbW
