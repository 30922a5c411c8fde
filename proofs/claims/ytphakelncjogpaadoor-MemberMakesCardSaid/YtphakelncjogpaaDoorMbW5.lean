/- The records of members: the program's. -/
import Derived.Test.YtphakelncjogpaaDoorMbR
import Derived.Test.YtphakelncjogpaaDoorShWH
namespace Go.Proofs.YtphakelncjogpaaDoor.mbW
set_option maxRecDepth 100000
open Go.RowKit Go.Proofs.YtphakelncjogpaaDoor.base Go.Proofs.YtphakelncjogpaaDoor.shP Go.Proofs.YtphakelncjogpaaDoor.shW
open Go.Proofs.YtphakelncjogpaaDoor.trW (IsD sv zd_isD digest_isD z20_at)
set_option linter.unusedVariables false
set_option linter.unusedSimpArgs false
set_option maxRecDepth 100000
def recOf (m : Mb) : Rc := ⟨m.nm, m.r.n, digest m.r.b⟩
def ofL (ms : List Mb) : List Rc := ms.map recOf
theorem ofL_len (ms : List Mb) : (ofL ms).length = ms.length := List.length_map _
theorem ofL_get (ms : List Mb) {k : Nat} (h : k < ms.length) : (ofL ms).getD k rc0 = recOf (ms.getD k mb0) := by
  rw [List.getD_eq_getElem?_getD, List.getD_eq_getElem?_getD, ofL, List.getElem?_map, List.getElem?_eq_getElem h]; rfl
theorem sumD_get : ∀ (ms : List Mb) (k : Nat), k < ms.length → (ms.getD k mb0).r.n ≤ sumD ms
  | [], k, h => by simp at h
  | m :: l, 0, h => by simp [sumD]
  | m :: l, k + 1, h => by
    have := sumD_get l k (by simpa using h)
    simp only [sumD]
    simp at this ⊢
    omega
theorem ck_zero {ms : List Mb} (h : ckE ms = 0) : ms.length ≤ 16 ∧ sumD ms ≤ 8192 := by
  unfold ckE at h
  split at h
  · omega
  · split at h
    · omega
    · omega
theorem ck_cases (ms : List Mb) : ckE ms = 0 ∨ ckE ms = 4 ∨ ckE ms = 8 ∨ ckE ms = 14 := by
  unfold ckE
  split
  · simp
  · split
    · simp
    · split
      · rcases twE_cases (nms ms) with h | h <;> simp [h]
      · simp
def fillG {α : Type} (d : α) (xs : List α) (k : Nat) : List α := xs.take k ++ List.replicate (xs.length - k) d
theorem fillG_zero {α : Type} (d : α) (xs : List α) : fillG d xs 0 = List.replicate xs.length d := by simp [fillG]
theorem fillG_all {α : Type} (d : α) {xs : List α} {k : Nat} (h : xs.length ≤ k) : fillG d xs k = xs := by
  unfold fillG
  rw [List.take_of_length_le h, show xs.length - k = 0 by omega]; simp
theorem fillG_set {α : Type} (d : α) {xs : List α} {k : Nat} (h : k < xs.length) : (fillG d xs k).set k (xs.getD k d) = fillG d xs (k + 1) := by
  unfold fillG
  have l1 : (xs.take k).length = k := by rw [List.length_take]; omega
  rw [List.set_append_right _ _ (by omega), l1, Nat.sub_self, show xs.length - k = (xs.length - (k + 1)) + 1 by omega, List.replicate_succ, List.set_cons_zero, List.take_add_one, List.getElem?_eq_getElem h, List.getD_eq_getElem?_getD, List.getElem?_eq_getElem h]
  simp only [Option.toList_some, Option.getD_some, List.append_assoc, List.cons_append, List.nil_append]
theorem sum_okk {b : List Int} (h : b.length ≤ 20000) : sumE b = 0 ∧ sumV b = digest b := ⟨by rw [sumE, if_pos h], by rw [sumV, if_pos h]⟩
def OF (B : Nat) (ms : List Mb) (m : Nat) (e : Ending) (w' : World) : Prop :=
  (ckE ms = 0 ∧ ∃ A c, e = .returned (.tuple #[.slice A m c, .int .i64 0]) ∧ RE.Own w' B (.slice A m c) (ofL ms)) ∨ (ckE ms ≠ 0 ∧ e = .returned (.tuple #[.slice none 0 0, .int .i64 (ckE ms)]))
set_option maxHeartbeats 3200000 in
theorem Of_any (ms : List Mb) (P : Option Addr) (m d : Nat) (w : World) (hT : Tab w) (hR : MemB w P m d ms) :
    Calls Tryd.prog 11 #[.slice P m d] w fun e w' => OF w.heap.size ms m e w' ∧ Below w.heap.size w w' := by
  have m9 : (m : Int) ≤ 9223372036854775807 := by have := hR.c1; have := hR.c2; omega
  have HT := Lib.hid hT
  have HR := Lib.hid hR
  have HL := Lib.hid hR.l
  clear hR hT
  go_enter Tryd.func11, Tryd.ntmps11
  go_wp2_with fail
  refine (Check_any ms P m d w HR.out).mono ?_
  rintro e w1 ⟨rfl, b1⟩
  have B1 := Lib.hid b1
  clear b1
  rcases ck_cases ms with hc | hc
  case inr =>
    rcases hc with hc | hc | hc <;>
    · have HC := Lib.hid hc
      rw [hc]
      clear hc
      go_wp2_with fail
      go_ret2
      exact ⟨.inr ⟨by rw [HC.out]; decide, by rw [HC.out]; rfl⟩, B1.out⟩
  case inl =>
    have HC := Lib.hid hc
    have HZ := Lib.hid (ck_zero hc)
    rw [hc]
    clear hc
    have hm := HZ.out.1
    rw [HL.out] at hm
    have HM := Lib.hid hm
    have m16 : (m : Int) ≤ 16 := by omega
    have kr := mkR m (by omega)
    clear hm
    go_wp2_with fail
    have B2 := Lib.hid (mb_bb B1.out (mb_new w1 (.cells (rCells m) 54)))
    have O2 := Lib.hid (own_r w1 m (by have := HM.out; omega) B1.out.size rfl)
    generalize (w1.alloc (.cells (rCells m) 54)) = w2 at *
    have HG := Lib.hid B1.out.size
    obtain ⟨g, hg⟩ : ∃ g, w1.heap.size = g := ⟨_, rfl⟩
    rw [hg] at O2 HG ⊢
    clear kr hg B1
    have HSM : Hid (fillG rc0 (ofL ms) 0 = List.replicate m rc0) := Lib.hid (by rw [fillG_zero, ofL_len, HL.out])
    go_loopw [20] (fun iv wr => ∃ k : Nat, k ≤ m ∧ iv = .int .i64 (k : Int) ∧ RE.Own wr w.heap.size (.slice (some ⟨g, 0, none⟩) m m) (fillG rc0 (ofL ms) k) ∧ Below w.heap.size w wr) (fun iv _ => m - (intOf iv).toNat)
    case atStart => exact ⟨0, Nat.zero_le _, rfl, by rw [HSM.out]; exact O2.out, B2.out⟩
    case round =>
      clear O2 B2 HSM
      obtain ⟨k, hk, rfl, own, acc⟩ := hrel
      rename World => wr
      have HO := Lib.hid own
      have HACC := Lib.hid acc
      by_cases hlt : k < m
      · obtain ⟨b, off, rfl, hb⟩ := HR.out.h.some (by rw [HL.out]; omega)
        obtain ⟨x1, x2⟩ := memCell HR.out hlt acc
        have HIN := Lib.hid (memIn HR.out hlt)
        have HK := Lib.hid hlt
        have HSG := Lib.hid (sumD_get ms k (by rw [HL.out]; exact hlt))
        have HFS := Lib.hid (fillG_set rc0 (xs := ofL ms) (k := k) (by rw [ofL_len, HL.out]; exact hlt))
        rw [ofL_get ms (by rw [HL.out]; exact hlt)] at HFS
        have k1 : (k : Int) < m := by omega
        have k0 : 0 ≤ (k : Int) := by omega
        generalize ms.getD k mb0 = q at *
        obtain ⟨nm, rA, rn, rc, rb⟩ := q
        dsimp only at x1 x2 HSG HIN
        have G := mb_new wr (.cells #[.string nm, .slice rA rn rc] 37)
        have L := Lib.hid (Lies.fresh wr 37 [.string nm, .slice rA rn rc])
        have O1 := Lib.hid (HO.out.past G)
        have BX := Lib.hid (mb_bb HACC.out G)
        clear hk hlt own acc hb G HO
        go_wp2_with fail
        clear x1 x2
        generalize (wr.alloc (.cells #[.string nm, .slice rA rn rc] 37)) = wz at *
        refine (Sum_any rb rA rn rc _ (HT.out.below BX.out (Nat.le_refl _)) (HIN.out.h.below BX.out (Nat.le_refl _)) HIN.out.e HIN.out.c1 (by have h1 := HSG.out; have h2 := HZ.out.2; omega) HIN.out.b).mono ?_
        rintro e w3 ⟨rfl, b3⟩
        rw [(sum_okk (b := rb) (by have h1 := HSG.out; have h2 := HZ.out.2; have h3 := HIN.out.e; dsimp only at h3; omega)).1, (sum_okk (b := rb) (by have h1 := HSG.out; have h2 := HZ.out.2; have h3 := HIN.out.e; dsimp only at h3; omega)).2]
        have HD := Lib.hid (digest_isD rb)
        obtain ⟨dg, hdg⟩ : ∃ dg, digest rb = dg := ⟨_, rfl⟩
        have HDG := Lib.hid hdg
        rw [hdg] at HD ⊢
        clear hdg
        have L3 := Lib.hid (L.out.past b3)
        have O3 := Lib.hid (O1.out.past b3)
        have B3 := Lib.hid (mb_bb BX.out b3)
        clear L O1 BX b3
        have Y := Lib.hid (z20_at w3 rfl)
        have G := mb_new w3 (.cells #[.int .u8 0, .int .u8 0, .int .u8 0, .int .u8 0, .int .u8 0, .int .u8 0, .int .u8 0, .int .u8 0, .int .u8 0, .int .u8 0, .int .u8 0, .int .u8 0, .int .u8 0, .int .u8 0, .int .u8 0, .int .u8 0, .int .u8 0, .int .u8 0, .int .u8 0, .int .u8 0] 52)
        have LE := Lib.hid B3.out.size
        have LL := Lib.hid L3.out.lt
        have AP := Lib.hid (O3.out.apart (g := w3.heap.size) (Nat.le_refl _))
        have L4 := Lib.hid (L3.out.past G)
        have O4 := Lib.hid (O3.out.past G)
        have B4 := Lib.hid (mb_bb B3.out G)
        clear G L3 O3 B3
        go_wp2_with (first | (show wpList _ _ _ ({ dst := none, op := Op.store 52 (.tmp 8) _, type := _, pos := _, after := _, guard := _ } :: _) _ _; go_must (refine trW.wp_st (g := w3.heap.size) (l := dg) (by rfl) _ _ rfl (Y.out) (zd_isD.len) (HD.out.len) rfl rfl ?_); intro w5 hR5 hg5 hb5 hz5; have D5 := Lib.hid hR5; have L5 := L4.out.far hg5 (show wr.heap.size ≠ w3.heap.size by have := LL.out; omega); have O5 := Lib.hid (O4.out.kept hg5 AP.out); have B5 := Lib.hid (B4.out.trans (hb5.mono LE.out)); have y1 := L5.cell 0; have y2 := L5.cell 1; clear hR5 hg5 hb5 hz5 L4 O4 B4 Y L5) | (show wpList _ _ _ ({ dst := _, op := Op.load 52 (.tmp 8), type := _, pos := _, after := _, guard := _ } :: _) _ _; go_must (refine trW.wp_l0 (l := dg) (by rfl) _ rfl (D5.out) (HD.out.len) rfl ?_)) | (show wpList _ _ _ ({ dst := _, op := Op.build 54 #[(0, _), (1, _), (2, _)], type := _, pos := _, after := _, guard := _ } :: _) _ _; go_must (refine wp_rec (by rfl) _ _ _ rfl (HD.out.len) rfl rfl rfl ?_)) | (show wpList _ _ _ ({ dst := none, op := Op.store 54 (.tmp 43) _, type := _, pos := _, after := _, guard := _ } :: _) _ _; go_must (refine Enc.wp_se RE (i := k) (x := ⟨nm, (rn : Int), dg⟩) (P := Tryd.prog) info22 (by rfl) _ _ rfl (O5.out) (HK.out) ?hp rfl ?_); (case hp => first | rfl | (simp [addr_add]; done)); intro w6 hO6 hg6 hb6 hz6))
        go_roundw
        case rel => exact ⟨k + 1, HK.out, by go_num, by rw [← HFS.out]; unfold recOf; rw [HDG.out]; exact hO6, B5.out.trans (hb6.mono HG.out)⟩
        case measure => simp [intOf]; have := HK.out; omega
      · have k1 : ¬ (k : Int) < m := by omega
        have HT2 : Hid (RE.Own wr w.heap.size (.slice (some ⟨g, 0, none⟩) m m) (ofL ms)) := Lib.hid (by rw [fillG_all rc0 (by rw [ofL_len, HL.out]; omega)] at own; exact own)
        clear hk hlt own acc
        go_wp2_with fail
        go_ret2
        exact ⟨.inl ⟨HC.out, _, _, rfl, HT2.out⟩, HACC.out⟩
end Go.Proofs.YtphakelncjogpaaDoor.mbW
