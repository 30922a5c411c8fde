/- Several texts as one: MbR, MbW5, MbW6, MbE, MbW7, MbVP, MbV, MbV2, MbF, MbRt, MbRt2, MbW8, MbRd, MbRd2, MbL1. -/
import Derived.Test.YtiihafhnaiicoaaDoorMbW4
import Derived.Test.YtiihafhnaiicoaaDoorRowE
import Derived.Test.YtiihafhnaiicoaaDoorTrD2
import Derived.Test.YtiihafhnaiicoaaDoorShWH
import Derived.DeepKeys
import Derived.ChangeArms
import Derived.ChangeSame
import Derived.OpenShut
import Derived.ShutString
namespace Go.Proofs.YtiihafhnaiicoaaDoor.mbW
set_option maxRecDepth 100000
open Go.RowKit Go.Proofs.YtiihafhnaiicoaaDoor.base Go.Proofs.YtiihafhnaiicoaaDoor.shP Go.Proofs.YtiihafhnaiicoaaDoor.shW
open Go.Proofs.YtiihafhnaiicoaaDoor.trW (IsD sv zd_isD)
set_option linter.unusedVariables false
set_option linter.unusedSimpArgs false
set_option maxRecDepth 100000
structure Rc where
  nm : ByteArray
  sz : Int
  sum : List Int
def rc0 : Rc := ⟨.empty, 0, zd⟩
def rcE (r : Rc) : List Value := .string r.nm :: .int .i64 r.sz :: (List.range 20).map (fun i => Value.int .u8 (r.sum.getD i 0))
def RE : Enc Rc where
  enc := rcE
  n := 22
  T := 54
  d := rc0
  len := fun x => by simp [rcE]
  one := fun x v hv => by
    simp only [rcE, List.mem_cons, List.mem_map] at hv
    rcases hv with rfl | rfl | ⟨i, _, rfl⟩ <;> rfl
  pos := by decide
theorem get20 {l : List Int} (h : l.length = 20) : (List.range 20).map (fun i => Value.int .u8 (l.getD i 0)) = trW.sv l := by
  apply List.ext_getElem?
  intro i
  rw [trW.sv, List.getElem?_map, List.getElem?_map]
  rcases Nat.lt_or_ge i 20 with hi | hi
  · rw [List.getElem?_range hi, List.getElem?_eq_getElem (by omega : i < l.length)]
    simp only [Option.map_some, List.getD_eq_getElem?_getD, List.getElem?_eq_getElem (by omega : i < l.length), Option.getD_some]
  · rw [List.getElem?_eq_none (by simpa using hi), List.getElem?_eq_none (by omega)]; rfl
theorem rcE_eq {r : Rc} (h : r.sum.length = 20) : rcE r = .string r.nm :: .int .i64 r.sz :: trW.sv r.sum := by rw [rcE, get20 h]
theorem infoR : ∃ i z, Tryd.prog.info? 54 = some i ∧ i.zero = some z ∧ i.size = 22 ∧ i.bytes = 48 ∧ z.cells.size = 22 ∧ z.cells = (rcE rc0).toArray := by
  obtain ⟨i, h1, h2, h3, h4⟩ := info_parts (P := Tryd.prog) (e := 54) (z := .agg (rcE rc0).toArray) (size := 22) (bytes := 48) (by kernel_rfl)
  exact ⟨i, _, h1, h2, h3, h4, rfl, rfl⟩
theorem info22 : (Tryd.prog.info? 54).map (·.size) = some RE.n := by kernel_rfl
theorem IR : Enc.Info RE Tryd.prog 25 48 := ⟨Tryd.underlying25, by
  obtain ⟨i, z, h1, h2, h3, h4, h5, _⟩ := infoR
  exact ⟨i, z, h1, h2, h3, h4, h5⟩⟩
/-- A record built of its parts. -/
theorem run_rec {l : List Int} (h : l.length = 20) (s : ByteArray) (n : Int) (w : World) : (Instr.build 54 #[(0, .string s), (1, .int .i64 n), (2, .agg (darr l))]).run Tryd.prog w = .ok (.agg (RE.enc ⟨s, n, l⟩).toArray) w := by
  obtain ⟨a, b, c, d, e, f, g, i, j, k, l, m, n, o, p, q, r, t, u, v, rfl⟩ := trW.match20 h
  kernel_rfl
theorem wp_rec {ops : Array Oper} {rest : List Oper} {o : Oper} {a : Act} {w : World} {Q : Exit → Act → World → Prop} {l : List Int} {s : ByteArray} {n : Int} (hw : Region.wanted o (yielded ops a.tmps) = true) (x y z : Operand) (ho : o.op = .build 54 #[(0, x), (1, y), (2, z)]) (hl : l.length = 20)
    (hx : a.eval x = .string s) (hy : a.eval y = .int .i64 n) (hz : a.eval z = .agg (darr l)) (H : wpList Tryd.prog ops Q rest (a.put o.dst (.agg (RE.enc ⟨s, n, l⟩).toArray)) w) : wpList Tryd.prog ops Q (o :: rest) a w := by
  refine wpList_step fun K hK => ?_
  rw [if_pos hw]
  unfold Oper.wp execOp
  simp only [ho, List.map_toArray, List.map_cons, List.map_nil, hx, hy, hz, Sem.run_bind, Sem.run_pure, run_rec hl, Result.andThen_ok]
  exact hK _ _ H
theorem quiet_rec {o : Oper} {a : Act} {w : World} {C : World → Prop} {l : List Int} {s : ByteArray} {n : Int} (x y z : Operand) (ho : o.op = .build 54 #[(0, x), (1, y), (2, z)]) (hl : l.length = 20)
    (hx : a.eval x = .string s) (hy : a.eval y = .int .i64 n) (hz : a.eval z = .agg (darr l)) : Oper.quietAt Tryd.prog o a C w (.agg (RE.enc ⟨s, n, l⟩).toArray) := by
  unfold Oper.quietAt execOp
  simp only [ho, List.map_toArray, List.map_cons, List.map_nil, hx, hy, hz, Sem.run_bind, Sem.run_pure, run_rec hl, Result.andThen_ok]
  exact ⟨rfl, rfl⟩
/-! Made. -/
theorem made_row {α : Type} (E : Enc α) (n : Nat) : madeCells (E.enc E.d).toArray (n * E.n) = (E.row (List.replicate n E.d)).toArray := by
  apply Array.ext'
  have e1 : (madeCells (E.enc E.d).toArray (n * E.n)).toList = (List.range (n * E.n)).map fun q => (E.enc E.d).toArray[q % (E.enc E.d).toArray.size]! := by
    unfold madeCells
    rw [Array.toList_map, Array.toList_range]
  rw [e1]
  simp only [List.size_toArray, E.len]
  apply List.ext_getElem?
  intro q
  have hl := E.row_len (List.replicate n E.d)
  rw [List.length_replicate] at hl
  rcases Nat.lt_or_ge q (n * E.n) with hq | hq
  · rw [List.getElem?_map, List.getElem?_range hq]
    have hp := E.pos
    have hi : q / E.n < n := (Nat.div_lt_iff_lt_mul hp).2 hq
    have hr := E.row_at (xs := List.replicate n E.d) (i := q / E.n) (by rw [List.length_replicate]; exact hi)
    have hd : (List.replicate n E.d).getD (q / E.n) E.d = E.d := by
      rw [List.getD_eq_getElem?_getD, List.getElem?_replicate]; split <;> rfl
    rw [hd] at hr
    have hm : q % E.n < E.n := Nat.mod_lt _ hp
    have h3 : (E.enc E.d)[q % E.n]? = (E.row (List.replicate n E.d))[q]? := by
      rw [← hr, List.getElem?_take, if_pos hm, List.getElem?_drop, Nat.mul_comm, Nat.div_add_mod]
    show Option.map _ (some q) = (E.row (List.replicate n E.d))[q]?
    rw [← h3]
    have h4 : q % E.n < (E.enc E.d).length := by rw [E.len]; exact hm
    rw [List.getElem?_eq_getElem h4]
    simp [h4]
  · rw [List.getElem?_eq_none (by simpa using hq), List.getElem?_eq_none (by omega)]
def rCells (n : Nat) : Array Value := (RE.row (List.replicate n rc0)).toArray
theorem mkR (n : Nat) (hn : n ≤ 1000000) (w : World) : (Instr.makeSlice 25 (.int .i64 (n : Int)) (.int .i64 (n : Int))).run Tryd.prog w = .ok (.slice (some ⟨w.heap.size, 0, none⟩) n n) (w.alloc (.cells (rCells n) 54)) := by
  obtain ⟨i, z, h1, h2, h3, h4, h5, h6⟩ := infoR
  have hr := run_make (P := Tryd.prog) w 25 54 i z Tryd.underlying25 h1 h2 .i64 .i64 n n (by omega) (by omega) (by rw [h4]; omega) (by omega)
  simp only [Int.toNat_natCast] at hr
  rw [hr, h3, h6]
  have := made_row RE n
  rw [show rCells n = madeCells (rcE rc0).toArray (n * 22) from this.symm]
theorem own_r (w : World) (n : Nat) (hn : n ≤ 1000000) {B g : Nat} (hB : B ≤ g) (hg : w.heap.size = g) : RE.Own (w.alloc (.cells (rCells n) 54)) B (.slice (some ⟨g, 0, none⟩) n n) (List.replicate n rc0) := by
  subst hg
  have hl := RE.row_len (List.replicate n rc0)
  rw [List.length_replicate] at hl
  refine ⟨by rw [RE.row_len], .inr ⟨w.heap.size, n, rCells n, by rw [List.length_replicate], hB, Array.getElem?_push_size, by simp, by unfold maxLen; omega, by simp only [rCells, List.size_toArray]; exact hl, ?_⟩⟩
  unfold rCells
  exact List.take_of_length_le (by rw [List.length_replicate, hl]; exact Nat.le_refl _)
attribute [irreducible] rCells
end Go.Proofs.YtiihafhnaiicoaaDoor.mbW

namespace Go.Proofs.YtiihafhnaiicoaaDoor.mbW
set_option maxRecDepth 100000
open Go.RowKit Go.Proofs.YtiihafhnaiicoaaDoor.base Go.Proofs.YtiihafhnaiicoaaDoor.shP Go.Proofs.YtiihafhnaiicoaaDoor.shW
open Go.Proofs.YtiihafhnaiicoaaDoor.trW (IsD sv zd_isD digest_isD z20_at)
set_option linter.unusedVariables false
set_option linter.unusedSimpArgs false
set_option maxRecDepth 100000
def recOf (m : Mb) : Rc := ⟨m.nm, m.r.n, digest m.r.b⟩
def ofL (ms : List Mb) : List Rc := ms.map recOf
theorem ofL_len (ms : List Mb) : (ofL ms).length = ms.length := List.length_map _
theorem ofL_get (ms : List Mb) {k : Nat} (h : k < ms.length) : (ofL ms).getD k rc0 = recOf (ms.getD k mb0) := by
  rw [List.getD_eq_getElem?_getD, List.getD_eq_getElem?_getD, ofL, List.getElem?_map, List.getElem?_eq_getElem h]; rfl
theorem sumD_get : ∀ (ms : List Mb) (k : Nat), k < ms.length → (ms.getD k mb0).r.n ≤ sumD ms
  | [], k, h => by simp at h
  | m :: l, 0, h => by simp [sumD]
  | m :: l, k + 1, h => by
    have := sumD_get l k (by simpa using h)
    simp only [sumD]
    simp at this ⊢
    omega
theorem ck_zero {ms : List Mb} (h : ckE ms = 0) : ms.length ≤ 16 ∧ sumD ms ≤ 8192 := by
  unfold ckE at h
  split at h
  · omega
  · split at h
    · omega
    · omega
theorem ck_cases (ms : List Mb) : ckE ms = 0 ∨ ckE ms = 4 ∨ ckE ms = 8 ∨ ckE ms = 14 := by
  unfold ckE
  split
  · simp
  · split
    · simp
    · split
      · rcases twE_cases (nms ms) with h | h <;> simp [h]
      · simp
def fillG {α : Type} (d : α) (xs : List α) (k : Nat) : List α := xs.take k ++ List.replicate (xs.length - k) d
theorem fillG_zero {α : Type} (d : α) (xs : List α) : fillG d xs 0 = List.replicate xs.length d := by simp [fillG]
theorem fillG_all {α : Type} (d : α) {xs : List α} {k : Nat} (h : xs.length ≤ k) : fillG d xs k = xs := by
  unfold fillG
  rw [List.take_of_length_le h, show xs.length - k = 0 by omega]; simp
theorem fillG_set {α : Type} (d : α) {xs : List α} {k : Nat} (h : k < xs.length) : (fillG d xs k).set k (xs.getD k d) = fillG d xs (k + 1) := by
  unfold fillG
  have l1 : (xs.take k).length = k := by rw [List.length_take]; omega
  rw [List.set_append_right _ _ (by omega), l1, Nat.sub_self, show xs.length - k = (xs.length - (k + 1)) + 1 by omega, List.replicate_succ, List.set_cons_zero, List.take_add_one, List.getElem?_eq_getElem h, List.getD_eq_getElem?_getD, List.getElem?_eq_getElem h]
  simp only [Option.toList_some, Option.getD_some, List.append_assoc, List.cons_append, List.nil_append]
theorem sum_okk {b : List Int} (h : b.length ≤ 20000) : sumE b = 0 ∧ sumV b = digest b := ⟨by rw [sumE, if_pos h], by rw [sumV, if_pos h]⟩
def OF (B : Nat) (ms : List Mb) (m : Nat) (e : Ending) (w' : World) : Prop :=
  (ckE ms = 0 ∧ ∃ A c, e = .returned (.tuple #[.slice A m c, .int .i64 0]) ∧ RE.Own w' B (.slice A m c) (ofL ms)) ∨ (ckE ms ≠ 0 ∧ e = .returned (.tuple #[.slice none 0 0, .int .i64 (ckE ms)]))
set_option maxHeartbeats 3200000 in
theorem Of_any (ms : List Mb) (P : Option Addr) (m d : Nat) (w : World) (hT : Tab w) (hR : MemB w P m d ms) :
    Calls Tryd.prog 11 #[.slice P m d] w fun e w' => OF w.heap.size ms m e w' ∧ Below w.heap.size w w' := by
  have m9 : (m : Int) ≤ 9223372036854775807 := by have := hR.c1; have := hR.c2; omega
  have HT := Lib.hid hT
  have HR := Lib.hid hR
  have HL := Lib.hid hR.l
  clear hR hT
  go_enter Tryd.func11, Tryd.ntmps11
  go_wp2_with fail
  refine (Check_any ms P m d w HR.out).mono ?_
  rintro e w1 ⟨rfl, b1⟩
  have B1 := Lib.hid b1
  clear b1
  rcases ck_cases ms with hc | hc
  case inr =>
    rcases hc with hc | hc | hc <;>
    · have HC := Lib.hid hc
      rw [hc]
      clear hc
      go_wp2_with fail
      go_ret2
      exact ⟨.inr ⟨by rw [HC.out]; decide, by rw [HC.out]; rfl⟩, B1.out⟩
  case inl =>
    have HC := Lib.hid hc
    have HZ := Lib.hid (ck_zero hc)
    rw [hc]
    clear hc
    have hm := HZ.out.1
    rw [HL.out] at hm
    have HM := Lib.hid hm
    have m16 : (m : Int) ≤ 16 := by omega
    have kr := mkR m (by omega)
    clear hm
    go_wp2_with fail
    have B2 := Lib.hid (mb_bb B1.out (mb_new w1 (.cells (rCells m) 54)))
    have O2 := Lib.hid (own_r w1 m (by have := HM.out; omega) B1.out.size rfl)
    generalize (w1.alloc (.cells (rCells m) 54)) = w2 at *
    have HG := Lib.hid B1.out.size
    obtain ⟨g, hg⟩ : ∃ g, w1.heap.size = g := ⟨_, rfl⟩
    rw [hg] at O2 HG ⊢
    clear kr hg B1
    have HSM : Hid (fillG rc0 (ofL ms) 0 = List.replicate m rc0) := Lib.hid (by rw [fillG_zero, ofL_len, HL.out])
    go_loopw [20] (fun iv wr => ∃ k : Nat, k ≤ m ∧ iv = .int .i64 (k : Int) ∧ RE.Own wr w.heap.size (.slice (some ⟨g, 0, none⟩) m m) (fillG rc0 (ofL ms) k) ∧ Below w.heap.size w wr) (fun iv _ => m - (intOf iv).toNat)
    case atStart => exact ⟨0, Nat.zero_le _, rfl, by rw [HSM.out]; exact O2.out, B2.out⟩
    case round =>
      clear O2 B2 HSM
      obtain ⟨k, hk, rfl, own, acc⟩ := hrel
      rename World => wr
      have HO := Lib.hid own
      have HACC := Lib.hid acc
      by_cases hlt : k < m
      · obtain ⟨b, off, rfl, hb⟩ := HR.out.h.some (by rw [HL.out]; omega)
        obtain ⟨x1, x2⟩ := memCell HR.out hlt acc
        have HIN := Lib.hid (memIn HR.out hlt)
        have HK := Lib.hid hlt
        have HSG := Lib.hid (sumD_get ms k (by rw [HL.out]; exact hlt))
        have HFS := Lib.hid (fillG_set rc0 (xs := ofL ms) (k := k) (by rw [ofL_len, HL.out]; exact hlt))
        rw [ofL_get ms (by rw [HL.out]; exact hlt)] at HFS
        have k1 : (k : Int) < m := by omega
        have k0 : 0 ≤ (k : Int) := by omega
        generalize ms.getD k mb0 = q at *
        obtain ⟨nm, rA, rn, rc, rb⟩ := q
        dsimp only at x1 x2 HSG HIN
        have G := mb_new wr (.cells #[.string nm, .slice rA rn rc] 37)
        have L := Lib.hid (Lies.fresh wr 37 [.string nm, .slice rA rn rc])
        have O1 := Lib.hid (HO.out.past G)
        have BX := Lib.hid (mb_bb HACC.out G)
        clear hk hlt own acc hb G HO
        go_wp2_with fail
        clear x1 x2
        generalize (wr.alloc (.cells #[.string nm, .slice rA rn rc] 37)) = wz at *
        refine (Sum_any rb rA rn rc _ (HT.out.below BX.out (Nat.le_refl _)) (HIN.out.h.below BX.out (Nat.le_refl _)) HIN.out.e HIN.out.c1 (by have h1 := HSG.out; have h2 := HZ.out.2; omega) HIN.out.b).mono ?_
        rintro e w3 ⟨rfl, b3⟩
        rw [(sum_okk (b := rb) (by have h1 := HSG.out; have h2 := HZ.out.2; have h3 := HIN.out.e; dsimp only at h3; omega)).1, (sum_okk (b := rb) (by have h1 := HSG.out; have h2 := HZ.out.2; have h3 := HIN.out.e; dsimp only at h3; omega)).2]
        have HD := Lib.hid (digest_isD rb)
        obtain ⟨dg, hdg⟩ : ∃ dg, digest rb = dg := ⟨_, rfl⟩
        have HDG := Lib.hid hdg
        rw [hdg] at HD ⊢
        clear hdg
        have L3 := Lib.hid (L.out.past b3)
        have O3 := Lib.hid (O1.out.past b3)
        have B3 := Lib.hid (mb_bb BX.out b3)
        clear L O1 BX b3
        have Y := Lib.hid (z20_at w3 rfl)
        have G := mb_new w3 (.cells #[.int .u8 0, .int .u8 0, .int .u8 0, .int .u8 0, .int .u8 0, .int .u8 0, .int .u8 0, .int .u8 0, .int .u8 0, .int .u8 0, .int .u8 0, .int .u8 0, .int .u8 0, .int .u8 0, .int .u8 0, .int .u8 0, .int .u8 0, .int .u8 0, .int .u8 0, .int .u8 0] 52)
        have LE := Lib.hid B3.out.size
        have LL := Lib.hid L3.out.lt
        have AP := Lib.hid (O3.out.apart (g := w3.heap.size) (Nat.le_refl _))
        have L4 := Lib.hid (L3.out.past G)
        have O4 := Lib.hid (O3.out.past G)
        have B4 := Lib.hid (mb_bb B3.out G)
        clear G L3 O3 B3
        go_wp2_with (first | (show wpList _ _ _ ({ dst := none, op := Op.store 52 (.tmp 8) _, type := _, pos := _, after := _, guard := _ } :: _) _ _; go_must (refine trW.wp_st (g := w3.heap.size) (l := dg) (by rfl) _ _ rfl (Y.out) (zd_isD.len) (HD.out.len) rfl rfl ?_); intro w5 hR5 hg5 hb5 hz5; have D5 := Lib.hid hR5; have L5 := L4.out.far hg5 (show wr.heap.size ≠ w3.heap.size by have := LL.out; omega); have O5 := Lib.hid (O4.out.kept hg5 AP.out); have B5 := Lib.hid (B4.out.trans (hb5.mono LE.out)); have y1 := L5.cell 0; have y2 := L5.cell 1; clear hR5 hg5 hb5 hz5 L4 O4 B4 Y L5) | (show wpList _ _ _ ({ dst := _, op := Op.load 52 (.tmp 8), type := _, pos := _, after := _, guard := _ } :: _) _ _; go_must (refine trW.wp_l0 (l := dg) (by rfl) _ rfl (D5.out) (HD.out.len) rfl ?_)) | (show wpList _ _ _ ({ dst := _, op := Op.build 54 #[(0, _), (1, _), (2, _)], type := _, pos := _, after := _, guard := _ } :: _) _ _; go_must (refine wp_rec (by rfl) _ _ _ rfl (HD.out.len) rfl rfl rfl ?_)) | (show wpList _ _ _ ({ dst := none, op := Op.store 54 (.tmp 43) _, type := _, pos := _, after := _, guard := _ } :: _) _ _; go_must (refine Enc.wp_se RE (i := k) (x := ⟨nm, (rn : Int), dg⟩) (P := Tryd.prog) info22 (by rfl) _ _ rfl (O5.out) (HK.out) ?hp rfl ?_); (case hp => first | rfl | (simp [addr_add]; done)); intro w6 hO6 hg6 hb6 hz6))
        go_roundw
        case rel => exact ⟨k + 1, HK.out, by go_num, by rw [← HFS.out]; unfold recOf; rw [HDG.out]; exact hO6, B5.out.trans (hb6.mono HG.out)⟩
        case measure => simp [intOf]; have := HK.out; omega
      · have k1 : ¬ (k : Int) < m := by omega
        have HT2 : Hid (RE.Own wr w.heap.size (.slice (some ⟨g, 0, none⟩) m m) (ofL ms)) := Lib.hid (by rw [fillG_all rc0 (by rw [ofL_len, HL.out]; omega)] at own; exact own)
        clear hk hlt own acc
        go_wp2_with fail
        go_ret2
        exact ⟨.inl ⟨HC.out, _, _, rfl, HT2.out⟩, HACC.out⟩
end Go.Proofs.YtiihafhnaiicoaaDoor.mbW

namespace Go.Proofs.YtiihafhnaiicoaaDoor.mbW
set_option maxRecDepth 100000
open Go.RowKit Go.Proofs.YtiihafhnaiicoaaDoor.base Go.Proofs.YtiihafhnaiicoaaDoor.shP Go.Proofs.YtiihafhnaiicoaaDoor.shW
open Go.Proofs.YtiihafhnaiicoaaDoor.trW (IsD sv zd_isD digest_isD z20_at)
set_option linter.unusedVariables false
set_option linter.unusedSimpArgs false
set_option maxRecDepth 100000
theorem ret_rc {fn : Func} {p : Tmp} {r : Rc} (hr : fn.results = #[.cell p 54]) (tmps : Array Value) (w : World) (g : Nat) (hp : tmps.getD p undef = .pointer (some ⟨g, 0, none⟩)) (k : Lies w g 54 (rcE r)) :
    (results fn tmps).run Tryd.prog w = .ok (.agg (RE.enc r).toArray) w :=
  results_cell_row (P := Tryd.prog) hr tmps w g 54 (rcE r).toArray (0, 0) _ hp k Tryd.underlying54 rfl (by have := info22; rw [this]; show some 22 = some _; rw [List.size_toArray]; exact congrArg some (RE.len r).symm)
theorem z22_at (w : World) {g : Nat} (hg : w.heap.size = g) : Lies (w.alloc (.cells #[.string ⟨#[]⟩, .int .i64 0, .int .u8 0, .int .u8 0, .int .u8 0, .int .u8 0, .int .u8 0, .int .u8 0, .int .u8 0, .int .u8 0, .int .u8 0, .int .u8 0, .int .u8 0, .int .u8 0, .int .u8 0, .int .u8 0, .int .u8 0, .int .u8 0, .int .u8 0, .int .u8 0, .int .u8 0, .int .u8 0] 54)) g 54 (rcE rc0) := Lies.fresh_at (cs := rcE rc0) hg
set_option maxHeartbeats 3200000 in
theorem record_any (nm : ByteArray) (A : Option Addr) (n c : Nat) (b : List Int) (w : World) (hA : Has .u8 w A b) (hl : b.length = n) (hn : n ≤ 100000) (hb : ∀ z ∈ b, 0 ≤ z ∧ z ≤ 255) :
    Calls Tryd.prog 31 #[.agg #[.string nm, .slice A n c]] w fun e w' => e = .returned (.agg (RE.enc ⟨nm, n, digest b⟩).toArray) ∧ Below w.heap.size w w' := by
  have HA := Lib.hid hA
  have HL := Lib.hid hl
  have HNN := Lib.hid hn
  have HB := Lib.hid hb
  have n9 : (n : Int) ≤ 100000 := by omega
  have G1 := mb_new w (.cells #[.string nm, .slice A n c] 37)
  have S1 : (w.alloc (.cells #[.string nm, .slice A n c] 37)).heap.size = w.heap.size + 1 := by simp
  have G2 := mb_new (w.alloc (.cells #[.string nm, .slice A n c] 37)) (.cells #[.string ⟨#[]⟩, .int .i64 0, .int .u8 0, .int .u8 0, .int .u8 0, .int .u8 0, .int .u8 0, .int .u8 0, .int .u8 0, .int .u8 0, .int .u8 0, .int .u8 0, .int .u8 0, .int .u8 0, .int .u8 0, .int .u8 0, .int .u8 0, .int .u8 0, .int .u8 0, .int .u8 0, .int .u8 0, .int .u8 0] 54)
  have LB := Lib.hid ((Lies.fresh w 37 [.string nm, .slice A n c]).past G2)
  have LZ := Lib.hid (z22_at (w.alloc (.cells #[.string nm, .slice A n c] 37)) S1)
  have B0 := Lib.hid (mb_bb G1 G2)
  clear hA hl hn hb G1 G2 S1
  go_enter Tryd.func31, Tryd.ntmps31
  go_upto_region 1 with fail
  generalize ((w.alloc (.cells #[.string nm, .slice A n c] 37)).alloc (.cells #[.string ⟨#[]⟩, .int .i64 0, .int .u8 0, .int .u8 0, .int .u8 0, .int .u8 0, .int .u8 0, .int .u8 0, .int .u8 0, .int .u8 0, .int .u8 0, .int .u8 0, .int .u8 0, .int .u8 0, .int .u8 0, .int .u8 0, .int .u8 0, .int .u8 0, .int .u8 0, .int .u8 0, .int .u8 0, .int .u8 0] 54)) = w0 at *
  (have RD := grows_roads (S := fun x' => Below w0.heap.size w0 x') (fun a b h1 h2 => h2.trans (h1.mono h2.size))); refine region_ordT 9 _ Grows RD (Below.drew (Below.refl _ _)) (by kernel_rfl) (by decide) ?_; intro ops Q' hops hPQ hN; (have HNS : Hid (Region.noSelect ops = true ∧ Region.sinkB .any ops 9 = true ∧ Region.chainB .any ops 9 = true ∧ 9 < ops.size) := Lib.hid (by rw [hops]; exact ⟨by kernel_rfl, by kernel_rfl, by kernel_rfl, by decide⟩)); (have hsz : ops.size = 10 := (by rw [hops]; rfl)); have HOP := Lib.hid hops; have HPQ := Lib.hid hPQ; have HN := Lib.hid hN; rw [hsz]; clear hops hsz hPQ hN
  refine ordT_take RD 0 (at_list (by rw [HOP.out]; rfl)) HNS.out HPQ.out (by rw [HOP.out]; kernel_rfl) (by rw [HOP.out]; kernel_rfl) (by rw [HOP.out]; rfl) (fun K hK => ?_); apply Exists.intro; refine ⟨fun W hSW => ?_, hK _ ?_⟩; (focus ((try dsimp only at hSW); go_simp; try with_reducible rfl)); clear hK K; (try simp only [Act.put, List.setIfInBounds_toArray, List.set_cons_zero, List.set_cons_succ])
  refine ordT_take RD 1 (at_list (by rw [HOP.out]; rfl)) HNS.out HPQ.out (by rw [HOP.out]; kernel_rfl) (by rw [HOP.out]; kernel_rfl) (by rw [HOP.out]; rfl) (fun K hK => ?_); apply Exists.intro; refine ⟨fun W hSW => ?_, hK _ ?_⟩; (focus ((try dsimp only at hSW); have y1 := (LB.out.past hSW).cell 0; go_simp; try with_reducible rfl)); clear hK K; (try simp only [Act.put, List.setIfInBounds_toArray, List.set_cons_zero, List.set_cons_succ])
  refine ordT_take RD 2 (at_list (by rw [HOP.out]; rfl)) HNS.out HPQ.out (by rw [HOP.out]; kernel_rfl) (by rw [HOP.out]; kernel_rfl) (by rw [HOP.out]; rfl) (fun K hK => ?_); apply Exists.intro; refine ⟨fun W hSW => ?_, hK _ ?_⟩; (focus ((try dsimp only at hSW); go_simp; try with_reducible rfl)); clear hK K; (try simp only [Act.put, List.setIfInBounds_toArray, List.set_cons_zero, List.set_cons_succ])
  refine ordT_take RD 3 (at_list (by rw [HOP.out]; rfl)) HNS.out HPQ.out (by rw [HOP.out]; kernel_rfl) (by rw [HOP.out]; kernel_rfl) (by rw [HOP.out]; rfl) (fun K hK => ?_); apply Exists.intro; refine ⟨fun W hSW => ?_, hK _ ?_⟩; (focus ((try dsimp only at hSW); have y2 := (LB.out.past hSW).cell 1; go_simp; try with_reducible rfl)); clear hK K; (try simp only [Act.put, List.setIfInBounds_toArray, List.set_cons_zero, List.set_cons_succ])
  refine ordT_take RD 4 (at_list (by rw [HOP.out]; rfl)) HNS.out HPQ.out (by rw [HOP.out]; kernel_rfl) (by rw [HOP.out]; kernel_rfl) (by rw [HOP.out]; rfl) (fun K hK => ?_); apply Exists.intro; refine ⟨fun W hSW => ?_, hK _ ?_⟩; (focus ((try dsimp only at hSW); go_simp; try with_reducible rfl)); clear hK K; (try simp only [Act.put, List.setIfInBounds_toArray, List.set_cons_zero, List.set_cons_succ])
  refine ordT_take RD 5 (at_list (by rw [HOP.out]; rfl)) HNS.out HPQ.out (by rw [HOP.out]; kernel_rfl) (by rw [HOP.out]; kernel_rfl) (by rw [HOP.out]; rfl) (fun K hK => ?_); apply Exists.intro; refine ⟨fun W hSW => ?_, hK _ ?_⟩; (focus ((try dsimp only at hSW); go_simp; try with_reducible rfl)); clear hK K; (try simp only [Act.put, List.setIfInBounds_toArray, List.set_cons_zero, List.set_cons_succ])
  refine ordT_take RD 6 (at_list (by rw [HOP.out]; rfl)) HNS.out HPQ.out (by rw [HOP.out]; kernel_rfl) (by rw [HOP.out]; kernel_rfl) (by rw [HOP.out]; rfl) (fun K hK => ?_); apply Exists.intro; refine ⟨fun W hSW => ?_, hK _ ?_⟩; (focus ((try dsimp only at hSW); have y2 := (LB.out.past hSW).cell 1; go_simp; try with_reducible rfl)); clear hK K; (try simp only [Act.put, List.setIfInBounds_toArray, List.set_cons_zero, List.set_cons_succ])
  refine ordT_one RD 7 (by rw [HOP.out]; kernel_rfl) (at_list (by rw [HOP.out]; rfl)) (by rw [HOP.out]; rfl) (fun W1 hWW hSW K hK => ?_); (try dsimp only at hSW)
  go_simp
  refine (rOf b A n c W1 (HA.out.below (mb_bb B0.out hSW) (Nat.le_refl _)) HL.out HNN.out HB.out).mono ?_
  rintro e w3 ⟨rfl, b3⟩
  have HD := Lib.hid (digest_isD b)
  obtain ⟨dg, hdg⟩ : ∃ dg, digest b = dg := ⟨_, rfl⟩
  rw [hdg] at HD ⊢
  have HDG := Lib.hid hdg
  clear hdg
  refine hK _ _ (mb_bb hSW b3) ?_
  clear hSW hWW b3
  clear hK K; (try simp only [Act.put, List.setIfInBounds_toArray, List.set_cons_zero, List.set_cons_succ])
  refine ordT_take RD 8 (at_list (by rw [HOP.out]; rfl)) HNS.out HPQ.out (by rw [HOP.out]; kernel_rfl) (by rw [HOP.out]; kernel_rfl) (by rw [HOP.out]; rfl) (fun K hK => ?_); apply Exists.intro; refine ⟨fun W hSW => ?_, hK _ ?_⟩; (focus ((try dsimp only at hSW); exact (quiet_rec _ _ _ rfl HD.out.len rfl rfl rfl))); clear hK K; (try simp only [Act.put, List.setIfInBounds_toArray, List.set_cons_zero, List.set_cons_succ])
  refine ordT_end (by rw [HOP.out]; kernel_rfl) (fun W2 hWW hSW => ?_); rw [HOP.out]; simp only [List.drop_succ_cons, List.drop_zero]; have hN := HN.out; clear HOP HNS HPQ HN RD; (try dsimp only at hSW)
  have Z2 := Lib.hid (LZ.out.past hSW)
  have B2 := Lib.hid (mb_bb B0.out hSW)
  clear hSW hWW
  go_wp2_with (show wpList _ _ _ ({ dst := none, op := Op.store 54 (.tmp 2) _, type := _, pos := _, after := _, guard := _ } :: _) _ _; go_must (refine Enc.wp_st RE (g := (w.heap.size + 1)) (P := Tryd.prog) info22 (by rfl) _ _ rfl (Z2.out) rfl rfl ?_); intro w4 hR hg hb hz)
  refine bodyPost_ret (ret_rc (by exact Tryd.results31) _ _ _ rfl hR) rfl ?_
  exact ⟨by rw [HDG.out], B2.out.trans (hb.mono (by omega))⟩
theorem run_litR (r : Rc) (w : World) : (Instr.buildSlice 25 1 #[(0, .agg (rcE r).toArray)]).run Tryd.prog w = .ok (.slice (some ⟨w.heap.size, 0, none⟩) 1 1) (w.alloc (.cells (rcE r).toArray 54)) := by
  obtain ⟨nm, sz, l⟩ := r
  unfold rcE
  generalize (fun i => Value.int .u8 (l.getD i 0)) = f
  kernel_rfl
theorem wp_litR {ops : Array Oper} {rest : List Oper} {o : Oper} {a : Act} {w : World} {Q : Exit → Act → World → Prop} {r : Rc} (hw : Region.wanted o (yielded ops a.tmps) = true) (x : Operand) (ho : o.op = .buildSlice 25 1 #[(0, x)])
    (hx : a.eval x = .agg (rcE r).toArray) (H : wpList Tryd.prog ops Q rest (a.put o.dst (.slice (some ⟨w.heap.size, 0, none⟩) 1 1)) (w.alloc (.cells (rcE r).toArray 54))) : wpList Tryd.prog ops Q (o :: rest) a w := by
  refine wpList_step fun K hK => ?_
  rw [if_pos hw]
  unfold Oper.wp execOp
  simp only [ho, List.map_toArray, List.map_cons, List.map_nil, hx, Sem.run_bind, Sem.run_pure, run_litR, Result.andThen_ok]
  exact hK _ _ H
theorem litR_has (w : World) (r : Rc) {g : Nat} (hg : w.heap.size = g) : RE.Has (w.alloc (.cells (rcE r).toArray 54)) (some ⟨g, 0, none⟩) [r] := by
  have := Enc.lit RE w [r] hg
  rw [RE.row_one] at this
  exact this
theorem ofL_snoc (ms : List Mb) {k : Nat} (h : k < ms.length) : (ofL ms).take (k + 1) = (ofL ms).take k ++ [recOf (ms.getD k mb0)] := by
  rw [List.take_add_one, List.getElem?_eq_getElem (by rw [ofL_len]; exact h), ← ofL_get ms h, List.getD_eq_getElem?_getD, List.getElem?_eq_getElem (by rw [ofL_len]; exact h)]
  rfl
set_option maxHeartbeats 3200000 in
theorem rOf28_any (ms : List Mb) (P : Option Addr) (m d : Nat) (w : World) (hR : MemB w P m d ms) (hN : ∀ k, k < m → (ms.getD k mb0).r.n ≤ 10000) :
    Calls Tryd.prog 12 #[.slice P m d] w fun e w' => OF w.heap.size ms m e w' ∧ Below w.heap.size w w' := by
  have m9 : (m : Int) ≤ 9223372036854775807 := by have := hR.c1; have := hR.c2; omega
  have HR := Lib.hid hR
  have HL := Lib.hid hR.l
  have HN := Lib.hid hN
  clear hR hN
  go_enter Tryd.func12, Tryd.ntmps12
  go_wp2_with fail
  refine (rCheck_any ms P m d w HR.out HN.out).mono ?_
  rintro e w1 ⟨rfl, b1⟩
  have B1 := Lib.hid b1
  clear b1
  rcases ck_cases ms with hc | hc
  case inr =>
    have HC := Lib.hid hc
    have hne : ckE ms ≠ 0 := by omega
    have hbq : (ckE ms == 0) = false := by simpa using hne
    have hbn : (ckE ms != 0) = true := by simpa using hne
    have HNE := Lib.hid hne
    have hlo : -9223372036854775808 ≤ ckE ms := by omega
    clear hc hne
    go_wp2_with fail
    refine (rCheck_any ms P m d _ (HR.out.below B1.out (Nat.le_refl _)) HN.out).mono ?_
    rintro e w2 ⟨rfl, b2⟩
    have B2 := Lib.hid (mb_bb B1.out b2)
    clear b2
    go_wp2_with fail
    go_ret2
    exact ⟨.inr ⟨HNE.out, rfl⟩, B2.out⟩
  case inl =>
    have HC := Lib.hid hc
    have HZ := Lib.hid (ck_zero hc)
    rw [hc]
    clear hc
    have hm := HZ.out.1
    rw [HL.out] at hm
    have HM := Lib.hid hm
    have m16 : (m : Int) ≤ 16 := by omega
    clear hm
    go_wp2_with fail
    go_loopw [4, 5] (fun rv iv wr => ∃ (k : Nat) (A : Option Addr) (c : Nat), k ≤ m ∧ iv = .int .i64 (k : Int) ∧ rv = .slice A k c ∧ RE.Own wr w.heap.size (.slice A k c) ((ofL ms).take k) ∧ Below w.heap.size w wr) (fun _ iv _ => m - (intOf iv).toNat)
    case atStart => exact ⟨0, none, 0, Nat.zero_le _, rfl, rfl, by rw [List.take_zero]; exact Enc.Own.nil _ _, B1.out⟩
    case round =>
      clear B1
      obtain ⟨k, A, c, hk, rfl, rfl, own, acc⟩ := hrel
      rename World => wr
      have HO := Lib.hid own
      have HACC := Lib.hid acc
      by_cases hlt : k < m
      · obtain ⟨b, off, rfl, hb⟩ := HR.out.h.some (by rw [HL.out]; omega)
        obtain ⟨x1, x2⟩ := memCell HR.out hlt acc
        have HIN := Lib.hid (memIn HR.out hlt)
        have HK := Lib.hid hlt
        have HNK := Lib.hid (HN.out k hlt)
        have HS := Lib.hid (ofL_snoc ms (k := k) (by rw [HL.out]; exact hlt))
        have HTL : Hid (((ofL ms).take k).length = k) := Lib.hid (by rw [List.length_take, ofL_len, HL.out]; omega)
        have k1 : (k : Int) < m := by omega
        have k0 : 0 ≤ (k : Int) := by omega
        generalize ms.getD k mb0 = q at *
        obtain ⟨nm, rA, rn, rc, rb⟩ := q
        dsimp only at x1 x2 HNK HIN
        clear hk hlt own acc hb
        go_wp2_with fail
        clear x1 x2
        refine (record_any nm rA rn rc rb _ (HIN.out.h.below HACC.out (Nat.le_refl _)) HIN.out.e (by have := HNK.out; omega) HIN.out.b).mono ?_
        rintro e w3 ⟨rfl, b3⟩
        have O3 := Lib.hid (HO.out.past b3)
        have B3 := Lib.hid (mb_bb HACC.out b3)
        have G := mb_new w3 (.cells (rcE ⟨nm, rn, digest rb⟩).toArray 54)
        have O4 := Lib.hid (O3.out.past G)
        have B4 := Lib.hid (mb_bb B3.out G)
        have HL4 := Lib.hid (litR_has w3 ⟨nm, rn, digest rb⟩ rfl)
        have HRE : Hid (recOf ⟨nm, rA, rn, rc, rb⟩ = ⟨nm, rn, digest rb⟩) := Lib.hid rfl
        rw [HRE.out] at HS
        clear b3 G O3 B3 HO HACC
        generalize (⟨nm, (rn : Int), digest rb⟩ : Rc) = r at *
        go_wp2_with (first | (show wpList _ _ _ ({ dst := _, op := Op.buildSlice 25 1 _, type := _, pos := _, after := _, guard := _ } :: _) _ _; go_must (refine wp_litR (r := r) (by rfl) _ rfl rfl ?_)) | (at_builtin; refine Enc.app RE IR (by decide) (by rfl) _ _ rfl w.heap.size _ ((ofL ms).take k) rfl O4.out ⟨w3.heap.size, 0, none⟩ 1 1 [r] rfl rfl HL4.out (by rw [HTL.out]; have := HM.out; have := HK.out; omega) B4.out.size (k + 1) (by rw [HTL.out]) ?_; intro A7 c7 w7 ho7 hg7 hb7))
        go_roundw
        case rel => exact ⟨k + 1, A7, c7, HK.out, by go_num, rfl, by rw [HS.out]; exact ho7, B4.out.trans hb7⟩
        case measure => simp [intOf]; have := HK.out; omega
      · have k1 : ¬ (k : Int) < m := by omega
        obtain rfl : k = m := by omega
        have HT2 : Hid (RE.Own wr w.heap.size (.slice A k c) (ofL ms)) := Lib.hid (by rw [List.take_of_length_le (by rw [ofL_len, HL.out]; omega)] at own; exact own)
        clear hk hlt own acc
        go_wp2_with fail
        go_ret2
        exact ⟨.inl ⟨HC.out, _, _, rfl, HT2.out⟩, HACC.out⟩
end Go.Proofs.YtiihafhnaiicoaaDoor.mbW

namespace Go.Proofs.YtiihafhnaiicoaaDoor.mbW
set_option maxRecDepth 100000
open Go.RowKit Go.Proofs.YtiihafhnaiicoaaDoor.base Go.Proofs.YtiihafhnaiicoaaDoor.shP Go.Proofs.YtiihafhnaiicoaaDoor.shW
open Go.Proofs.YtiihafhnaiicoaaDoor.trW (IsD sv zd_isD digest_isD)
set_option linter.unusedVariables false
set_option linter.unusedSimpArgs false
set_option maxRecDepth 100000
structure RcOk (r : Rc) : Prop where
  n : r.nm.size ≤ maxLen
  z : -9223372036854775808 ≤ r.sz ∧ r.sz ≤ 9223372036854775807
  d : IsD r.sum
theorem i64_wf {x : Int} (h : -9223372036854775808 ≤ x ∧ x ≤ 9223372036854775807) : (Lit.int .i64 x).wf = true := WalkArith.wf_i64 h
theorem one_lit64 {x : Int} (h : -9223372036854775808 ≤ x ∧ x ≤ 9223372036854775807) (d : Nat) : Tryd.prog.keyLits (d + 1) 3 [.int .i64 x] = some [.int .i64 x] := by
  have hw := i64_wf h
  unfold Program.keyLits
  rw [Tryd.underlying3]
  simp [hw]
theorem one_litS {s : ByteArray} (h : s.size ≤ maxLen) (d : Nat) : Tryd.prog.keyLits (d + 1) 9 [.string s] = some [.string s.data.toList] := by
  unfold Program.keyLits
  rw [Tryd.underlying9]
  simp [h]
def lit (r : Rc) : List Lit := [.string r.nm.data.toList, .int .i64 r.sz] ++ r.sum.map (Lit.int .u8)
theorem lits_rec {r : Rc} (h : RcOk r) : Tryd.prog.keyLits 5 54 (rcE r) = some (lit r) := by
  rw [rcE_eq h.d.len]
  unfold Program.keyLits
  rw [Tryd.underlying54]
  have c1 : Tryd.prog.cellsOf 54 = 22 := by kernel_rfl
  have c2 : Tryd.prog.cellsOf 9 = 1 := by kernel_rfl
  have c3 : Tryd.prog.cellsOf 3 = 1 := by kernel_rfl
  have c4 : Tryd.prog.cellsOf 52 = 20 := by kernel_rfl
  have e0 := one_litS h.n 3
  have e1 := one_lit64 h.z 3
  have e2 := trW.lits_sum h.d 2
  have hl : (trW.sv r.sum).take 20 = trW.sv r.sum := List.take_of_length_le (by simp [trW.sv, h.d.len])
  have hls : (trW.sv r.sum).length = 20 := by simp [trW.sv, h.d.len]
  simp [c1, c2, c3, c4, hls, e0, e1, e2, hl, List.mapM_cons, lit]
theorem lit_inj {a b : Rc} : a = b ↔ lit a = lit b := by
  constructor
  · rintro rfl; rfl
  · intro h
    obtain ⟨a0, a1, a2⟩ := a
    obtain ⟨b0, b1, b2⟩ := b
    simp only [lit, List.cons_append, List.nil_append, List.cons.injEq, Lit.int.injEq, Lit.string.injEq, true_and] at h
    obtain ⟨h0, h1, h2⟩ := h
    have h3 := (trW.lit_inj a2 b2).2 h2
    have h4 : a0 = b0 := by
      cases a0; cases b0
      congr 1
      exact Array.ext' h0
    rw [h4, h1, h3]
theorem rec_formed (r : Rc) : (Value.agg (rcE r).toArray).formed Tryd.prog 54 = true := by
  have c : Tryd.prog.cellsOf 54 = 22 := by kernel_rfl
  unfold Value.formed
  rw [Tryd.underlying54]
  show ((rcE r).toArray.size == _) = true
  rw [c, List.size_toArray]
  simp [rcE]
open Classical in
theorem eq_rec {a b : Rc} (ha : RcOk a) (hb : RcOk b) (w : World) : (Op.equalIn 10000 54 (.agg (rcE a).toArray) (.agg (rcE b).toArray)).run Tryd.prog w = .ok (decide (a = b)) w := by
  obtain ⟨r, h1, h2⟩ := run_equalIn_deep (P := Tryd.prog) 9997 3 54 (by kernel_rfl) w 5 5 (.agg (rcE a).toArray) (.agg (rcE b).toArray) _ _ (rec_formed a) (rec_formed b) (lits_rec ha) (lits_rec hb)
  rw [h1]
  congr 1
  by_cases c : a = b
  · rw [decide_eq_true c]; exact h2.2 (lit_inj.1 c)
  · rw [decide_eq_false c]
    cases r
    · rfl
    · exact absurd (lit_inj.2 (h2.1 rfl)) c
open Classical in
theorem quiet_rneq {o : Oper} {a : Act} {w : World} {C : World → Prop} {l m : Rc} (x y : Operand) (t : TypeId) (ho : o.op = .binOp .neq 54 x y t) (hl : RcOk l) (hm : RcOk m)
    (hx : a.eval x = .agg (rcE l).toArray) (hy : a.eval y = .agg (rcE m).toArray) : Oper.quietAt Tryd.prog o a C w (.bool (!decide (l = m))) := by
  unfold Oper.quietAt execOp
  simp only [ho, hx, hy, Sem.run_bind, Sem.run_pure, Result.andThen_ok, run_neq_struct, run_eqGuard_agg _ _ _ _ _ _ _ (show Tryd.prog.eqGuardType Tryd.prog.depth 54 = false by kernel_rfl), eq_rec hl hm]
  exact ⟨rfl, rfl⟩
open Classical in
theorem wp_rneq {ops : Array Oper} {rest : List Oper} {o : Oper} {a : Act} {w : World} {Q : Exit → Act → World → Prop} {l m : Rc} (hw : Region.wanted o (yielded ops a.tmps) = true) (x y : Operand) (t : TypeId) (ho : o.op = .binOp .neq 54 x y t) (hl : RcOk l) (hm : RcOk m)
    (hx : a.eval x = .agg (rcE l).toArray) (hy : a.eval y = .agg (rcE m).toArray) (H : wpList Tryd.prog ops Q rest (a.put o.dst (.bool (!decide (l = m)))) w) : wpList Tryd.prog ops Q (o :: rest) a w := by
  refine wpList_step fun K hK => ?_
  rw [if_pos hw]
  unfold Oper.wp execOp
  simp only [ho, hx, hy, Sem.run_bind, Sem.run_pure, Result.andThen_ok, run_neq_struct, run_eqGuard_agg _ _ _ _ _ _ _ (show Tryd.prog.eqGuardType Tryd.prog.depth 54 = false by kernel_rfl), eq_rec hl hm]
  exact hK _ _ H
theorem undR : ∃ d, Tryd.prog.underlying 54 = some d ∧ d.isRow = true := ⟨_, Tryd.underlying54, rfl⟩
set_option maxHeartbeats 3200000 in
open Classical in
theorem Same_any (a b : List Rc) (A B : Option Addr) (n m c d : Nat) (w : World) (ha : RE.Has w A a) (hb : RE.Has w B b) (la : a.length = n) (lb : b.length = m) (hn : n ≤ 1000000) (hm : m ≤ 1000000) (oa : ∀ r ∈ a, RcOk r) (ob : ∀ r ∈ b, RcOk r) :
    Calls Tryd.prog 15 #[.slice A n c, .slice B m d] w fun e w' => e = .returned (.bool (decide (a = b))) ∧ Below w.heap.size w w' := by
  have HA := Lib.hid ha
  have HB := Lib.hid hb
  have LA := Lib.hid la
  have LB := Lib.hid lb
  have OA := Lib.hid oa
  have OB := Lib.hid ob
  have n9 : (n : Int) ≤ 1000000 := by omega
  have m9 : (m : Int) ≤ 1000000 := by omega
  clear ha hb la lb hn hm oa ob
  by_cases c1 : n = m
  · subst c1
    go_enter Tryd.func15, Tryd.ntmps15
    go_wp2_with fail
    go_loopw [5] (fun iv wr => ∃ k : Nat, k ≤ n ∧ iv = .int .i64 (k : Int) ∧ a.take k = b.take k ∧ Below w.heap.size w wr) (fun iv _ => n - (intOf iv).toNat)
    case atStart => exact ⟨0, Nat.zero_le _, rfl, rfl, Below.refl _ _⟩
    case round =>
      obtain ⟨k, hk, rfl, hs, hw⟩ := hrel
      rename World => wr
      have HS := Lib.hid hs
      have HW := Lib.hid hw
      by_cases hlt : k < n
      · obtain ⟨b1, o1, rfl, hb1⟩ := HA.out.some (by rw [LA.out]; omega)
        obtain ⟨b2, o2, rfl, hb2⟩ := HB.out.some (by rw [LB.out]; omega)
        have X1 := Lib.hid (fun x' (h : Below w.heap.size w x') => (HA.out.past h).rng (i := k) (by rw [LA.out]; exact hlt))
        have X2 := Lib.hid (fun x' (h : Below w.heap.size w x') => (HB.out.past h).rng (i := k) (by rw [LB.out]; exact hlt))
        have hka : k < a.length := by rw [LA.out]; exact hlt
        have hkb : k < b.length := by rw [LB.out]; exact hlt
        have PA : Hid (RcOk (a.getD k RE.d)) := Lib.hid (OA.out _ (by rw [List.getD_eq_getElem?_getD, List.getElem?_eq_getElem hka]; exact List.getElem_mem hka))
        have PB : Hid (RcOk (b.getD k RE.d)) := Lib.hid (OB.out _ (by rw [List.getD_eq_getElem?_getD, List.getElem?_eq_getElem hkb]; exact List.getElem_mem hkb))
        have HST : Hid (a.getD k RE.d = b.getD k RE.d → a.take (k + 1) = b.take (k + 1)) := Lib.hid (fun e => by
          rw [List.take_add_one, List.take_add_one, hs, List.getElem?_eq_getElem hka, List.getElem?_eq_getElem hkb]
          rw [List.getD_eq_getElem?_getD, List.getD_eq_getElem?_getD, List.getElem?_eq_getElem hka, List.getElem?_eq_getElem hkb] at e
          simp only [Option.getD_some] at e
          rw [e])
        have HNE : Hid (a.getD k RE.d ≠ b.getD k RE.d → a ≠ b) := Lib.hid (fun h e => h (by rw [e]))
        generalize a.getD k RE.d = x at *
        generalize b.getD k RE.d = y at *
        have HLT := Lib.hid hlt
        have k1 : (k : Int) < n := by omega
        have k0 : 0 ≤ (k : Int) := by omega
        clear hk hlt hs hb1 hb2 hw hka hkb
        go_upto_region 6 with fail
        (have RD := drawn_roads (S := fun x' => Below w.heap.size w x') (fun _ n h => below_drewN h n)); refine region_ord _ Drawn RD HW.out.drew (by kernel_rfl) ?_; intro ops Q' hops hPQ hN; (have HNS : Hid (Region.noSelect ops = true) := Lib.hid (by rw [hops]; kernel_rfl)); (have hsz : ops.size = 9 := (by rw [hops]; rfl)); have HOP := Lib.hid hops; have HPQ := Lib.hid hPQ; have HN := Lib.hid hN; rw [hsz]; clear hops hsz hPQ hN
        refine ord_take RD 0 (at_list (by rw [HOP.out]; rfl)) HNS.out HPQ.out (by rw [HOP.out]; kernel_rfl) (by rw [HOP.out]; kernel_rfl) (by rw [HOP.out]; rfl) (fun K hK => ?_); apply Exists.intro; refine ⟨fun W hSW => ?_, hK _ ?_⟩; (focus ((try dsimp only at hSW); go_simp; try with_reducible rfl)); clear hK K; (try simp only [Act.put, List.setIfInBounds_toArray, List.set_cons_zero, List.set_cons_succ])
        refine ord_take RD 1 (at_list (by rw [HOP.out]; rfl)) HNS.out HPQ.out (by rw [HOP.out]; kernel_rfl) (by rw [HOP.out]; kernel_rfl) (by rw [HOP.out]; rfl) (fun K hK => ?_); apply Exists.intro; refine ⟨fun W hSW => ?_, hK _ ?_⟩; (focus ((try dsimp only at hSW); go_simp; try with_reducible rfl)); clear hK K; (try simp only [Act.put, List.setIfInBounds_toArray, List.set_cons_zero, List.set_cons_succ])
        refine ord_take RD 2 (at_list (by rw [HOP.out]; rfl)) HNS.out HPQ.out (by rw [HOP.out]; kernel_rfl) (by rw [HOP.out]; kernel_rfl) (by rw [HOP.out]; rfl) (fun K hK => ?_); apply Exists.intro; refine ⟨fun W hSW => ?_, hK _ ?_⟩; (focus ((try dsimp only at hSW); go_simp; try with_reducible rfl)); clear hK K; (try simp only [Act.put, List.setIfInBounds_toArray, List.set_cons_zero, List.set_cons_succ])
        refine ord_take RD 3 (at_list (by rw [HOP.out]; rfl)) HNS.out HPQ.out (by rw [HOP.out]; kernel_rfl) (by rw [HOP.out]; kernel_rfl) (by rw [HOP.out]; rfl) (fun K hK => ?_); apply Exists.intro; refine ⟨fun W hSW => ?_, hK _ ?_⟩; (focus ((try dsimp only at hSW); exact Enc.quiet_ld RE (x := x) (P := Tryd.prog) Tryd.underlying54 rfl info22 _ rfl (X1.out _ hSW) rfl)); clear hK K; (try simp only [Act.put, List.setIfInBounds_toArray, List.set_cons_zero, List.set_cons_succ])
        refine ord_take RD 4 (at_list (by rw [HOP.out]; rfl)) HNS.out HPQ.out (by rw [HOP.out]; kernel_rfl) (by rw [HOP.out]; kernel_rfl) (by rw [HOP.out]; rfl) (fun K hK => ?_); apply Exists.intro; refine ⟨fun W hSW => ?_, hK _ ?_⟩; (focus ((try dsimp only at hSW); go_simp; try with_reducible rfl)); clear hK K; (try simp only [Act.put, List.setIfInBounds_toArray, List.set_cons_zero, List.set_cons_succ])
        refine ord_take RD 5 (at_list (by rw [HOP.out]; rfl)) HNS.out HPQ.out (by rw [HOP.out]; kernel_rfl) (by rw [HOP.out]; kernel_rfl) (by rw [HOP.out]; rfl) (fun K hK => ?_); apply Exists.intro; refine ⟨fun W hSW => ?_, hK _ ?_⟩; (focus ((try dsimp only at hSW); go_simp; try with_reducible rfl)); clear hK K; (try simp only [Act.put, List.setIfInBounds_toArray, List.set_cons_zero, List.set_cons_succ])
        refine ord_take RD 6 (at_list (by rw [HOP.out]; rfl)) HNS.out HPQ.out (by rw [HOP.out]; kernel_rfl) (by rw [HOP.out]; kernel_rfl) (by rw [HOP.out]; rfl) (fun K hK => ?_); apply Exists.intro; refine ⟨fun W hSW => ?_, hK _ ?_⟩; (focus ((try dsimp only at hSW); go_simp; try with_reducible rfl)); clear hK K; (try simp only [Act.put, List.setIfInBounds_toArray, List.set_cons_zero, List.set_cons_succ])
        refine ord_take RD 7 (at_list (by rw [HOP.out]; rfl)) HNS.out HPQ.out (by rw [HOP.out]; kernel_rfl) (by rw [HOP.out]; kernel_rfl) (by rw [HOP.out]; rfl) (fun K hK => ?_); apply Exists.intro; refine ⟨fun W hSW => ?_, hK _ ?_⟩; (focus ((try dsimp only at hSW); exact Enc.quiet_ld RE (x := y) (P := Tryd.prog) Tryd.underlying54 rfl info22 _ rfl (X2.out _ hSW) rfl)); clear hK K; (try simp only [Act.put, List.setIfInBounds_toArray, List.set_cons_zero, List.set_cons_succ])
        refine ord_take RD 8 (at_list (by rw [HOP.out]; rfl)) HNS.out HPQ.out (by rw [HOP.out]; kernel_rfl) (by rw [HOP.out]; kernel_rfl) (by rw [HOP.out]; rfl) (fun K hK => ?_); apply Exists.intro; refine ⟨fun W hSW => ?_, hK _ ?_⟩; (focus ((try dsimp only at hSW); exact quiet_rneq (l := x) (m := y) _ _ _ rfl PA.out PB.out rfl rfl)); clear hK K; (try simp only [Act.put, List.setIfInBounds_toArray, List.set_cons_zero, List.set_cons_succ])
        refine ord_done (by rw [HOP.out]; kernel_rfl) (fun W1 hWW hSW => HN.out _ _ ?_); clear HOP HNS HPQ HN RD; (try dsimp only at hSW)
        have HSW := Lib.hid hSW
        clear hWW hSW
        by_cases ce : x = y
        · rw [show (!decide (x = y)) = false by simp [ce]]
          have HE := Lib.hid (HST.out ce)
          clear ce
          go_wp2_with fail
          refine ⟨⟨k + 1, HLT.out, by go_num, HE.out, HSW.out⟩, by simp [intOf]; have := HLT.out; omega⟩
        · rw [show (!decide (x = y)) = true by simp [ce]]
          have HE := Lib.hid (HNE.out ce)
          clear ce
          go_wp2_with fail
          go_ret
          exact ⟨by rw [decide_eq_false HE.out]; rfl, HSW.out⟩
      · have k1 : ¬ (k : Int) < n := by omega
        have HE : Hid (a = b) := Lib.hid (by
          rw [← List.take_of_length_le (l := a) (i := k) (by rw [LA.out]; omega), ← List.take_of_length_le (l := b) (i := k) (by rw [LB.out]; omega)]; exact hs)
        clear hk hlt hs hw
        go_wp2_with fail
        go_ret
        exact ⟨by rw [decide_eq_true HE.out]; rfl, HW.out⟩
  · have HE : Hid (a ≠ b) := Lib.hid (fun e => c1 (by rw [← LA.out, ← LB.out, e]))
    have c2 : ¬ (n : Int) = m := by omega
    clear c1
    go_enter Tryd.func15, Tryd.ntmps15
    go_wp2_with fail
    go_ret
    exact ⟨by rw [decide_eq_false HE.out]; rfl, Below.refl _ _⟩
end Go.Proofs.YtiihafhnaiicoaaDoor.mbW

namespace Go.Proofs.YtiihafhnaiicoaaDoor.mbW
set_option maxRecDepth 100000
open Go.RowKit Go.Proofs.YtiihafhnaiicoaaDoor.base Go.Proofs.YtiihafhnaiicoaaDoor.shP Go.Proofs.YtiihafhnaiicoaaDoor.shW
set_option linter.unusedVariables false
set_option linter.unusedSimpArgs false
set_option maxRecDepth 100000
def mbE (m : Mb) : List Value := [.string m.nm, .slice m.r.A m.r.n m.r.c]
def ME : Enc Mb where
  enc := mbE
  n := 2
  T := 37
  d := mb0
  len := fun x => rfl
  one := fun x v hv => by
    simp only [mbE, List.mem_cons, List.not_mem_nil, or_false] at hv
    rcases hv with rfl | rfl <;> rfl
  pos := by decide
theorem IM : Enc.Info ME Tryd.prog 22 40 := ⟨Tryd.underlying22, by
  obtain ⟨i, h1, h2, h3, h4⟩ := info_parts (P := Tryd.prog) (e := 37) (z := .agg #[.string .empty, .slice none 0 0]) (size := 2) (bytes := 40) (by kernel_rfl)
  exact ⟨i, _, h1, h2, h3, h4, rfl⟩⟩
theorem memOf {w : World} {A : Option Addr} {ms : List Mb} (h : ME.Has w A ms) (hin : ∀ m ∈ ms, InR w m.r) : HasM w A ms := by
  refine ⟨?_, hin⟩
  rcases h with h | ⟨b, off, e, hb, hc⟩
  · exact .inl h
  · refine .inr ⟨b, off, e, hb, fun i hi => ?_⟩
    have hr := Enc.Has.rng (E := ME) (w := w) (b := b) (off := off) (xs := ms) (.inr ⟨b, off, rfl, hb, hc⟩) hi
    have h0 := hr 0 (.string (ms.getD i mb0).nm) rfl
    have h1 := hr 1 (.slice (ms.getD i mb0).r.A (ms.getD i mb0).r.n (ms.getD i mb0).r.c) rfl
    exact ⟨h0, h1⟩
/-- A slice of bytes whose block is one of bytes. -/
def DataU (w : World) (r : R8) : Prop := r.b = [] ∨ ∃ g cur fr, r.A = some ⟨g, 0, none⟩ ∧ w.heap[g]? = some (.cells cur 5 fr)
theorem DataU.past {w w' : World} {r : R8} (h : DataU w r) (hb : Below w.heap.size w w') : DataU w' r := by
  rcases h with h | ⟨g, cur, fr, h1, h2⟩
  · exact .inl h
  · exact .inr ⟨g, cur, fr, h1, by rw [hb.block g (lt_of_block h2)]; exact h2⟩
theorem data_grown {w w' : World} {r : R8} (h : InR w r) (hd : DataU w r) {B : Nat} {v : Value} {xs : List Mb} (ho : ME.Own w B v xs) (hg : w.grownBy w' v.ownBlock) : InR w' r ∧ DataU w' r := by
  have hne : ∀ g cur fr, w.heap[g]? = some (.cells cur 5 fr) → some g ≠ v.ownBlock := by
    intro g cur fr hh e
    rcases ho.2 with ⟨rfl, _⟩ | ⟨g', cap, cur', rfl, _, hh', _⟩
    · simp [Value.ownBlock] at e
    · have : g = g' := by simpa [Value.ownBlock] using e
      subst this
      rw [hh] at hh'
      injection hh' with h1
      injection h1 with _ h2
      exact absurd h2 (by show (5 : TypeId) ≠ 37; decide)
  rcases hd with hd | ⟨g, cur, fr, h1, h2⟩
  · exact ⟨⟨.inl hd, h.e, h.c1, h.c2, h.b⟩, .inl hd⟩
  · have hgne := hne g cur fr h2
    refine ⟨⟨?_, h.e, h.c1, h.c2, h.b⟩, .inr ⟨g, cur, fr, h1, by rw [hg.block g (lt_of_block h2) hgne]; exact h2⟩⟩
    rcases h.h with h0 | ⟨b, off, e, hb, hc⟩
    · exact .inl h0
    · rw [h1] at e
      injection e with e
      injection e with e1 e2
      subst e1 e2
      exact .inr ⟨g, 0, h1, Nat.lt_of_lt_of_le hb hg.size, fun i hi => hg.cell (hc i hi) hgne⟩
theorem op_app0 {w : World} {o : Oper} {a : Act} {K : Act → World → Prop} {Q : Exit → Act → World → Prop} (s x : Operand)
    (ho : o.op = .call { callee := .builtin .append, args := #[s, x], argTypes := #[35, 35] })
    (D : Option Addr) (hs : a.eval s = .slice D 0 0) (A : Option Addr) (m c : Nat) (ys : List Int) (hx : a.eval x = .slice A m c) (hm : ys.length = m) (hr : Has .u8 w A ys) (hb : ∀ z ∈ ys, 0 ≤ z ∧ z ≤ 255) (h63 : m ≤ 140737488355328)
    (h : ∀ A' c' w', InR w' ⟨A', m, c', ys⟩ → DataU w' ⟨A', m, c', ys⟩ → Below w.heap.size w w' → K (a.put o.dst (.slice A' m c')) w') : Oper.wp Tryd.prog o a w K Q := by
  subst hm
  obtain ⟨i, hi, hz, h1, h2⟩ := info8
  obtain ⟨A', c', w', hrun, k2, k3, k4⟩ := run_append_zero (P := Tryd.prog) w _ o.type 5 i (.int .u8 0) 1 Tryd.underlying35 hi hz h1 h2 rfl .u8 D A c ys hr (by simp only [maxLen]; omega) (by omega)
  unfold Oper.wp execOp
  simp only [ho, resolve, invoke, builtin, Sem.run_bind, Sem.run_pure, Result.andThen_ok, List.map_toArray, List.map_cons, List.map_nil, hs, hx, hrun]
  rcases k4 with ⟨rfl, _, rfl, _⟩ | k4
  · exact h A' 0 w' ⟨.inl rfl, rfl, Nat.le_refl _, (by show 0 ≤ 9223372036854775807; omega), by simp⟩ (.inl rfl) k3
  · rcases k4.2 with ⟨e, h0⟩ | ⟨g, cap, cur, e, hB, hh, hnc, hcm, hcs, ht⟩
    · injection e with e1 e2 e3
      subst e3
      have : ys = [] := List.eq_nil_of_length_eq_zero e2
      exact h A' 0 w' ⟨k2, rfl, by show ys.length ≤ 0; omega, (by show 0 ≤ 9223372036854775807; omega), hb⟩ (.inl this) k3
    · injection e with e1 e2 e3
      subst e3
      exact h A' c' w' ⟨k2, rfl, hnc, (by show c' ≤ 9223372036854775807; unfold maxLen at hcm; omega), hb⟩ (.inr ⟨g, cur, _, e1, hh⟩) k3
/-- Members as they were. -/
def AsM (ms ts : List Mb) : Prop := ∀ j, j < ts.length → (ts.getD j mb0).nm = (ms.getD j mb0).nm ∧ (ts.getD j mb0).r.b = (ms.getD j mb0).r.b ∧ (ts.getD j mb0).r.n = (ms.getD j mb0).r.n
theorem AsM.snoc {ms ts : List Mb} (h : AsM ms ts) {t : Mb} (h1 : t.nm = (ms.getD ts.length mb0).nm) (h2 : t.r.b = (ms.getD ts.length mb0).r.b) (h3 : t.r.n = (ms.getD ts.length mb0).r.n) : AsM ms (ts ++ [t]) := by
  intro j hj
  rw [List.length_append] at hj
  rcases Nat.lt_or_ge j ts.length with hlt | hge
  · have e : (ts ++ [t]).getD j mb0 = ts.getD j mb0 := by
      rw [List.getD_eq_getElem?_getD, List.getD_eq_getElem?_getD, List.getElem?_append_left hlt]
    rw [e]; exact h j hlt
  · have hj2 : j = ts.length := by simp at hj; omega
    subst hj2
    have e : (ts ++ [t]).getD ts.length mb0 = t := by
      rw [List.getD_eq_getElem?_getD, List.getElem?_append_right (Nat.le_refl _), Nat.sub_self]; rfl
    rw [e]; exact ⟨h1, h2, h3⟩
/-- What the reference's Twin answers. -/
def TwP (ms : List Mb) (m : Nat) (w : World) (e : Ending) (w' : World) : Prop := ∃ (A : Option Addr) (c : Nat) (ts : List Mb), e = .returned (.slice A m c) ∧ ts.length = m ∧ m ≤ c ∧ c ≤ maxLen ∧ HasM w' A ts ∧ AsM ms ts ∧ Below w.heap.size w w'
set_option maxHeartbeats 6400000 in
theorem Twin_any (ms : List Mb) (P : Option Addr) (m d : Nat) (w : World) (hR : MemB w P m d ms) (hm30 : m ≤ 30) (hN : ∀ k, k < m → (ms.getD k mb0).r.n ≤ 10000) :
    Calls Tryd.prog 10 #[.slice P m d] w (TwP ms m w) := by
  have m9 : (m : Int) ≤ 30 := by omega
  have HR := Lib.hid hR
  have HL := Lib.hid hR.l
  have HN := Lib.hid hN
  have H30 := Lib.hid hm30
  clear hR hN hm30
  go_enter Tryd.func10, Tryd.ntmps10
  go_wp2_with fail
  go_loopw [3, 4] (fun rv iv wr => ∃ (k : Nat) (A : Option Addr) (c : Nat) (ts : List Mb), k ≤ m ∧ iv = .int .i64 (k : Int) ∧ rv = .slice A k c ∧ ts.length = k ∧ ME.Own wr w.heap.size (.slice A k c) ts ∧ (∀ t ∈ ts, InR wr t.r ∧ DataU wr t.r) ∧ AsM ms ts ∧ Below w.heap.size w wr) (fun _ iv _ => m - (intOf iv).toNat)
  case atStart => exact ⟨0, none, 0, [], Nat.zero_le _, rfl, rfl, rfl, Enc.Own.nil _ _, by simp, by intro j hj; simp at hj, Below.refl _ _⟩
  case round =>
    obtain ⟨k, A, c, ts, hk, rfl, rfl, hts, own, hin, has, acc⟩ := hrel
    rename World => wr
    have HO := Lib.hid own
    have HTS := Lib.hid hts
    have HIN := Lib.hid hin
    have HAS := Lib.hid has
    have HACC := Lib.hid acc
    by_cases hlt : k < m
    · obtain ⟨b, off, rfl, hb⟩ := HR.out.h.some (by rw [HL.out]; omega)
      have HCE := Lib.hid (fun x' (h : Below w.heap.size w x') => memCell HR.out hlt h)
      have HMI := Lib.hid (memIn HR.out hlt)
      have HK := Lib.hid hlt
      have HNK := Lib.hid (HN.out k hlt)
      have HSN := Lib.hid (fun t => AsM.snoc (ms := ms) (ts := ts) has (t := t))
      rw [hts] at HSN
      have k1 : (k : Int) < m := by omega
      have k0 : 0 ≤ (k : Int) := by omega
      generalize ms.getD k mb0 = q at *
      obtain ⟨nm, rA, rn, rc, rb⟩ := q
      dsimp only at HNK HMI HCE HSN
      clear hk hlt own acc hb hts hin has
      go_upto_region 5 with fail
      (have RD := grows_roads (S := fun x' => Below wr.heap.size wr x') (fun a b h1 h2 => h2.trans (h1.mono h2.size))); refine region_ordT 15 _ Grows RD (Below.drew (Below.refl _ _)) (by kernel_rfl) (by decide) ?_; intro ops Q' hops hPQ hN; (have HNS : Hid (Region.noSelect ops = true ∧ Region.sinkB .any ops 15 = true ∧ Region.chainB .any ops 15 = true ∧ 15 < ops.size) := Lib.hid (by rw [hops]; exact ⟨by kernel_rfl, by kernel_rfl, by kernel_rfl, by decide⟩)); (have hsz : ops.size = 17 := (by rw [hops]; rfl)); have HOP := Lib.hid hops; have HPQ := Lib.hid hPQ; have HN := Lib.hid hN; rw [hsz]; clear hops hsz hPQ hN
      refine ordT_take RD 0 (at_list (by rw [HOP.out]; rfl)) HNS.out HPQ.out (by rw [HOP.out]; kernel_rfl) (by rw [HOP.out]; kernel_rfl) (by rw [HOP.out]; rfl) (fun K hK => ?_); apply Exists.intro; refine ⟨fun W hSW => ?_, hK _ ?_⟩; (focus ((try dsimp only at hSW); go_simp; try with_reducible rfl)); clear hK K; (try simp only [Act.put, List.setIfInBounds_toArray, List.set_cons_zero, List.set_cons_succ])
      refine ordT_take RD 1 (at_list (by rw [HOP.out]; rfl)) HNS.out HPQ.out (by rw [HOP.out]; kernel_rfl) (by rw [HOP.out]; kernel_rfl) (by rw [HOP.out]; rfl) (fun K hK => ?_); apply Exists.intro; refine ⟨fun W hSW => ?_, hK _ ?_⟩; (focus ((try dsimp only at hSW); go_simp; try with_reducible rfl)); clear hK K; (try simp only [Act.put, List.setIfInBounds_toArray, List.set_cons_zero, List.set_cons_succ])
      refine ordT_take RD 2 (at_list (by rw [HOP.out]; rfl)) HNS.out HPQ.out (by rw [HOP.out]; kernel_rfl) (by rw [HOP.out]; kernel_rfl) (by rw [HOP.out]; rfl) (fun K hK => ?_); apply Exists.intro; refine ⟨fun W hSW => ?_, hK _ ?_⟩; (focus ((try dsimp only at hSW); go_simp; try with_reducible rfl)); clear hK K; (try simp only [Act.put, List.setIfInBounds_toArray, List.set_cons_zero, List.set_cons_succ])
      refine ordT_take RD 3 (at_list (by rw [HOP.out]; rfl)) HNS.out HPQ.out (by rw [HOP.out]; kernel_rfl) (by rw [HOP.out]; kernel_rfl) (by rw [HOP.out]; rfl) (fun K hK => ?_); apply Exists.intro; refine ⟨fun W hSW => ?_, hK _ ?_⟩; (focus ((try dsimp only at hSW); go_simp; try with_reducible rfl)); clear hK K; (try simp only [Act.put, List.setIfInBounds_toArray, List.set_cons_zero, List.set_cons_succ])
      refine ordT_take RD 4 (at_list (by rw [HOP.out]; rfl)) HNS.out HPQ.out (by rw [HOP.out]; kernel_rfl) (by rw [HOP.out]; kernel_rfl) (by rw [HOP.out]; rfl) (fun K hK => ?_); apply Exists.intro; refine ⟨fun W hSW => ?_, hK _ ?_⟩; (focus ((try dsimp only at hSW); go_simp; try with_reducible rfl)); clear hK K; (try simp only [Act.put, List.setIfInBounds_toArray, List.set_cons_zero, List.set_cons_succ])
      refine ordT_take RD 5 (at_list (by rw [HOP.out]; rfl)) HNS.out HPQ.out (by rw [HOP.out]; kernel_rfl) (by rw [HOP.out]; kernel_rfl) (by rw [HOP.out]; rfl) (fun K hK => ?_); apply Exists.intro; refine ⟨fun W hSW => ?_, hK _ ?_⟩; (focus ((try dsimp only at hSW); have y1 := (HCE.out _ (mb_bb HACC.out hSW)).1; go_simp; try with_reducible rfl)); clear hK K; (try simp only [Act.put, List.setIfInBounds_toArray, List.set_cons_zero, List.set_cons_succ])
      refine ordT_take RD 7 (at_list (by rw [HOP.out]; rfl)) HNS.out HPQ.out (by rw [HOP.out]; kernel_rfl) (by rw [HOP.out]; kernel_rfl) (by rw [HOP.out]; rfl) (fun K hK => ?_); apply Exists.intro; refine ⟨fun W hSW => ?_, hK _ ?_⟩; (focus ((try dsimp only at hSW); go_simp; try with_reducible rfl)); clear hK K; (try simp only [Act.put, List.setIfInBounds_toArray, List.set_cons_zero, List.set_cons_succ])
      refine ordT_take RD 8 (at_list (by rw [HOP.out]; rfl)) HNS.out HPQ.out (by rw [HOP.out]; kernel_rfl) (by rw [HOP.out]; kernel_rfl) (by rw [HOP.out]; rfl) (fun K hK => ?_); apply Exists.intro; refine ⟨fun W hSW => ?_, hK _ ?_⟩; (focus ((try dsimp only at hSW); go_simp; try with_reducible rfl)); clear hK K; (try simp only [Act.put, List.setIfInBounds_toArray, List.set_cons_zero, List.set_cons_succ])
      refine ordT_take RD 9 (at_list (by rw [HOP.out]; rfl)) HNS.out HPQ.out (by rw [HOP.out]; kernel_rfl) (by rw [HOP.out]; kernel_rfl) (by rw [HOP.out]; rfl) (fun K hK => ?_); apply Exists.intro; refine ⟨fun W hSW => ?_, hK _ ?_⟩; (focus ((try dsimp only at hSW); go_simp; try with_reducible rfl)); clear hK K; (try simp only [Act.put, List.setIfInBounds_toArray, List.set_cons_zero, List.set_cons_succ])
      refine ordT_take RD 10 (at_list (by rw [HOP.out]; rfl)) HNS.out HPQ.out (by rw [HOP.out]; kernel_rfl) (by rw [HOP.out]; kernel_rfl) (by rw [HOP.out]; rfl) (fun K hK => ?_); apply Exists.intro; refine ⟨fun W hSW => ?_, hK _ ?_⟩; (focus ((try dsimp only at hSW); go_simp; try with_reducible rfl)); clear hK K; (try simp only [Act.put, List.setIfInBounds_toArray, List.set_cons_zero, List.set_cons_succ])
      refine ordT_take RD 11 (at_list (by rw [HOP.out]; rfl)) HNS.out HPQ.out (by rw [HOP.out]; kernel_rfl) (by rw [HOP.out]; kernel_rfl) (by rw [HOP.out]; rfl) (fun K hK => ?_); apply Exists.intro; refine ⟨fun W hSW => ?_, hK _ ?_⟩; (focus ((try dsimp only at hSW); have y2 := (HCE.out _ (mb_bb HACC.out hSW)).2; go_simp; try with_reducible rfl)); clear hK K; (try simp only [Act.put, List.setIfInBounds_toArray, List.set_cons_zero, List.set_cons_succ])
      refine ordT_one RD 6 (by rw [HOP.out]; kernel_rfl) (at_list (by rw [HOP.out]; rfl)) (by rw [HOP.out]; rfl) (fun W1 hWW hSW K hK => ?_); (try dsimp only at hSW)
      go_simp
      refine hK _ _ (mb_bb hSW (mb_new _ _)) ?_
      clear hSW hWW
      clear hK K; (try simp only [Act.put, List.setIfInBounds_toArray, List.set_cons_zero, List.set_cons_succ])
      refine ordT_one RD 12 (by rw [HOP.out]; kernel_rfl) (at_list (by rw [HOP.out]; rfl)) (by rw [HOP.out]; rfl) (fun W2 hWW hSW K hK => ?_); (try dsimp only at hSW)
      refine op_app0 _ _ rfl (some ⟨_, 0, none⟩) rfl rA rn rc rb rfl HMI.out.e (HMI.out.h.below (mb_bb HACC.out hSW) (Nat.le_refl _)) HMI.out.b (by have := HNK.out; omega) ?_
      intro A3 c3 w3 hin3 hdu3 hb3
      have I3 := Lib.hid (And.intro hin3 hdu3)
      refine hK _ _ (mb_bb hSW hb3) ?_
      clear hSW hWW hin3 hdu3 hb3
      clear hK K; (try simp only [Act.put, List.setIfInBounds_toArray, List.set_cons_zero, List.set_cons_succ])
      refine ordT_take RD 13 (at_list (by rw [HOP.out]; rfl)) HNS.out HPQ.out (by rw [HOP.out]; kernel_rfl) (by rw [HOP.out]; kernel_rfl) (by rw [HOP.out]; rfl) (fun K hK => ?_); apply Exists.intro; refine ⟨fun W hSW => ?_, hK _ ?_⟩; (focus ((try dsimp only at hSW); go_simp; try with_reducible rfl)); clear hK K; (try simp only [Act.put, List.setIfInBounds_toArray, List.set_cons_zero, List.set_cons_succ])
      refine ordT_one RD 14 (by rw [HOP.out]; kernel_rfl) (at_list (by rw [HOP.out]; rfl)) (by rw [HOP.out]; rfl) (fun W4 hWW hSW K hK => ?_); (try dsimp only at hSW)
      have I4 := Lib.hid (And.intro (I3.out.1.below hWW (Nat.le_refl _)) (I3.out.2.past hWW))
      go_simp
      have G := mb_new W4 (.cells #[.string nm, .slice A3 rn c3] 37)
      have I5 := Lib.hid (And.intro (I4.out.1.below G (Nat.le_refl _)) (I4.out.2.past G))
      have HLT := Lib.hid (Enc.lit ME W4 [⟨nm, ⟨A3, rn, c3, rb⟩⟩] rfl)
      refine hK _ _ (mb_bb hSW G) ?_
      clear hSW hWW I3 I4
      clear hK K; (try simp only [Act.put, List.setIfInBounds_toArray, List.set_cons_zero, List.set_cons_succ])
      generalize hW5 : (W4.alloc (.cells #[.string nm, .slice A3 rn c3] 37)) = w5 at *
      have HLT5 : Hid (ME.Has w5 (some ⟨W4.heap.size, 0, none⟩) [⟨nm, ⟨A3, rn, c3, rb⟩⟩]) := Lib.hid (by rw [← hW5]; exact HLT.out)
      clear HLT hW5 G
      refine ordT_end (by rw [HOP.out]; kernel_rfl) (fun W6 hWW hSW => ?_); rw [HOP.out]; simp only [List.drop_succ_cons, List.drop_zero]; have hN := HN.out; clear HOP HNS HPQ HN RD; (try dsimp only at hSW)
      have O6 := Lib.hid (HO.out.past hSW)
      have L6 := Lib.hid (HLT5.out.past hWW)
      have I6 := Lib.hid (And.intro (I5.out.1.below hWW (Nat.le_refl _)) (I5.out.2.past hWW))
      have J6 := Lib.hid (fun t ht => And.intro ((HIN.out t ht).1.below hSW (Nat.le_refl _)) ((HIN.out t ht).2.past hSW))
      have B6 := Lib.hid (mb_bb HACC.out hSW)
      clear hSW hWW HLT5 I5 HIN HO HACC
      go_wp2_with (at_builtin; refine Enc.app ME IM (by decide) (by rfl) _ _ rfl w.heap.size _ ts rfl O6.out ⟨W4.heap.size, 0, none⟩ 1 1 [⟨nm, ⟨A3, rn, c3, rb⟩⟩] rfl rfl L6.out (by rw [HTS.out]; have := H30.out; have := HK.out; omega) B6.out.size (k + 1) (by rw [HTS.out]) ?_; intro A7 c7 w7 ho7 hg7 hb7)
      go_roundw
      case rel =>
        refine ⟨k + 1, A7, c7, ts ++ [⟨nm, ⟨A3, rn, c3, rb⟩⟩], HK.out, by go_num, rfl, by rw [List.length_append, HTS.out]; rfl, ho7, fun t ht => ?_, HSN.out _ rfl rfl rfl, B6.out.trans hb7⟩
        rcases List.mem_append.1 ht with h | h
        · exact data_grown (J6.out t h).1 (J6.out t h).2 O6.out hg7
        · simp only [List.mem_cons, List.not_mem_nil, or_false] at h
          subst h
          exact data_grown I6.out.1 I6.out.2 O6.out hg7
      case measure => simp [intOf]; have := HK.out; omega
    · have k1 : ¬ (k : Int) < m := by omega
      obtain rfl : k = m := by omega
      clear hk hlt own acc hts hin has
      go_wp2_with fail
      go_ret
      show TwP _ _ _ _ _
      exact ⟨A, c, ts, rfl, HTS.out, HO.out.len.2.1, HO.out.len.2.2, memOf HO.out.has (fun t ht => (HIN.out t ht).1), HAS.out, HACC.out⟩
end Go.Proofs.YtiihafhnaiicoaaDoor.mbW

namespace Go.Proofs.YtiihafhnaiicoaaDoor.mbW
set_option maxRecDepth 100000
open Go.RowKit Go.Proofs.YtiihafhnaiicoaaDoor.base Go.Proofs.YtiihafhnaiicoaaDoor.shP Go.Proofs.YtiihafhnaiicoaaDoor.shW
open Go.Proofs.YtiihafhnaiicoaaDoor.trW (IsD sv zd_isD digest_isD z20_at)
set_option linter.unusedVariables false
set_option linter.unusedSimpArgs false
set_option maxRecDepth 100000
def rok (r : Rc) : Prop := nmB r.nm = true ∧ 0 ≤ r.sz ∧ r.sz ≤ 8192 ∧ (r.sz = 0 → r.sum = digest [])
def sumZ (rs : List Rc) : Int := (rs.map (·.sz)).sum
def rnms (rs : List Rc) : List ByteArray := rs.map (·.nm)
theorem rnms_len (rs : List Rc) : (rnms rs).length = rs.length := List.length_map _
theorem rnms_get (rs : List Rc) {k : Nat} (h : k < rs.length) : (rnms rs).getD k .empty = (rs.getD k rc0).nm := by
  rw [List.getD_eq_getElem?_getD, List.getD_eq_getElem?_getD, rnms, List.getElem?_map, List.getElem?_eq_getElem h]; rfl
theorem sumZ_snoc (rs : List Rc) {k : Nat} (h : k < rs.length) : sumZ (rs.take (k + 1)) = sumZ (rs.take k) + (rs.getD k rc0).sz := by
  unfold sumZ
  rw [List.take_add_one, List.getElem?_eq_getElem h, List.getD_eq_getElem?_getD, List.getElem?_eq_getElem h]
  simp only [Option.toList_some, Option.getD_some, List.map_append, List.map_cons, List.map_nil, List.sum_append, List.sum_cons, List.sum_nil]
  omega
open Classical in
noncomputable def vlE (rs : List Rc) : Int := if 16 < rs.length then 4 else if ∀ k, k < rs.length → rok (rs.getD k rc0) then (if 8192 < sumZ rs then 4 else twE (rnms rs)) else 8
theorem vl_long {rs : List Rc} (h : 16 < rs.length) : vlE rs = 4 := by unfold vlE; rw [if_pos h]
theorem vl_bad {rs : List Rc} (h : ¬ 16 < rs.length) {k : Nat} (hk : k < rs.length) (hb : ¬ rok (rs.getD k rc0)) : vlE rs = 8 := by
  unfold vlE
  rw [if_neg h, if_neg (fun e => hb (e k hk))]
theorem vl_sum {rs : List Rc} (h : ¬ 16 < rs.length) (hb : ∀ k, k < rs.length → rok (rs.getD k rc0)) (hs : 8192 < sumZ rs) : vlE rs = 4 := by
  unfold vlE
  rw [if_neg h, if_pos hb, if_pos hs]
theorem vl_ok {rs : List Rc} (h : ¬ 16 < rs.length) (hb : ∀ k, k < rs.length → rok (rs.getD k rc0)) (hs : ¬ 8192 < sumZ rs) : vlE rs = twE (rnms rs) := by
  unfold vlE
  rw [if_neg h, if_pos hb, if_neg hs]
theorem vl_cases (rs : List Rc) : vlE rs = 0 ∨ vlE rs = 4 ∨ vlE rs = 8 ∨ vlE rs = 14 := by
  unfold vlE
  split
  · simp
  · split
    · split
      · simp
      · rcases twE_cases (rnms rs) with h | h <;> simp [h]
    · simp
theorem vl_zero {rs : List Rc} (h : vlE rs = 0) : rs.length ≤ 16 ∧ (∀ k, k < rs.length → rok (rs.getD k rc0)) ∧ sumZ rs ≤ 8192 ∧ twE (rnms rs) = 0 := by
  unfold vlE at h
  split at h
  · omega
  · split at h
    · rename_i h1 h2
      split at h
      · omega
      · exact ⟨by omega, h2, by omega, h⟩
    · omega
theorem nbad {r : Rc} (h : nmB r.nm = false) : ¬ rok r := fun e => by have h1 := e.1; rw [h] at h1; cases h1
theorem sbad1 {r : Rc} (h : r.sz < 0) : ¬ rok r := fun e => by have := e.2.1; omega
theorem sbad2 {r : Rc} (h : 8192 < r.sz) : ¬ rok r := fun e => by have := e.2.2.1; omega
theorem sbad3 {r : Rc} (h : r.sz = 0) (h2 : r.sum ≠ digest []) : ¬ rok r := fun e => h2 (e.2.2.2 h)
/-- A comparison of digests in a plain region. -/
theorem wp_sne {ops : Array Oper} {rest : List Oper} {o : Oper} {a : Act} {w : World} {Q : Exit → Act → World → Prop} {l m : List Int} (hw : Region.wanted o (yielded ops a.tmps) = true) (x y : Operand) (t : TypeId) (ho : o.op = .binOp .neq 52 x y t) (hl : IsD l) (hm : IsD m)
    (hx : a.eval x = .agg (darr l)) (hy : a.eval y = .agg (darr m)) (H : wpList Tryd.prog ops Q rest (a.put o.dst (.bool (!decide (l = m)))) w) : wpList Tryd.prog ops Q (o :: rest) a w := by
  refine wpList_step fun K hK => ?_
  rw [if_pos hw]
  unfold Oper.wp execOp
  simp only [ho, hx, hy, Sem.run_bind, Sem.run_pure, run_neq_struct, run_eqGuard_agg _ _ _ _ _ _ _ (show Tryd.prog.eqGuardType Tryd.prog.depth 52 = false by kernel_rfl), trW.eq_sum hl hm, Result.andThen_ok]
  exact hK _ _ H
theorem rec_sum {w : World} {g : Nat} {nm : ByteArray} {sz : Int} {sm : List Int} (h : Lies w g 54 (rcE ⟨nm, sz, sm⟩)) (hs : sm.length = 20) : w.rangeAt g 2 (sv sm) := by
  rw [rcE_eq (r := ⟨nm, sz, sm⟩) hs] at h
  intro j v hv
  rw [h.cell, Nat.add_comm]
  exact hv
end Go.Proofs.YtiihafhnaiicoaaDoor.mbW

namespace Go.Proofs.YtiihafhnaiicoaaDoor.mbW
set_option maxRecDepth 100000
open Go.RowKit Go.Proofs.YtiihafhnaiicoaaDoor.base Go.Proofs.YtiihafhnaiicoaaDoor.shP Go.Proofs.YtiihafhnaiicoaaDoor.shW
open Go.Proofs.YtiihafhnaiicoaaDoor.trW (IsD sv zd_isD digest_isD z20_at)
set_option linter.unusedVariables false
set_option linter.unusedSimpArgs false
set_option maxRecDepth 100000
/-- Records in memory. -/
structure RecB (w : World) (P : Option Addr) (m d : Nat) (rs : List Rc) : Prop where
  h : RE.Has w P rs
  l : rs.length = m
  c1 : m ≤ d
  c2 : d ≤ 9223372036854775807
  z : ∀ r ∈ rs, -9223372036854775808 ≤ r.sz ∧ r.sz ≤ 9223372036854775807
  d : ∀ r ∈ rs, IsD r.sum
theorem RecB.below {w w' : World} {B : Nat} {P : Option Addr} {m d : Nat} {rs : List Rc} (h : RecB w P m d rs) (hb : Below B w w') (hB : w.heap.size ≤ B) : RecB w' P m d rs := ⟨h.h.below hb hB, h.l, h.c1, h.c2, h.z, h.d⟩
theorem lies_off {w : World} {g h : Nat} {t : TypeId} {cs : List Value} (k : Lies w h t cs) (hne : h ≠ g) (i : Nat) (v : Value) : Lies (w.setCell ⟨g, i, none⟩ v) h t cs := by
  unfold Lies at *
  simp only [World.setCell, Array.getElem?_modify]
  rw [if_neg (fun e => hne e.symm)]
  exact k
set_option maxHeartbeats 6400000 in
theorem Valid_any (rs : List Rc) (P : Option Addr) (m d : Nat) (w : World) (hT : Tab w) (hR : RecB w P m d rs) :
    Calls Tryd.prog 22 #[.slice P m d] w fun e w' => e = .returned (.int .i64 (vlE rs)) ∧ Below w.heap.size w w' := by
  have m9 : (m : Int) ≤ 9223372036854775807 := by have := hR.c1; have := hR.c2; omega
  have HT := Lib.hid hT
  have HR := Lib.hid hR
  have HL := Lib.hid hR.l
  clear hR hT
  by_cases c1 : 16 < m
  · have HV := Lib.hid (vl_long (rs := rs) (by rw [HL.out]; exact c1))
    have c2 : (16 : Int) < m := by omega
    clear c1
    go_enter Tryd.func22, Tryd.ntmps22
    go_wp2_with fail
    go_ret
    exact ⟨by rw [HV.out]; rfl, Below.refl _ _⟩
  have HM : Hid (m ≤ 16) := Lib.hid (by omega)
  have c2 : ¬ (16 : Int) < m := by omega
  have m16 : (m : Int) ≤ 16 := by omega
  have H16 : Hid (¬ 16 < rs.length) := Lib.hid (by rw [HL.out]; exact c1)
  clear c1
  go_enter Tryd.func22, Tryd.ntmps22
  go_wp2_with fail
  refine (Sum_any [] none 0 0 w HT.out (.inl rfl) rfl (Nat.le_refl _) (by decide) (by simp)).mono ?_
  rintro e w1 ⟨rfl, b1⟩
  rw [(sum_okk (b := []) (by decide)).1, (sum_okk (b := []) (by decide)).2]
  have HD := Lib.hid (digest_isD [])
  obtain ⟨dg, hdg⟩ : ∃ dg, digest [] = dg := ⟨_, rfl⟩
  have HDG := Lib.hid hdg
  rw [hdg] at HD ⊢
  clear hdg
  have Y := Lib.hid (z20_at w1 rfl)
  have G := mb_new w1 (.cells #[.int .u8 0, .int .u8 0, .int .u8 0, .int .u8 0, .int .u8 0, .int .u8 0, .int .u8 0, .int .u8 0, .int .u8 0, .int .u8 0, .int .u8 0, .int .u8 0, .int .u8 0, .int .u8 0, .int .u8 0, .int .u8 0, .int .u8 0, .int .u8 0, .int .u8 0, .int .u8 0] 52)
  have LE := Lib.hid b1.size
  have B2 := Lib.hid (mb_bb b1 G)
  clear G b1
  have kt := mkT m (by have := HM.out; omega)
  go_wp2_with (first | (show wpList _ _ _ ({ dst := none, op := Op.store 52 (.tmp 3) _, type := _, pos := _, after := _, guard := _ } :: _) _ _; go_must (refine trW.wp_st (g := w1.heap.size) (l := dg) (by rfl) _ _ rfl (Y.out) (zd_isD.len) (HD.out.len) rfl rfl ?_); intro w3 hR3 hg3 hb3 hz3; have D3 := Lib.hid hR3; have B3 := Lib.hid (B2.out.trans (hb3.mono LE.out)); clear hR3 hg3 hb3 hz3 B2 Y))
  have D4 := Lib.hid (D3.out.past (mb_new w3 (.cells (tCells m) 9)))
  have BT := Lib.hid (mb_bb B3.out (mb_new w3 (.cells (tCells m) 9)))
  have OT := Lib.hid (own_t w3 m (by have := HM.out; omega) (Nat.le_refl _) rfl)
  have HG := Lib.hid B3.out.size
  have HNE : Hid (w1.heap.size ≠ w3.heap.size) := Lib.hid (by have := D3.out.lt; omega)
  generalize (w3.alloc (.cells (tCells m) 9)) = w4 at *
  obtain ⟨g, hg⟩ : ∃ g, w3.heap.size = g := ⟨_, rfl⟩
  rw [hg] at OT HG HNE ⊢
  obtain ⟨ge, hge⟩ : ∃ ge, w1.heap.size = ge := ⟨_, rfl⟩
  rw [hge] at D4 HNE LE ⊢
  clear kt hg hge D3 B3
  have HSM : Hid (fillT (rnms rs) 0 = List.replicate m .empty) := Lib.hid (by rw [fillT_zero, rnms_len, HL.out])
  go_loopw [5, 24] (fun sv iv wq => ∃ (k : Nat) (s : Int), k ≤ m ∧ iv = .int .i64 (k : Int) ∧ sv = .int .i64 s ∧ s = sumZ (rs.take k) ∧ (0 ≤ s ∧ s ≤ 8192 * k) ∧ (∀ j, j < k → rok (rs.getD j rc0)) ∧ OwnT wq g (.slice (some ⟨g, 0, none⟩) m m) (fillT (rnms rs) k) ∧ Lies wq ge 52 (trW.sv dg) ∧ Below w.heap.size w wq) (fun _ iv _ => m - (intOf iv).toNat)
  case atStart => exact ⟨0, 0, Nat.zero_le _, rfl, rfl, by simp [sumZ], by omega, by intro j hj; omega, by rw [HSM.out]; exact OT.out, D4.out, BT.out⟩
  case round =>
    clear OT BT HSM D4
    obtain ⟨k, s, hk, rfl, rfl, hs, hs2, ho, own, dd, acc⟩ := hrel
    rename World => wq
    have HS := Lib.hid hs
    have HOK := Lib.hid ho
    have HO := Lib.hid own
    have HDD := Lib.hid dd
    have HACC := Lib.hid acc
    have HS2 := Lib.hid hs2
    have s1 : 0 ≤ s := hs2.1
    have s2 : s ≤ 131072 := by have := HM.out; omega
    by_cases hlt : k < m
    · obtain ⟨b, off, rfl, hb⟩ := HR.out.h.some (by rw [HL.out]; omega)
      have RX := Lib.hid ((HR.out.h.past acc).rng (i := k) (by rw [HL.out]; exact hlt))
      have hmem : rs.getD k RE.d ∈ rs := by rw [List.getD_eq_getElem?_getD, List.getElem?_eq_getElem (by rw [HL.out]; exact hlt)]; exact List.getElem_mem _
      have HZ := Lib.hid (HR.out.z _ hmem)
      have HSD := Lib.hid (HR.out.d _ hmem)
      have HK := Lib.hid hlt
      have HSN := Lib.hid (sumZ_snoc rs (k := k) (by rw [HL.out]; exact hlt))
      have HBD := Lib.hid (fun h => vl_bad (rs := rs) (k := k) H16.out (by rw [HL.out]; exact hlt) h)
      have HFS := Lib.hid (fillT_set (ss := rnms rs) (k := k) (by rw [rnms_len, HL.out]; exact hlt))
      have HSNO : Hid (rok (rs.getD k rc0) → ∀ j, j < k + 1 → rok (rs.getD j rc0)) := Lib.hid (fun h j hj => by
        rcases Nat.lt_or_ge j k with h' | h'
        · exact HOK.out j h'
        · have : j = k := by omega
          subst this; exact h)
      rw [rnms_get rs (by rw [HL.out]; exact hlt)] at HFS
      have k1 : (k : Int) < m := by omega
      have k0 : 0 ≤ (k : Int) := by omega
      have hd0 : RE.d = rc0 := rfl
      rw [hd0] at RX HZ HSD
      generalize rs.getD k rc0 = q at *
      obtain ⟨nm, sz, sm⟩ := q
      clear hmem hd0
      dsimp only at HZ HSD HSN HFS
      have LZ := Lib.hid (z22_at wq rfl)
      have G := mb_new wq (.cells #[.string ⟨#[]⟩, .int .i64 0, .int .u8 0, .int .u8 0, .int .u8 0, .int .u8 0, .int .u8 0, .int .u8 0, .int .u8 0, .int .u8 0, .int .u8 0, .int .u8 0, .int .u8 0, .int .u8 0, .int .u8 0, .int .u8 0, .int .u8 0, .int .u8 0, .int .u8 0, .int .u8 0, .int .u8 0, .int .u8 0] 54)
      have HNE2 : Hid (g ≠ wq.heap.size) := Lib.hid (by
        obtain ⟨b2, off2, e2, hb2, _⟩ := HO.out.has.some (by rw [fillT_len (by rw [rnms_len, HL.out]; omega), rnms_len, HL.out]; omega)
        injection e2 with e2
        injection e2 with e2 _
        omega)
      have HGE2 : Hid (ge ≠ wq.heap.size) := Lib.hid (by have := HDD.out.lt; omega)
      have HGG := Lib.hid G
      have HQ2 : Hid (s + sz = sumZ (rs.take (k + 1))) := Lib.hid (by rw [HSN.out, HS.out])
      clear hk hs hs2 ho hlt own dd acc hb G
      go_upto_region 11 with (first | (show wpList _ _ _ ({ dst := _, op := Op.load 54 _, type := _, pos := _, after := _, guard := _ } :: _) _ _; go_must (refine Enc.wp_ld RE (x := ⟨nm, sz, sm⟩) (P := Tryd.prog) Tryd.underlying54 rfl info22 (by rfl) _ rfl (RX.out) rfl ?_)) | (show wpList _ _ _ ({ dst := none, op := Op.store 54 (.tmp 8) _, type := _, pos := _, after := _, guard := _ } :: _) _ _; go_must (refine Enc.wp_st RE (g := wq.heap.size) (P := Tryd.prog) info22 (by rfl) _ _ rfl (LZ.out) rfl rfl ?_); intro w5 hR5 hg5 hb5 hz5))
      have BQ := HGG.out.trans hb5
      have L5 := Lib.hid hR5
      have O5 := Lib.hid (HO.out.past BQ)
      have D5 := Lib.hid (HDD.out.past BQ)
      have B5 := Lib.hid (mb_bb HACC.out BQ)
      have y0 : w5.cell? ⟨wq.heap.size, 0, none⟩ = some (.string nm) := L5.out.cell 0
      have y1 : w5.cell? ⟨wq.heap.size, 1, none⟩ = some (.int .i64 sz) := L5.out.cell 1
      have RS := Lib.hid (rec_sum L5.out HSD.out.len)
      obtain ⟨g8, hg8⟩ : ∃ g8, wq.heap.size = g8 := ⟨_, rfl⟩
      rw [hg8] at y0 y1 RS HNE2 HGE2 ⊢
      have z1 := HZ.out.1
      have z2 := HZ.out.2
      clear BQ hR5 hg5 hb5 hz5 HO HDD HACC HGG LZ RX hg8 L5
      go_wp2_with fail
      refine (isName_any nm _).mono ?_
      rintro e _ ⟨rfl, rfl⟩
      cases hn : nmB nm
      case false =>
        have HV := Lib.hid (HBD.out (nbad hn))
        clear hn
        go_wp2_with fail
        go_ret
        exact ⟨by rw [HV.out]; rfl, B5.out⟩
      have HNM := Lib.hid hn
      clear hn
      by_cases d1 : sz < 0
      · have HV := Lib.hid (HBD.out (sbad1 d1))
        go_wp2_with fail
        go_ret
        exact ⟨by rw [HV.out]; rfl, B5.out⟩
      by_cases d2 : 8192 < sz
      · have HV := Lib.hid (HBD.out (sbad2 d2))
        go_wp2_with fail
        go_ret
        exact ⟨by rw [HV.out]; rfl, B5.out⟩
      obtain ⟨b2, off2, e2, -, hc2⟩ := O5.out.has.some (by rw [fillT_len (by rw [rnms_len, HL.out]; have := HK.out; omega), rnms_len, HL.out]; have := HK.out; omega)
      injection e2 with e2
      injection e2 with e2 e3
      subst e2 e3
      have f1 := O5.out.frozen k
      have c1 := hc2 k (by rw [fillT_len (by rw [rnms_len, HL.out]; have := HK.out; omega), rnms_len, HL.out]; exact HK.out)
      rw [Nat.zero_add] at c1
      generalize (fillT (rnms rs) k).getD k .empty = old at *
      clear hc2
      have n1 : g ≠ g8 := HNE2.out
      have n2 : g8 ≠ g := fun h => HNE2.out h.symm
      have HD12 := Lib.hid (And.intro d1 d2)
      by_cases d3 : sz = 0
      · subst d3
        clear d1 d2
        by_cases d4 : sm = dg
        · subst d4
          go_wp2_with (first | (show wpList _ _ _ ({ dst := _, op := Op.load 52 (.tmp 48), type := _, pos := _, after := _, guard := _ } :: _) _ _; go_must (refine trW.wp_ld (l := sm) (by rfl) _ rfl (RS.out) (HSD.out.len) rfl ?_)) | (show wpList _ _ _ ({ dst := _, op := Op.load 52 (.tmp 3), type := _, pos := _, after := _, guard := _ } :: _) _ _; go_must (refine trW.wp_l0 (l := sm) (by rfl) _ rfl (D5.out) (HD.out.len) rfl ?_)) | (show wpList _ _ _ ({ dst := _, op := Op.binOp .neq 52 _ _ _, type := _, pos := _, after := _, guard := _ } :: _) _ _; refine wp_sne (l := sm) (m := sm) (by rfl) _ _ _ rfl HSD.out HSD.out rfl rfl ?_; rw [decide_eq_true (Eq.refl sm)]))
          (go_roundw; (case rel => exact ⟨k + 1, s + 0, HK.out, by go_num, by go_num, HQ2.out, by have := HS2.out; have := HD12.out; omega, HSNO.out ⟨HNM.out, by have := HD12.out; dsimp only; omega, by have := HD12.out; dsimp only; omega, fun _ => HDG.out.symm⟩, by rw [← HFS.out]; exact O5.out.store k nm, lies_off D5.out HNE.out _ _, B5.out.setCell (p := ⟨g, k, none⟩) HG.out _⟩); (case measure => (simp [intOf]; have := HK.out; omega)))
        · have HV := Lib.hid (HBD.out (sbad3 rfl (by rw [HDG.out]; exact d4)))
          have HE := Lib.hid d4
          clear d4
          go_wp2_with (first | (show wpList _ _ _ ({ dst := _, op := Op.load 52 (.tmp 48), type := _, pos := _, after := _, guard := _ } :: _) _ _; go_must (refine trW.wp_ld (l := sm) (by rfl) _ rfl (RS.out) (HSD.out.len) rfl ?_)) | (show wpList _ _ _ ({ dst := _, op := Op.load 52 (.tmp 3), type := _, pos := _, after := _, guard := _ } :: _) _ _; go_must (refine trW.wp_l0 (l := dg) (by rfl) _ rfl (D5.out) (HD.out.len) rfl ?_)) | (show wpList _ _ _ ({ dst := _, op := Op.binOp .neq 52 _ _ _, type := _, pos := _, after := _, guard := _ } :: _) _ _; refine wp_sne (l := sm) (m := dg) (by rfl) _ _ _ rfl HSD.out HD.out rfl rfl ?_; rw [decide_eq_false HE.out]))
          go_ret
          exact ⟨by rw [HV.out]; rfl, B5.out⟩
      · have HSE : Hid (sz = 0 → sm = digest []) := Lib.hid (fun h => absurd h d3)
        go_wp2_with fail
        (go_roundw; (case rel => exact ⟨k + 1, s + sz, HK.out, by go_num, by go_num, HQ2.out, by have := HS2.out; have := HD12.out; omega, HSNO.out ⟨HNM.out, by have := HD12.out; dsimp only; omega, by have := HD12.out; dsimp only; omega, HSE.out⟩, by rw [← HFS.out]; exact O5.out.store k nm, lies_off D5.out HNE.out _ _, B5.out.setCell (p := ⟨g, k, none⟩) HG.out _⟩); (case measure => (simp [intOf]; have := HK.out; omega)))
    · have k1 : ¬ (k : Int) < m := by omega
      have HB : Hid (∀ j, j < rs.length → rok (rs.getD j rc0)) := Lib.hid (fun j hj => ho j (by rw [HL.out] at hj; omega))
      have HSS : Hid (s = sumZ rs) := Lib.hid (by rw [hs, List.take_of_length_le (by rw [HL.out]; omega)])
      have HT2 : Hid (HasT wq (some ⟨g, 0, none⟩) (rnms rs)) := Lib.hid (by have := own.has; rw [fillT_all (by rw [rnms_len, HL.out]; omega)] at this; exact this)
      clear hk hs hs2 ho hlt own dd acc HO
      by_cases c5 : 8192 < s
      · have HV := Lib.hid (vl_sum H16.out HB.out (by rw [← HSS.out]; exact c5))
        go_wp2_with fail
        go_ret
        exact ⟨by rw [HV.out]; rfl, HACC.out⟩
      · have HV := Lib.hid (vl_ok H16.out HB.out (by rw [← HSS.out]; exact c5))
        go_wp2_with fail
        refine (twice_any (rnms rs) (some ⟨g, 0, none⟩) m m _ HT2.out (by rw [rnms_len, HL.out]) (Nat.le_refl _) (by have := HM.out; omega)).mono ?_
        rintro e _ ⟨rfl, rfl⟩
        go_wp2_with fail
        go_ret
        exact ⟨by rw [HV.out]; rfl, HACC.out⟩
end Go.Proofs.YtiihafhnaiicoaaDoor.mbW

namespace Go.Proofs.YtiihafhnaiicoaaDoor.mbW
set_option maxRecDepth 100000
open Go.RowKit Go.Proofs.YtiihafhnaiicoaaDoor.base Go.Proofs.YtiihafhnaiicoaaDoor.shP Go.Proofs.YtiihafhnaiicoaaDoor.shW
open Go.Proofs.YtiihafhnaiicoaaDoor.trW (IsD sv zd_isD digest_isD z20_at)
set_option linter.unusedVariables false
set_option linter.unusedSimpArgs false
set_option maxRecDepth 100000
theorem recCell {w : World} {b off m d : Nat} {rs : List Rc} (h : RecB w (some ⟨b, off, none⟩) m d rs) {k : Nat} (hk : k < m) {w' : World} (hb : Below w.heap.size w w') : w'.cell? ⟨b, off + k * 22, none⟩ = some (.string (rs.getD k rc0).nm) ∧ w'.cell? ⟨b, off + k * 22 + 1, none⟩ = some (.int .i64 (rs.getD k rc0).sz) := by
  have hr := (h.h.past hb).rng (i := k) (by rw [h.l]; exact hk)
  exact ⟨hr 0 _ rfl, hr 1 _ rfl⟩
set_option maxHeartbeats 12800000 in
theorem rValid_any (rs : List Rc) (P : Option Addr) (m d : Nat) (w : World) (hR : RecB w P m d rs) :
    Calls Tryd.prog 23 #[.slice P m d] w fun e w' => e = .returned (.int .i64 (vlE rs)) ∧ Below w.heap.size w w' := by
  have m9 : (m : Int) ≤ 9223372036854775807 := by have := hR.c1; have := hR.c2; omega
  have HR := Lib.hid hR
  have HL := Lib.hid hR.l
  clear hR
  by_cases c1 : 16 < m
  · have HV := Lib.hid (vl_long (rs := rs) (by rw [HL.out]; exact c1))
    have c2 : (16 : Int) < m := by omega
    clear c1
    go_enter Tryd.func23, Tryd.ntmps23
    go_wp2_with fail
    go_ret
    exact ⟨by rw [HV.out]; rfl, Below.refl _ _⟩
  have HM : Hid (m ≤ 16) := Lib.hid (by omega)
  have c2 : ¬ (16 : Int) < m := by omega
  have m16 : (m : Int) ≤ 16 := by omega
  have H16 : Hid (¬ 16 < rs.length) := Lib.hid (by rw [HL.out]; exact c1)
  clear c1
  go_enter Tryd.func23, Tryd.ntmps23
  go_wp2_with fail
  go_loopw [3, 4] (fun sv iv wq => ∃ (k : Nat) (s : Int), k ≤ m ∧ iv = .int .i64 (k : Int) ∧ sv = .int .i64 s ∧ s = sumZ (rs.take k) ∧ (0 ≤ s ∧ s ≤ 8192 * k) ∧ (∀ j, j < k → rok (rs.getD j rc0)) ∧ Below w.heap.size w wq) (fun _ iv _ => m - (intOf iv).toNat)
  case atStart => exact ⟨0, 0, Nat.zero_le _, rfl, rfl, by simp [sumZ], by omega, by intro j hj; omega, Below.refl _ _⟩
  case round =>
    obtain ⟨k, s, hk, rfl, rfl, hs, hs2, ho, acc⟩ := hrel
    rename World => wq
    have HS := Lib.hid hs
    have HOK := Lib.hid ho
    have HACC := Lib.hid acc
    have HS2 := Lib.hid hs2
    have s1 : 0 ≤ s := hs2.1
    have s2 : s ≤ 131072 := by have := HM.out; omega
    by_cases hlt : k < m
    · obtain ⟨b, off, rfl, hb⟩ := HR.out.h.some (by rw [HL.out]; omega)
      have RX := Lib.hid ((HR.out.h.past acc).rng (i := k) (by rw [HL.out]; exact hlt))
      have hmem : rs.getD k RE.d ∈ rs := by rw [List.getD_eq_getElem?_getD, List.getElem?_eq_getElem (by rw [HL.out]; exact hlt)]; exact List.getElem_mem _
      have HZ := Lib.hid (HR.out.z _ hmem)
      have HSD := Lib.hid (HR.out.d _ hmem)
      have HK := Lib.hid hlt
      have HSN := Lib.hid (sumZ_snoc rs (k := k) (by rw [HL.out]; exact hlt))
      have HBD := Lib.hid (fun h => vl_bad (rs := rs) (k := k) H16.out (by rw [HL.out]; exact hlt) h)
      have HSNO : Hid (rok (rs.getD k rc0) → ∀ j, j < k + 1 → rok (rs.getD j rc0)) := Lib.hid (fun h j hj => by
        rcases Nat.lt_or_ge j k with h' | h'
        · exact HOK.out j h'
        · have : j = k := by omega
          subst this; exact h)
      have k1 : (k : Int) < m := by omega
      have k0 : 0 ≤ (k : Int) := by omega
      have hd0 : RE.d = rc0 := rfl
      rw [hd0] at RX HZ HSD
      generalize rs.getD k rc0 = q at *
      obtain ⟨nm, sz, sm⟩ := q
      clear hmem hd0
      dsimp only at HZ HSD HSN
      have LZ := Lib.hid (z22_at wq rfl)
      have G := mb_new wq (.cells #[.string ⟨#[]⟩, .int .i64 0, .int .u8 0, .int .u8 0, .int .u8 0, .int .u8 0, .int .u8 0, .int .u8 0, .int .u8 0, .int .u8 0, .int .u8 0, .int .u8 0, .int .u8 0, .int .u8 0, .int .u8 0, .int .u8 0, .int .u8 0, .int .u8 0, .int .u8 0, .int .u8 0, .int .u8 0, .int .u8 0] 54)
      have HGG := Lib.hid G
      have HQ2 : Hid (s + sz = sumZ (rs.take (k + 1))) := Lib.hid (by rw [HSN.out, HS.out])
      clear hk hs hs2 ho hlt acc hb G
      go_upto_region 8 with (first | (show wpList _ _ _ ({ dst := _, op := Op.load 54 _, type := _, pos := _, after := _, guard := _ } :: _) _ _; go_must (refine Enc.wp_ld RE (x := ⟨nm, sz, sm⟩) (P := Tryd.prog) Tryd.underlying54 rfl info22 (by rfl) _ rfl (RX.out) rfl ?_)) | (show wpList _ _ _ ({ dst := none, op := Op.store 54 (.tmp 5) _, type := _, pos := _, after := _, guard := _ } :: _) _ _; go_must (refine Enc.wp_st RE (g := wq.heap.size) (P := Tryd.prog) info22 (by rfl) _ _ rfl (LZ.out) rfl rfl ?_); intro w5 hR5 hg5 hb5 hz5))
      have BQ := HGG.out.trans hb5
      have L5 := Lib.hid hR5
      have B5 := Lib.hid (mb_bb HACC.out BQ)
      obtain ⟨g8, hg8⟩ : ∃ g8, wq.heap.size = g8 := ⟨_, rfl⟩
      rw [hg8] at L5 ⊢
      have z1 := HZ.out.1
      have z2 := HZ.out.2
      clear BQ hR5 hg5 hb5 hz5 HACC HGG LZ RX hg8
      cases hn : nmB nm
      case false =>
        have HNM := Lib.hid hn
        have HV := Lib.hid (HBD.out (nbad hn))
        clear hn
        (have RD := grows_roads (S := fun x' => Below w5.heap.size w5 x') (fun a b h1 h2 => h2.trans (h1.mono h2.size))); refine region_ord _ Grows RD (Below.drew (Below.refl _ _)) (by kernel_rfl) ?_; intro ops Q' hops hPQ hN; (have HNS : Hid (Region.noSelect ops = true) := Lib.hid (by rw [hops]; kernel_rfl)); (have hsz : ops.size = 25 := (by rw [hops]; rfl)); have HOP := Lib.hid hops; have HPQ := Lib.hid hPQ; have HN := Lib.hid hN; rw [hsz]; clear hops hsz hPQ hN
        refine ord_take RD 0 (at_list (by rw [HOP.out]; rfl)) HNS.out HPQ.out (by rw [HOP.out]; kernel_rfl) (by rw [HOP.out]; kernel_rfl) (by rw [HOP.out]; rfl) (fun K hK => ?_); apply Exists.intro; refine ⟨fun W hSW => ?_, hK _ ?_⟩; (focus ((try dsimp only at hSW); go_simp; try with_reducible rfl)); clear hK K; (try simp only [Act.put, List.setIfInBounds_toArray, List.set_cons_zero, List.set_cons_succ])
        refine ord_take RD 1 (at_list (by rw [HOP.out]; rfl)) HNS.out HPQ.out (by rw [HOP.out]; kernel_rfl) (by rw [HOP.out]; kernel_rfl) (by rw [HOP.out]; rfl) (fun K hK => ?_); apply Exists.intro; refine ⟨fun W hSW => ?_, hK _ ?_⟩; (focus ((try dsimp only at hSW); have y1 : W.cell? ⟨g8, 0, none⟩ = some (.string nm) := (L5.out.past hSW).cell 0; go_simp; try with_reducible rfl)); clear hK K; (try simp only [Act.put, List.setIfInBounds_toArray, List.set_cons_zero, List.set_cons_succ])
        refine ord_one RD 2 (by rw [HOP.out]; kernel_rfl) (at_list (by rw [HOP.out]; rfl)) (by rw [HOP.out]; rfl) (fun W1 hWW hSW K hK => ?_); (try dsimp only at hSW)
        go_simp
        refine (Name_any nm _).mono ?_
        rintro e _ ⟨rfl, rfl⟩
        refine hK _ _ hSW ?_
        clear hSW hWW
        clear hK K; (try simp only [Act.put, List.setIfInBounds_toArray, List.set_cons_zero, List.set_cons_succ])
        rw [HNM.out]
        refine ord_take RD 3 (at_list (by rw [HOP.out]; rfl)) HNS.out HPQ.out (by rw [HOP.out]; kernel_rfl) (by rw [HOP.out]; kernel_rfl) (by rw [HOP.out]; rfl) (fun K hK => ?_); apply Exists.intro; refine ⟨fun W hSW => ?_, hK _ ?_⟩; (focus ((try dsimp only at hSW); go_simp; try with_reducible rfl)); clear hK K; (try simp only [Act.put, List.setIfInBounds_toArray, List.set_cons_zero, List.set_cons_succ])
        refine ord_take RD 4 (at_list (by rw [HOP.out]; rfl)) HNS.out HPQ.out (by rw [HOP.out]; kernel_rfl) (by rw [HOP.out]; kernel_rfl) (by rw [HOP.out]; rfl) (fun K hK => ?_); apply Exists.intro; refine ⟨fun W hSW => ?_, hK _ ?_⟩; (focus ((try dsimp only at hSW); go_simp; try with_reducible rfl)); clear hK K; (try simp only [Act.put, List.setIfInBounds_toArray, List.set_cons_zero, List.set_cons_succ])
        refine ord_skip RD 5 (at_list (by rw [HOP.out]; rfl)) HNS.out HPQ.out (by rw [HOP.out]; kernel_rfl) (by rw [HOP.out]; kernel_rfl) (by rw [HOP.out]; rfl) ?_; (try simp only [Act.put, List.setIfInBounds_toArray, List.set_cons_zero, List.set_cons_succ])
        refine ord_skip RD 6 (at_list (by rw [HOP.out]; rfl)) HNS.out HPQ.out (by rw [HOP.out]; kernel_rfl) (by rw [HOP.out]; kernel_rfl) (by rw [HOP.out]; rfl) ?_; (try simp only [Act.put, List.setIfInBounds_toArray, List.set_cons_zero, List.set_cons_succ])
        refine ord_skip RD 7 (at_list (by rw [HOP.out]; rfl)) HNS.out HPQ.out (by rw [HOP.out]; kernel_rfl) (by rw [HOP.out]; kernel_rfl) (by rw [HOP.out]; rfl) ?_; (try simp only [Act.put, List.setIfInBounds_toArray, List.set_cons_zero, List.set_cons_succ])
        refine ord_take RD 8 (at_list (by rw [HOP.out]; rfl)) HNS.out HPQ.out (by rw [HOP.out]; kernel_rfl) (by rw [HOP.out]; kernel_rfl) (by rw [HOP.out]; rfl) (fun K hK => ?_); apply Exists.intro; refine ⟨fun W hSW => ?_, hK _ ?_⟩; (focus ((try dsimp only at hSW); go_simp; try with_reducible rfl)); clear hK K; (try simp only [Act.put, List.setIfInBounds_toArray, List.set_cons_zero, List.set_cons_succ])
        refine ord_take RD 9 (at_list (by rw [HOP.out]; rfl)) HNS.out HPQ.out (by rw [HOP.out]; kernel_rfl) (by rw [HOP.out]; kernel_rfl) (by rw [HOP.out]; rfl) (fun K hK => ?_); apply Exists.intro; refine ⟨fun W hSW => ?_, hK _ ?_⟩; (focus ((try dsimp only at hSW); go_simp; try with_reducible rfl)); clear hK K; (try simp only [Act.put, List.setIfInBounds_toArray, List.set_cons_zero, List.set_cons_succ])
        refine ord_skip RD 10 (at_list (by rw [HOP.out]; rfl)) HNS.out HPQ.out (by rw [HOP.out]; kernel_rfl) (by rw [HOP.out]; kernel_rfl) (by rw [HOP.out]; rfl) ?_; (try simp only [Act.put, List.setIfInBounds_toArray, List.set_cons_zero, List.set_cons_succ])
        refine ord_skip RD 11 (at_list (by rw [HOP.out]; rfl)) HNS.out HPQ.out (by rw [HOP.out]; kernel_rfl) (by rw [HOP.out]; kernel_rfl) (by rw [HOP.out]; rfl) ?_; (try simp only [Act.put, List.setIfInBounds_toArray, List.set_cons_zero, List.set_cons_succ])
        refine ord_skip RD 12 (at_list (by rw [HOP.out]; rfl)) HNS.out HPQ.out (by rw [HOP.out]; kernel_rfl) (by rw [HOP.out]; kernel_rfl) (by rw [HOP.out]; rfl) ?_; (try simp only [Act.put, List.setIfInBounds_toArray, List.set_cons_zero, List.set_cons_succ])
        refine ord_take RD 13 (at_list (by rw [HOP.out]; rfl)) HNS.out HPQ.out (by rw [HOP.out]; kernel_rfl) (by rw [HOP.out]; kernel_rfl) (by rw [HOP.out]; rfl) (fun K hK => ?_); apply Exists.intro; refine ⟨fun W hSW => ?_, hK _ ?_⟩; (focus ((try dsimp only at hSW); go_simp; try with_reducible rfl)); clear hK K; (try simp only [Act.put, List.setIfInBounds_toArray, List.set_cons_zero, List.set_cons_succ])
        refine ord_take RD 14 (at_list (by rw [HOP.out]; rfl)) HNS.out HPQ.out (by rw [HOP.out]; kernel_rfl) (by rw [HOP.out]; kernel_rfl) (by rw [HOP.out]; rfl) (fun K hK => ?_); apply Exists.intro; refine ⟨fun W hSW => ?_, hK _ ?_⟩; (focus ((try dsimp only at hSW); go_simp; try with_reducible rfl)); clear hK K; (try simp only [Act.put, List.setIfInBounds_toArray, List.set_cons_zero, List.set_cons_succ])
        refine ord_skip RD 15 (at_list (by rw [HOP.out]; rfl)) HNS.out HPQ.out (by rw [HOP.out]; kernel_rfl) (by rw [HOP.out]; kernel_rfl) (by rw [HOP.out]; rfl) ?_; (try simp only [Act.put, List.setIfInBounds_toArray, List.set_cons_zero, List.set_cons_succ])
        refine ord_skip RD 16 (at_list (by rw [HOP.out]; rfl)) HNS.out HPQ.out (by rw [HOP.out]; kernel_rfl) (by rw [HOP.out]; kernel_rfl) (by rw [HOP.out]; rfl) ?_; (try simp only [Act.put, List.setIfInBounds_toArray, List.set_cons_zero, List.set_cons_succ])
        refine ord_skip RD 17 (at_list (by rw [HOP.out]; rfl)) HNS.out HPQ.out (by rw [HOP.out]; kernel_rfl) (by rw [HOP.out]; kernel_rfl) (by rw [HOP.out]; rfl) ?_; (try simp only [Act.put, List.setIfInBounds_toArray, List.set_cons_zero, List.set_cons_succ])
        refine ord_skip RD 18 (at_list (by rw [HOP.out]; rfl)) HNS.out HPQ.out (by rw [HOP.out]; kernel_rfl) (by rw [HOP.out]; kernel_rfl) (by rw [HOP.out]; rfl) ?_; (try simp only [Act.put, List.setIfInBounds_toArray, List.set_cons_zero, List.set_cons_succ])
        refine ord_skip RD 19 (at_list (by rw [HOP.out]; rfl)) HNS.out HPQ.out (by rw [HOP.out]; kernel_rfl) (by rw [HOP.out]; kernel_rfl) (by rw [HOP.out]; rfl) ?_; (try simp only [Act.put, List.setIfInBounds_toArray, List.set_cons_zero, List.set_cons_succ])
        refine ord_skip RD 20 (at_list (by rw [HOP.out]; rfl)) HNS.out HPQ.out (by rw [HOP.out]; kernel_rfl) (by rw [HOP.out]; kernel_rfl) (by rw [HOP.out]; rfl) ?_; (try simp only [Act.put, List.setIfInBounds_toArray, List.set_cons_zero, List.set_cons_succ])
        refine ord_skip RD 21 (at_list (by rw [HOP.out]; rfl)) HNS.out HPQ.out (by rw [HOP.out]; kernel_rfl) (by rw [HOP.out]; kernel_rfl) (by rw [HOP.out]; rfl) ?_; (try simp only [Act.put, List.setIfInBounds_toArray, List.set_cons_zero, List.set_cons_succ])
        refine ord_skip RD 22 (at_list (by rw [HOP.out]; rfl)) HNS.out HPQ.out (by rw [HOP.out]; kernel_rfl) (by rw [HOP.out]; kernel_rfl) (by rw [HOP.out]; rfl) ?_; (try simp only [Act.put, List.setIfInBounds_toArray, List.set_cons_zero, List.set_cons_succ])
        refine ord_skip RD 23 (at_list (by rw [HOP.out]; rfl)) HNS.out HPQ.out (by rw [HOP.out]; kernel_rfl) (by rw [HOP.out]; kernel_rfl) (by rw [HOP.out]; rfl) ?_; (try simp only [Act.put, List.setIfInBounds_toArray, List.set_cons_zero, List.set_cons_succ])
        refine ord_take RD 24 (at_list (by rw [HOP.out]; rfl)) HNS.out HPQ.out (by rw [HOP.out]; kernel_rfl) (by rw [HOP.out]; kernel_rfl) (by rw [HOP.out]; rfl) (fun K hK => ?_); apply Exists.intro; refine ⟨fun W hSW => ?_, hK _ ?_⟩; (focus ((try dsimp only at hSW); go_simp; try with_reducible rfl)); clear hK K; (try simp only [Act.put, List.setIfInBounds_toArray, List.set_cons_zero, List.set_cons_succ])
        refine ord_done (by rw [HOP.out]; kernel_rfl) (fun W9 hWW hSW => HN.out _ _ ?_); clear HOP HNS HPQ HN RD; (try dsimp only at hSW)
        have B9 := Lib.hid (mb_bb B5.out hSW)
        have L9 := Lib.hid (L5.out.past hSW)
        clear hSW hWW
        go_wp2_with fail
        go_ret
        exact ⟨by rw [HV.out]; rfl, B9.out⟩
      have HNM := Lib.hid hn
      clear hn
      by_cases d1 : sz < 0
      · have HV := Lib.hid (HBD.out (sbad1 d1))
        (have RD := grows_roads (S := fun x' => Below w5.heap.size w5 x') (fun a b h1 h2 => h2.trans (h1.mono h2.size))); refine region_ord _ Grows RD (Below.drew (Below.refl _ _)) (by kernel_rfl) ?_; intro ops Q' hops hPQ hN; (have HNS : Hid (Region.noSelect ops = true) := Lib.hid (by rw [hops]; kernel_rfl)); (have hsz : ops.size = 25 := (by rw [hops]; rfl)); have HOP := Lib.hid hops; have HPQ := Lib.hid hPQ; have HN := Lib.hid hN; rw [hsz]; clear hops hsz hPQ hN
        refine ord_take RD 0 (at_list (by rw [HOP.out]; rfl)) HNS.out HPQ.out (by rw [HOP.out]; kernel_rfl) (by rw [HOP.out]; kernel_rfl) (by rw [HOP.out]; rfl) (fun K hK => ?_); apply Exists.intro; refine ⟨fun W hSW => ?_, hK _ ?_⟩; (focus ((try dsimp only at hSW); go_simp; try with_reducible rfl)); clear hK K; (try simp only [Act.put, List.setIfInBounds_toArray, List.set_cons_zero, List.set_cons_succ])
        refine ord_take RD 1 (at_list (by rw [HOP.out]; rfl)) HNS.out HPQ.out (by rw [HOP.out]; kernel_rfl) (by rw [HOP.out]; kernel_rfl) (by rw [HOP.out]; rfl) (fun K hK => ?_); apply Exists.intro; refine ⟨fun W hSW => ?_, hK _ ?_⟩; (focus ((try dsimp only at hSW); have y1 : W.cell? ⟨g8, 0, none⟩ = some (.string nm) := (L5.out.past hSW).cell 0; go_simp; try with_reducible rfl)); clear hK K; (try simp only [Act.put, List.setIfInBounds_toArray, List.set_cons_zero, List.set_cons_succ])
        refine ord_one RD 2 (by rw [HOP.out]; kernel_rfl) (at_list (by rw [HOP.out]; rfl)) (by rw [HOP.out]; rfl) (fun W1 hWW hSW K hK => ?_); (try dsimp only at hSW)
        go_simp
        refine (Name_any nm _).mono ?_
        rintro e _ ⟨rfl, rfl⟩
        refine hK _ _ hSW ?_
        clear hSW hWW
        clear hK K; (try simp only [Act.put, List.setIfInBounds_toArray, List.set_cons_zero, List.set_cons_succ])
        rw [HNM.out]
        refine ord_take RD 3 (at_list (by rw [HOP.out]; rfl)) HNS.out HPQ.out (by rw [HOP.out]; kernel_rfl) (by rw [HOP.out]; kernel_rfl) (by rw [HOP.out]; rfl) (fun K hK => ?_); apply Exists.intro; refine ⟨fun W hSW => ?_, hK _ ?_⟩; (focus ((try dsimp only at hSW); go_simp; try with_reducible rfl)); clear hK K; (try simp only [Act.put, List.setIfInBounds_toArray, List.set_cons_zero, List.set_cons_succ])
        refine ord_take RD 4 (at_list (by rw [HOP.out]; rfl)) HNS.out HPQ.out (by rw [HOP.out]; kernel_rfl) (by rw [HOP.out]; kernel_rfl) (by rw [HOP.out]; rfl) (fun K hK => ?_); apply Exists.intro; refine ⟨fun W hSW => ?_, hK _ ?_⟩; (focus ((try dsimp only at hSW); go_simp; try with_reducible rfl)); clear hK K; (try simp only [Act.put, List.setIfInBounds_toArray, List.set_cons_zero, List.set_cons_succ])
        refine ord_take RD 5 (at_list (by rw [HOP.out]; rfl)) HNS.out HPQ.out (by rw [HOP.out]; kernel_rfl) (by rw [HOP.out]; kernel_rfl) (by rw [HOP.out]; rfl) (fun K hK => ?_); apply Exists.intro; refine ⟨fun W hSW => ?_, hK _ ?_⟩; (focus ((try dsimp only at hSW); go_simp; try with_reducible rfl)); clear hK K; (try simp only [Act.put, List.setIfInBounds_toArray, List.set_cons_zero, List.set_cons_succ])
        refine ord_take RD 6 (at_list (by rw [HOP.out]; rfl)) HNS.out HPQ.out (by rw [HOP.out]; kernel_rfl) (by rw [HOP.out]; kernel_rfl) (by rw [HOP.out]; rfl) (fun K hK => ?_); apply Exists.intro; refine ⟨fun W hSW => ?_, hK _ ?_⟩; (focus ((try dsimp only at hSW); have y1 : W.cell? ⟨g8, 1, none⟩ = some (.int .i64 sz) := (L5.out.past hSW).cell 1; go_simp; try with_reducible rfl)); clear hK K; (try simp only [Act.put, List.setIfInBounds_toArray, List.set_cons_zero, List.set_cons_succ])
        refine ord_take RD 7 (at_list (by rw [HOP.out]; rfl)) HNS.out HPQ.out (by rw [HOP.out]; kernel_rfl) (by rw [HOP.out]; kernel_rfl) (by rw [HOP.out]; rfl) (fun K hK => ?_); apply Exists.intro; refine ⟨fun W hSW => ?_, hK _ ?_⟩; (focus ((try dsimp only at hSW); go_simp; try with_reducible rfl)); clear hK K; (try simp only [Act.put, List.setIfInBounds_toArray, List.set_cons_zero, List.set_cons_succ])
        refine ord_take RD 8 (at_list (by rw [HOP.out]; rfl)) HNS.out HPQ.out (by rw [HOP.out]; kernel_rfl) (by rw [HOP.out]; kernel_rfl) (by rw [HOP.out]; rfl) (fun K hK => ?_); apply Exists.intro; refine ⟨fun W hSW => ?_, hK _ ?_⟩; (focus ((try dsimp only at hSW); go_simp; try with_reducible rfl)); clear hK K; (try simp only [Act.put, List.setIfInBounds_toArray, List.set_cons_zero, List.set_cons_succ])
        refine ord_take RD 9 (at_list (by rw [HOP.out]; rfl)) HNS.out HPQ.out (by rw [HOP.out]; kernel_rfl) (by rw [HOP.out]; kernel_rfl) (by rw [HOP.out]; rfl) (fun K hK => ?_); apply Exists.intro; refine ⟨fun W hSW => ?_, hK _ ?_⟩; (focus ((try dsimp only at hSW); go_simp; try with_reducible rfl)); clear hK K; (try simp only [Act.put, List.setIfInBounds_toArray, List.set_cons_zero, List.set_cons_succ])
        refine ord_skip RD 10 (at_list (by rw [HOP.out]; rfl)) HNS.out HPQ.out (by rw [HOP.out]; kernel_rfl) (by rw [HOP.out]; kernel_rfl) (by rw [HOP.out]; rfl) ?_; (try simp only [Act.put, List.setIfInBounds_toArray, List.set_cons_zero, List.set_cons_succ])
        refine ord_skip RD 11 (at_list (by rw [HOP.out]; rfl)) HNS.out HPQ.out (by rw [HOP.out]; kernel_rfl) (by rw [HOP.out]; kernel_rfl) (by rw [HOP.out]; rfl) ?_; (try simp only [Act.put, List.setIfInBounds_toArray, List.set_cons_zero, List.set_cons_succ])
        refine ord_skip RD 12 (at_list (by rw [HOP.out]; rfl)) HNS.out HPQ.out (by rw [HOP.out]; kernel_rfl) (by rw [HOP.out]; kernel_rfl) (by rw [HOP.out]; rfl) ?_; (try simp only [Act.put, List.setIfInBounds_toArray, List.set_cons_zero, List.set_cons_succ])
        refine ord_take RD 13 (at_list (by rw [HOP.out]; rfl)) HNS.out HPQ.out (by rw [HOP.out]; kernel_rfl) (by rw [HOP.out]; kernel_rfl) (by rw [HOP.out]; rfl) (fun K hK => ?_); apply Exists.intro; refine ⟨fun W hSW => ?_, hK _ ?_⟩; (focus ((try dsimp only at hSW); go_simp; try with_reducible rfl)); clear hK K; (try simp only [Act.put, List.setIfInBounds_toArray, List.set_cons_zero, List.set_cons_succ])
        refine ord_take RD 14 (at_list (by rw [HOP.out]; rfl)) HNS.out HPQ.out (by rw [HOP.out]; kernel_rfl) (by rw [HOP.out]; kernel_rfl) (by rw [HOP.out]; rfl) (fun K hK => ?_); apply Exists.intro; refine ⟨fun W hSW => ?_, hK _ ?_⟩; (focus ((try dsimp only at hSW); go_simp; try with_reducible rfl)); clear hK K; (try simp only [Act.put, List.setIfInBounds_toArray, List.set_cons_zero, List.set_cons_succ])
        refine ord_skip RD 15 (at_list (by rw [HOP.out]; rfl)) HNS.out HPQ.out (by rw [HOP.out]; kernel_rfl) (by rw [HOP.out]; kernel_rfl) (by rw [HOP.out]; rfl) ?_; (try simp only [Act.put, List.setIfInBounds_toArray, List.set_cons_zero, List.set_cons_succ])
        refine ord_skip RD 16 (at_list (by rw [HOP.out]; rfl)) HNS.out HPQ.out (by rw [HOP.out]; kernel_rfl) (by rw [HOP.out]; kernel_rfl) (by rw [HOP.out]; rfl) ?_; (try simp only [Act.put, List.setIfInBounds_toArray, List.set_cons_zero, List.set_cons_succ])
        refine ord_skip RD 17 (at_list (by rw [HOP.out]; rfl)) HNS.out HPQ.out (by rw [HOP.out]; kernel_rfl) (by rw [HOP.out]; kernel_rfl) (by rw [HOP.out]; rfl) ?_; (try simp only [Act.put, List.setIfInBounds_toArray, List.set_cons_zero, List.set_cons_succ])
        refine ord_skip RD 18 (at_list (by rw [HOP.out]; rfl)) HNS.out HPQ.out (by rw [HOP.out]; kernel_rfl) (by rw [HOP.out]; kernel_rfl) (by rw [HOP.out]; rfl) ?_; (try simp only [Act.put, List.setIfInBounds_toArray, List.set_cons_zero, List.set_cons_succ])
        refine ord_skip RD 19 (at_list (by rw [HOP.out]; rfl)) HNS.out HPQ.out (by rw [HOP.out]; kernel_rfl) (by rw [HOP.out]; kernel_rfl) (by rw [HOP.out]; rfl) ?_; (try simp only [Act.put, List.setIfInBounds_toArray, List.set_cons_zero, List.set_cons_succ])
        refine ord_skip RD 20 (at_list (by rw [HOP.out]; rfl)) HNS.out HPQ.out (by rw [HOP.out]; kernel_rfl) (by rw [HOP.out]; kernel_rfl) (by rw [HOP.out]; rfl) ?_; (try simp only [Act.put, List.setIfInBounds_toArray, List.set_cons_zero, List.set_cons_succ])
        refine ord_skip RD 21 (at_list (by rw [HOP.out]; rfl)) HNS.out HPQ.out (by rw [HOP.out]; kernel_rfl) (by rw [HOP.out]; kernel_rfl) (by rw [HOP.out]; rfl) ?_; (try simp only [Act.put, List.setIfInBounds_toArray, List.set_cons_zero, List.set_cons_succ])
        refine ord_skip RD 22 (at_list (by rw [HOP.out]; rfl)) HNS.out HPQ.out (by rw [HOP.out]; kernel_rfl) (by rw [HOP.out]; kernel_rfl) (by rw [HOP.out]; rfl) ?_; (try simp only [Act.put, List.setIfInBounds_toArray, List.set_cons_zero, List.set_cons_succ])
        refine ord_skip RD 23 (at_list (by rw [HOP.out]; rfl)) HNS.out HPQ.out (by rw [HOP.out]; kernel_rfl) (by rw [HOP.out]; kernel_rfl) (by rw [HOP.out]; rfl) ?_; (try simp only [Act.put, List.setIfInBounds_toArray, List.set_cons_zero, List.set_cons_succ])
        refine ord_take RD 24 (at_list (by rw [HOP.out]; rfl)) HNS.out HPQ.out (by rw [HOP.out]; kernel_rfl) (by rw [HOP.out]; kernel_rfl) (by rw [HOP.out]; rfl) (fun K hK => ?_); apply Exists.intro; refine ⟨fun W hSW => ?_, hK _ ?_⟩; (focus ((try dsimp only at hSW); go_simp; try with_reducible rfl)); clear hK K; (try simp only [Act.put, List.setIfInBounds_toArray, List.set_cons_zero, List.set_cons_succ])
        refine ord_done (by rw [HOP.out]; kernel_rfl) (fun W9 hWW hSW => HN.out _ _ ?_); clear HOP HNS HPQ HN RD; (try dsimp only at hSW)
        have B9 := Lib.hid (mb_bb B5.out hSW)
        have L9 := Lib.hid (L5.out.past hSW)
        clear hSW hWW
        go_wp2_with fail
        go_ret
        exact ⟨by rw [HV.out]; rfl, B9.out⟩
      by_cases d2 : 8192 < sz
      · have HV := Lib.hid (HBD.out (sbad2 d2))
        (have RD := grows_roads (S := fun x' => Below w5.heap.size w5 x') (fun a b h1 h2 => h2.trans (h1.mono h2.size))); refine region_ord _ Grows RD (Below.drew (Below.refl _ _)) (by kernel_rfl) ?_; intro ops Q' hops hPQ hN; (have HNS : Hid (Region.noSelect ops = true) := Lib.hid (by rw [hops]; kernel_rfl)); (have hsz : ops.size = 25 := (by rw [hops]; rfl)); have HOP := Lib.hid hops; have HPQ := Lib.hid hPQ; have HN := Lib.hid hN; rw [hsz]; clear hops hsz hPQ hN
        refine ord_take RD 0 (at_list (by rw [HOP.out]; rfl)) HNS.out HPQ.out (by rw [HOP.out]; kernel_rfl) (by rw [HOP.out]; kernel_rfl) (by rw [HOP.out]; rfl) (fun K hK => ?_); apply Exists.intro; refine ⟨fun W hSW => ?_, hK _ ?_⟩; (focus ((try dsimp only at hSW); go_simp; try with_reducible rfl)); clear hK K; (try simp only [Act.put, List.setIfInBounds_toArray, List.set_cons_zero, List.set_cons_succ])
        refine ord_take RD 1 (at_list (by rw [HOP.out]; rfl)) HNS.out HPQ.out (by rw [HOP.out]; kernel_rfl) (by rw [HOP.out]; kernel_rfl) (by rw [HOP.out]; rfl) (fun K hK => ?_); apply Exists.intro; refine ⟨fun W hSW => ?_, hK _ ?_⟩; (focus ((try dsimp only at hSW); have y1 : W.cell? ⟨g8, 0, none⟩ = some (.string nm) := (L5.out.past hSW).cell 0; go_simp; try with_reducible rfl)); clear hK K; (try simp only [Act.put, List.setIfInBounds_toArray, List.set_cons_zero, List.set_cons_succ])
        refine ord_one RD 2 (by rw [HOP.out]; kernel_rfl) (at_list (by rw [HOP.out]; rfl)) (by rw [HOP.out]; rfl) (fun W1 hWW hSW K hK => ?_); (try dsimp only at hSW)
        go_simp
        refine (Name_any nm _).mono ?_
        rintro e _ ⟨rfl, rfl⟩
        refine hK _ _ hSW ?_
        clear hSW hWW
        clear hK K; (try simp only [Act.put, List.setIfInBounds_toArray, List.set_cons_zero, List.set_cons_succ])
        rw [HNM.out]
        refine ord_take RD 3 (at_list (by rw [HOP.out]; rfl)) HNS.out HPQ.out (by rw [HOP.out]; kernel_rfl) (by rw [HOP.out]; kernel_rfl) (by rw [HOP.out]; rfl) (fun K hK => ?_); apply Exists.intro; refine ⟨fun W hSW => ?_, hK _ ?_⟩; (focus ((try dsimp only at hSW); go_simp; try with_reducible rfl)); clear hK K; (try simp only [Act.put, List.setIfInBounds_toArray, List.set_cons_zero, List.set_cons_succ])
        refine ord_take RD 4 (at_list (by rw [HOP.out]; rfl)) HNS.out HPQ.out (by rw [HOP.out]; kernel_rfl) (by rw [HOP.out]; kernel_rfl) (by rw [HOP.out]; rfl) (fun K hK => ?_); apply Exists.intro; refine ⟨fun W hSW => ?_, hK _ ?_⟩; (focus ((try dsimp only at hSW); go_simp; try with_reducible rfl)); clear hK K; (try simp only [Act.put, List.setIfInBounds_toArray, List.set_cons_zero, List.set_cons_succ])
        refine ord_take RD 5 (at_list (by rw [HOP.out]; rfl)) HNS.out HPQ.out (by rw [HOP.out]; kernel_rfl) (by rw [HOP.out]; kernel_rfl) (by rw [HOP.out]; rfl) (fun K hK => ?_); apply Exists.intro; refine ⟨fun W hSW => ?_, hK _ ?_⟩; (focus ((try dsimp only at hSW); go_simp; try with_reducible rfl)); clear hK K; (try simp only [Act.put, List.setIfInBounds_toArray, List.set_cons_zero, List.set_cons_succ])
        refine ord_take RD 6 (at_list (by rw [HOP.out]; rfl)) HNS.out HPQ.out (by rw [HOP.out]; kernel_rfl) (by rw [HOP.out]; kernel_rfl) (by rw [HOP.out]; rfl) (fun K hK => ?_); apply Exists.intro; refine ⟨fun W hSW => ?_, hK _ ?_⟩; (focus ((try dsimp only at hSW); have y1 : W.cell? ⟨g8, 1, none⟩ = some (.int .i64 sz) := (L5.out.past hSW).cell 1; go_simp; try with_reducible rfl)); clear hK K; (try simp only [Act.put, List.setIfInBounds_toArray, List.set_cons_zero, List.set_cons_succ])
        refine ord_take RD 7 (at_list (by rw [HOP.out]; rfl)) HNS.out HPQ.out (by rw [HOP.out]; kernel_rfl) (by rw [HOP.out]; kernel_rfl) (by rw [HOP.out]; rfl) (fun K hK => ?_); apply Exists.intro; refine ⟨fun W hSW => ?_, hK _ ?_⟩; (focus ((try dsimp only at hSW); go_simp; try with_reducible rfl)); clear hK K; (try simp only [Act.put, List.setIfInBounds_toArray, List.set_cons_zero, List.set_cons_succ])
        refine ord_take RD 8 (at_list (by rw [HOP.out]; rfl)) HNS.out HPQ.out (by rw [HOP.out]; kernel_rfl) (by rw [HOP.out]; kernel_rfl) (by rw [HOP.out]; rfl) (fun K hK => ?_); apply Exists.intro; refine ⟨fun W hSW => ?_, hK _ ?_⟩; (focus ((try dsimp only at hSW); go_simp; try with_reducible rfl)); clear hK K; (try simp only [Act.put, List.setIfInBounds_toArray, List.set_cons_zero, List.set_cons_succ])
        refine ord_take RD 9 (at_list (by rw [HOP.out]; rfl)) HNS.out HPQ.out (by rw [HOP.out]; kernel_rfl) (by rw [HOP.out]; kernel_rfl) (by rw [HOP.out]; rfl) (fun K hK => ?_); apply Exists.intro; refine ⟨fun W hSW => ?_, hK _ ?_⟩; (focus ((try dsimp only at hSW); go_simp; try with_reducible rfl)); clear hK K; (try simp only [Act.put, List.setIfInBounds_toArray, List.set_cons_zero, List.set_cons_succ])
        refine ord_take RD 10 (at_list (by rw [HOP.out]; rfl)) HNS.out HPQ.out (by rw [HOP.out]; kernel_rfl) (by rw [HOP.out]; kernel_rfl) (by rw [HOP.out]; rfl) (fun K hK => ?_); apply Exists.intro; refine ⟨fun W hSW => ?_, hK _ ?_⟩; (focus ((try dsimp only at hSW); go_simp; try with_reducible rfl)); clear hK K; (try simp only [Act.put, List.setIfInBounds_toArray, List.set_cons_zero, List.set_cons_succ])
        refine ord_take RD 11 (at_list (by rw [HOP.out]; rfl)) HNS.out HPQ.out (by rw [HOP.out]; kernel_rfl) (by rw [HOP.out]; kernel_rfl) (by rw [HOP.out]; rfl) (fun K hK => ?_); apply Exists.intro; refine ⟨fun W hSW => ?_, hK _ ?_⟩; (focus ((try dsimp only at hSW); have y1 : W.cell? ⟨g8, 1, none⟩ = some (.int .i64 sz) := (L5.out.past hSW).cell 1; go_simp; try with_reducible rfl)); clear hK K; (try simp only [Act.put, List.setIfInBounds_toArray, List.set_cons_zero, List.set_cons_succ])
        refine ord_take RD 12 (at_list (by rw [HOP.out]; rfl)) HNS.out HPQ.out (by rw [HOP.out]; kernel_rfl) (by rw [HOP.out]; kernel_rfl) (by rw [HOP.out]; rfl) (fun K hK => ?_); apply Exists.intro; refine ⟨fun W hSW => ?_, hK _ ?_⟩; (focus ((try dsimp only at hSW); go_simp; try with_reducible rfl)); clear hK K; (try simp only [Act.put, List.setIfInBounds_toArray, List.set_cons_zero, List.set_cons_succ])
        refine ord_take RD 13 (at_list (by rw [HOP.out]; rfl)) HNS.out HPQ.out (by rw [HOP.out]; kernel_rfl) (by rw [HOP.out]; kernel_rfl) (by rw [HOP.out]; rfl) (fun K hK => ?_); apply Exists.intro; refine ⟨fun W hSW => ?_, hK _ ?_⟩; (focus ((try dsimp only at hSW); go_simp; try with_reducible rfl)); clear hK K; (try simp only [Act.put, List.setIfInBounds_toArray, List.set_cons_zero, List.set_cons_succ])
        refine ord_take RD 14 (at_list (by rw [HOP.out]; rfl)) HNS.out HPQ.out (by rw [HOP.out]; kernel_rfl) (by rw [HOP.out]; kernel_rfl) (by rw [HOP.out]; rfl) (fun K hK => ?_); apply Exists.intro; refine ⟨fun W hSW => ?_, hK _ ?_⟩; (focus ((try dsimp only at hSW); go_simp; try with_reducible rfl)); clear hK K; (try simp only [Act.put, List.setIfInBounds_toArray, List.set_cons_zero, List.set_cons_succ])
        refine ord_skip RD 15 (at_list (by rw [HOP.out]; rfl)) HNS.out HPQ.out (by rw [HOP.out]; kernel_rfl) (by rw [HOP.out]; kernel_rfl) (by rw [HOP.out]; rfl) ?_; (try simp only [Act.put, List.setIfInBounds_toArray, List.set_cons_zero, List.set_cons_succ])
        refine ord_skip RD 16 (at_list (by rw [HOP.out]; rfl)) HNS.out HPQ.out (by rw [HOP.out]; kernel_rfl) (by rw [HOP.out]; kernel_rfl) (by rw [HOP.out]; rfl) ?_; (try simp only [Act.put, List.setIfInBounds_toArray, List.set_cons_zero, List.set_cons_succ])
        refine ord_skip RD 17 (at_list (by rw [HOP.out]; rfl)) HNS.out HPQ.out (by rw [HOP.out]; kernel_rfl) (by rw [HOP.out]; kernel_rfl) (by rw [HOP.out]; rfl) ?_; (try simp only [Act.put, List.setIfInBounds_toArray, List.set_cons_zero, List.set_cons_succ])
        refine ord_skip RD 18 (at_list (by rw [HOP.out]; rfl)) HNS.out HPQ.out (by rw [HOP.out]; kernel_rfl) (by rw [HOP.out]; kernel_rfl) (by rw [HOP.out]; rfl) ?_; (try simp only [Act.put, List.setIfInBounds_toArray, List.set_cons_zero, List.set_cons_succ])
        refine ord_skip RD 19 (at_list (by rw [HOP.out]; rfl)) HNS.out HPQ.out (by rw [HOP.out]; kernel_rfl) (by rw [HOP.out]; kernel_rfl) (by rw [HOP.out]; rfl) ?_; (try simp only [Act.put, List.setIfInBounds_toArray, List.set_cons_zero, List.set_cons_succ])
        refine ord_skip RD 20 (at_list (by rw [HOP.out]; rfl)) HNS.out HPQ.out (by rw [HOP.out]; kernel_rfl) (by rw [HOP.out]; kernel_rfl) (by rw [HOP.out]; rfl) ?_; (try simp only [Act.put, List.setIfInBounds_toArray, List.set_cons_zero, List.set_cons_succ])
        refine ord_skip RD 21 (at_list (by rw [HOP.out]; rfl)) HNS.out HPQ.out (by rw [HOP.out]; kernel_rfl) (by rw [HOP.out]; kernel_rfl) (by rw [HOP.out]; rfl) ?_; (try simp only [Act.put, List.setIfInBounds_toArray, List.set_cons_zero, List.set_cons_succ])
        refine ord_skip RD 22 (at_list (by rw [HOP.out]; rfl)) HNS.out HPQ.out (by rw [HOP.out]; kernel_rfl) (by rw [HOP.out]; kernel_rfl) (by rw [HOP.out]; rfl) ?_; (try simp only [Act.put, List.setIfInBounds_toArray, List.set_cons_zero, List.set_cons_succ])
        refine ord_skip RD 23 (at_list (by rw [HOP.out]; rfl)) HNS.out HPQ.out (by rw [HOP.out]; kernel_rfl) (by rw [HOP.out]; kernel_rfl) (by rw [HOP.out]; rfl) ?_; (try simp only [Act.put, List.setIfInBounds_toArray, List.set_cons_zero, List.set_cons_succ])
        refine ord_take RD 24 (at_list (by rw [HOP.out]; rfl)) HNS.out HPQ.out (by rw [HOP.out]; kernel_rfl) (by rw [HOP.out]; kernel_rfl) (by rw [HOP.out]; rfl) (fun K hK => ?_); apply Exists.intro; refine ⟨fun W hSW => ?_, hK _ ?_⟩; (focus ((try dsimp only at hSW); go_simp; try with_reducible rfl)); clear hK K; (try simp only [Act.put, List.setIfInBounds_toArray, List.set_cons_zero, List.set_cons_succ])
        refine ord_done (by rw [HOP.out]; kernel_rfl) (fun W9 hWW hSW => HN.out _ _ ?_); clear HOP HNS HPQ HN RD; (try dsimp only at hSW)
        have B9 := Lib.hid (mb_bb B5.out hSW)
        have L9 := Lib.hid (L5.out.past hSW)
        clear hSW hWW
        go_wp2_with fail
        go_ret
        exact ⟨by rw [HV.out]; rfl, B9.out⟩
      have HD12 := Lib.hid (And.intro d1 d2)
      by_cases d3 : sz = 0
      · subst d3
        clear d1 d2
        by_cases d4 : sm = digest []
        · have HDE : Hid ((!decide (sm = digest [])) = false) := Lib.hid (by rw [decide_eq_true d4]; rfl)
          have HD4 := Lib.hid d4
          clear d4
          (have RD := grows_roads (S := fun x' => Below w5.heap.size w5 x') (fun a b h1 h2 => h2.trans (h1.mono h2.size))); refine region_ord _ Grows RD (Below.drew (Below.refl _ _)) (by kernel_rfl) ?_; intro ops Q' hops hPQ hN; (have HNS : Hid (Region.noSelect ops = true) := Lib.hid (by rw [hops]; kernel_rfl)); (have hsz : ops.size = 25 := (by rw [hops]; rfl)); have HOP := Lib.hid hops; have HPQ := Lib.hid hPQ; have HN := Lib.hid hN; rw [hsz]; clear hops hsz hPQ hN
          refine ord_take RD 0 (at_list (by rw [HOP.out]; rfl)) HNS.out HPQ.out (by rw [HOP.out]; kernel_rfl) (by rw [HOP.out]; kernel_rfl) (by rw [HOP.out]; rfl) (fun K hK => ?_); apply Exists.intro; refine ⟨fun W hSW => ?_, hK _ ?_⟩; (focus ((try dsimp only at hSW); go_simp; try with_reducible rfl)); clear hK K; (try simp only [Act.put, List.setIfInBounds_toArray, List.set_cons_zero, List.set_cons_succ])
          refine ord_take RD 1 (at_list (by rw [HOP.out]; rfl)) HNS.out HPQ.out (by rw [HOP.out]; kernel_rfl) (by rw [HOP.out]; kernel_rfl) (by rw [HOP.out]; rfl) (fun K hK => ?_); apply Exists.intro; refine ⟨fun W hSW => ?_, hK _ ?_⟩; (focus ((try dsimp only at hSW); have y1 : W.cell? ⟨g8, 0, none⟩ = some (.string nm) := (L5.out.past hSW).cell 0; go_simp; try with_reducible rfl)); clear hK K; (try simp only [Act.put, List.setIfInBounds_toArray, List.set_cons_zero, List.set_cons_succ])
          refine ord_one RD 2 (by rw [HOP.out]; kernel_rfl) (at_list (by rw [HOP.out]; rfl)) (by rw [HOP.out]; rfl) (fun W1 hWW hSW K hK => ?_); (try dsimp only at hSW)
          go_simp
          refine (Name_any nm _).mono ?_
          rintro e _ ⟨rfl, rfl⟩
          refine hK _ _ hSW ?_
          clear hSW hWW
          clear hK K; (try simp only [Act.put, List.setIfInBounds_toArray, List.set_cons_zero, List.set_cons_succ])
          rw [HNM.out]
          refine ord_take RD 3 (at_list (by rw [HOP.out]; rfl)) HNS.out HPQ.out (by rw [HOP.out]; kernel_rfl) (by rw [HOP.out]; kernel_rfl) (by rw [HOP.out]; rfl) (fun K hK => ?_); apply Exists.intro; refine ⟨fun W hSW => ?_, hK _ ?_⟩; (focus ((try dsimp only at hSW); go_simp; try with_reducible rfl)); clear hK K; (try simp only [Act.put, List.setIfInBounds_toArray, List.set_cons_zero, List.set_cons_succ])
          refine ord_take RD 4 (at_list (by rw [HOP.out]; rfl)) HNS.out HPQ.out (by rw [HOP.out]; kernel_rfl) (by rw [HOP.out]; kernel_rfl) (by rw [HOP.out]; rfl) (fun K hK => ?_); apply Exists.intro; refine ⟨fun W hSW => ?_, hK _ ?_⟩; (focus ((try dsimp only at hSW); go_simp; try with_reducible rfl)); clear hK K; (try simp only [Act.put, List.setIfInBounds_toArray, List.set_cons_zero, List.set_cons_succ])
          refine ord_take RD 5 (at_list (by rw [HOP.out]; rfl)) HNS.out HPQ.out (by rw [HOP.out]; kernel_rfl) (by rw [HOP.out]; kernel_rfl) (by rw [HOP.out]; rfl) (fun K hK => ?_); apply Exists.intro; refine ⟨fun W hSW => ?_, hK _ ?_⟩; (focus ((try dsimp only at hSW); go_simp; try with_reducible rfl)); clear hK K; (try simp only [Act.put, List.setIfInBounds_toArray, List.set_cons_zero, List.set_cons_succ])
          refine ord_take RD 6 (at_list (by rw [HOP.out]; rfl)) HNS.out HPQ.out (by rw [HOP.out]; kernel_rfl) (by rw [HOP.out]; kernel_rfl) (by rw [HOP.out]; rfl) (fun K hK => ?_); apply Exists.intro; refine ⟨fun W hSW => ?_, hK _ ?_⟩; (focus ((try dsimp only at hSW); have y1 : W.cell? ⟨g8, 1, none⟩ = some (.int .i64 0) := (L5.out.past hSW).cell 1; go_simp; try with_reducible rfl)); clear hK K; (try simp only [Act.put, List.setIfInBounds_toArray, List.set_cons_zero, List.set_cons_succ])
          refine ord_take RD 7 (at_list (by rw [HOP.out]; rfl)) HNS.out HPQ.out (by rw [HOP.out]; kernel_rfl) (by rw [HOP.out]; kernel_rfl) (by rw [HOP.out]; rfl) (fun K hK => ?_); apply Exists.intro; refine ⟨fun W hSW => ?_, hK _ ?_⟩; (focus ((try dsimp only at hSW); go_simp; try with_reducible rfl)); clear hK K; (try simp only [Act.put, List.setIfInBounds_toArray, List.set_cons_zero, List.set_cons_succ])
          refine ord_take RD 8 (at_list (by rw [HOP.out]; rfl)) HNS.out HPQ.out (by rw [HOP.out]; kernel_rfl) (by rw [HOP.out]; kernel_rfl) (by rw [HOP.out]; rfl) (fun K hK => ?_); apply Exists.intro; refine ⟨fun W hSW => ?_, hK _ ?_⟩; (focus ((try dsimp only at hSW); go_simp; try with_reducible rfl)); clear hK K; (try simp only [Act.put, List.setIfInBounds_toArray, List.set_cons_zero, List.set_cons_succ])
          refine ord_take RD 9 (at_list (by rw [HOP.out]; rfl)) HNS.out HPQ.out (by rw [HOP.out]; kernel_rfl) (by rw [HOP.out]; kernel_rfl) (by rw [HOP.out]; rfl) (fun K hK => ?_); apply Exists.intro; refine ⟨fun W hSW => ?_, hK _ ?_⟩; (focus ((try dsimp only at hSW); go_simp; try with_reducible rfl)); clear hK K; (try simp only [Act.put, List.setIfInBounds_toArray, List.set_cons_zero, List.set_cons_succ])
          refine ord_take RD 10 (at_list (by rw [HOP.out]; rfl)) HNS.out HPQ.out (by rw [HOP.out]; kernel_rfl) (by rw [HOP.out]; kernel_rfl) (by rw [HOP.out]; rfl) (fun K hK => ?_); apply Exists.intro; refine ⟨fun W hSW => ?_, hK _ ?_⟩; (focus ((try dsimp only at hSW); go_simp; try with_reducible rfl)); clear hK K; (try simp only [Act.put, List.setIfInBounds_toArray, List.set_cons_zero, List.set_cons_succ])
          refine ord_take RD 11 (at_list (by rw [HOP.out]; rfl)) HNS.out HPQ.out (by rw [HOP.out]; kernel_rfl) (by rw [HOP.out]; kernel_rfl) (by rw [HOP.out]; rfl) (fun K hK => ?_); apply Exists.intro; refine ⟨fun W hSW => ?_, hK _ ?_⟩; (focus ((try dsimp only at hSW); have y1 : W.cell? ⟨g8, 1, none⟩ = some (.int .i64 0) := (L5.out.past hSW).cell 1; go_simp; try with_reducible rfl)); clear hK K; (try simp only [Act.put, List.setIfInBounds_toArray, List.set_cons_zero, List.set_cons_succ])
          refine ord_take RD 12 (at_list (by rw [HOP.out]; rfl)) HNS.out HPQ.out (by rw [HOP.out]; kernel_rfl) (by rw [HOP.out]; kernel_rfl) (by rw [HOP.out]; rfl) (fun K hK => ?_); apply Exists.intro; refine ⟨fun W hSW => ?_, hK _ ?_⟩; (focus ((try dsimp only at hSW); go_simp; try with_reducible rfl)); clear hK K; (try simp only [Act.put, List.setIfInBounds_toArray, List.set_cons_zero, List.set_cons_succ])
          refine ord_take RD 13 (at_list (by rw [HOP.out]; rfl)) HNS.out HPQ.out (by rw [HOP.out]; kernel_rfl) (by rw [HOP.out]; kernel_rfl) (by rw [HOP.out]; rfl) (fun K hK => ?_); apply Exists.intro; refine ⟨fun W hSW => ?_, hK _ ?_⟩; (focus ((try dsimp only at hSW); go_simp; try with_reducible rfl)); clear hK K; (try simp only [Act.put, List.setIfInBounds_toArray, List.set_cons_zero, List.set_cons_succ])
          refine ord_take RD 14 (at_list (by rw [HOP.out]; rfl)) HNS.out HPQ.out (by rw [HOP.out]; kernel_rfl) (by rw [HOP.out]; kernel_rfl) (by rw [HOP.out]; rfl) (fun K hK => ?_); apply Exists.intro; refine ⟨fun W hSW => ?_, hK _ ?_⟩; (focus ((try dsimp only at hSW); go_simp; try with_reducible rfl)); clear hK K; (try simp only [Act.put, List.setIfInBounds_toArray, List.set_cons_zero, List.set_cons_succ])
          refine ord_take RD 15 (at_list (by rw [HOP.out]; rfl)) HNS.out HPQ.out (by rw [HOP.out]; kernel_rfl) (by rw [HOP.out]; kernel_rfl) (by rw [HOP.out]; rfl) (fun K hK => ?_); apply Exists.intro; refine ⟨fun W hSW => ?_, hK _ ?_⟩; (focus ((try dsimp only at hSW); go_simp; try with_reducible rfl)); clear hK K; (try simp only [Act.put, List.setIfInBounds_toArray, List.set_cons_zero, List.set_cons_succ])
          refine ord_take RD 16 (at_list (by rw [HOP.out]; rfl)) HNS.out HPQ.out (by rw [HOP.out]; kernel_rfl) (by rw [HOP.out]; kernel_rfl) (by rw [HOP.out]; rfl) (fun K hK => ?_); apply Exists.intro; refine ⟨fun W hSW => ?_, hK _ ?_⟩; (focus ((try dsimp only at hSW); have y1 : W.cell? ⟨g8, 1, none⟩ = some (.int .i64 0) := (L5.out.past hSW).cell 1; go_simp; try with_reducible rfl)); clear hK K; (try simp only [Act.put, List.setIfInBounds_toArray, List.set_cons_zero, List.set_cons_succ])
          refine ord_take RD 17 (at_list (by rw [HOP.out]; rfl)) HNS.out HPQ.out (by rw [HOP.out]; kernel_rfl) (by rw [HOP.out]; kernel_rfl) (by rw [HOP.out]; rfl) (fun K hK => ?_); apply Exists.intro; refine ⟨fun W hSW => ?_, hK _ ?_⟩; (focus ((try dsimp only at hSW); go_simp; try with_reducible rfl)); clear hK K; (try simp only [Act.put, List.setIfInBounds_toArray, List.set_cons_zero, List.set_cons_succ])
          refine ord_take RD 18 (at_list (by rw [HOP.out]; rfl)) HNS.out HPQ.out (by rw [HOP.out]; kernel_rfl) (by rw [HOP.out]; kernel_rfl) (by rw [HOP.out]; rfl) (fun K hK => ?_); apply Exists.intro; refine ⟨fun W hSW => ?_, hK _ ?_⟩; (focus ((try dsimp only at hSW); go_simp; try with_reducible rfl)); clear hK K; (try simp only [Act.put, List.setIfInBounds_toArray, List.set_cons_zero, List.set_cons_succ])
          refine ord_take RD 19 (at_list (by rw [HOP.out]; rfl)) HNS.out HPQ.out (by rw [HOP.out]; kernel_rfl) (by rw [HOP.out]; kernel_rfl) (by rw [HOP.out]; rfl) (fun K hK => ?_); apply Exists.intro; refine ⟨fun W hSW => ?_, hK _ ?_⟩; (focus ((try dsimp only at hSW); go_simp; try with_reducible rfl)); clear hK K; (try simp only [Act.put, List.setIfInBounds_toArray, List.set_cons_zero, List.set_cons_succ])
          refine ord_take RD 20 (at_list (by rw [HOP.out]; rfl)) HNS.out HPQ.out (by rw [HOP.out]; kernel_rfl) (by rw [HOP.out]; kernel_rfl) (by rw [HOP.out]; rfl) (fun K hK => ?_); apply Exists.intro; refine ⟨fun W hSW => ?_, hK _ ?_⟩; (focus ((try dsimp only at hSW); exact trW.quiet_ld (l := sm) _ rfl (rec_sum (L5.out.past hSW) HSD.out.len) (HSD.out.len) rfl)); clear hK K; (try simp only [Act.put, List.setIfInBounds_toArray, List.set_cons_zero, List.set_cons_succ])
          refine ord_one RD 21 (by rw [HOP.out]; kernel_rfl) (at_list (by rw [HOP.out]; rfl)) (by rw [HOP.out]; rfl) (fun W2 hWW hSW K hK => ?_); (try dsimp only at hSW)
          go_simp
          refine (rOf [] none 0 0 W2 (.inl rfl) rfl (by decide) (by simp)).mono ?_
          rintro e w6 ⟨rfl, b6⟩
          refine hK _ _ (mb_bb hSW b6) ?_
          clear hSW hWW b6
          clear hK K; (try simp only [Act.put, List.setIfInBounds_toArray, List.set_cons_zero, List.set_cons_succ])
          refine ord_take RD 22 (at_list (by rw [HOP.out]; rfl)) HNS.out HPQ.out (by rw [HOP.out]; kernel_rfl) (by rw [HOP.out]; kernel_rfl) (by rw [HOP.out]; rfl) (fun K hK => ?_); apply Exists.intro; refine ⟨fun W hSW => ?_, hK _ ?_⟩; (focus ((try dsimp only at hSW); exact (trW.quiet_neq (l := sm) (m := digest []) _ _ _ rfl HSD.out (digest_isD []) rfl rfl))); clear hK K; (try simp only [Act.put, List.setIfInBounds_toArray, List.set_cons_zero, List.set_cons_succ])
          rw [HDE.out]
          refine ord_take RD 23 (at_list (by rw [HOP.out]; rfl)) HNS.out HPQ.out (by rw [HOP.out]; kernel_rfl) (by rw [HOP.out]; kernel_rfl) (by rw [HOP.out]; rfl) (fun K hK => ?_); apply Exists.intro; refine ⟨fun W hSW => ?_, hK _ ?_⟩; (focus ((try dsimp only at hSW); go_simp; try with_reducible rfl)); clear hK K; (try simp only [Act.put, List.setIfInBounds_toArray, List.set_cons_zero, List.set_cons_succ])
          refine ord_take RD 24 (at_list (by rw [HOP.out]; rfl)) HNS.out HPQ.out (by rw [HOP.out]; kernel_rfl) (by rw [HOP.out]; kernel_rfl) (by rw [HOP.out]; rfl) (fun K hK => ?_); apply Exists.intro; refine ⟨fun W hSW => ?_, hK _ ?_⟩; (focus ((try dsimp only at hSW); go_simp; try with_reducible rfl)); clear hK K; (try simp only [Act.put, List.setIfInBounds_toArray, List.set_cons_zero, List.set_cons_succ])
          refine ord_done (by rw [HOP.out]; kernel_rfl) (fun W9 hWW hSW => HN.out _ _ ?_); clear HOP HNS HPQ HN RD; (try dsimp only at hSW)
          have B9 := Lib.hid (mb_bb B5.out hSW)
          have L9 := Lib.hid (L5.out.past hSW)
          clear hSW hWW
          have y1 : W9.cell? ⟨g8, 1, none⟩ = some (.int .i64 0) := L9.out.cell 1
          go_wp2_with fail
          go_roundw
          case rel => exact ⟨k + 1, s + 0, HK.out, by go_num, by go_num, HQ2.out, by have := HS2.out; have := HD12.out; omega, HSNO.out ⟨HNM.out, by have := HD12.out; dsimp only; omega, by have := HD12.out; dsimp only; omega, fun _ => HD4.out⟩, B9.out⟩
          case measure => simp [intOf]; have := HK.out; omega
        · have HV := Lib.hid (HBD.out (sbad3 rfl d4))
          have HDE : Hid ((!decide (sm = digest [])) = true) := Lib.hid (by rw [decide_eq_false d4]; rfl)
          clear d4
          (have RD := grows_roads (S := fun x' => Below w5.heap.size w5 x') (fun a b h1 h2 => h2.trans (h1.mono h2.size))); refine region_ord _ Grows RD (Below.drew (Below.refl _ _)) (by kernel_rfl) ?_; intro ops Q' hops hPQ hN; (have HNS : Hid (Region.noSelect ops = true) := Lib.hid (by rw [hops]; kernel_rfl)); (have hsz : ops.size = 25 := (by rw [hops]; rfl)); have HOP := Lib.hid hops; have HPQ := Lib.hid hPQ; have HN := Lib.hid hN; rw [hsz]; clear hops hsz hPQ hN
          refine ord_take RD 0 (at_list (by rw [HOP.out]; rfl)) HNS.out HPQ.out (by rw [HOP.out]; kernel_rfl) (by rw [HOP.out]; kernel_rfl) (by rw [HOP.out]; rfl) (fun K hK => ?_); apply Exists.intro; refine ⟨fun W hSW => ?_, hK _ ?_⟩; (focus ((try dsimp only at hSW); go_simp; try with_reducible rfl)); clear hK K; (try simp only [Act.put, List.setIfInBounds_toArray, List.set_cons_zero, List.set_cons_succ])
          refine ord_take RD 1 (at_list (by rw [HOP.out]; rfl)) HNS.out HPQ.out (by rw [HOP.out]; kernel_rfl) (by rw [HOP.out]; kernel_rfl) (by rw [HOP.out]; rfl) (fun K hK => ?_); apply Exists.intro; refine ⟨fun W hSW => ?_, hK _ ?_⟩; (focus ((try dsimp only at hSW); have y1 : W.cell? ⟨g8, 0, none⟩ = some (.string nm) := (L5.out.past hSW).cell 0; go_simp; try with_reducible rfl)); clear hK K; (try simp only [Act.put, List.setIfInBounds_toArray, List.set_cons_zero, List.set_cons_succ])
          refine ord_one RD 2 (by rw [HOP.out]; kernel_rfl) (at_list (by rw [HOP.out]; rfl)) (by rw [HOP.out]; rfl) (fun W1 hWW hSW K hK => ?_); (try dsimp only at hSW)
          go_simp
          refine (Name_any nm _).mono ?_
          rintro e _ ⟨rfl, rfl⟩
          refine hK _ _ hSW ?_
          clear hSW hWW
          clear hK K; (try simp only [Act.put, List.setIfInBounds_toArray, List.set_cons_zero, List.set_cons_succ])
          rw [HNM.out]
          refine ord_take RD 3 (at_list (by rw [HOP.out]; rfl)) HNS.out HPQ.out (by rw [HOP.out]; kernel_rfl) (by rw [HOP.out]; kernel_rfl) (by rw [HOP.out]; rfl) (fun K hK => ?_); apply Exists.intro; refine ⟨fun W hSW => ?_, hK _ ?_⟩; (focus ((try dsimp only at hSW); go_simp; try with_reducible rfl)); clear hK K; (try simp only [Act.put, List.setIfInBounds_toArray, List.set_cons_zero, List.set_cons_succ])
          refine ord_take RD 4 (at_list (by rw [HOP.out]; rfl)) HNS.out HPQ.out (by rw [HOP.out]; kernel_rfl) (by rw [HOP.out]; kernel_rfl) (by rw [HOP.out]; rfl) (fun K hK => ?_); apply Exists.intro; refine ⟨fun W hSW => ?_, hK _ ?_⟩; (focus ((try dsimp only at hSW); go_simp; try with_reducible rfl)); clear hK K; (try simp only [Act.put, List.setIfInBounds_toArray, List.set_cons_zero, List.set_cons_succ])
          refine ord_take RD 5 (at_list (by rw [HOP.out]; rfl)) HNS.out HPQ.out (by rw [HOP.out]; kernel_rfl) (by rw [HOP.out]; kernel_rfl) (by rw [HOP.out]; rfl) (fun K hK => ?_); apply Exists.intro; refine ⟨fun W hSW => ?_, hK _ ?_⟩; (focus ((try dsimp only at hSW); go_simp; try with_reducible rfl)); clear hK K; (try simp only [Act.put, List.setIfInBounds_toArray, List.set_cons_zero, List.set_cons_succ])
          refine ord_take RD 6 (at_list (by rw [HOP.out]; rfl)) HNS.out HPQ.out (by rw [HOP.out]; kernel_rfl) (by rw [HOP.out]; kernel_rfl) (by rw [HOP.out]; rfl) (fun K hK => ?_); apply Exists.intro; refine ⟨fun W hSW => ?_, hK _ ?_⟩; (focus ((try dsimp only at hSW); have y1 : W.cell? ⟨g8, 1, none⟩ = some (.int .i64 0) := (L5.out.past hSW).cell 1; go_simp; try with_reducible rfl)); clear hK K; (try simp only [Act.put, List.setIfInBounds_toArray, List.set_cons_zero, List.set_cons_succ])
          refine ord_take RD 7 (at_list (by rw [HOP.out]; rfl)) HNS.out HPQ.out (by rw [HOP.out]; kernel_rfl) (by rw [HOP.out]; kernel_rfl) (by rw [HOP.out]; rfl) (fun K hK => ?_); apply Exists.intro; refine ⟨fun W hSW => ?_, hK _ ?_⟩; (focus ((try dsimp only at hSW); go_simp; try with_reducible rfl)); clear hK K; (try simp only [Act.put, List.setIfInBounds_toArray, List.set_cons_zero, List.set_cons_succ])
          refine ord_take RD 8 (at_list (by rw [HOP.out]; rfl)) HNS.out HPQ.out (by rw [HOP.out]; kernel_rfl) (by rw [HOP.out]; kernel_rfl) (by rw [HOP.out]; rfl) (fun K hK => ?_); apply Exists.intro; refine ⟨fun W hSW => ?_, hK _ ?_⟩; (focus ((try dsimp only at hSW); go_simp; try with_reducible rfl)); clear hK K; (try simp only [Act.put, List.setIfInBounds_toArray, List.set_cons_zero, List.set_cons_succ])
          refine ord_take RD 9 (at_list (by rw [HOP.out]; rfl)) HNS.out HPQ.out (by rw [HOP.out]; kernel_rfl) (by rw [HOP.out]; kernel_rfl) (by rw [HOP.out]; rfl) (fun K hK => ?_); apply Exists.intro; refine ⟨fun W hSW => ?_, hK _ ?_⟩; (focus ((try dsimp only at hSW); go_simp; try with_reducible rfl)); clear hK K; (try simp only [Act.put, List.setIfInBounds_toArray, List.set_cons_zero, List.set_cons_succ])
          refine ord_take RD 10 (at_list (by rw [HOP.out]; rfl)) HNS.out HPQ.out (by rw [HOP.out]; kernel_rfl) (by rw [HOP.out]; kernel_rfl) (by rw [HOP.out]; rfl) (fun K hK => ?_); apply Exists.intro; refine ⟨fun W hSW => ?_, hK _ ?_⟩; (focus ((try dsimp only at hSW); go_simp; try with_reducible rfl)); clear hK K; (try simp only [Act.put, List.setIfInBounds_toArray, List.set_cons_zero, List.set_cons_succ])
          refine ord_take RD 11 (at_list (by rw [HOP.out]; rfl)) HNS.out HPQ.out (by rw [HOP.out]; kernel_rfl) (by rw [HOP.out]; kernel_rfl) (by rw [HOP.out]; rfl) (fun K hK => ?_); apply Exists.intro; refine ⟨fun W hSW => ?_, hK _ ?_⟩; (focus ((try dsimp only at hSW); have y1 : W.cell? ⟨g8, 1, none⟩ = some (.int .i64 0) := (L5.out.past hSW).cell 1; go_simp; try with_reducible rfl)); clear hK K; (try simp only [Act.put, List.setIfInBounds_toArray, List.set_cons_zero, List.set_cons_succ])
          refine ord_take RD 12 (at_list (by rw [HOP.out]; rfl)) HNS.out HPQ.out (by rw [HOP.out]; kernel_rfl) (by rw [HOP.out]; kernel_rfl) (by rw [HOP.out]; rfl) (fun K hK => ?_); apply Exists.intro; refine ⟨fun W hSW => ?_, hK _ ?_⟩; (focus ((try dsimp only at hSW); go_simp; try with_reducible rfl)); clear hK K; (try simp only [Act.put, List.setIfInBounds_toArray, List.set_cons_zero, List.set_cons_succ])
          refine ord_take RD 13 (at_list (by rw [HOP.out]; rfl)) HNS.out HPQ.out (by rw [HOP.out]; kernel_rfl) (by rw [HOP.out]; kernel_rfl) (by rw [HOP.out]; rfl) (fun K hK => ?_); apply Exists.intro; refine ⟨fun W hSW => ?_, hK _ ?_⟩; (focus ((try dsimp only at hSW); go_simp; try with_reducible rfl)); clear hK K; (try simp only [Act.put, List.setIfInBounds_toArray, List.set_cons_zero, List.set_cons_succ])
          refine ord_take RD 14 (at_list (by rw [HOP.out]; rfl)) HNS.out HPQ.out (by rw [HOP.out]; kernel_rfl) (by rw [HOP.out]; kernel_rfl) (by rw [HOP.out]; rfl) (fun K hK => ?_); apply Exists.intro; refine ⟨fun W hSW => ?_, hK _ ?_⟩; (focus ((try dsimp only at hSW); go_simp; try with_reducible rfl)); clear hK K; (try simp only [Act.put, List.setIfInBounds_toArray, List.set_cons_zero, List.set_cons_succ])
          refine ord_take RD 15 (at_list (by rw [HOP.out]; rfl)) HNS.out HPQ.out (by rw [HOP.out]; kernel_rfl) (by rw [HOP.out]; kernel_rfl) (by rw [HOP.out]; rfl) (fun K hK => ?_); apply Exists.intro; refine ⟨fun W hSW => ?_, hK _ ?_⟩; (focus ((try dsimp only at hSW); go_simp; try with_reducible rfl)); clear hK K; (try simp only [Act.put, List.setIfInBounds_toArray, List.set_cons_zero, List.set_cons_succ])
          refine ord_take RD 16 (at_list (by rw [HOP.out]; rfl)) HNS.out HPQ.out (by rw [HOP.out]; kernel_rfl) (by rw [HOP.out]; kernel_rfl) (by rw [HOP.out]; rfl) (fun K hK => ?_); apply Exists.intro; refine ⟨fun W hSW => ?_, hK _ ?_⟩; (focus ((try dsimp only at hSW); have y1 : W.cell? ⟨g8, 1, none⟩ = some (.int .i64 0) := (L5.out.past hSW).cell 1; go_simp; try with_reducible rfl)); clear hK K; (try simp only [Act.put, List.setIfInBounds_toArray, List.set_cons_zero, List.set_cons_succ])
          refine ord_take RD 17 (at_list (by rw [HOP.out]; rfl)) HNS.out HPQ.out (by rw [HOP.out]; kernel_rfl) (by rw [HOP.out]; kernel_rfl) (by rw [HOP.out]; rfl) (fun K hK => ?_); apply Exists.intro; refine ⟨fun W hSW => ?_, hK _ ?_⟩; (focus ((try dsimp only at hSW); go_simp; try with_reducible rfl)); clear hK K; (try simp only [Act.put, List.setIfInBounds_toArray, List.set_cons_zero, List.set_cons_succ])
          refine ord_take RD 18 (at_list (by rw [HOP.out]; rfl)) HNS.out HPQ.out (by rw [HOP.out]; kernel_rfl) (by rw [HOP.out]; kernel_rfl) (by rw [HOP.out]; rfl) (fun K hK => ?_); apply Exists.intro; refine ⟨fun W hSW => ?_, hK _ ?_⟩; (focus ((try dsimp only at hSW); go_simp; try with_reducible rfl)); clear hK K; (try simp only [Act.put, List.setIfInBounds_toArray, List.set_cons_zero, List.set_cons_succ])
          refine ord_take RD 19 (at_list (by rw [HOP.out]; rfl)) HNS.out HPQ.out (by rw [HOP.out]; kernel_rfl) (by rw [HOP.out]; kernel_rfl) (by rw [HOP.out]; rfl) (fun K hK => ?_); apply Exists.intro; refine ⟨fun W hSW => ?_, hK _ ?_⟩; (focus ((try dsimp only at hSW); go_simp; try with_reducible rfl)); clear hK K; (try simp only [Act.put, List.setIfInBounds_toArray, List.set_cons_zero, List.set_cons_succ])
          refine ord_take RD 20 (at_list (by rw [HOP.out]; rfl)) HNS.out HPQ.out (by rw [HOP.out]; kernel_rfl) (by rw [HOP.out]; kernel_rfl) (by rw [HOP.out]; rfl) (fun K hK => ?_); apply Exists.intro; refine ⟨fun W hSW => ?_, hK _ ?_⟩; (focus ((try dsimp only at hSW); exact trW.quiet_ld (l := sm) _ rfl (rec_sum (L5.out.past hSW) HSD.out.len) (HSD.out.len) rfl)); clear hK K; (try simp only [Act.put, List.setIfInBounds_toArray, List.set_cons_zero, List.set_cons_succ])
          refine ord_one RD 21 (by rw [HOP.out]; kernel_rfl) (at_list (by rw [HOP.out]; rfl)) (by rw [HOP.out]; rfl) (fun W2 hWW hSW K hK => ?_); (try dsimp only at hSW)
          go_simp
          refine (rOf [] none 0 0 W2 (.inl rfl) rfl (by decide) (by simp)).mono ?_
          rintro e w6 ⟨rfl, b6⟩
          refine hK _ _ (mb_bb hSW b6) ?_
          clear hSW hWW b6
          clear hK K; (try simp only [Act.put, List.setIfInBounds_toArray, List.set_cons_zero, List.set_cons_succ])
          refine ord_take RD 22 (at_list (by rw [HOP.out]; rfl)) HNS.out HPQ.out (by rw [HOP.out]; kernel_rfl) (by rw [HOP.out]; kernel_rfl) (by rw [HOP.out]; rfl) (fun K hK => ?_); apply Exists.intro; refine ⟨fun W hSW => ?_, hK _ ?_⟩; (focus ((try dsimp only at hSW); exact (trW.quiet_neq (l := sm) (m := digest []) _ _ _ rfl HSD.out (digest_isD []) rfl rfl))); clear hK K; (try simp only [Act.put, List.setIfInBounds_toArray, List.set_cons_zero, List.set_cons_succ])
          rw [HDE.out]
          refine ord_take RD 23 (at_list (by rw [HOP.out]; rfl)) HNS.out HPQ.out (by rw [HOP.out]; kernel_rfl) (by rw [HOP.out]; kernel_rfl) (by rw [HOP.out]; rfl) (fun K hK => ?_); apply Exists.intro; refine ⟨fun W hSW => ?_, hK _ ?_⟩; (focus ((try dsimp only at hSW); go_simp; try with_reducible rfl)); clear hK K; (try simp only [Act.put, List.setIfInBounds_toArray, List.set_cons_zero, List.set_cons_succ])
          refine ord_take RD 24 (at_list (by rw [HOP.out]; rfl)) HNS.out HPQ.out (by rw [HOP.out]; kernel_rfl) (by rw [HOP.out]; kernel_rfl) (by rw [HOP.out]; rfl) (fun K hK => ?_); apply Exists.intro; refine ⟨fun W hSW => ?_, hK _ ?_⟩; (focus ((try dsimp only at hSW); go_simp; try with_reducible rfl)); clear hK K; (try simp only [Act.put, List.setIfInBounds_toArray, List.set_cons_zero, List.set_cons_succ])
          refine ord_done (by rw [HOP.out]; kernel_rfl) (fun W9 hWW hSW => HN.out _ _ ?_); clear HOP HNS HPQ HN RD; (try dsimp only at hSW)
          have B9 := Lib.hid (mb_bb B5.out hSW)
          have L9 := Lib.hid (L5.out.past hSW)
          clear hSW hWW
          go_wp2_with fail
          go_ret
          exact ⟨by rw [HV.out]; rfl, B9.out⟩
      · have HD3 := Lib.hid d3
        have q1 : (sz == 0) = false := by simp [d3]
        (have RD := grows_roads (S := fun x' => Below w5.heap.size w5 x') (fun a b h1 h2 => h2.trans (h1.mono h2.size))); refine region_ord _ Grows RD (Below.drew (Below.refl _ _)) (by kernel_rfl) ?_; intro ops Q' hops hPQ hN; (have HNS : Hid (Region.noSelect ops = true) := Lib.hid (by rw [hops]; kernel_rfl)); (have hsz : ops.size = 25 := (by rw [hops]; rfl)); have HOP := Lib.hid hops; have HPQ := Lib.hid hPQ; have HN := Lib.hid hN; rw [hsz]; clear hops hsz hPQ hN
        refine ord_take RD 0 (at_list (by rw [HOP.out]; rfl)) HNS.out HPQ.out (by rw [HOP.out]; kernel_rfl) (by rw [HOP.out]; kernel_rfl) (by rw [HOP.out]; rfl) (fun K hK => ?_); apply Exists.intro; refine ⟨fun W hSW => ?_, hK _ ?_⟩; (focus ((try dsimp only at hSW); go_simp; try with_reducible rfl)); clear hK K; (try simp only [Act.put, List.setIfInBounds_toArray, List.set_cons_zero, List.set_cons_succ])
        refine ord_take RD 1 (at_list (by rw [HOP.out]; rfl)) HNS.out HPQ.out (by rw [HOP.out]; kernel_rfl) (by rw [HOP.out]; kernel_rfl) (by rw [HOP.out]; rfl) (fun K hK => ?_); apply Exists.intro; refine ⟨fun W hSW => ?_, hK _ ?_⟩; (focus ((try dsimp only at hSW); have y1 : W.cell? ⟨g8, 0, none⟩ = some (.string nm) := (L5.out.past hSW).cell 0; go_simp; try with_reducible rfl)); clear hK K; (try simp only [Act.put, List.setIfInBounds_toArray, List.set_cons_zero, List.set_cons_succ])
        refine ord_one RD 2 (by rw [HOP.out]; kernel_rfl) (at_list (by rw [HOP.out]; rfl)) (by rw [HOP.out]; rfl) (fun W1 hWW hSW K hK => ?_); (try dsimp only at hSW)
        go_simp
        refine (Name_any nm _).mono ?_
        rintro e _ ⟨rfl, rfl⟩
        refine hK _ _ hSW ?_
        clear hSW hWW
        clear hK K; (try simp only [Act.put, List.setIfInBounds_toArray, List.set_cons_zero, List.set_cons_succ])
        rw [HNM.out]
        refine ord_take RD 3 (at_list (by rw [HOP.out]; rfl)) HNS.out HPQ.out (by rw [HOP.out]; kernel_rfl) (by rw [HOP.out]; kernel_rfl) (by rw [HOP.out]; rfl) (fun K hK => ?_); apply Exists.intro; refine ⟨fun W hSW => ?_, hK _ ?_⟩; (focus ((try dsimp only at hSW); go_simp; try with_reducible rfl)); clear hK K; (try simp only [Act.put, List.setIfInBounds_toArray, List.set_cons_zero, List.set_cons_succ])
        refine ord_take RD 4 (at_list (by rw [HOP.out]; rfl)) HNS.out HPQ.out (by rw [HOP.out]; kernel_rfl) (by rw [HOP.out]; kernel_rfl) (by rw [HOP.out]; rfl) (fun K hK => ?_); apply Exists.intro; refine ⟨fun W hSW => ?_, hK _ ?_⟩; (focus ((try dsimp only at hSW); go_simp; try with_reducible rfl)); clear hK K; (try simp only [Act.put, List.setIfInBounds_toArray, List.set_cons_zero, List.set_cons_succ])
        refine ord_take RD 5 (at_list (by rw [HOP.out]; rfl)) HNS.out HPQ.out (by rw [HOP.out]; kernel_rfl) (by rw [HOP.out]; kernel_rfl) (by rw [HOP.out]; rfl) (fun K hK => ?_); apply Exists.intro; refine ⟨fun W hSW => ?_, hK _ ?_⟩; (focus ((try dsimp only at hSW); go_simp; try with_reducible rfl)); clear hK K; (try simp only [Act.put, List.setIfInBounds_toArray, List.set_cons_zero, List.set_cons_succ])
        refine ord_take RD 6 (at_list (by rw [HOP.out]; rfl)) HNS.out HPQ.out (by rw [HOP.out]; kernel_rfl) (by rw [HOP.out]; kernel_rfl) (by rw [HOP.out]; rfl) (fun K hK => ?_); apply Exists.intro; refine ⟨fun W hSW => ?_, hK _ ?_⟩; (focus ((try dsimp only at hSW); have y1 : W.cell? ⟨g8, 1, none⟩ = some (.int .i64 sz) := (L5.out.past hSW).cell 1; go_simp; try with_reducible rfl)); clear hK K; (try simp only [Act.put, List.setIfInBounds_toArray, List.set_cons_zero, List.set_cons_succ])
        refine ord_take RD 7 (at_list (by rw [HOP.out]; rfl)) HNS.out HPQ.out (by rw [HOP.out]; kernel_rfl) (by rw [HOP.out]; kernel_rfl) (by rw [HOP.out]; rfl) (fun K hK => ?_); apply Exists.intro; refine ⟨fun W hSW => ?_, hK _ ?_⟩; (focus ((try dsimp only at hSW); go_simp; try with_reducible rfl)); clear hK K; (try simp only [Act.put, List.setIfInBounds_toArray, List.set_cons_zero, List.set_cons_succ])
        refine ord_take RD 8 (at_list (by rw [HOP.out]; rfl)) HNS.out HPQ.out (by rw [HOP.out]; kernel_rfl) (by rw [HOP.out]; kernel_rfl) (by rw [HOP.out]; rfl) (fun K hK => ?_); apply Exists.intro; refine ⟨fun W hSW => ?_, hK _ ?_⟩; (focus ((try dsimp only at hSW); go_simp; try with_reducible rfl)); clear hK K; (try simp only [Act.put, List.setIfInBounds_toArray, List.set_cons_zero, List.set_cons_succ])
        refine ord_take RD 9 (at_list (by rw [HOP.out]; rfl)) HNS.out HPQ.out (by rw [HOP.out]; kernel_rfl) (by rw [HOP.out]; kernel_rfl) (by rw [HOP.out]; rfl) (fun K hK => ?_); apply Exists.intro; refine ⟨fun W hSW => ?_, hK _ ?_⟩; (focus ((try dsimp only at hSW); go_simp; try with_reducible rfl)); clear hK K; (try simp only [Act.put, List.setIfInBounds_toArray, List.set_cons_zero, List.set_cons_succ])
        refine ord_take RD 10 (at_list (by rw [HOP.out]; rfl)) HNS.out HPQ.out (by rw [HOP.out]; kernel_rfl) (by rw [HOP.out]; kernel_rfl) (by rw [HOP.out]; rfl) (fun K hK => ?_); apply Exists.intro; refine ⟨fun W hSW => ?_, hK _ ?_⟩; (focus ((try dsimp only at hSW); go_simp; try with_reducible rfl)); clear hK K; (try simp only [Act.put, List.setIfInBounds_toArray, List.set_cons_zero, List.set_cons_succ])
        refine ord_take RD 11 (at_list (by rw [HOP.out]; rfl)) HNS.out HPQ.out (by rw [HOP.out]; kernel_rfl) (by rw [HOP.out]; kernel_rfl) (by rw [HOP.out]; rfl) (fun K hK => ?_); apply Exists.intro; refine ⟨fun W hSW => ?_, hK _ ?_⟩; (focus ((try dsimp only at hSW); have y1 : W.cell? ⟨g8, 1, none⟩ = some (.int .i64 sz) := (L5.out.past hSW).cell 1; go_simp; try with_reducible rfl)); clear hK K; (try simp only [Act.put, List.setIfInBounds_toArray, List.set_cons_zero, List.set_cons_succ])
        refine ord_take RD 12 (at_list (by rw [HOP.out]; rfl)) HNS.out HPQ.out (by rw [HOP.out]; kernel_rfl) (by rw [HOP.out]; kernel_rfl) (by rw [HOP.out]; rfl) (fun K hK => ?_); apply Exists.intro; refine ⟨fun W hSW => ?_, hK _ ?_⟩; (focus ((try dsimp only at hSW); go_simp; try with_reducible rfl)); clear hK K; (try simp only [Act.put, List.setIfInBounds_toArray, List.set_cons_zero, List.set_cons_succ])
        refine ord_take RD 13 (at_list (by rw [HOP.out]; rfl)) HNS.out HPQ.out (by rw [HOP.out]; kernel_rfl) (by rw [HOP.out]; kernel_rfl) (by rw [HOP.out]; rfl) (fun K hK => ?_); apply Exists.intro; refine ⟨fun W hSW => ?_, hK _ ?_⟩; (focus ((try dsimp only at hSW); go_simp; try with_reducible rfl)); clear hK K; (try simp only [Act.put, List.setIfInBounds_toArray, List.set_cons_zero, List.set_cons_succ])
        refine ord_take RD 14 (at_list (by rw [HOP.out]; rfl)) HNS.out HPQ.out (by rw [HOP.out]; kernel_rfl) (by rw [HOP.out]; kernel_rfl) (by rw [HOP.out]; rfl) (fun K hK => ?_); apply Exists.intro; refine ⟨fun W hSW => ?_, hK _ ?_⟩; (focus ((try dsimp only at hSW); go_simp; try with_reducible rfl)); clear hK K; (try simp only [Act.put, List.setIfInBounds_toArray, List.set_cons_zero, List.set_cons_succ])
        refine ord_take RD 15 (at_list (by rw [HOP.out]; rfl)) HNS.out HPQ.out (by rw [HOP.out]; kernel_rfl) (by rw [HOP.out]; kernel_rfl) (by rw [HOP.out]; rfl) (fun K hK => ?_); apply Exists.intro; refine ⟨fun W hSW => ?_, hK _ ?_⟩; (focus ((try dsimp only at hSW); go_simp; try with_reducible rfl)); clear hK K; (try simp only [Act.put, List.setIfInBounds_toArray, List.set_cons_zero, List.set_cons_succ])
        refine ord_take RD 16 (at_list (by rw [HOP.out]; rfl)) HNS.out HPQ.out (by rw [HOP.out]; kernel_rfl) (by rw [HOP.out]; kernel_rfl) (by rw [HOP.out]; rfl) (fun K hK => ?_); apply Exists.intro; refine ⟨fun W hSW => ?_, hK _ ?_⟩; (focus ((try dsimp only at hSW); have y1 : W.cell? ⟨g8, 1, none⟩ = some (.int .i64 sz) := (L5.out.past hSW).cell 1; go_simp; try with_reducible rfl)); clear hK K; (try simp only [Act.put, List.setIfInBounds_toArray, List.set_cons_zero, List.set_cons_succ])
        refine ord_take RD 17 (at_list (by rw [HOP.out]; rfl)) HNS.out HPQ.out (by rw [HOP.out]; kernel_rfl) (by rw [HOP.out]; kernel_rfl) (by rw [HOP.out]; rfl) (fun K hK => ?_); apply Exists.intro; refine ⟨fun W hSW => ?_, hK _ ?_⟩; (focus ((try dsimp only at hSW); go_simp; try with_reducible rfl)); clear hK K; (try simp only [Act.put, List.setIfInBounds_toArray, List.set_cons_zero, List.set_cons_succ])
        refine ord_take RD 18 (at_list (by rw [HOP.out]; rfl)) HNS.out HPQ.out (by rw [HOP.out]; kernel_rfl) (by rw [HOP.out]; kernel_rfl) (by rw [HOP.out]; rfl) (fun K hK => ?_); apply Exists.intro; refine ⟨fun W hSW => ?_, hK _ ?_⟩; (focus ((try dsimp only at hSW); go_simp; try with_reducible rfl)); clear hK K; (try simp only [Act.put, List.setIfInBounds_toArray, List.set_cons_zero, List.set_cons_succ])
        refine ord_skip RD 19 (at_list (by rw [HOP.out]; rfl)) HNS.out HPQ.out (by rw [HOP.out]; kernel_rfl) (by rw [HOP.out]; kernel_rfl) (by rw [HOP.out]; rfl) ?_; (try simp only [Act.put, List.setIfInBounds_toArray, List.set_cons_zero, List.set_cons_succ])
        refine ord_skip RD 20 (at_list (by rw [HOP.out]; rfl)) HNS.out HPQ.out (by rw [HOP.out]; kernel_rfl) (by rw [HOP.out]; kernel_rfl) (by rw [HOP.out]; rfl) ?_; (try simp only [Act.put, List.setIfInBounds_toArray, List.set_cons_zero, List.set_cons_succ])
        refine ord_skip RD 21 (at_list (by rw [HOP.out]; rfl)) HNS.out HPQ.out (by rw [HOP.out]; kernel_rfl) (by rw [HOP.out]; kernel_rfl) (by rw [HOP.out]; rfl) ?_; (try simp only [Act.put, List.setIfInBounds_toArray, List.set_cons_zero, List.set_cons_succ])
        refine ord_skip RD 22 (at_list (by rw [HOP.out]; rfl)) HNS.out HPQ.out (by rw [HOP.out]; kernel_rfl) (by rw [HOP.out]; kernel_rfl) (by rw [HOP.out]; rfl) ?_; (try simp only [Act.put, List.setIfInBounds_toArray, List.set_cons_zero, List.set_cons_succ])
        refine ord_take RD 23 (at_list (by rw [HOP.out]; rfl)) HNS.out HPQ.out (by rw [HOP.out]; kernel_rfl) (by rw [HOP.out]; kernel_rfl) (by rw [HOP.out]; rfl) (fun K hK => ?_); apply Exists.intro; refine ⟨fun W hSW => ?_, hK _ ?_⟩; (focus ((try dsimp only at hSW); go_simp; try with_reducible rfl)); clear hK K; (try simp only [Act.put, List.setIfInBounds_toArray, List.set_cons_zero, List.set_cons_succ])
        refine ord_take RD 24 (at_list (by rw [HOP.out]; rfl)) HNS.out HPQ.out (by rw [HOP.out]; kernel_rfl) (by rw [HOP.out]; kernel_rfl) (by rw [HOP.out]; rfl) (fun K hK => ?_); apply Exists.intro; refine ⟨fun W hSW => ?_, hK _ ?_⟩; (focus ((try dsimp only at hSW); go_simp; try with_reducible rfl)); clear hK K; (try simp only [Act.put, List.setIfInBounds_toArray, List.set_cons_zero, List.set_cons_succ])
        refine ord_done (by rw [HOP.out]; kernel_rfl) (fun W9 hWW hSW => HN.out _ _ ?_); clear HOP HNS HPQ HN RD; (try dsimp only at hSW)
        have B9 := Lib.hid (mb_bb B5.out hSW)
        have L9 := Lib.hid (L5.out.past hSW)
        clear hSW hWW
        have y1 : W9.cell? ⟨g8, 1, none⟩ = some (.int .i64 sz) := L9.out.cell 1
        go_wp2_with fail
        go_roundw
        case rel => exact ⟨k + 1, s + sz, HK.out, by go_num, by go_num, HQ2.out, by have := HS2.out; have := HD12.out; omega, HSNO.out ⟨HNM.out, by have := HD12.out; dsimp only; omega, by have := HD12.out; dsimp only; omega, fun h => absurd h HD3.out⟩, B9.out⟩
        case measure => simp [intOf]; have := HK.out; omega
    · have k1 : ¬ (k : Int) < m := by omega
      have HB : Hid (∀ j, j < rs.length → rok (rs.getD j rc0)) := Lib.hid (fun j hj => ho j (by rw [HL.out] at hj; omega))
      have HSS : Hid (s = sumZ rs) := Lib.hid (by rw [hs, List.take_of_length_le (by rw [HL.out]; omega)])
      clear hk hs hs2 ho hlt acc HS2 HOK HS s1 s2
      by_cases c5 : 8192 < s
      · have HV := Lib.hid (vl_sum H16.out HB.out (by rw [← HSS.out]; exact c5))
        go_wp2_with fail
        go_ret
        exact ⟨by rw [HV.out]; rfl, HACC.out⟩
      · have HV := Lib.hid (vl_ok H16.out HB.out (by rw [← HSS.out]; exact c5))
        have HACC0 := Lib.hid HACC.out
        clear HACC
        go_wp2_with fail
        clear c5
        go_loopw [6] (fun iv wy => ∃ i : Nat, i ≤ m ∧ iv = .int .i64 (i : Int) ∧ (∀ j, j < i → ∀ k, k < j → (rs.getD j rc0).nm ≠ (rs.getD k rc0).nm) ∧ Below w.heap.size w wy) (fun iv _ => m - (intOf iv).toNat)
        case atStart => exact ⟨0, Nat.zero_le _, rfl, by intro j hj; omega, HACC0.out⟩
        case round =>
          clear k1
          obtain ⟨i, hi, rfl, hs, acc⟩ := hrel
          rename World => wi
          have HS := Lib.hid hs
          have HACC := Lib.hid acc
          by_cases hlt : i < m
          · obtain ⟨b, off, rfl, hb⟩ := HR.out.h.some (by rw [HL.out]; omega)
            have HI := Lib.hid hlt
            have HC := Lib.hid (fun (w' : World) (hw : Below w.heap.size w w') => (recCell HR.out hlt hw).1)
            have i1 : (i : Int) < m := by omega
            have i0 : 0 ≤ (i : Int) := by omega
            obtain ⟨si, hsi⟩ : ∃ si, (rs.getD i rc0).nm = si := ⟨_, rfl⟩
            rw [hsi] at HC
            have HSI := Lib.hid hsi
            clear hi hs hlt acc hb hsi
            go_wp2_with fail
            go_loopw [7] (fun kv wk => ∃ k : Nat, k ≤ i ∧ kv = .int .i64 (k : Int) ∧ (∀ j, j < k → si ≠ (rs.getD j rc0).nm) ∧ Below w.heap.size w wk) (fun kv _ => i - (intOf kv).toNat)
            case atStart => exact ⟨0, Nat.zero_le _, rfl, by intro j hj; omega, HACC.out⟩
            case round =>
              obtain ⟨k, hk, rfl, hks, acc⟩ := hrel
              rename World => wk
              have HKS := Lib.hid hks
              have HA2 := Lib.hid acc
              by_cases hlt : k < i
              · have k1 : (k : Int) < i := by omega
                have k0 : 0 ≤ (k : Int) := by omega
                have k2 : (k : Int) < m := by omega
                have HK := Lib.hid hlt
                have x1 := HC.out _ acc
                have x2 := (recCell HR.out (k := k) (by have := HI.out; omega) acc).1
                obtain ⟨sk, hsk⟩ : ∃ sk, (rs.getD k rc0).nm = sk := ⟨_, rfl⟩
                rw [hsk] at x2
                have HSK := Lib.hid hsk
                have HEQ := Lib.hid (str_eq sk si)
                clear hk hks hlt hsk acc
                by_cases ce : sk = si
                · have he : (sk.toList == si.toList) = true := by rw [HEQ.out]; exact decide_eq_true ce
                  have HV2 := Lib.hid (tw_at (ss := rnms rs) (i := i) (k := k) (by rw [rnms_len, HL.out]; exact HI.out) HK.out (by rw [rnms_get rs (by rw [HL.out]; exact HI.out), rnms_get rs (by rw [HL.out]; have := HI.out; have := HK.out; omega), HSI.out, HSK.out]; exact ce.symm))
                  clear ce
                  go_wp2_with (go_quiet (fail))
                  go_ret
                  exact ⟨by rw [HV.out, HV2.out]; rfl, by first | exact below_drewN HA2.out _ | exact HA2.out⟩
                · have he : (sk.toList == si.toList) = false := by rw [HEQ.out]; exact decide_eq_false ce
                  have HNE := Lib.hid ce
                  clear ce
                  go_wp2_with (go_quiet (fail))
                  go_roundw
                  case rel =>
                    refine ⟨k + 1, HK.out, by go_num, fun j hj => ?_, by first | exact below_drewN HA2.out _ | exact HA2.out⟩
                    rcases Nat.lt_or_ge j k with h | h
                    · exact HKS.out j h
                    · have : j = k := by omega
                      subst this; rw [HSK.out]; exact fun e => HNE.out e.symm
                  case measure => simp [intOf]; have := HK.out; omega
              · have k1 : ¬ (k : Int) < i := by omega
                have HKE : Hid (k = i) := Lib.hid (by omega)
                clear hk hks hlt acc
                go_wp2_with fail
                go_roundw
                case rel =>
                  refine ⟨i + 1, HI.out, by go_num, fun j hj q hq => ?_, HA2.out⟩
                  rcases Nat.lt_or_ge j i with h | h
                  · exact HS.out j h q hq
                  · have : j = i := by omega
                    subst this; rw [HSI.out]; exact HKS.out q (by rw [HKE.out]; exact hq)
                case measure => simp [intOf]; have := HI.out; omega
          · have i1 : ¬ (i : Int) < m := by omega
            have HV2 := Lib.hid (tw_all (ss := rnms rs) (fun j hj q hq => by
              rw [rnms_len, HL.out] at hj
              rw [rnms_get rs (by rw [HL.out]; exact hj), rnms_get rs (by rw [HL.out]; omega)]
              exact hs j (by omega) q hq))
            clear hi hs hlt acc
            go_wp2_with fail
            go_ret
            exact ⟨by rw [HV.out, HV2.out]; rfl, HACC.out⟩
end Go.Proofs.YtiihafhnaiicoaaDoor.mbW

namespace Go.Proofs.YtiihafhnaiicoaaDoor.mbW
set_option maxRecDepth 100000
open Go.RowKit Go.Proofs.YtiihafhnaiicoaaDoor.base Go.Proofs.YtiihafhnaiicoaaDoor.shP Go.Proofs.YtiihafhnaiicoaaDoor.shW
open Go.Proofs.YtiihafhnaiicoaaDoor.trW (IsD sv zd_isD digest_isD z20_at)
set_option linter.unusedVariables false
set_option linter.unusedSimpArgs false
set_option maxRecDepth 100000
def Fst (rs : List Rc) (s : ByteArray) (k : Nat) : Prop := k < rs.length ∧ (rs.getD k rc0).nm = s ∧ ∀ j, j < k → (rs.getD j rc0).nm ≠ s
open Classical in
noncomputable def fdI (rs : List Rc) (s : ByteArray) : Int := if vlE rs = 0 then (if h : ∃ k, Fst rs s k then (h.choose : Int) else 0) else 0
open Classical in
noncomputable def fdE (rs : List Rc) (s : ByteArray) : Int := if vlE rs = 0 then (if ∃ k, Fst rs s k then 0 else 6) else vlE rs
theorem fst_one {rs : List Rc} {s : ByteArray} {k j : Nat} (h : Fst rs s k) (h2 : Fst rs s j) : k = j := by
  rcases Nat.lt_trichotomy k j with hl | rfl | hl
  · exact absurd h.2.1 (h2.2.2 k hl)
  · rfl
  · exact absurd h2.2.1 (h.2.2 j hl)
theorem fd_bad {rs : List Rc} (s : ByteArray) (h : vlE rs ≠ 0) : fdI rs s = 0 ∧ fdE rs s = vlE rs := by
  unfold fdI fdE
  rw [if_neg h, if_neg h]; exact ⟨rfl, rfl⟩
theorem fd_hit {rs : List Rc} {s : ByteArray} {k : Nat} (h : vlE rs = 0) (hk : Fst rs s k) : fdI rs s = k ∧ fdE rs s = 0 := by
  have he : ∃ k, Fst rs s k := ⟨k, hk⟩
  unfold fdI fdE
  rw [if_pos h, if_pos h, dif_pos he, if_pos he, fst_one he.choose_spec hk]; exact ⟨rfl, rfl⟩
theorem fd_none {rs : List Rc} {s : ByteArray} (h : vlE rs = 0) (hk : ∀ j, j < rs.length → (rs.getD j rc0).nm ≠ s) : fdI rs s = 0 ∧ fdE rs s = 6 := by
  have he : ¬ ∃ k, Fst rs s k := fun ⟨k, h1, h2, _⟩ => hk k h1 h2
  unfold fdI fdE
  rw [if_pos h, if_pos h, dif_neg he, if_neg he]; exact ⟨rfl, rfl⟩
set_option maxHeartbeats 6400000 in
theorem Find_any (rs : List Rc) (s : ByteArray) (P : Option Addr) (m d : Nat) (w : World) (hT : Tab w) (hR : RecB w P m d rs) :
    Calls Tryd.prog 20 #[.slice P m d, .string s] w fun e w' => e = .returned (.tuple #[.int .i64 (fdI rs s), .int .i64 (fdE rs s)]) ∧ Below w.heap.size w w' := by
  have m9 : (m : Int) ≤ 9223372036854775807 := by have := hR.c1; have := hR.c2; omega
  have HR := Lib.hid hR
  have HL := Lib.hid hR.l
  go_enter Tryd.func20, Tryd.ntmps20
  go_wp2_with fail
  refine (Valid_any rs P m d w hT hR).mono ?_
  rintro e w1 ⟨rfl, b1⟩
  clear hR hT
  have B1 := Lib.hid b1
  have HR1 := Lib.hid (HR.out.below b1 (Nat.le_refl _))
  clear b1
  rcases vl_cases rs with hc | hc
  case inr =>
    have HC : Hid (vlE rs ≠ 0) := Lib.hid (by omega)
    have HF := Lib.hid (fd_bad s HC.out)
    rcases hc with hc | hc | hc <;>
    · rw [hc] at HF ⊢
      clear hc
      go_wp2_with fail
      go_ret2
      exact ⟨by rw [HF.out.1, HF.out.2]; rfl, B1.out⟩
  case inl =>
    have HC := Lib.hid hc
    have HZ := Lib.hid (vl_zero hc).1
    rw [hc]
    clear hc
    go_wp2_with fail
    go_loopw [16] (fun iv wq => ∃ k : Nat, k ≤ m ∧ iv = .int .i64 (k : Int) ∧ (∀ j, j < k → (rs.getD j rc0).nm ≠ s) ∧ Below w.heap.size w wq) (fun iv _ => m - (intOf iv).toNat)
    case atStart => exact ⟨0, Nat.zero_le _, rfl, by intro j hj; omega, B1.out⟩
    case round =>
      clear B1 HR1
      obtain ⟨k, hk, rfl, hs, acc⟩ := hrel
      rename World => wq
      have HS := Lib.hid hs
      have HACC := Lib.hid acc
      by_cases hlt : k < m
      · obtain ⟨b, off, rfl, hb⟩ := HR.out.h.some (by rw [HL.out]; omega)
        have RX := Lib.hid ((HR.out.h.past acc).rng (i := k) (by rw [HL.out]; exact hlt))
        have HK := Lib.hid hlt
        have HFS : Hid ((rs.getD k rc0).nm = s → Fst rs s k) := Lib.hid (fun h => ⟨by rw [HL.out]; exact hlt, h, hs⟩)
        have HNO : Hid ((rs.getD k rc0).nm ≠ s → ∀ j, j < k + 1 → (rs.getD j rc0).nm ≠ s) := Lib.hid (fun h j hj => by
          rcases Nat.lt_or_ge j k with h' | h'
          · exact hs j h'
          · have : j = k := by omega
            subst this; exact h)
        have k1 : (k : Int) < m := by omega
        have k0 : 0 ≤ (k : Int) := by omega
        have hd0 : RE.d = rc0 := rfl
        rw [hd0] at RX
        generalize rs.getD k rc0 = q at *
        obtain ⟨nm, sz, sm⟩ := q
        clear hd0
        dsimp only at HFS HNO
        have LZ := Lib.hid (z22_at wq rfl)
        have HGG := Lib.hid (mb_new wq (.cells #[.string ⟨#[]⟩, .int .i64 0, .int .u8 0, .int .u8 0, .int .u8 0, .int .u8 0, .int .u8 0, .int .u8 0, .int .u8 0, .int .u8 0, .int .u8 0, .int .u8 0, .int .u8 0, .int .u8 0, .int .u8 0, .int .u8 0, .int .u8 0, .int .u8 0, .int .u8 0, .int .u8 0, .int .u8 0, .int .u8 0] 54))
        have HEQ := Lib.hid (str_eq nm s)
        clear hk hs hlt acc hb
        go_upto_region 7 with (first | (show wpList _ _ _ ({ dst := _, op := Op.load 54 _, type := _, pos := _, after := _, guard := _ } :: _) _ _; go_must (refine Enc.wp_ld RE (x := ⟨nm, sz, sm⟩) (P := Tryd.prog) Tryd.underlying54 rfl info22 (by rfl) _ rfl (RX.out) rfl ?_)) | (show wpList _ _ _ ({ dst := none, op := Op.store 54 (.tmp 8) _, type := _, pos := _, after := _, guard := _ } :: _) _ _; go_must (refine Enc.wp_st RE (g := wq.heap.size) (P := Tryd.prog) info22 (by rfl) _ _ rfl (LZ.out) rfl rfl ?_); intro w5 hR5 hg5 hb5 hz5))
        have BQ := HGG.out.trans hb5
        have B5 := Lib.hid (mb_bb HACC.out BQ)
        have y0 : w5.cell? ⟨wq.heap.size, 0, none⟩ = some (.string nm) := hR5.cell 0
        clear BQ hR5 hg5 hb5 hz5 HACC HGG LZ RX
        by_cases ce : nm = s
        · have he : (nm.toList == s.toList) = true := by rw [HEQ.out]; exact decide_eq_true ce
          have HF := Lib.hid (fd_hit HC.out (HFS.out ce))
          clear ce
          go_wp2_with fail
          go_ret2
          exact ⟨by rw [HF.out.1, HF.out.2]; rfl, B5.out⟩
        · have he : (nm.toList == s.toList) = false := by rw [HEQ.out]; exact decide_eq_false ce
          have HN2 := Lib.hid (HNO.out ce)
          clear ce
          go_wp2_with fail
          go_roundw
          case rel => exact ⟨k + 1, HK.out, by go_num, HN2.out, B5.out⟩
          case measure => simp [intOf]; have := HK.out; omega
      · have k1 : ¬ (k : Int) < m := by omega
        have HF := Lib.hid (fd_none HC.out (s := s) (fun j hj => hs j (by rw [HL.out] at hj; omega)))
        clear hk hs hlt acc
        go_wp2_with fail
        go_ret2
        exact ⟨by rw [HF.out.1, HF.out.2]; rfl, HACC.out⟩
set_option maxHeartbeats 6400000 in
theorem rFind_any (rs : List Rc) (s : ByteArray) (P : Option Addr) (m d : Nat) (w : World) (hR : RecB w P m d rs) :
    Calls Tryd.prog 21 #[.slice P m d, .string s] w fun e w' => e = .returned (.tuple #[.int .i64 (fdI rs s), .int .i64 (fdE rs s)]) ∧ Below w.heap.size w w' := by
  have m9 : (m : Int) ≤ 9223372036854775807 := by have := hR.c1; have := hR.c2; omega
  have HR := Lib.hid hR
  have HL := Lib.hid hR.l
  go_enter Tryd.func21, Tryd.ntmps21
  go_wp2_with fail
  refine (rValid_any rs P m d w hR).mono ?_
  rintro e w1 ⟨rfl, b1⟩
  clear hR
  have B1 := Lib.hid b1
  have HR1 := Lib.hid (HR.out.below b1 (Nat.le_refl _))
  clear b1
  rcases vl_cases rs with hc | hc
  case inr =>
    have HC : Hid (vlE rs ≠ 0) := Lib.hid (by omega)
    have HF := Lib.hid (fd_bad s HC.out)
    have HRV := Lib.hid (rValid_any rs P m d w1 HR1.out)
    rcases hc with hc | hc | hc <;>
    · rw [hc] at HF HRV ⊢
      clear hc
      go_wp2_with fail
      refine HRV.out.mono ?_
      rintro e w2 ⟨rfl, b2⟩
      have B2 := Lib.hid (mb_bb B1.out b2)
      clear b2
      go_wp2_with fail
      go_ret2
      exact ⟨by rw [HF.out.1, HF.out.2]; rfl, B2.out⟩
  case inl =>
    have HC := Lib.hid hc
    rw [hc]
    clear hc
    go_wp2_with fail
    go_loopw [6] (fun iv wq => ∃ k : Nat, k ≤ m ∧ iv = .int .i64 (k : Int) ∧ (∀ j, j < k → (rs.getD j rc0).nm ≠ s) ∧ Below w.heap.size w wq) (fun iv _ => m - (intOf iv).toNat)
    case atStart => exact ⟨0, Nat.zero_le _, rfl, by intro j hj; omega, B1.out⟩
    case round =>
      clear B1 HR1
      obtain ⟨k, hk, rfl, hs, acc⟩ := hrel
      rename World => wq
      have HS := Lib.hid hs
      have HACC := Lib.hid acc
      by_cases hlt : k < m
      · obtain ⟨b, off, rfl, hb⟩ := HR.out.h.some (by rw [HL.out]; omega)
        obtain ⟨y0, _⟩ := recCell HR.out hlt acc
        have HK := Lib.hid hlt
        have HFS : Hid ((rs.getD k rc0).nm = s → Fst rs s k) := Lib.hid (fun h => ⟨by rw [HL.out]; exact hlt, h, hs⟩)
        have HNO : Hid ((rs.getD k rc0).nm ≠ s → ∀ j, j < k + 1 → (rs.getD j rc0).nm ≠ s) := Lib.hid (fun h j hj => by
          rcases Nat.lt_or_ge j k with h' | h'
          · exact hs j h'
          · have : j = k := by omega
            subst this; exact h)
        have k1 : (k : Int) < m := by omega
        have k0 : 0 ≤ (k : Int) := by omega
        generalize (rs.getD k rc0).nm = nm at *
        have HEQ := Lib.hid (str_eq nm s)
        clear hk hs hlt acc hb
        by_cases ce : nm = s
        · have he : (nm.toList == s.toList) = true := by rw [HEQ.out]; exact decide_eq_true ce
          have HF := Lib.hid (fd_hit HC.out (HFS.out ce))
          clear ce
          go_wp2_with fail
          go_ret2
          exact ⟨by rw [HF.out.1, HF.out.2]; rfl, HACC.out⟩
        · have he : (nm.toList == s.toList) = false := by rw [HEQ.out]; exact decide_eq_false ce
          have HN2 := Lib.hid (HNO.out ce)
          clear ce
          go_wp2_with fail
          go_roundw
          case rel => exact ⟨k + 1, HK.out, by go_num, HN2.out, HACC.out⟩
          case measure => simp [intOf]; have := HK.out; omega
      · have k1 : ¬ (k : Int) < m := by omega
        have HF := Lib.hid (fd_none HC.out (s := s) (fun j hj => hs j (by rw [HL.out] at hj; omega)))
        clear hk hs hlt acc
        go_wp2_with fail
        go_ret2
        exact ⟨by rw [HF.out.1, HF.out.2]; rfl, HACC.out⟩
end Go.Proofs.YtiihafhnaiicoaaDoor.mbW

namespace Go.Proofs.YtiihafhnaiicoaaDoor.mbW
set_option maxRecDepth 100000
open Go.RowKit Go.Proofs.YtiihafhnaiicoaaDoor.base Go.Proofs.YtiihafhnaiicoaaDoor.shP Go.Proofs.YtiihafhnaiicoaaDoor.shW
open Go.Proofs.YtiihafhnaiicoaaDoor.trW (IsD sv zd_isD digest_isD z20_at)
set_option linter.unusedVariables false
set_option linter.unusedSimpArgs false
set_option maxRecDepth 100000
open Classical in
noncomputable def rtB (r : Rc) (q : Mb) : Bool := if vlE [r] = 0 then decide (r = recOf q) else false
theorem rt_bad {r : Rc} (q : Mb) (h : vlE [r] ≠ 0) : rtB r q = false := by unfold rtB; rw [if_neg h]
open Classical in
theorem rt_no {r : Rc} {q : Mb} (h : r ≠ recOf q) : rtB r q = false := by
  unfold rtB
  split
  · exact decide_eq_false h
  · rfl
open Classical in
theorem rt_yes {r : Rc} {q : Mb} (h : vlE [r] = 0) (h2 : r = recOf q) : rtB r q = true := by unfold rtB; rw [if_pos h]; exact decide_eq_true h2
theorem recB1 {w : World} {r : Rc} {g : Nat} (hg : w.heap.size = g) (hz : -9223372036854775808 ≤ r.sz ∧ r.sz ≤ 9223372036854775807) (hd : IsD r.sum) : RecB (w.alloc (.cells (rcE r).toArray 54)) (some ⟨g, 0, none⟩) 1 1 [r] := by
  refine ⟨litR_has w r hg, rfl, Nat.le_refl _, by omega, ?_, ?_⟩
  · intro x hx
    simp only [List.mem_cons, List.not_mem_nil, or_false] at hx
    subst hx; exact hz
  · intro x hx
    simp only [List.mem_cons, List.not_mem_nil, or_false] at hx
    subst hx; exact hd
set_option maxHeartbeats 6400000 in
theorem Right_any (r : Rc) (q : Mb) (w : World) (hT : Tab w) (hz : -9223372036854775808 ≤ r.sz ∧ r.sz ≤ 9223372036854775807) (hd : IsD r.sum) (hq : InR w q.r) (hn : q.r.n ≤ 20000) :
    Calls Tryd.prog 24 #[.agg (RE.enc r).toArray, .agg #[.string q.nm, .slice q.r.A q.r.n q.r.c]] w fun e w' => e = .returned (.tuple #[.bool (rtB r q), .int .i64 (vlE [r])]) ∧ Below w.heap.size w w' := by
  have HB := Lib.hid (fun h => rt_bad (r := r) q h)
  have HNO := Lib.hid (fun h => rt_no (r := r) (q := q) h)
  have HYE := Lib.hid (fun h h2 => rt_yes (r := r) (q := q) h h2)
  have HZ := Lib.hid hz
  have HD := Lib.hid hd
  have HQ := Lib.hid hq
  have HN := Lib.hid hn
  have HT := Lib.hid hT
  obtain ⟨nm2, A, n, c, b⟩ := q
  dsimp only at HNO HYE HQ HN HB
  have r9 : (n : Int) ≤ 20000 := by have := HN.out; omega
  have G1 := mb_new w (.cells (RE.enc r).toArray 54)
  have G2 := mb_new (w.alloc (.cells (RE.enc r).toArray 54)) (.cells #[.string nm2, .slice A n c] 37)
  have S1 : (w.alloc (.cells (RE.enc r).toArray 54)).heap.size = w.heap.size + 1 := by simp
  have L1 := Lib.hid ((Lies.fresh w 54 (RE.enc r)).past G2)
  have L2 : Hid (Lies ((w.alloc (.cells (RE.enc r).toArray 54)).alloc (.cells #[.string nm2, .slice A n c] 37)) (w.heap.size + 1) 37 [.string nm2, .slice A n c]) := Lib.hid (Lies.fresh_at (cs := [.string nm2, .slice A n c]) S1)
  have B0 := Lib.hid (mb_bb G1 G2)
  clear hz hd hq hn hT G1 G2 S1
  go_enter Tryd.func24, Tryd.ntmps24
  go_upto_region 1 with fail
  generalize ((w.alloc (.cells (RE.enc r).toArray 54)).alloc (.cells #[.string nm2, .slice A n c] 37)) = w0 at *
  have RV := Lib.hid (Valid_any [r] (some ⟨w0.heap.size, 0, none⟩) 1 1 (w0.alloc (.cells (rcE r).toArray 54)) (HT.out.below (mb_bb B0.out (mb_new w0 _)) (Nat.le_refl _)) (recB1 rfl HZ.out HD.out))
  have B1 := Lib.hid (mb_bb B0.out (mb_new w0 (.cells (rcE r).toArray 54)))
  have L1' := Lib.hid (L1.out.past (mb_new w0 (.cells (rcE r).toArray 54)))
  have L2' := Lib.hid (L2.out.past (mb_new w0 (.cells (rcE r).toArray 54)))
  go_wp2_with (first | (show wpList _ _ _ ({ dst := _, op := Op.load 54 _, type := _, pos := _, after := _, guard := _ } :: _) _ _; go_must (refine Enc.wp_ld RE (x := r) (P := Tryd.prog) Tryd.underlying54 rfl info22 (by rfl) _ rfl (trW.rng_lies L1.out) rfl ?_)) | (show wpList _ _ _ ({ dst := _, op := Op.buildSlice 25 1 _, type := _, pos := _, after := _, guard := _ } :: _) _ _; go_must (refine wp_litR (r := r) (by rfl) _ rfl rfl ?_)))
  generalize (w0.alloc (.cells (rcE r).toArray 54)) = w1 at *
  refine RV.out.mono ?_
  rintro e w2 ⟨rfl, b2⟩
  have B2 := Lib.hid (mb_bb B1.out b2)
  have L3 := Lib.hid (L1'.out.past b2)
  have L4 := Lib.hid (L2'.out.past b2)
  clear b2 B0 B1 L1 L2 L1' L2' RV
  rcases vl_cases [r] with hc | hc
  case inr =>
    have HC : Hid (vlE [r] ≠ 0) := Lib.hid (by omega)
    have HF := Lib.hid (HB.out HC.out)
    rcases hc with hc | hc | hc <;>
    · have HCC := Lib.hid hc
      rw [hc]
      clear hc
      go_wp2_with fail
      go_ret2
      exact ⟨by rw [HF.out, HCC.out]; rfl, B2.out⟩
  have HC := Lib.hid hc
  rw [hc]
  clear hc HB
  obtain ⟨nm, sz, sm⟩ := r
  dsimp only at HZ HD
  have z1 := HZ.out.1
  have z2 := HZ.out.2
  have y0 : w2.cell? ⟨w.heap.size, 0, none⟩ = some (.string nm) := L3.out.cell 0
  have y1 : w2.cell? ⟨w.heap.size, 1, none⟩ = some (.int .i64 sz) := L3.out.cell 1
  have x0 : w2.cell? ⟨w.heap.size + 1, 0, none⟩ = some (.string nm2) := L4.out.cell 0
  have x1 : w2.cell? ⟨w.heap.size + 1, 1, none⟩ = some (.slice A n c) := L4.out.cell 1
  have HEQ := Lib.hid (str_eq nm nm2)
  by_cases ce : nm = nm2
  · have he : (nm.toList == nm2.toList) = true := by rw [HEQ.out]; exact decide_eq_true ce
    by_cases cz : sz = n
    · subst ce
      subst cz
      clear he HEQ
      have he : (nm.toList == nm.toList) = true := beq_self_eq_true _
      go_wp2_with fail
      refine (Sum_any b A n c w2 (HT.out.below B2.out (Nat.le_refl _)) (HQ.out.h.below B2.out (Nat.le_refl _)) HQ.out.e HQ.out.c1 (by have := HN.out; omega) HQ.out.b).mono ?_
      rintro e w3 ⟨rfl, b3⟩
      have hb2 : b.length ≤ 20000 := by have h1 := HQ.out.e; have h2 := HN.out; dsimp only at h1; omega
      rw [(sum_okk hb2).1, (sum_okk hb2).2]
      clear hb2
      have HDB := Lib.hid (digest_isD b)
      have HRC : Hid (recOf ⟨nm, A, n, c, b⟩ = ⟨nm, (n : Int), digest b⟩) := Lib.hid rfl
      rw [HRC.out] at HYE HNO
      obtain ⟨dg, hdg⟩ : ∃ dg, digest b = dg := ⟨_, rfl⟩
      rw [hdg] at HDB HYE HNO ⊢
      clear hdg HRC
      have B3 := Lib.hid (mb_bb B2.out b3)
      have L5 := Lib.hid (L3.out.past b3)
      clear b3 L3 L4 B2 x0 x1 y0 y1
      have Y := Lib.hid (z20_at w3 rfl)
      have G := mb_new w3 (.cells #[.int .u8 0, .int .u8 0, .int .u8 0, .int .u8 0, .int .u8 0, .int .u8 0, .int .u8 0, .int .u8 0, .int .u8 0, .int .u8 0, .int .u8 0, .int .u8 0, .int .u8 0, .int .u8 0, .int .u8 0, .int .u8 0, .int .u8 0, .int .u8 0, .int .u8 0, .int .u8 0] 52)
      have LE := Lib.hid B3.out.size
      have B4 := Lib.hid (mb_bb B3.out G)
      have L6 := Lib.hid (L5.out.past G)
      have LL := Lib.hid L5.out.lt
      clear G B3 L5
      by_cases ce : sm = dg
      · subst ce
        have HF := Lib.hid (HYE.out HC.out rfl)
        go_wp2_with (first | (show wpList _ _ _ ({ dst := none, op := Op.store 52 (.tmp 7) _, type := _, pos := _, after := _, guard := _ } :: _) _ _; go_must (refine trW.wp_st (g := w3.heap.size) (l := sm) (by rfl) _ _ rfl (Y.out) (zd_isD.len) (HD.out.len) rfl rfl ?_); intro w5 hR5 hg5 hb5 hz5; have D5 := Lib.hid hR5; have RS := Lib.hid (rec_sum (L6.out.far hg5 (show w.heap.size ≠ w3.heap.size by have := LL.out; omega)) HD.out.len); have B5 := Lib.hid (B4.out.trans (hb5.mono LE.out)); clear hR5 hg5 hb5 hz5 L6 B4 Y) | (show wpList _ _ _ ({ dst := _, op := Op.load 52 (.tmp 37), type := _, pos := _, after := _, guard := _ } :: _) _ _; go_must (refine trW.wp_ld (l := sm) (by rfl) _ rfl (RS.out) (HD.out.len) rfl ?_)) | (show wpList _ _ _ ({ dst := _, op := Op.load 52 (.tmp 7), type := _, pos := _, after := _, guard := _ } :: _) _ _; go_must (refine trW.wp_l0 (l := sm) (by rfl) _ rfl (D5.out) (HD.out.len) rfl ?_)) | (show wpList _ _ _ ({ dst := _, op := Op.binOp .eql 52 _ _ _, type := _, pos := _, after := _, guard := _ } :: _) _ _; refine trW.wp_eql (l := sm) (m := sm) (by rfl) _ _ _ rfl HD.out HD.out rfl rfl ?_; rw [decide_eq_true (Eq.refl sm)]))
        go_ret2
        exact ⟨by rw [HF.out, HC.out]; rfl, B5.out⟩
      · have HF := Lib.hid (HNO.out (fun e => ce (by injection e)))
        have HE := Lib.hid ce
        clear ce
        go_wp2_with (first | (show wpList _ _ _ ({ dst := none, op := Op.store 52 (.tmp 7) _, type := _, pos := _, after := _, guard := _ } :: _) _ _; go_must (refine trW.wp_st (g := w3.heap.size) (l := dg) (by rfl) _ _ rfl (Y.out) (zd_isD.len) (HDB.out.len) rfl rfl ?_); intro w5 hR5 hg5 hb5 hz5; have D5 := Lib.hid hR5; have RS := Lib.hid (rec_sum (L6.out.far hg5 (show w.heap.size ≠ w3.heap.size by have := LL.out; omega)) HD.out.len); have B5 := Lib.hid (B4.out.trans (hb5.mono LE.out)); clear hR5 hg5 hb5 hz5 L6 B4 Y) | (show wpList _ _ _ ({ dst := _, op := Op.load 52 (.tmp 37), type := _, pos := _, after := _, guard := _ } :: _) _ _; go_must (refine trW.wp_ld (l := sm) (by rfl) _ rfl (RS.out) (HD.out.len) rfl ?_)) | (show wpList _ _ _ ({ dst := _, op := Op.load 52 (.tmp 7), type := _, pos := _, after := _, guard := _ } :: _) _ _; go_must (refine trW.wp_l0 (l := dg) (by rfl) _ rfl (D5.out) (HDB.out.len) rfl ?_)) | (show wpList _ _ _ ({ dst := _, op := Op.binOp .eql 52 _ _ _, type := _, pos := _, after := _, guard := _ } :: _) _ _; refine trW.wp_eql (l := sm) (m := dg) (by rfl) _ _ _ rfl HD.out HDB.out rfl rfl ?_; rw [decide_eq_false HE.out]))
        go_ret2
        exact ⟨by rw [HF.out, HC.out]; rfl, B5.out⟩
    · have q1 : (sz == (n : Int)) = false := by simp [cz]
      have HF := Lib.hid (HNO.out (fun e => cz (by injection e)))
      go_wp2_with fail
      go_ret2
      exact ⟨by rw [HF.out, HC.out]; rfl, B2.out⟩
  · have he : (nm.toList == nm2.toList) = false := by rw [HEQ.out]; exact decide_eq_false ce
    have HF := Lib.hid (HNO.out (fun e => ce (by injection e)))
    clear ce
    go_wp2_with fail
    go_ret2
    exact ⟨by rw [HF.out, HC.out]; rfl, B2.out⟩
end Go.Proofs.YtiihafhnaiicoaaDoor.mbW

namespace Go.Proofs.YtiihafhnaiicoaaDoor.mbW
set_option maxRecDepth 100000
open Go.RowKit Go.Proofs.YtiihafhnaiicoaaDoor.base Go.Proofs.YtiihafhnaiicoaaDoor.shP Go.Proofs.YtiihafhnaiicoaaDoor.shW
open Go.Proofs.YtiihafhnaiicoaaDoor.trW (IsD sv zd_isD digest_isD z20_at)
set_option linter.unusedVariables false
set_option linter.unusedSimpArgs false
set_option maxRecDepth 100000
open Classical in
theorem quiet_req {o : Oper} {a : Act} {w : World} {C : World → Prop} {l m : Rc} (x y : Operand) (t : TypeId) (ho : o.op = .binOp .eql 54 x y t) (hl : RcOk l) (hm : RcOk m)
    (hx : a.eval x = .agg (rcE l).toArray) (hy : a.eval y = .agg (rcE m).toArray) : Oper.quietAt Tryd.prog o a C w (.bool (decide (l = m))) := by
  unfold Oper.quietAt execOp
  simp only [ho, hx, hy, Sem.run_bind, Sem.run_pure, run_eql_struct, run_eqGuard_agg _ _ _ _ _ _ _ (show Tryd.prog.eqGuardType Tryd.prog.depth 54 = false by kernel_rfl), eq_rec hl hm, Result.andThen_ok]
  exact ⟨rfl, rfl⟩
open Classical in
set_option maxHeartbeats 6400000 in
theorem rRight_any (r : Rc) (q : Mb) (w : World) (hz : -9223372036854775808 ≤ r.sz ∧ r.sz ≤ 9223372036854775807) (hd : IsD r.sum) (hq : InR w q.r) (hn : q.r.n ≤ 20000) (hqn : q.nm.size ≤ 9223372036854775807) :
    Calls Tryd.prog 25 #[.agg (RE.enc r).toArray, .agg #[.string q.nm, .slice q.r.A q.r.n q.r.c]] w fun e w' => e = .returned (.tuple #[.bool (rtB r q), .int .i64 (vlE [r])]) ∧ Below w.heap.size w w' := by
  have HB := Lib.hid (fun h => rt_bad (r := r) q h)
  have HNO := Lib.hid (fun h => rt_no (r := r) (q := q) h)
  have HYE := Lib.hid (fun h h2 => rt_yes (r := r) (q := q) h h2)
  have HZ := Lib.hid hz
  have HD := Lib.hid hd
  have HQ := Lib.hid hq
  have HN := Lib.hid hn
  have HQN := Lib.hid hqn
  obtain ⟨nm2, A, n, c, b⟩ := q
  dsimp only at HNO HYE HQ HN HB HQN
  have r9 : (n : Int) ≤ 20000 := by have := HN.out; omega
  have HOK2 : Hid (RcOk ⟨nm2, (n : Int), digest b⟩) := Lib.hid ⟨by have := HQN.out; unfold maxLen; dsimp only; omega, by dsimp only; omega, digest_isD b⟩
  have HRC : Hid (recOf ⟨nm2, A, n, c, b⟩ = ⟨nm2, (n : Int), digest b⟩) := Lib.hid rfl
  rw [HRC.out] at HYE HNO
  have G1 := mb_new w (.cells (RE.enc r).toArray 54)
  have G2 := mb_new (w.alloc (.cells (RE.enc r).toArray 54)) (.cells #[.string nm2, .slice A n c] 37)
  have S1 : (w.alloc (.cells (RE.enc r).toArray 54)).heap.size = w.heap.size + 1 := by simp
  have L1 := Lib.hid ((Lies.fresh w 54 (RE.enc r)).past G2)
  have L2 : Hid (Lies ((w.alloc (.cells (RE.enc r).toArray 54)).alloc (.cells #[.string nm2, .slice A n c] 37)) (w.heap.size + 1) 37 [.string nm2, .slice A n c]) := Lib.hid (Lies.fresh_at (cs := [.string nm2, .slice A n c]) S1)
  have B0 := Lib.hid (mb_bb G1 G2)
  clear hz hd hq hn hqn G1 G2 S1
  go_enter Tryd.func25, Tryd.ntmps25
  go_upto_region 1 with fail
  generalize ((w.alloc (.cells (RE.enc r).toArray 54)).alloc (.cells #[.string nm2, .slice A n c] 37)) = w0 at *
  have RV := Lib.hid (rValid_any [r] (some ⟨w0.heap.size, 0, none⟩) 1 1 (w0.alloc (.cells (rcE r).toArray 54)) (recB1 rfl HZ.out HD.out))
  have B1 := Lib.hid (mb_bb B0.out (mb_new w0 (.cells (rcE r).toArray 54)))
  have L1' := Lib.hid (L1.out.past (mb_new w0 (.cells (rcE r).toArray 54)))
  have L2' := Lib.hid (L2.out.past (mb_new w0 (.cells (rcE r).toArray 54)))
  go_wp2_with (first | (show wpList _ _ _ ({ dst := _, op := Op.load 54 _, type := _, pos := _, after := _, guard := _ } :: _) _ _; go_must (refine Enc.wp_ld RE (x := r) (P := Tryd.prog) Tryd.underlying54 rfl info22 (by rfl) _ rfl (trW.rng_lies L1.out) rfl ?_)) | (show wpList _ _ _ ({ dst := _, op := Op.buildSlice 25 1 _, type := _, pos := _, after := _, guard := _ } :: _) _ _; go_must (refine wp_litR (r := r) (by rfl) _ rfl rfl ?_)))
  generalize (w0.alloc (.cells (rcE r).toArray 54)) = w1 at *
  refine RV.out.mono ?_
  rintro e w2 ⟨rfl, b2⟩
  have B2 := Lib.hid (mb_bb B1.out b2)
  have L3 := Lib.hid (L1'.out.past b2)
  have L4 := Lib.hid (L2'.out.past b2)
  clear b2 B0 B1 L1 L2 L1' L2' RV
  rcases vl_cases [r] with hc | hc
  case inr =>
    have HC : Hid (vlE [r] ≠ 0) := Lib.hid (by omega)
    have HF := Lib.hid (HB.out HC.out)
    rcases hc with hc | hc | hc <;>
    · have HCC := Lib.hid hc
      rw [hc]
      clear hc
      go_wp2_with fail
      go_ret2
      exact ⟨by rw [HF.out, HCC.out]; rfl, B2.out⟩
  have HC := Lib.hid hc
  rw [hc]
  have HOK1 : Hid (RcOk r) := Lib.hid (by
    have h1 := (vl_zero hc).2.1 0 (by simp)
    have h2 := nm_size h1.1
    refine ⟨by unfold maxLen; have h3 := h2.2; change r.nm.size ≤ 40 at h3; omega, HZ.out, HD.out⟩)
  clear hc HB
  have HRT : Hid (rtB r ⟨nm2, A, n, c, b⟩ = decide ((⟨nm2, (n : Int), digest b⟩ : Rc) = r)) := Lib.hid (by
    by_cases h : r = ⟨nm2, (n : Int), digest b⟩
    · rw [HYE.out HC.out h]; exact (decide_eq_true h.symm).symm
    · rw [HNO.out h]; exact (decide_eq_false (fun e => h e.symm)).symm)
  go_upto_region 4 with fail
  (have RD := grows_roads (S := fun x' => Below w2.heap.size w2 x') (fun a b h1 h2 => h2.trans (h1.mono h2.size))); refine region_ord _ Grows RD (Below.drew (Below.refl _ _)) (by kernel_rfl) ?_; intro ops Q' hops hPQ hN; (have HNS : Hid (Region.noSelect ops = true) := Lib.hid (by rw [hops]; kernel_rfl)); (have hsz : ops.size = 6 := (by rw [hops]; rfl)); have HOP := Lib.hid hops; have HPQ := Lib.hid hPQ; have HN := Lib.hid hN; rw [hsz]; clear hops hsz hPQ hN
  refine ord_take RD 0 (at_list (by rw [HOP.out]; rfl)) HNS.out HPQ.out (by rw [HOP.out]; kernel_rfl) (by rw [HOP.out]; kernel_rfl) (by rw [HOP.out]; rfl) (fun K hK => ?_); apply Exists.intro; refine ⟨fun W hSW => ?_, hK _ ?_⟩; (focus ((try dsimp only at hSW); have x0 : W.cell? ⟨w.heap.size + 1, 0, none⟩ = some (.string nm2) := (L4.out.past hSW).cell 0; have x1 : W.cell? ⟨w.heap.size + 1, 1, none⟩ = some (.slice A n c) := (L4.out.past hSW).cell 1; go_simp; try with_reducible rfl)); clear hK K; (try simp only [Act.put, List.setIfInBounds_toArray, List.set_cons_zero, List.set_cons_succ])
  refine ord_take RD 2 (at_list (by rw [HOP.out]; rfl)) HNS.out HPQ.out (by rw [HOP.out]; kernel_rfl) (by rw [HOP.out]; kernel_rfl) (by rw [HOP.out]; rfl) (fun K hK => ?_); apply Exists.intro; refine ⟨fun W hSW => ?_, hK _ ?_⟩; (focus ((try dsimp only at hSW); exact Enc.quiet_ld RE (x := r) (P := Tryd.prog) Tryd.underlying54 rfl info22 _ rfl (trW.rng_lies (L3.out.past hSW)) rfl)); clear hK K; (try simp only [Act.put, List.setIfInBounds_toArray, List.set_cons_zero, List.set_cons_succ])
  refine ord_one RD 1 (by rw [HOP.out]; kernel_rfl) (at_list (by rw [HOP.out]; rfl)) (by rw [HOP.out]; rfl) (fun W1 hWW hSW K hK => ?_); (try dsimp only at hSW)
  go_simp
  refine (record_any nm2 A n c b W1 (HQ.out.h.below (mb_bb B2.out hSW) (Nat.le_refl _)) HQ.out.e (by have := HN.out; omega) HQ.out.b).mono ?_
  rintro e w3 ⟨rfl, b3⟩
  refine hK _ _ (mb_bb hSW b3) ?_
  clear hSW hWW b3
  clear hK K; (try simp only [Act.put, List.setIfInBounds_toArray, List.set_cons_zero, List.set_cons_succ])
  refine ord_take RD 3 (at_list (by rw [HOP.out]; rfl)) HNS.out HPQ.out (by rw [HOP.out]; kernel_rfl) (by rw [HOP.out]; kernel_rfl) (by rw [HOP.out]; rfl) (fun K hK => ?_); apply Exists.intro; refine ⟨fun W hSW => ?_, hK _ ?_⟩; (focus ((try dsimp only at hSW); exact (quiet_req (l := ⟨nm2, (n : Int), digest b⟩) (m := r) _ _ _ rfl HOK2.out HOK1.out rfl rfl))); clear hK K; (try simp only [Act.put, List.setIfInBounds_toArray, List.set_cons_zero, List.set_cons_succ])
  refine ord_take RD 4 (at_list (by rw [HOP.out]; rfl)) HNS.out HPQ.out (by rw [HOP.out]; kernel_rfl) (by rw [HOP.out]; kernel_rfl) (by rw [HOP.out]; rfl) (fun K hK => ?_); apply Exists.intro; refine ⟨fun W hSW => ?_, hK _ ?_⟩; (focus ((try dsimp only at hSW); go_simp; try with_reducible rfl)); clear hK K; (try simp only [Act.put, List.setIfInBounds_toArray, List.set_cons_zero, List.set_cons_succ])
  refine ord_take RD 5 (at_list (by rw [HOP.out]; rfl)) HNS.out HPQ.out (by rw [HOP.out]; kernel_rfl) (by rw [HOP.out]; kernel_rfl) (by rw [HOP.out]; rfl) (fun K hK => ?_); apply Exists.intro; refine ⟨fun W hSW => ?_, hK _ ?_⟩; (focus ((try dsimp only at hSW); go_simp; try with_reducible rfl)); clear hK K; (try simp only [Act.put, List.setIfInBounds_toArray, List.set_cons_zero, List.set_cons_succ])
  refine ord_done (by rw [HOP.out]; kernel_rfl) (fun W9 hWW hSW => HN.out _ _ ?_); clear HOP HNS HPQ HN RD; (try dsimp only at hSW)
  have B9 := Lib.hid (mb_bb B2.out hSW)
  clear hSW hWW
  go_wp2_with fail
  go_ret2
  exact ⟨by rw [HRT.out, HC.out]; rfl, B9.out⟩
def GrR (rs : List Rc) (m : Nat) (e : Ending) : Prop := ∃ b : Bool, e = .returned (.bool b) ∧ (b = false → m ≤ 30 ∧ ∀ k, k < m → (rs.getD k rc0).nm.size ≤ 100)
set_option maxHeartbeats 3200000 in
theorem GreatR_any (rs : List Rc) (P : Option Addr) (m d : Nat) (w : World) (hR : RecB w P m d rs) :
    Calls Tryd.prog 17 #[.slice P m d] w fun e w' => GrR rs m e ∧ w' = w := by
  have HR := Lib.hid hR
  have HL := Lib.hid hR.l
  have m1 : (m : Int) ≤ 9223372036854775807 := by have := hR.c1; have := hR.c2; omega
  clear hR
  go_enter Tryd.func17, Tryd.ntmps17
  go_wp2_with fail
  go_loopw [3] (fun iv wr => ∃ k : Nat, k ≤ m ∧ k ≤ 31 ∧ iv = .int .i64 (k : Int) ∧ (∀ j, j < k → (rs.getD j rc0).nm.size ≤ 100) ∧ wr = w) (fun iv _ => m - (intOf iv).toNat)
  case atStart => exact ⟨0, Nat.zero_le _, by omega, rfl, by intro j hj; omega, rfl⟩
  case round =>
    obtain ⟨k, hk, hk31, rfl, hs, rfl⟩ := hrel
    rename World => w
    have HS := Lib.hid hs
    by_cases hlt : k < m
    · have k1 : (k : Int) < m := by omega
      have k0 : 0 ≤ (k : Int) := by omega
      by_cases h30 : k ≤ 30
      · have k3 : (k : Int) ≤ 30 := by omega
        obtain ⟨b, off, rfl, hb⟩ := HR.out.h.some (by rw [HL.out]; omega)
        obtain ⟨x1, _⟩ := recCell HR.out hlt (Below.refl w.heap.size w)
        have HK := Lib.hid (And.intro hlt h30)
        have HSN : Hid ((rs.getD k rc0).nm.size ≤ 100 → ∀ j, j < k + 1 → (rs.getD j rc0).nm.size ≤ 100) := Lib.hid (fun h j hj => by
          rcases Nat.lt_or_ge j k with h' | h'
          · exact HS.out j h'
          · have : j = k := by omega
            subst this; exact h)
        generalize (rs.getD k rc0).nm = nm at *
        clear hk hk31 hs hlt h30
        by_cases c1 : (100 : Int) < nm.size
        · (go_wp2_with fail; go_ret; exact ⟨⟨true, rfl, fun h => by cases h⟩, rfl⟩)
        · have HC := Lib.hid c1
          go_wp2_with fail
          go_roundw
          case rel => exact ⟨k + 1, HK.out.1, by have := HK.out.2; omega, by go_num, HSN.out (by have := HC.out; omega), by trivial⟩
          case measure => simp [intOf]; have := HK.out; omega
      · have k3 : ¬ (k : Int) ≤ 30 := by omega
        have m3 : (30 : Int) < m := by omega
        clear hk hk31 hs hlt h30
        (go_wp2_with fail; go_ret; exact ⟨⟨true, rfl, fun h => by cases h⟩, rfl⟩)
    · have k1 : ¬ (k : Int) < m := by omega
      obtain rfl : k = m := by omega
      by_cases h30 : k ≤ 30
      · have m3 : ¬ (30 : Int) < k := by omega
        have H30 := Lib.hid h30
        clear hk hk31 hs hlt h30
        go_wp2_with fail
        go_ret
        exact ⟨⟨false, rfl, fun _ => ⟨H30.out, HS.out⟩⟩, rfl⟩
      · have m3 : (30 : Int) < k := by omega
        clear hk hk31 hs hlt h30
        (go_wp2_with fail; go_ret; exact ⟨⟨true, rfl, fun h => by cases h⟩, rfl⟩)
end Go.Proofs.YtiihafhnaiicoaaDoor.mbW

namespace Go.Proofs.YtiihafhnaiicoaaDoor.mbW
set_option maxRecDepth 100000
open Go.RowKit Go.Proofs.YtiihafhnaiicoaaDoor.base Go.Proofs.YtiihafhnaiicoaaDoor.shP Go.Proofs.YtiihafhnaiicoaaDoor.shW
set_option linter.unusedVariables false
set_option linter.unusedSimpArgs false
set_option maxRecDepth 100000
def GrM (ms : List Mb) (m : Nat) (e : Ending) : Prop := ∃ b : Bool, e = .returned (.bool b) ∧ (b = false → m ≤ 30 ∧ ∀ k, k < m → (ms.getD k mb0).nm.size ≤ 100 ∧ (ms.getD k mb0).r.n ≤ 10000)
theorem snocG {ms : List Mb} {k : Nat} (h : ∀ j, j < k → (ms.getD j mb0).nm.size ≤ 100 ∧ (ms.getD j mb0).r.n ≤ 10000) {q : Mb} (hq : ms.getD k mb0 = q) (h1 : q.nm.size ≤ 100) (h2 : q.r.n ≤ 10000) : ∀ j, j < k + 1 → (ms.getD j mb0).nm.size ≤ 100 ∧ (ms.getD j mb0).r.n ≤ 10000 := by
  intro j hj
  rcases Nat.lt_or_ge j k with h' | h'
  · exact h j h'
  · have : j = k := by omega
    subst this
    rw [hq]; exact ⟨h1, h2⟩
set_option maxHeartbeats 3200000 in
theorem Great_any (ms : List Mb) (P : Option Addr) (m d : Nat) (w : World) (hR : MemB w P m d ms) :
    Calls Tryd.prog 9 #[.slice P m d] w fun e w' => GrM ms m e ∧ w' = w := by
  have HR := Lib.hid hR
  have HL := Lib.hid hR.l
  have m1 : (m : Int) ≤ 9223372036854775807 := by have := hR.c1; have := hR.c2; omega
  clear hR
  go_enter Tryd.func9, Tryd.ntmps9
  go_wp2_with fail
  go_loopw [3] (fun iv wr => ∃ k : Nat, k ≤ m ∧ k ≤ 31 ∧ iv = .int .i64 (k : Int) ∧ (∀ j, j < k → (ms.getD j mb0).nm.size ≤ 100 ∧ (ms.getD j mb0).r.n ≤ 10000) ∧ wr = w) (fun iv _ => m - (intOf iv).toNat)
  case atStart => exact ⟨0, Nat.zero_le _, by omega, rfl, by intro j hj; omega, rfl⟩
  case round =>
    obtain ⟨k, hk, hk31, rfl, hs, rfl⟩ := hrel
    rename World => w
    have HS := Lib.hid hs
    by_cases hlt : k < m
    · have k1 : (k : Int) < m := by omega
      have k0 : 0 ≤ (k : Int) := by omega
      by_cases h30 : k ≤ 30
      · have k3 : (k : Int) ≤ 30 := by omega
        obtain ⟨b, off, rfl, hb⟩ := HR.out.h.some (by rw [HL.out]; omega)
        obtain ⟨x1, x2⟩ := memCell HR.out hlt (Below.refl w.heap.size w)
        have HMI := Lib.hid (memIn HR.out hlt)
        have HK := Lib.hid (And.intro hlt h30)
        generalize hq : ms.getD k mb0 = q at *
        obtain ⟨nm, rA, rn, rc, rb⟩ := q
        have HQ := Lib.hid hq
        have r9 : (rn : Int) ≤ 9223372036854775807 := by have := HMI.out.c1; have := HMI.out.c2; dsimp only at *; omega
        dsimp only at x1 x2
        clear hk hk31 hs hlt h30 hq HMI
        by_cases c1 : (100 : Int) < nm.size
        · (go_wp2_with fail; go_ret; exact ⟨⟨true, rfl, fun h => by cases h⟩, rfl⟩)
        · by_cases c2 : (10000 : Int) < rn
          · (go_wp2_with fail; go_ret; exact ⟨⟨true, rfl, fun h => by cases h⟩, rfl⟩)
          · have HC := Lib.hid (And.intro c1 c2)
            by_cases c3 : (600 : Int) < rn
            · by_cases c4 : (rn : Int) < 8000
              · (go_wp2_with fail; go_ret; exact ⟨⟨true, rfl, fun h => by cases h⟩, rfl⟩)
              · go_wp2_with fail
                go_roundw
                case rel => exact ⟨k + 1, HK.out.1, by have := HK.out.2; omega, by go_num, snocG HS.out HQ.out (by have := HC.out; dsimp only; omega) (by have := HC.out; dsimp only; omega), by trivial⟩
                case measure => simp [intOf]; have := HK.out; omega
            · go_wp2_with fail
              go_roundw
              case rel => exact ⟨k + 1, HK.out.1, by have := HK.out.2; omega, by go_num, snocG HS.out HQ.out (by have := HC.out; dsimp only; omega) (by have := HC.out; dsimp only; omega), by trivial⟩
              case measure => simp [intOf]; have := HK.out; omega
      · have k3 : ¬ (k : Int) ≤ 30 := by omega
        have m3 : (30 : Int) < m := by omega
        clear hk hk31 hs hlt h30
        (go_wp2_with fail; go_ret; exact ⟨⟨true, rfl, fun h => by cases h⟩, rfl⟩)
    · have k1 : ¬ (k : Int) < m := by omega
      obtain rfl : k = m := by omega
      by_cases h30 : k ≤ 30
      · have m3 : ¬ (30 : Int) < k := by omega
        have H30 := Lib.hid h30
        clear hk hk31 hs hlt h30
        go_wp2_with fail
        go_ret
        exact ⟨⟨false, rfl, fun _ => ⟨H30.out, HS.out⟩⟩, rfl⟩
      · have m3 : (30 : Int) < k := by omega
        clear hk hk31 hs hlt h30
        (go_wp2_with fail; go_ret; exact ⟨⟨true, rfl, fun h => by cases h⟩, rfl⟩)
set_option maxHeartbeats 6400000 in
theorem SameMembers_any (ms ts : List Mb) (P Q : Option Addr) (m d c : Nat) (w : World) (hR : MemB w P m d ms) (hT : MemB w Q m c ts) (has : AsM ms ts) (hm30 : m ≤ 30) :
    Calls Tryd.prog 16 #[.slice P m d, .slice Q m c] w fun e w' => e = .returned (.bool true) ∧ Below w.heap.size w w' := by
  have m9 : (m : Int) ≤ 30 := by omega
  have HR := Lib.hid hR
  have HT := Lib.hid hT
  have HL := Lib.hid hR.l
  have HLT := Lib.hid hT.l
  have HAS := Lib.hid has
  clear hR hT has hm30
  go_enter Tryd.func16, Tryd.ntmps16
  go_wp2_with fail
  go_loopw [5] (fun iv wr => ∃ k : Nat, k ≤ m ∧ iv = .int .i64 (k : Int) ∧ Below w.heap.size w wr) (fun iv _ => m - (intOf iv).toNat)
  case atStart => exact ⟨0, Nat.zero_le _, rfl, Below.refl _ _⟩
  case round =>
    obtain ⟨k, hk, rfl, hw⟩ := hrel
    rename World => wr
    have HW := Lib.hid hw
    by_cases hlt : k < m
    · obtain ⟨b, off, rfl, hb⟩ := HR.out.h.some (by rw [HL.out]; omega)
      obtain ⟨b2, off2, rfl, hb2⟩ := HT.out.h.some (by rw [HLT.out]; omega)
      have XA := Lib.hid (fun x' (h : Below w.heap.size w x') => memCell HR.out hlt h)
      have XB := Lib.hid (fun x' (h : Below w.heap.size w x') => memCell HT.out hlt h)
      have HMA := Lib.hid (memIn HR.out hlt)
      have HMB := Lib.hid (memIn HT.out hlt)
      obtain ⟨e1, e2, e3⟩ := HAS.out k (by rw [HLT.out]; exact hlt)
      have HK := Lib.hid hlt
      have k1 : (k : Int) < m := by omega
      have k0 : 0 ≤ (k : Int) := by omega
      generalize ms.getD k mb0 = q at *
      generalize ts.getD k mb0 = t at *
      obtain ⟨nm, rA, rn, rc, rb⟩ := q
      obtain ⟨nm2, rA2, rn2, rc2, rb2⟩ := t
      dsimp only at XA XB HMA HMB e1 e2 e3
      subst e1 e2 e3
      clear hk hlt hw hb hb2
      go_upto_region 6 with fail
      (have RD := drawn_roads (S := fun x' => Below w.heap.size w x') (fun _ n h => below_drewN h n)); refine region_ord _ Drawn RD HW.out.drew (by kernel_rfl) ?_; intro ops Q' hops hPQ hN; (have HNS : Hid (Region.noSelect ops = true) := Lib.hid (by rw [hops]; kernel_rfl)); (have hsz : ops.size = 26 := (by rw [hops]; rfl)); have HOP := Lib.hid hops; have HPQ := Lib.hid hPQ; have HN := Lib.hid hN; rw [hsz]; clear hops hsz hPQ hN
      refine ord_take RD 0 (at_list (by rw [HOP.out]; rfl)) HNS.out HPQ.out (by rw [HOP.out]; kernel_rfl) (by rw [HOP.out]; kernel_rfl) (by rw [HOP.out]; rfl) (fun K hK => ?_); apply Exists.intro; refine ⟨fun W hSW => ?_, hK _ ?_⟩; (focus ((try dsimp only at hSW); go_simp; try with_reducible rfl)); clear hK K; (try simp only [Act.put, List.setIfInBounds_toArray, List.set_cons_zero, List.set_cons_succ])
      refine ord_take RD 1 (at_list (by rw [HOP.out]; rfl)) HNS.out HPQ.out (by rw [HOP.out]; kernel_rfl) (by rw [HOP.out]; kernel_rfl) (by rw [HOP.out]; rfl) (fun K hK => ?_); apply Exists.intro; refine ⟨fun W hSW => ?_, hK _ ?_⟩; (focus ((try dsimp only at hSW); go_simp; try with_reducible rfl)); clear hK K; (try simp only [Act.put, List.setIfInBounds_toArray, List.set_cons_zero, List.set_cons_succ])
      refine ord_take RD 2 (at_list (by rw [HOP.out]; rfl)) HNS.out HPQ.out (by rw [HOP.out]; kernel_rfl) (by rw [HOP.out]; kernel_rfl) (by rw [HOP.out]; rfl) (fun K hK => ?_); apply Exists.intro; refine ⟨fun W hSW => ?_, hK _ ?_⟩; (focus ((try dsimp only at hSW); go_simp; try with_reducible rfl)); clear hK K; (try simp only [Act.put, List.setIfInBounds_toArray, List.set_cons_zero, List.set_cons_succ])
      refine ord_take RD 3 (at_list (by rw [HOP.out]; rfl)) HNS.out HPQ.out (by rw [HOP.out]; kernel_rfl) (by rw [HOP.out]; kernel_rfl) (by rw [HOP.out]; rfl) (fun K hK => ?_); apply Exists.intro; refine ⟨fun W hSW => ?_, hK _ ?_⟩; (focus ((try dsimp only at hSW); go_simp; try with_reducible rfl)); clear hK K; (try simp only [Act.put, List.setIfInBounds_toArray, List.set_cons_zero, List.set_cons_succ])
      refine ord_take RD 4 (at_list (by rw [HOP.out]; rfl)) HNS.out HPQ.out (by rw [HOP.out]; kernel_rfl) (by rw [HOP.out]; kernel_rfl) (by rw [HOP.out]; rfl) (fun K hK => ?_); apply Exists.intro; refine ⟨fun W hSW => ?_, hK _ ?_⟩; (focus ((try dsimp only at hSW); have y1 := (XA.out _ hSW).1; go_simp; try with_reducible rfl)); clear hK K; (try simp only [Act.put, List.setIfInBounds_toArray, List.set_cons_zero, List.set_cons_succ])
      refine ord_take RD 5 (at_list (by rw [HOP.out]; rfl)) HNS.out HPQ.out (by rw [HOP.out]; kernel_rfl) (by rw [HOP.out]; kernel_rfl) (by rw [HOP.out]; rfl) (fun K hK => ?_); apply Exists.intro; refine ⟨fun W hSW => ?_, hK _ ?_⟩; (focus ((try dsimp only at hSW); go_simp; try with_reducible rfl)); clear hK K; (try simp only [Act.put, List.setIfInBounds_toArray, List.set_cons_zero, List.set_cons_succ])
      refine ord_take RD 6 (at_list (by rw [HOP.out]; rfl)) HNS.out HPQ.out (by rw [HOP.out]; kernel_rfl) (by rw [HOP.out]; kernel_rfl) (by rw [HOP.out]; rfl) (fun K hK => ?_); apply Exists.intro; refine ⟨fun W hSW => ?_, hK _ ?_⟩; (focus ((try dsimp only at hSW); go_simp; try with_reducible rfl)); clear hK K; (try simp only [Act.put, List.setIfInBounds_toArray, List.set_cons_zero, List.set_cons_succ])
      refine ord_take RD 7 (at_list (by rw [HOP.out]; rfl)) HNS.out HPQ.out (by rw [HOP.out]; kernel_rfl) (by rw [HOP.out]; kernel_rfl) (by rw [HOP.out]; rfl) (fun K hK => ?_); apply Exists.intro; refine ⟨fun W hSW => ?_, hK _ ?_⟩; (focus ((try dsimp only at hSW); go_simp; try with_reducible rfl)); clear hK K; (try simp only [Act.put, List.setIfInBounds_toArray, List.set_cons_zero, List.set_cons_succ])
      refine ord_take RD 8 (at_list (by rw [HOP.out]; rfl)) HNS.out HPQ.out (by rw [HOP.out]; kernel_rfl) (by rw [HOP.out]; kernel_rfl) (by rw [HOP.out]; rfl) (fun K hK => ?_); apply Exists.intro; refine ⟨fun W hSW => ?_, hK _ ?_⟩; (focus ((try dsimp only at hSW); go_simp; try with_reducible rfl)); clear hK K; (try simp only [Act.put, List.setIfInBounds_toArray, List.set_cons_zero, List.set_cons_succ])
      refine ord_take RD 9 (at_list (by rw [HOP.out]; rfl)) HNS.out HPQ.out (by rw [HOP.out]; kernel_rfl) (by rw [HOP.out]; kernel_rfl) (by rw [HOP.out]; rfl) (fun K hK => ?_); apply Exists.intro; refine ⟨fun W hSW => ?_, hK _ ?_⟩; (focus ((try dsimp only at hSW); have y1 := (XB.out _ hSW).1; go_simp; try with_reducible rfl)); clear hK K; (try simp only [Act.put, List.setIfInBounds_toArray, List.set_cons_zero, List.set_cons_succ])
      refine ord_take RD 10 (at_list (by rw [HOP.out]; rfl)) HNS.out HPQ.out (by rw [HOP.out]; kernel_rfl) (by rw [HOP.out]; kernel_rfl) (by rw [HOP.out]; rfl) (fun K hK => ?_); apply Exists.intro; refine ⟨fun W hSW => ?_, hK _ ?_⟩; (focus ((try dsimp only at hSW); go_simp; try with_reducible rfl)); clear hK K; (try simp only [Act.put, List.setIfInBounds_toArray, List.set_cons_zero, List.set_cons_succ])
      refine ord_take RD 11 (at_list (by rw [HOP.out]; rfl)) HNS.out HPQ.out (by rw [HOP.out]; kernel_rfl) (by rw [HOP.out]; kernel_rfl) (by rw [HOP.out]; rfl) (fun K hK => ?_); apply Exists.intro; refine ⟨fun W hSW => ?_, hK _ ?_⟩; (focus ((try dsimp only at hSW); go_simp; try with_reducible rfl)); clear hK K; (try simp only [Act.put, List.setIfInBounds_toArray, List.set_cons_zero, List.set_cons_succ])
      refine ord_take RD 12 (at_list (by rw [HOP.out]; rfl)) HNS.out HPQ.out (by rw [HOP.out]; kernel_rfl) (by rw [HOP.out]; kernel_rfl) (by rw [HOP.out]; rfl) (fun K hK => ?_); apply Exists.intro; refine ⟨fun W hSW => ?_, hK _ ?_⟩; (focus ((try dsimp only at hSW); go_simp; try with_reducible rfl)); clear hK K; (try simp only [Act.put, List.setIfInBounds_toArray, List.set_cons_zero, List.set_cons_succ])
      refine ord_take RD 13 (at_list (by rw [HOP.out]; rfl)) HNS.out HPQ.out (by rw [HOP.out]; kernel_rfl) (by rw [HOP.out]; kernel_rfl) (by rw [HOP.out]; rfl) (fun K hK => ?_); apply Exists.intro; refine ⟨fun W hSW => ?_, hK _ ?_⟩; (focus ((try dsimp only at hSW); go_simp; try with_reducible rfl)); clear hK K; (try simp only [Act.put, List.setIfInBounds_toArray, List.set_cons_zero, List.set_cons_succ])
      refine ord_take RD 14 (at_list (by rw [HOP.out]; rfl)) HNS.out HPQ.out (by rw [HOP.out]; kernel_rfl) (by rw [HOP.out]; kernel_rfl) (by rw [HOP.out]; rfl) (fun K hK => ?_); apply Exists.intro; refine ⟨fun W hSW => ?_, hK _ ?_⟩; (focus ((try dsimp only at hSW); go_simp; try with_reducible rfl)); clear hK K; (try simp only [Act.put, List.setIfInBounds_toArray, List.set_cons_zero, List.set_cons_succ])
      refine ord_take RD 15 (at_list (by rw [HOP.out]; rfl)) HNS.out HPQ.out (by rw [HOP.out]; kernel_rfl) (by rw [HOP.out]; kernel_rfl) (by rw [HOP.out]; rfl) (fun K hK => ?_); apply Exists.intro; refine ⟨fun W hSW => ?_, hK _ ?_⟩; (focus ((try dsimp only at hSW); go_simp; try with_reducible rfl)); clear hK K; (try simp only [Act.put, List.setIfInBounds_toArray, List.set_cons_zero, List.set_cons_succ])
      refine ord_take RD 16 (at_list (by rw [HOP.out]; rfl)) HNS.out HPQ.out (by rw [HOP.out]; kernel_rfl) (by rw [HOP.out]; kernel_rfl) (by rw [HOP.out]; rfl) (fun K hK => ?_); apply Exists.intro; refine ⟨fun W hSW => ?_, hK _ ?_⟩; (focus ((try dsimp only at hSW); have y1 := (XA.out _ hSW).2; go_simp; try with_reducible rfl)); clear hK K; (try simp only [Act.put, List.setIfInBounds_toArray, List.set_cons_zero, List.set_cons_succ])
      refine ord_take RD 17 (at_list (by rw [HOP.out]; rfl)) HNS.out HPQ.out (by rw [HOP.out]; kernel_rfl) (by rw [HOP.out]; kernel_rfl) (by rw [HOP.out]; rfl) (fun K hK => ?_); apply Exists.intro; refine ⟨fun W hSW => ?_, hK _ ?_⟩; (focus ((try dsimp only at hSW); (have cv := conv8 (n := rn2) (c := rc) (HMA.out.h.below hSW (Nat.le_refl _)) HMA.out.e); go_simp; try with_reducible rfl)); clear hK K; (try simp only [Act.put, List.setIfInBounds_toArray, List.set_cons_zero, List.set_cons_succ])
      refine ord_take RD 18 (at_list (by rw [HOP.out]; rfl)) HNS.out HPQ.out (by rw [HOP.out]; kernel_rfl) (by rw [HOP.out]; kernel_rfl) (by rw [HOP.out]; rfl) (fun K hK => ?_); apply Exists.intro; refine ⟨fun W hSW => ?_, hK _ ?_⟩; (focus ((try dsimp only at hSW); go_simp; try with_reducible rfl)); clear hK K; (try simp only [Act.put, List.setIfInBounds_toArray, List.set_cons_zero, List.set_cons_succ])
      refine ord_take RD 19 (at_list (by rw [HOP.out]; rfl)) HNS.out HPQ.out (by rw [HOP.out]; kernel_rfl) (by rw [HOP.out]; kernel_rfl) (by rw [HOP.out]; rfl) (fun K hK => ?_); apply Exists.intro; refine ⟨fun W hSW => ?_, hK _ ?_⟩; (focus ((try dsimp only at hSW); go_simp; try with_reducible rfl)); clear hK K; (try simp only [Act.put, List.setIfInBounds_toArray, List.set_cons_zero, List.set_cons_succ])
      refine ord_take RD 20 (at_list (by rw [HOP.out]; rfl)) HNS.out HPQ.out (by rw [HOP.out]; kernel_rfl) (by rw [HOP.out]; kernel_rfl) (by rw [HOP.out]; rfl) (fun K hK => ?_); apply Exists.intro; refine ⟨fun W hSW => ?_, hK _ ?_⟩; (focus ((try dsimp only at hSW); go_simp; try with_reducible rfl)); clear hK K; (try simp only [Act.put, List.setIfInBounds_toArray, List.set_cons_zero, List.set_cons_succ])
      refine ord_take RD 21 (at_list (by rw [HOP.out]; rfl)) HNS.out HPQ.out (by rw [HOP.out]; kernel_rfl) (by rw [HOP.out]; kernel_rfl) (by rw [HOP.out]; rfl) (fun K hK => ?_); apply Exists.intro; refine ⟨fun W hSW => ?_, hK _ ?_⟩; (focus ((try dsimp only at hSW); go_simp; try with_reducible rfl)); clear hK K; (try simp only [Act.put, List.setIfInBounds_toArray, List.set_cons_zero, List.set_cons_succ])
      refine ord_take RD 22 (at_list (by rw [HOP.out]; rfl)) HNS.out HPQ.out (by rw [HOP.out]; kernel_rfl) (by rw [HOP.out]; kernel_rfl) (by rw [HOP.out]; rfl) (fun K hK => ?_); apply Exists.intro; refine ⟨fun W hSW => ?_, hK _ ?_⟩; (focus ((try dsimp only at hSW); have y1 := (XB.out _ hSW).2; go_simp; try with_reducible rfl)); clear hK K; (try simp only [Act.put, List.setIfInBounds_toArray, List.set_cons_zero, List.set_cons_succ])
      refine ord_take RD 23 (at_list (by rw [HOP.out]; rfl)) HNS.out HPQ.out (by rw [HOP.out]; kernel_rfl) (by rw [HOP.out]; kernel_rfl) (by rw [HOP.out]; rfl) (fun K hK => ?_); apply Exists.intro; refine ⟨fun W hSW => ?_, hK _ ?_⟩; (focus ((try dsimp only at hSW); (have cv := conv8 (n := rn2) (c := rc2) (HMB.out.h.below hSW (Nat.le_refl _)) HMB.out.e); go_simp; try with_reducible rfl)); clear hK K; (try simp only [Act.put, List.setIfInBounds_toArray, List.set_cons_zero, List.set_cons_succ])
      refine ord_take RD 24 (at_list (by rw [HOP.out]; rfl)) HNS.out HPQ.out (by rw [HOP.out]; kernel_rfl) (by rw [HOP.out]; kernel_rfl) (by rw [HOP.out]; rfl) (fun K hK => ?_); apply Exists.intro; refine ⟨fun W hSW => ?_, hK _ ?_⟩; (focus ((try dsimp only at hSW); go_simp; try with_reducible rfl)); clear hK K; (try simp only [Act.put, List.setIfInBounds_toArray, List.set_cons_zero, List.set_cons_succ])
      refine ord_take RD 25 (at_list (by rw [HOP.out]; rfl)) HNS.out HPQ.out (by rw [HOP.out]; kernel_rfl) (by rw [HOP.out]; kernel_rfl) (by rw [HOP.out]; rfl) (fun K hK => ?_); apply Exists.intro; refine ⟨fun W hSW => ?_, hK _ ?_⟩; (focus ((try dsimp only at hSW); go_simp; try with_reducible rfl)); clear hK K; (try simp only [Act.put, List.setIfInBounds_toArray, List.set_cons_zero, List.set_cons_succ])
      refine ord_done (by rw [HOP.out]; kernel_rfl) (fun W1 hWW hSW => HN.out _ _ ?_); clear HOP HNS HPQ HN RD; (try dsimp only at hSW)
      have HSW := Lib.hid hSW
      clear hWW hSW
      go_wp2_with fail
      refine ⟨⟨k + 1, HK.out, by go_num, HSW.out⟩, by simp [intOf]; have := HK.out; omega⟩
    · have k1 : ¬ (k : Int) < m := by omega
      clear hk hlt hw
      go_wp2_with fail
      go_ret
      exact ⟨rfl, HW.out⟩
end Go.Proofs.YtiihafhnaiicoaaDoor.mbW

namespace Go.Proofs.YtiihafhnaiicoaaDoor.base
set_option maxRecDepth 100000
open Go.ChangeShapes Go.WideShapes Go.ChangeAt Go.RowKit
open Go.Proofs.YtiihafhnaiicoaaDoor.shP Go.Proofs.YtiihafhnaiicoaaDoor.shW Go.Proofs.YtiihafhnaiicoaaDoor.mbW
open Go.Proofs.YtiihafhnaiicoaaDoor.trW (IsD sv zd_isD)
set_option maxRecDepth 100000
theorem mem_add (a : Addr) (x y : Nat) : (a.add x).add y = a.add (x + y) := by
  rcases Nat.eq_zero_or_pos x with rfl | hx
  · simp [Addr.add]
  · rcases Nat.eq_zero_or_pos y with rfl | hy
    · simp [Addr.add]
    · simp [Addr.add, show x ≠ 0 by omega, show y ≠ 0 by omega, Nat.add_assoc]
theorem mem_sum {H : Type} {enc : TypeId × Value → H} {W : World} {fuel : Nat} {cs : List Value} {y : DataW H × List MemPlace}
    (hf : DataW.trod enc Tryd.prog W 0 (fun _ => true) true fuel 52 cs = some y) : ∃ l : List Int, cs = sv l ∧ IsD l := by
  obtain ⟨xs, m, -, -, hl, hx, hall⟩ := DataW.trod_array Tryd.underlying52 hf
  have hc1 : Tryd.prog.cellsOf 5 = 1 := by kernel_rfl
  have hc20 : Tryd.prog.cellsOf 52 = 20 := by kernel_rfl
  rw [hc1] at hall
  rw [hc20] at hl
  have go : ∀ i, i < 20 → ∃ a : Int, cs[i]? = some (.int .u8 a) ∧ 0 ≤ a ∧ a ≤ 255 := by
    intro i hi
    have h1 := hall i hi
    rw [List.getElem?_eq_getElem (by omega : i < xs.length)] at h1
    obtain ⟨a, e0, -, wa⟩ := DataW.trod_int Tryd.underlying5 h1
    have x := bounds_u8 wa
    refine ⟨a, ?_, x.1, x.2⟩
    rw [Nat.mul_one, List.drop_eq_getElem_cons (by omega : i < cs.length), List.take_succ_cons, List.take_zero] at e0
    rw [List.getElem?_eq_getElem (by omega : i < cs.length)]
    injection e0 with e1 e2
    rw [e1]
  refine ⟨cs.map intOf, ?_, by rw [List.length_map, hl], ?_⟩
  · apply List.ext_getElem?
    intro i
    rw [sv, List.map_map, List.getElem?_map]
    rcases Nat.lt_or_ge i 20 with h | h
    · obtain ⟨a, ha, -⟩ := go i h
      rw [ha]; rfl
    · rw [List.getElem?_eq_none (by omega)]; rfl
  · intro z hz
    obtain ⟨v, hv, rfl⟩ := List.mem_map.1 hz
    obtain ⟨i, hi, rfl⟩ := List.mem_iff_getElem.1 hv
    obtain ⟨a, ha, k⟩ := go i (by omega)
    rw [List.getElem?_eq_getElem hi] at ha
    injection ha with ha
    rw [ha]; exact k
theorem mem_bytes {H : Type} {enc : TypeId × Value → H} {W : World} {n : Nat} {v : Value} {y : DataW H × List MemPlace}
    (h : DataW.trod enc Tryd.prog W 0 (fun _ => true) true n 35 [v] = some y) : ∃ r : R8, v = .slice r.A r.n r.c ∧ InR W r := by
  have hr : ∃ (a : Option Addr) (len cap : Nat) (zs : List Int), v = .slice a len cap ∧ IsRow .u8 W a len cap zs := by
    rcases open_ints Tryd.underlying35 Tryd.underlying5 (by kernel_rfl) h with ⟨hcs, _⟩ | ⟨x, l, c, zs, hcs, _, hl, hm, hz, _, hcell, hwz⟩
    · simp at hcs
      exact ⟨none, 0, 0, [], hcs, .inl ⟨rfl, rfl, rfl, rfl⟩⟩
    · simp at hcs
      exact ⟨some x, l, c, zs, hcs, .inr ⟨x, rfl, hl, hm, by simpa using hz, hcell, hwz⟩⟩
  obtain ⟨a, len, cap, zs, rfl, hrow⟩ := hr
  obtain ⟨q1, q2, q3, q4⟩ := has_of_row hrow
  have hc : len ≤ cap ∧ cap ≤ maxLen := by
    rcases hrow with ⟨_, h1, h2, _⟩ | ⟨x, _, h1, h2, _⟩
    · rw [h1, h2]; exact ⟨Nat.le_refl _, Nat.zero_le _⟩
    · exact ⟨h1, h2⟩
  unfold maxLen at hc
  exact ⟨⟨a, len, cap, zs.take len⟩, rfl, q1, q2, hc.1, by dsimp only; omega, fun z hz => bounds_u8 (q4 z hz)⟩
theorem mem_cells {H : Type} {enc : TypeId × Value → H} {W : World} {fuel : Nat} {l : List Value} {y : DataW H × List MemPlace}
    (hf : DataW.trod enc Tryd.prog W 0 (fun _ => true) true fuel 37 l = some y) : ∃ q : Mb, l = [.string q.nm, .slice q.r.A q.r.n q.r.c] ∧ q.nm.size ≤ maxLen ∧ InR W q.r := by
  have hc2 : Tryd.prog.cellsOf 37 = 2 := by kernel_rfl
  have hc1 : Tryd.prog.cellsOf 9 = 1 := by kernel_rfl
  have hc8 : Tryd.prog.cellsOf 35 = 1 := by kernel_rfl
  obtain ⟨xs, m, -, -, hl, hx, hall⟩ := DataW.trod_struct Tryd.underlying37 hf
  have hx2 : xs.length = 2 := hx
  rw [hc2] at hl
  match l, hl with
  | [c, r], hl =>
    have h0 : DataW.trod enc Tryd.prog W 0 (fun _ => true) true m 9 (List.take (Tryd.prog.cellsOf 9) (List.drop 0 [c, r])) = xs[0]? := hall 0 _ rfl
    have h1 : DataW.trod enc Tryd.prog W 0 (fun _ => true) true m 35 (List.take (Tryd.prog.cellsOf 35) (List.drop 1 [c, r])) = xs[1]? := hall 1 _ rfl
    rw [List.getElem?_eq_getElem (by omega)] at h0 h1
    rw [hc1] at h0
    rw [hc8] at h1
    obtain ⟨s, e0, -, w0⟩ := DataW.trod_string Tryd.underlying9 h0
    obtain ⟨r8, e1, w1⟩ := mem_bytes (show DataW.trod enc Tryd.prog W 0 (fun _ => true) true m 35 [r] = some xs[1] from h1)
    have q0 : c = .string s := by injection e0
    exact ⟨⟨s, r8⟩, by rw [q0, e1], w0, w1⟩
structure MemsIn (W : World) (P : Option Addr) (m d : Nat) (ms : List Mb) : Prop where
  b : MemB W P m d ms
  z : ∀ q ∈ ms, q.nm.size ≤ maxLen
theorem read_members {H : Type} {enc : TypeId × Value → H} {W : World} {bs : Nat} {v : Value} {d : DataW H} {p : List MemPlace}
    (hv : Value.okWide Tryd.prog W .any bs 22 v) (h : DataW.Trod enc Tryd.prog W 0 (fun _ => true) true 22 v d p) :
    ∃ (A : Option Addr) (n c : Nat) (ms : List Mb), v = .slice A n c ∧ MemsIn W A n c ms := by
  obtain ⟨A, n, c, rfl⟩ := okWide_slice Tryd.underlying22 hv
  obtain ⟨fuel, hf⟩ := h
  rcases DataW.trod_slice Tryd.underlying22 hf with ⟨e, -⟩ | ⟨ad, len, cap, elems, rest, m, -, e, -, hb, hl, hm, hlen, hel, -, -⟩
  · simp [Value.cells] at e
    obtain ⟨rfl, rfl, rfl⟩ := e
    exact ⟨none, 0, 0, [], rfl, ⟨rfl, Nat.le_refl _, by omega, .inl rfl, by simp⟩, by simp⟩
  · simp [Value.cells] at e
    obtain ⟨rfl, rfl, rfl⟩ := e
    have hc2 : Tryd.prog.cellsOf 37 = 2 := by kernel_rfl
    unfold maxLen at hm
    have hcell : ∀ i, i < n → ∃ q : Mb, W.cell? (ad.add (i * 2)) = some (.string q.nm) ∧ W.cell? (ad.add (i * 2 + 1)) = some (.slice q.r.A q.r.n q.r.c) ∧ q.nm.size ≤ maxLen ∧ InR W q.r := by
      intro i hi
      have h1 := hel i hi
      rw [hc2, List.getElem?_eq_getElem (by omega)] at h1
      obtain ⟨cs, h2, h3⟩ := Option.bind_eq_some_iff.1 h1
      obtain ⟨q, rfl, h5, h6⟩ := mem_cells h3
      obtain ⟨-, -, h8⟩ := World.cells?_some h2
      have g0 := h8 0 (by omega)
      have g1 := h8 1 (by omega)
      rw [mem_add] at g0 g1
      exact ⟨q, g0, g1, h5, h6⟩
    let dv : Nat → Mb := fun i => if h : i < n then (hcell i h).choose else mb0
    have hdv : ∀ i, i < n → W.cell? (ad.add (i * 2)) = some (.string (dv i).nm) ∧ W.cell? (ad.add (i * 2 + 1)) = some (.slice (dv i).r.A (dv i).r.n (dv i).r.c) ∧ (dv i).nm.size ≤ maxLen ∧ InR W (dv i).r := by
      intro i hi
      have := (hcell i hi).choose_spec
      simp only [dv, dif_pos hi]
      exact this
    have hget : ∀ i, i < n → ((List.range n).map dv).getD i mb0 = dv i := by
      intro i hi
      rw [List.getD_eq_getElem?_getD, List.getElem?_map, List.getElem?_range hi]; rfl
    refine ⟨some ad, n, c, (List.range n).map dv, rfl, ⟨by simp, hl, by omega, ?_, ?_⟩, ?_⟩
    · rcases Nat.eq_zero_or_pos n with h0 | h0
      · subst h0; exact .inl rfl
      · right
        obtain ⟨b, off, spot⟩ := ad
        have hc0 := (hdv 0 (by omega)).1
        have hspot : spot = none := by simpa [Addr.add] using World.cell?_spot hc0
        subst hspot
        rw [addr_add] at hc0
        refine ⟨b, off, rfl, lt_of_cell hc0, fun i hi => ?_⟩
        have hi2 : i < n := by simpa using hi
        rw [hget i hi2, ← addr_add, Nat.add_assoc, ← addr_add]
        exact ⟨(hdv i hi2).1, (hdv i hi2).2.1⟩
    · intro z hz
      obtain ⟨q, hq, rfl⟩ := List.mem_map.1 hz
      exact (hdv q (List.mem_range.1 hq)).2.2.2
    · intro z hz
      obtain ⟨q, hq, rfl⟩ := List.mem_map.1 hz
      exact (hdv q (List.mem_range.1 hq)).2.2.1
theorem rec_cells {H : Type} {enc : TypeId × Value → H} {W : World} {fuel : Nat} {l : List Value} {y : DataW H × List MemPlace}
    (hf : DataW.trod enc Tryd.prog W 0 (fun _ => true) true fuel 54 l = some y) : ∃ q : Rc, l = rcE q ∧ q.nm.size ≤ maxLen ∧ (-9223372036854775808 ≤ q.sz ∧ q.sz ≤ 9223372036854775807) ∧ IsD q.sum := by
  have hc22 : Tryd.prog.cellsOf 54 = 22 := by kernel_rfl
  have hc1 : Tryd.prog.cellsOf 9 = 1 := by kernel_rfl
  have hc8 : Tryd.prog.cellsOf 3 = 1 := by kernel_rfl
  have hc20 : Tryd.prog.cellsOf 52 = 20 := by kernel_rfl
  obtain ⟨xs, m, -, -, hl, hx, hall⟩ := DataW.trod_struct Tryd.underlying54 hf
  have hx2 : xs.length = 3 := hx
  rw [hc22] at hl
  match l, hl with
  | c :: r :: t, hl =>
    have h0 : DataW.trod enc Tryd.prog W 0 (fun _ => true) true m 9 (List.take (Tryd.prog.cellsOf 9) (List.drop 0 (c :: r :: t))) = xs[0]? := hall 0 _ rfl
    have h1 : DataW.trod enc Tryd.prog W 0 (fun _ => true) true m 3 (List.take (Tryd.prog.cellsOf 3) (List.drop 1 (c :: r :: t))) = xs[1]? := hall 1 _ rfl
    have h2 : DataW.trod enc Tryd.prog W 0 (fun _ => true) true m 52 (List.take (Tryd.prog.cellsOf 52) (List.drop 2 (c :: r :: t))) = xs[2]? := hall 2 _ rfl
    rw [List.getElem?_eq_getElem (by omega)] at h0 h1 h2
    rw [hc1] at h0
    rw [hc8] at h1
    have ht : t.length = 20 := by simpa using hl
    rw [hc20, show List.take 20 (List.drop 2 (c :: r :: t)) = t by simp [List.take_of_length_le, ht]] at h2
    obtain ⟨s, e0, -, w0⟩ := DataW.trod_string Tryd.underlying9 h0
    obtain ⟨a1, e1, -, w1⟩ := DataW.trod_int Tryd.underlying3 h1
    obtain ⟨z, e2, hz⟩ := mem_sum h2
    have q0 : c = .string s := by injection e0
    have q1 : r = .int .i64 a1 := by injection e1
    refine ⟨⟨s, a1, z⟩, ?_, w0, bounds_i64 w1, hz⟩
    rw [rcE_eq (r := ⟨s, a1, z⟩) hz.len, q0, q1, e2]
structure RecsIn (W : World) (A : Option Addr) (n c : Nat) (rs : List Rc) : Prop where
  h : RE.Has W A rs
  l : rs.length = n
  c1 : n ≤ c
  c2 : c ≤ 9223372036854775807
  nm : ∀ r ∈ rs, r.nm.size ≤ maxLen
  z : ∀ r ∈ rs, -9223372036854775808 ≤ r.sz ∧ r.sz ≤ 9223372036854775807
  d : ∀ r ∈ rs, IsD r.sum
theorem read_records {H : Type} {enc : TypeId × Value → H} {W : World} {bs : Nat} {v : Value} {d : DataW H} {p : List MemPlace}
    (hv : Value.okWide Tryd.prog W .any bs 25 v) (h : DataW.Trod enc Tryd.prog W 0 (fun _ => true) true 25 v d p) :
    ∃ (A : Option Addr) (n c : Nat) (rs : List Rc), v = .slice A n c ∧ RecsIn W A n c rs := by
  obtain ⟨a, len0, cap0, rfl⟩ := okWide_slice Tryd.underlying25 hv
  obtain ⟨fuel, hf⟩ := h
  rcases DataW.trod_slice Tryd.underlying25 hf with ⟨e, -⟩ | ⟨ad, len, cap, elems, rest, m, -, e, -, hb, hl, hm, hlen, hel, -, -⟩
  · simp [Value.cells] at e
    obtain ⟨rfl, rfl, rfl⟩ := e
    exact ⟨none, 0, 0, [], rfl, .inl rfl, rfl, Nat.le_refl _, by omega, by simp, by simp, by simp⟩
  · simp [Value.cells] at e
    obtain ⟨rfl, rfl, rfl⟩ := e
    have hc22 : Tryd.prog.cellsOf 54 = 22 := by kernel_rfl
    unfold maxLen at hm
    have hcell : ∀ i, i < len0 → ∃ q : Rc, (∀ j, j < 22 → W.cell? (ad.add (i * 22 + j)) = (rcE q)[j]?) ∧ q.nm.size ≤ maxLen ∧ (-9223372036854775808 ≤ q.sz ∧ q.sz ≤ 9223372036854775807) ∧ IsD q.sum := by
      intro i hi
      have h1 := hel i hi
      rw [hc22, List.getElem?_eq_getElem (by omega)] at h1
      obtain ⟨cs, h2, h3⟩ := Option.bind_eq_some_iff.1 h1
      obtain ⟨q, rfl, h5, h6, h7⟩ := rec_cells h3
      refine ⟨q, fun j hj => ?_, h5, h6, h7⟩
      obtain ⟨-, -, h8⟩ := World.cells?_some h2
      have := h8 j (by omega)
      rw [mem_add] at this
      exact this
    let dv : Nat → Rc := fun i => if h : i < len0 then (hcell i h).choose else rc0
    have hdv : ∀ i, i < len0 → (∀ j, j < 22 → W.cell? (ad.add (i * 22 + j)) = (rcE (dv i))[j]?) ∧ (dv i).nm.size ≤ maxLen ∧ (-9223372036854775808 ≤ (dv i).sz ∧ (dv i).sz ≤ 9223372036854775807) ∧ IsD (dv i).sum := by
      intro i hi
      have := (hcell i hi).choose_spec
      simp only [dv, dif_pos hi]
      exact this
    have hlen2 : ((List.range len0).map dv).length = len0 := by simp
    have hget : ∀ i, i < len0 → ((List.range len0).map dv).getD i rc0 = dv i := by
      intro i hi
      rw [List.getD_eq_getElem?_getD, List.getElem?_map, List.getElem?_range hi]; rfl
    have hall : ∀ r ∈ (List.range len0).map dv, r.nm.size ≤ maxLen ∧ (-9223372036854775808 ≤ r.sz ∧ r.sz ≤ 9223372036854775807) ∧ IsD r.sum := fun x hx => by
      obtain ⟨i, hi, rfl⟩ := List.mem_map.1 hx
      exact (hdv i (List.mem_range.1 hi)).2
    refine ⟨some ad, len0, cap0, (List.range len0).map dv, rfl, ?_, hlen2, hl, by omega, fun r hr => (hall r hr).1, fun r hr => (hall r hr).2.1, fun r hr => (hall r hr).2.2⟩
    rcases Nat.eq_zero_or_pos len0 with h0 | h0
    · left; subst h0; rfl
    · right
      obtain ⟨b, off, spot⟩ := ad
      have hc0 := (hdv 0 h0).1 0 (by omega)
      have hc0' : W.cell? ((⟨b, off, spot⟩ : Addr).add (0 * 22 + 0)) = some (.string (dv 0).nm) := hc0
      have hspot : spot = none := by simpa [Addr.add] using World.cell?_spot hc0'
      subst hspot
      rw [addr_add] at hc0'
      refine ⟨b, off, rfl, lt_of_cell hc0', fun q v hq => ?_⟩
      have hql : q < ((List.range len0).map dv).length * 22 := by
        have h1 := RE.row_len ((List.range len0).map dv)
        have h2 : q < (RE.row ((List.range len0).map dv)).length := by
          rcases Nat.lt_or_ge q (RE.row ((List.range len0).map dv)).length with h | h
          · exact h
          · rw [List.getElem?_eq_none h] at hq; cases hq
        rw [h1] at h2; exact h2
      rw [hlen2] at hql
      have h1 : q / 22 < len0 := by omega
      have h2 : q % 22 < 22 := by omega
      have h3 := (hdv (q / 22) h1).1 (q % 22) h2
      rw [addr_add, show q / 22 * 22 + q % 22 = q by omega] at h3
      rw [h3, ← hget _ h1]
      have e := RE.row_at (xs := (List.range len0).map dv) (i := q / 22) (by rw [hlen2]; exact h1)
      have e2 : ((rcE (((List.range len0).map dv).getD (q / 22) rc0)))[q % 22]? = (List.take 22 (List.drop (q / 22 * 22) (RE.row ((List.range len0).map dv))))[q % 22]? := by
        rw [show List.take 22 (List.drop (q / 22 * 22) (RE.row ((List.range len0).map dv))) = _ from e]; rfl
      rw [e2, List.getElem?_take, if_pos h2, List.getElem?_drop, show q / 22 * 22 + q % 22 = q by omega]
      exact hq
end Go.Proofs.YtiihafhnaiicoaaDoor.base

namespace Go.Proofs.YtiihafhnaiicoaaDoor.base
set_option maxRecDepth 100000
open Go.ChangeShapes Go.WideShapes Go.ChangeAt Go.RowKit
open Go.Proofs.YtiihafhnaiicoaaDoor.mbW
set_option maxRecDepth 100000
theorem read_member {H : Type} {enc : TypeId × Value → H} {W : World} {bs : Nat} {v : Value} {d : DataW H} {p : List MemPlace}
    (hv : Value.okWide Tryd.prog W .any bs 37 v) (h : DataW.Trod enc Tryd.prog W 0 (fun _ => true) true 37 v d p) : ∃ q : Mb, v = .agg #[.string q.nm, .slice q.r.A q.r.n q.r.c] ∧ (q.nm.size ≤ maxLen ∧ InR W q.r) := by
  simp only [Value.okWide, Tryd.underlying37] at hv
  obtain ⟨cs, rfl, hs, -⟩ := hv
  obtain ⟨fuel, hf⟩ := h
  rcases cs with ⟨l⟩
  obtain ⟨q, e, k1, k2⟩ := mem_cells (show DataW.trod enc Tryd.prog W 0 (fun _ => true) true fuel 37 l = _ from hf)
  exact ⟨q, by rw [e], k1, k2⟩
end Go.Proofs.YtiihafhnaiicoaaDoor.base

namespace Go.Proofs.YtiihafhnaiicoaaDoor.mbW
set_option maxRecDepth 100000
open Go.RowKit Go.Proofs.YtiihafhnaiicoaaDoor.base Go.Proofs.YtiihafhnaiicoaaDoor.shP Go.Proofs.YtiihafhnaiicoaaDoor.shW
open Go.Proofs.YtiihafhnaiicoaaDoor.trW (IsD sv zd_isD digest_isD z20_at)
set_option linter.unusedVariables false
set_option linter.unusedSimpArgs false
set_option maxRecDepth 100000
theorem AsM.map {ms ts : List Mb} (h : AsM ms ts) (hl : ts.length = ms.length) {β : Type} (f : Mb → β) (hf : ∀ x y : Mb, x.nm = y.nm → x.r.b = y.r.b → x.r.n = y.r.n → f x = f y) : ts.map f = ms.map f := by
  apply List.ext_getElem?
  intro i
  rw [List.getElem?_map, List.getElem?_map]
  rcases Nat.lt_or_ge i ts.length with hi | hi
  · obtain ⟨h1, h2, h3⟩ := h i hi
    have e1 : ts.getD i mb0 = ts[i] := by rw [List.getD_eq_getElem?_getD, List.getElem?_eq_getElem hi]; rfl
    have e2 : ms.getD i mb0 = ms[i]'(by omega) := by rw [List.getD_eq_getElem?_getD, List.getElem?_eq_getElem (by omega)]; rfl
    rw [e1, e2] at h1 h2 h3
    rw [List.getElem?_eq_getElem hi, List.getElem?_eq_getElem (by omega : i < ms.length)]
    simp only [Option.map_some]
    rw [hf _ _ h1 h2 h3]
  · rw [List.getElem?_eq_none hi, List.getElem?_eq_none (by omega)]
theorem sumD_map : ∀ ms : List Mb, sumD ms = (ms.map (fun m => m.r.n)).sum
  | [] => rfl
  | m :: l => by rw [sumD, sumD_map l]; rfl
theorem AsM.same {ms ts : List Mb} (h : AsM ms ts) (hl : ts.length = ms.length) : ckE ts = ckE ms ∧ ofL ts = ofL ms := by
  have e1 : nms ts = nms ms := h.map hl _ (fun x y a b c => a)
  have e2 : sumD ts = sumD ms := by rw [sumD_map, sumD_map, h.map hl _ (fun x y a b c => c)]
  refine ⟨by unfold ckE; rw [hl, e1, e2], h.map hl _ (fun x y a b c => by unfold recOf; rw [a, b, c])⟩
theorem nm_of_ck {ms : List Mb} (h : ckE ms = 0) : ∀ s ∈ nms ms, nmB s = true := by
  unfold ckE at h
  split at h
  · omega
  · split at h
    · omega
    · split at h
      · rename_i hb
        exact fun s hs => List.all_eq_true.1 hb s hs
      · omega
theorem ofL_ok {ms : List Mb} (h : ckE ms = 0) : ∀ r ∈ ofL ms, RcOk r := by
  intro r hr
  obtain ⟨m, hm, rfl⟩ := List.mem_map.1 hr
  have h1 := nm_size (nm_of_ck h m.nm (List.mem_map.2 ⟨m, hm, rfl⟩))
  obtain ⟨i, hi, rfl⟩ := List.mem_iff_getElem.1 hm
  have h2 := sumD_get ms i hi
  have h3 := (ck_zero h).2
  rw [List.getD_eq_getElem?_getD, List.getElem?_eq_getElem hi] at h2
  simp only [Option.getD_some] at h2
  refine ⟨by unfold maxLen; dsimp only [recOf]; omega, by dsimp only [recOf]; omega, digest_isD _⟩
open Classical in
set_option maxHeartbeats 6400000 in
theorem makes (P : Option Addr) (m d : Nat) (ms : List Mb) (w : World) (hR : MemB w P m d ms) (hT : Tab w) :
    Calls Tryd.prog 3 #[.slice P m d] w fun e w' => e = .returned (.bool true) ∧ Below w.heap.size w w' := by
  have HR := Lib.hid hR
  have HT := Lib.hid hT
  have m1 : (m : Int) ≤ 9223372036854775807 := by have := hR.c1; have := hR.c2; omega
  clear hR hT
  go_enter Tryd.func3, Tryd.ntmps3
  go_wp2_with fail
  refine (Great_any ms P m d w HR.out).mono ?_
  rintro e _ ⟨⟨b, rfl, hb⟩, rfl⟩
  rename World => w
  cases b
  case true =>
    go_wp2_with fail
    go_ret
    exact ⟨rfl, Below.refl _ _⟩
  have HG := Lib.hid (hb rfl)
  clear hb
  go_wp2_with fail
  refine (Twin_any ms P m d w HR.out HG.out.1 (fun k hk => (HG.out.2 k hk).2)).mono ?_
  rintro e w1 ⟨A, c, ts, rfl, hl, hc1, hc2, hh, has, b1⟩
  have HL := Lib.hid (HR.out.l)
  have HSM := Lib.hid (has.same (by rw [hl, HL.out]))
  have HAS := Lib.hid has
  have HTB : Hid (MemB w1 A m c ts) := Lib.hid ⟨hl, hc1, by unfold maxLen at hc2; omega, hh⟩
  have HNT : Hid (∀ k, k < m → (ts.getD k mb0).r.n ≤ 10000) := Lib.hid (fun k hk => by
    rw [(has k (by rw [hl]; exact hk)).2.2]; exact (HG.out.2 k hk).2)
  have B1 := Lib.hid b1
  clear hl hc1 hc2 hh has b1
  go_wp2_with fail
  refine (Of_any ms P m d w1 (HT.out.below B1.out (Nat.le_refl _)) (HR.out.below B1.out (Nat.le_refl _))).mono ?_
  rintro e w2 ⟨hO, b2⟩
  have HOF := Lib.hid hO
  have B2 := Lib.hid (mb_bb B1.out b2)
  have HTB2 := Lib.hid (HTB.out.below b2 (Nat.le_refl _))
  clear hO b2 HTB
  have H16 : Hid (m ≤ 30) := Lib.hid HG.out.1
  rcases HOF.out with ⟨hz, X, xc, rfl, ho⟩ | ⟨hz, rfl⟩
  · have HX := Lib.hid ho
    have HZ := Lib.hid hz
    clear hz ho HOF
    go_wp2_with fail
    refine (rOf28_any ts A m c w2 HTB2.out HNT.out).mono ?_
    rintro e w3 ⟨hO, b3⟩
    rcases hO with ⟨hz, Y, yc, rfl, ho⟩ | ⟨hz, -⟩
    case inr => exact absurd (HSM.out.1.trans HZ.out) hz
    have HY := Lib.hid ho
    have HX3 := Lib.hid (HX.out.below b3 (Nat.le_refl _))
    have HTB3 := Lib.hid (HTB2.out.below b3 (Nat.le_refl _))
    have B3 := Lib.hid (mb_bb B2.out b3)
    clear hz ho b3 HX HTB2
    go_wp2_with fail
    refine (Check_any ms P m d w3 (HR.out.below B3.out (Nat.le_refl _))).mono ?_
    rintro e w4 ⟨rfl, b4⟩
    have HY4 := Lib.hid (HY.out.below b4 (Nat.le_refl _))
    have HX4 := Lib.hid (HX3.out.below b4 (Nat.le_refl _))
    have HTB4 := Lib.hid (HTB3.out.below b4 (Nat.le_refl _))
    have B4 := Lib.hid (mb_bb B3.out b4)
    clear b4 HX3 HTB3 HY
    go_wp2_with fail
    refine (rCheck_any ts A m c w4 HTB4.out HNT.out).mono ?_
    rintro e w5 ⟨rfl, b5⟩
    have HY5 := Lib.hid (HY4.out.below b5 (Nat.le_refl _))
    have HX5 := Lib.hid (HX4.out.below b5 (Nat.le_refl _))
    have HTB5 := Lib.hid (HTB4.out.below b5 (Nat.le_refl _))
    have B5 := Lib.hid (mb_bb B4.out b5)
    clear b5 HX4 HTB4 HY4
    rw [HSM.out.1]
    go_wp2_with fail
    refine (Same_any (ofL ms) (ofL ts) X Y m m xc yc w5 HX5.out.has HY5.out.has HX5.out.len.1.symm HY5.out.len.1.symm (by have := H16.out; omega) (by have := H16.out; omega) (ofL_ok HZ.out) (by rw [HSM.out.2]; exact ofL_ok HZ.out)).mono ?_
    rintro e w6 ⟨rfl, b6⟩
    have HTB6 := Lib.hid (HTB5.out.below b6 (Nat.le_refl _))
    have B6 := Lib.hid (mb_bb B5.out b6)
    clear b6 HTB5
    rw [decide_eq_true HSM.out.2.symm]
    go_wp2_with fail
    refine (SameMembers_any ms ts P A m d c w6 (HR.out.below B6.out (Nat.le_refl _)) HTB6.out HAS.out H16.out).mono ?_
    rintro e w7 ⟨rfl, b7⟩
    have B7 := Lib.hid (mb_bb B6.out b7)
    clear b7
    go_wp2_with fail
    go_ret
    exact ⟨rfl, B7.out⟩
  · have HZ := Lib.hid hz
    clear hz HOF
    go_wp2_with fail
    refine (rOf28_any ts A m c w2 HTB2.out HNT.out).mono ?_
    rintro e w3 ⟨hO, b3⟩
    rcases hO with ⟨hz, -⟩ | ⟨hz, rfl⟩
    case inl => exact absurd (HSM.out.1.symm.trans hz) HZ.out
    have HTB3 := Lib.hid (HTB2.out.below b3 (Nat.le_refl _))
    have B3 := Lib.hid (mb_bb B2.out b3)
    clear hz b3 HTB2
    rw [HSM.out.1]
    go_wp2_with fail
    refine (Check_any ms P m d w3 (HR.out.below B3.out (Nat.le_refl _))).mono ?_
    rintro e w4 ⟨rfl, b4⟩
    have HTB4 := Lib.hid (HTB3.out.below b4 (Nat.le_refl _))
    have B4 := Lib.hid (mb_bb B3.out b4)
    clear b4 HTB3
    go_wp2_with fail
    refine (rCheck_any ts A m c w4 HTB4.out HNT.out).mono ?_
    rintro e w5 ⟨rfl, b5⟩
    have HTB5 := Lib.hid (HTB4.out.below b5 (Nat.le_refl _))
    have B5 := Lib.hid (mb_bb B4.out b5)
    clear b5 HTB4
    rw [HSM.out.1]
    go_wp2_with fail
    refine (Same_any [] [] none none 0 0 0 0 w5 (.inl rfl) (.inl rfl) rfl rfl (by omega) (by omega) (by intro r hr; cases hr) (by intro r hr; cases hr)).mono ?_
    rintro e w6 ⟨rfl, b6⟩
    have HTB6 := Lib.hid (HTB5.out.below b6 (Nat.le_refl _))
    have B6 := Lib.hid (mb_bb B5.out b6)
    clear b6 HTB5
    rw [show decide (([] : List Rc) = []) = true from decide_eq_true rfl]
    go_wp2_with fail
    refine (SameMembers_any ms ts P A m d c w6 (HR.out.below B6.out (Nat.le_refl _)) HTB6.out HAS.out H16.out).mono ?_
    rintro e w7 ⟨rfl, b7⟩
    have B7 := Lib.hid (mb_bb B6.out b7)
    clear b7
    go_wp2_with fail
    go_ret
    exact ⟨rfl, B7.out⟩
theorem makesIn (P : Option Addr) (m d : Nat) (ms : List Mb) (w : World) (hR : MemsIn w P m d ms) (hT : Tab w) :
    Calls Tryd.prog 3 #[.slice P m d] w fun e w' => e = .returned (.bool true) ∧ Below w.heap.size w w' := makes P m d ms w hR.b hT
end Go.Proofs.YtiihafhnaiicoaaDoor.mbW
