/- Several texts as one: RgW18, RgW19, CxPl2, RgL2, RgL3. -/
import Derived.Test.YtemiecghdmagnaaGK
import Derived.BigRegion
import Derived.Deep.DeepCutAuto
import Derived.WalkMore
import Derived.Laws.MakeOwn
import Derived.Laws.CopyOwn
import Derived.Test.YtemiecghdmagnaaCxPlain
import Derived.BigQuiet
namespace Go.Proofs.Ytemiecghdmagnaa.rgW
set_option maxRecDepth 100000
open Go.RowKit Go.Proofs.Ytemiecghdmagnaa.base Go.Proofs.Ytemiecghdmagnaa.rgP
set_option linter.unusedVariables false
set_option linter.unusedSimpArgs false

def zCells (n : Nat) : Array Value := ((List.replicate n (0 : Int)).map (Value.int .u8)).toArray
theorem mk8 (n : Nat) (hn : n ≤ 1000000) (w : World) : (Instr.makeSlice 24 (.int .i64 (n : Int)) (.int .i64 (n : Int))).run Try.prog w = .ok (.slice (some ⟨w.heap.size, 0, none⟩) n n) (w.alloc (.cells (zCells n) 5)) := by
  obtain ⟨i, hi, hz, h1, h2⟩ := info8
  have hr := run_make (P := Try.prog) w 24 5 i (.int .u8 0) Try.underlying24 hi hz .i64 .i64 n n (by omega) (by omega) (by rw [h2]; omega) (by omega)
  simp only [Int.toNat_natCast] at hr
  rw [hr]
  have e1 : madeCells (Value.int .u8 0).cells (n * i.size) = zCells n := by
    rw [h1, Nat.mul_one]
    apply Array.ext'
    have e : (Value.int .u8 0).cells = #[.int .u8 0] := rfl
    rw [e, toList_madeCells_one]
    simp [zCells]
  rw [e1]
theorem own_z (w : World) (n : Nat) (hn : n ≤ maxLen) {B g : Nat} (hB : B ≤ g) (hg : w.heap.size = g) : OwnI (w.alloc (.cells (zCells n) 5)) B 5 .u8 (.slice (some ⟨g, 0, none⟩) n n) (List.replicate n 0) := by
  subst hg
  have := OwnI.lit w 5 .u8 (List.replicate n 0) B hB (by simpa using hn)
  rwa [List.length_replicate] at this
attribute [irreducible] zCells
theorem own_alloc {w : World} {B : Nat} {e : TypeId} {k : IntKind} {v : Value} {zs : List Int} (h : OwnI w B e k v zs) (o : Obj) : OwnI (w.alloc o) B e k v zs := h.below ((Below.refl _ _).alloc (Nat.le_refl _) _) (Nat.le_refl _)
theorem own_drew {w : World} {B : Nat} {e : TypeId} {k : IntKind} {v : Value} {zs : List Int} (h : OwnI w B e k v zs) : OwnI w.drew B e k v zs := h
/-- copy of as many bytes as a row of the call's own has, onto that row. -/
theorem copy8 {w : World} {ops : Array Oper} {rest : List Oper} {o : Oper} {a : Act} {Q : Exit → Act → World → Prop} (hgd : o.guard = none) (d s : Operand)
    (ho : o.op = .call { callee := .builtin .copy, args := #[d, s], argTypes := #[24, 24] })
    (B g n cap : Nat) (zs ys : List Int) (hd : a.eval d = .slice (some ⟨g, 0, none⟩) n cap) (hown : OwnI w B 5 .u8 (.slice (some ⟨g, 0, none⟩) n cap) zs) (A : Option Addr) (c : Nat) (hs : a.eval s = .slice A n c) (hr : Has .u8 w A ys) (hy : ys.length = n) (hn : 0 < n)
    (h : ∀ w', OwnI w' B 5 .u8 (.slice (some ⟨g, 0, none⟩) n cap) ys → Keeps w w' → Below g w w' → wpList Try.prog ops Q rest (a.put o.dst (goInt n)) w') : wpList Try.prog ops Q (o :: rest) a w := by
  obtain ⟨hl, h2⟩ := hown
  rcases h2 with ⟨h', _⟩ | ⟨g', cap', cur, hv, hB, hg, hnc, hcm, hcs, ht⟩
  · cases h'
  · injection hv with v1 v2 v3
    injection v1 with v1
    injection v1 with v1
    subst v1 v2 v3
    rcases A with _ | ad
    · rcases hr with h0 | ⟨b, off, ha, _⟩
      · subst h0; simp at hy; omega
      · cases ha
    obtain ⟨i, hi, hz, h1, -⟩ := info8
    refine wpList_copy_own hgd d s _ _ ho 5 Try.underlying24 (by rw [hi]; exact congrArg some h1) g 0 _ _ ad _ c hd hs cur 5 hg (ys.map (Value.int .u8)) (by simp [hy]) hr.cells (by simp [hy]; omega) one_ints ?_
    rw [List.length_map, hy]
    refine h _ ⟨by simp [hy], .inr ⟨g, cap, _, by rw [hy], hB, setRow_heap w g cur _ _ _ hg, by rw [hy]; exact hnc, hcm, ?_, ?_⟩⟩ ?_ ?_
    · simp [hy]; omega
    · simp [hy]
    · intro k t cs K htt
      have hk : k ≠ g := by
        intro e; subst e
        unfold Lies at K
        rw [hg] at K
        injection K with K
        injection K with _ K2
        exact htt K2.symm
      exact (setRow_other w g k _ hk).trans K
    · exact below_setRow (Below.refl _ _) (Nat.le_refl _) _
end Go.Proofs.Ytemiecghdmagnaa.rgW

namespace Go.Proofs.Ytemiecghdmagnaa.rgW
set_option maxRecDepth 100000
open Go.RowKit Go.Proofs.Ytemiecghdmagnaa.base Go.Proofs.Ytemiecghdmagnaa.rgP
set_option linter.unusedVariables false
set_option linter.unusedSimpArgs false

set_option maxHeartbeats 4000000 in
theorem Put_ok (r : Rg) (A B : Option Addr) (n c m d : Nat) (l : List Int) (w : World) (h : RgIn w A n c r) (hl : Has .u8 w B l) (hm : l.length = m) (hk : putE r l = 0) :
    Calls Try.prog 41 #[.agg #[.int .i64 (r).l, .slice A n c, .int .i64 (r).n], .slice B m d] w fun e w' => ∃ g c', e = .returned (.tuple #[.agg #[.int .i64 r.l, .slice (some ⟨g, 0, none⟩) n c', .int .i64 (putR r l).n], .int .i64 0]) ∧ OwnI w' w.heap.size 5 .u8 (.slice (some ⟨g, 0, none⟩) n c') (putR r l).b ∧ Below w.heap.size w w' := by
  have H := Lib.hid h
  have HL := Lib.hid hl
  have HM := Lib.hid hm
  obtain ⟨h1, h3, h4⟩ := put_parts hm hk
  have e1 : rgE r = 0 := rgE_yes h1
  obtain ⟨a1, a2, a3, a4⟩ := ok_parts h h1
  have HN := Lib.hid a2
  have HN1 := Lib.hid a1
  have n8 : (n : Int) ≤ 8192 := by omega
  have hmk := mk8 n (by omega)
  clear h hk h1 hm hl a1 a2
  go_enter Try.func41, Try.ntmps41
  go_upto_region 8 with (first | (go_at_call 33; refine (Check_any r A n c _ (H.out.below (by (repeat' (first | (with_reducible exact Below.refl _ _) | (with_reducible assumption) | (with_reducible refine below_drewN ?_ _) | (with_reducible refine below_new ?_ _) | (with_reducible refine Below.alloc ?_ ?_ _) | (with_reducible refine Below.drew ?_) | (with_reducible refine Below.setCell ?_ ?_ _) | (with_reducible apply below_at; (case k => (with_reducible assumption)); (case hB => omega)) | (with_reducible apply below_on; (with_reducible assumption)) | (go_size; done) | (with_reducible apply size_of)))))).mono ?_; rintro e w1 ⟨rfl, hb1⟩; rw [e1]; have K1 : Lies (w1) (w.heap.size) 26 [.int .i64 (r).l, .slice (A) (n) (c), .int .i64 (r).n] := (by (repeat' (first | (with_reducible assumption) | (with_reducible exact Lies.fresh _ _ _) | (with_reducible apply Lies.fresh_at; (first | (with_reducible rfl) | (simp; done))) | (with_reducible refine Lies.drew ?_) | (with_reducible refine Lies.drewN ?_ _) | (with_reducible refine Lies.alloc ?_ _) | (with_reducible apply Lies.past; case hb => (with_reducible assumption)) | (with_reducible apply Lies.keeps; (case k => (with_reducible assumption)); (case ht => decide)) | (with_reducible apply Lies.store3) | (with_reducible apply Lies.other; case hp => (first | omega | (simp; done) | (simp; omega)))))); have Z1 : Lies (w1) (w.heap.size + 1) 26 [.int .i64 0, .slice none 0 0, .int .i64 0] := (by (repeat' (first | (with_reducible assumption) | (with_reducible exact Lies.fresh _ _ _) | (with_reducible apply Lies.fresh_at; (first | (with_reducible rfl) | (simp; done))) | (with_reducible refine Lies.drew ?_) | (with_reducible refine Lies.drewN ?_ _) | (with_reducible refine Lies.alloc ?_ _) | (with_reducible apply Lies.past; case hb => (with_reducible assumption)) | (with_reducible apply Lies.keeps; (case k => (with_reducible assumption)); (case ht => decide)) | (with_reducible apply Lies.store3) | (with_reducible apply Lies.other; case hp => (first | omega | (simp; done) | (simp; omega)))))); obtain ⟨p0, p1, p2, -, -, -⟩ := K1.three; obtain ⟨z0, z1, z2, y0, y1, y2⟩ := Z1.three; have HZ1 := Lib.hid Z1; have HK1 := Lib.hid K1; have HB1 := Lib.hid hb1; have lt1 := Z1.lt; have lt0 := K1.lt))
  go_cut [7] (fun s7 wx => ∃ g G, s7 = .pointer (some ⟨G, 0, none⟩) ∧ (Lies (wx) (G) 26 [.int .i64 (r).l, .slice ((some ⟨g, 0, none⟩)) (n) (n), .int .i64 (r).n]) ∧ OwnI wx (w.heap.size + 2) 5 .u8 (.slice (some ⟨g, 0, none⟩) n n) (List.replicate n 0) ∧ (Lies (wx) (w.heap.size) 26 [.int .i64 (r).l, .slice (A) (n) (c), .int .i64 (r).n]) ∧ (Lies (wx) (w.heap.size + 1) 26 [.int .i64 0, .slice none 0 0, .int .i64 0]) ∧ Below w.heap.size w wx ∧ w.heap.size + 1 < G)
  case first =>
    go_region
    all_goals
      go_wp2_with fail
      go_meet
      refine ⟨_, _, rfl, by (repeat' (first | (with_reducible assumption) | (with_reducible exact Lies.fresh _ _ _) | (with_reducible apply Lies.fresh_at; (first | (with_reducible rfl) | (simp; done))) | (with_reducible refine Lies.drew ?_) | (with_reducible refine Lies.drewN ?_ _) | (with_reducible refine Lies.alloc ?_ _) | (with_reducible apply Lies.past; case hb => (with_reducible assumption)) | (with_reducible apply Lies.keeps; (case k => (with_reducible assumption)); (case ht => decide)) | (with_reducible apply Lies.store3) | (with_reducible apply Lies.other; case hp => (first | omega | (simp; done) | (simp; omega))))), ?_, by (repeat' (first | (with_reducible assumption) | (with_reducible exact Lies.fresh _ _ _) | (with_reducible apply Lies.fresh_at; (first | (with_reducible rfl) | (simp; done))) | (with_reducible refine Lies.drew ?_) | (with_reducible refine Lies.drewN ?_ _) | (with_reducible refine Lies.alloc ?_ _) | (with_reducible apply Lies.past; case hb => (with_reducible assumption)) | (with_reducible apply Lies.keeps; (case k => (with_reducible assumption)); (case ht => decide)) | (with_reducible apply Lies.store3) | (with_reducible apply Lies.other; case hp => (first | omega | (simp; done) | (simp; omega))))), by (repeat' (first | (with_reducible assumption) | (with_reducible exact Lies.fresh _ _ _) | (with_reducible apply Lies.fresh_at; (first | (with_reducible rfl) | (simp; done))) | (with_reducible refine Lies.drew ?_) | (with_reducible refine Lies.drewN ?_ _) | (with_reducible refine Lies.alloc ?_ _) | (with_reducible apply Lies.past; case hb => (with_reducible assumption)) | (with_reducible apply Lies.keeps; (case k => (with_reducible assumption)); (case ht => decide)) | (with_reducible apply Lies.store3) | (with_reducible apply Lies.other; case hp => (first | omega | (simp; done) | (simp; omega))))), by (repeat' (first | (with_reducible exact Below.refl _ _) | (with_reducible assumption) | (with_reducible refine below_drewN ?_ _) | (with_reducible refine below_new ?_ _) | (with_reducible refine Below.alloc ?_ ?_ _) | (with_reducible refine Below.drew ?_) | (with_reducible refine Below.setCell ?_ ?_ _) | (with_reducible apply below_at; (case k => (with_reducible assumption)); (case hB => omega)) | (with_reducible apply below_on; (with_reducible assumption)) | (go_size; done) | (with_reducible apply size_of))), by first | omega | (simp; done) | (simp; omega)⟩
      repeat' (first | (refine own_z _ n ?_ ?_ ?_ <;> (first | omega | (simp; done) | (simp; omega) | decide | (simp only [maxLen]; omega))) | refine own_drew ?_ | refine own_alloc ?_ _)
  case rest =>
    obtain ⟨g, G, rfl, KG, O, K2, Z2, W2, ltG⟩ := hcut
    have HKG := Lib.hid KG
    have HO := Lib.hid O
    have HK2 := Lib.hid K2
    have HZ2 := Lib.hid Z2
    have HW2 := Lib.hid W2
    obtain ⟨q0, q1, q2, -, -, -⟩ := KG.three
    obtain ⟨s0, s1, s2, -, -, -⟩ := K2.three
    clear p0 p1 p2 z0 z1 z2 y0 y1 y2 K1 Z1 hb1 lt1 lt0 KG O K2 Z2 W2 hmk
    have HLTG := Lib.hid ltG
    clear ltG
    have HA4 := Lib.hid (And.intro a3 a4)
    have HM4 := Lib.hid (And.intro h3 h4)
    clear a3 a4 h3 h4
    have n0 : 0 < n := by have := HN1.out; omega
    go_wp2_with (with_reducible refine copy8 rfl _ _ rfl (w.heap.size + 2) g n n (List.replicate n 0) r.b rfl HO.out A c rfl (H.out.h.below HW2.out (Nat.le_refl _)) H.out.e n0 ?_; intro w3 O3 k3 b3; have HKG3 := Lib.hid (HKG.out.keeps k3 (by decide)); have HK3 := Lib.hid (HK2.out.keeps k3 (by decide)); have HZ3 := Lib.hid (HZ2.out.keeps k3 (by decide)); have HO3 := Lib.hid O3; have HB3 := Lib.hid b3)
    have gb := HO.out.base_le
    have HW3 : Hid (Below w.heap.size w w3) := Lib.hid (HW2.out.trans (HB3.out.mono (by omega)))
    have HGB := Lib.hid (show w.heap.size + 2 ≤ g by exact gb.1)
    have HSZ := Lib.hid (HKG3.out.lt)
    clear O3 k3 b3 q0 q1 q2 s0 s1 s2 gb HKG HK2 HZ2 HO HW2 HB3 
    have HNE : Hid (g ≠ G) := Lib.hid (fun e => own_ne HO3.out HKG3.out (by decide) (by rw [e]; rfl))
    go_loopw [45] (fun i wr => ∃ (q t : Nat), q ≤ m ∧ i = .int .i64 (q : Int) ∧ (t : Int) = r.n + q ∧ Lies wr G 26 [.int .i64 r.l, .slice (some ⟨g, 0, none⟩) n n, .int .i64 (t : Int)] ∧ OwnI wr (w.heap.size + 2) 5 .u8 (.slice (some ⟨g, 0, none⟩) n n) (putR r (l.take q)).b ∧ (Lies (wr) (w.heap.size + 1) 26 [.int .i64 0, .slice none 0 0, .int .i64 0]) ∧ Below w.heap.size w wr) (fun i _ => m - (intOf i).toNat)
    case atStart =>
      refine ⟨0, r.n.toNat, Nat.zero_le _, rfl, by have := HA4.out; omega, ?_, HO3.out, HZ3.out, HW3.out⟩
      have h := HKG3.out
      rw [show ((r.n.toNat : Nat) : Int) = r.n by have := HA4.out; omega]
      exact h
    case round =>
      obtain ⟨q, t, hq, rfl, ht, K, O, Z, acc⟩ := hrel
      have HK4 := Lib.hid K
      have HO4 := Lib.hid O
      have HZ4 := Lib.hid Z
      have HW4 := Lib.hid acc
      have HT := Lib.hid ht
      by_cases hlt : q < m
      · obtain ⟨bb, off, rfl, hbb, hcb⟩ := has_some HL.out (by rw [HM.out]; omega)
        have hcx : wr.cell? ⟨bb, off + q, none⟩ = some (.int .u8 (l.getD q 0)) := by rw [(bcell acc).1 bb _ hbb]; exact hcb q (by rw [HM.out]; exact hlt)
        have hlen : (putR r (l.take q)).b.length = n := by rw [putR_len]; exact H.out.e
        have HST := Lib.hid (put_step r l q (by rw [HM.out]; exact hlt))
        have HJ : Hid ((putR r (l.take q)).n.toNat % (putR r (l.take q)).b.length = t % n) := Lib.hid (by rw [hlen, putR_n, List.length_take, HM.out, show min q m = q by omega, ← ht, Int.toNat_natCast])
        have t1 : (t : Int) < 1073741824 := by have := HA4.out; have := HM4.out; omega
        have HT1 : Hid (t < 1073741824) := Lib.hid (by omega)
        have HLE := Lib.hid hlen
        obtain ⟨x, hx⟩ : ∃ x, l.getD q 0 = x := ⟨_, rfl⟩
        rw [hx] at hcx HST
        have q1 : (q : Int) < m := by omega
        have q0 : 0 ≤ (q : Int) := by omega
        have m1 : (m : Int) ≤ 20000 := HM4.out.1
        have HQ := Lib.hid hlt
        clear K O Z acc hlen hx hcb hlt hq ht t1
        go_wp2_with (go_at_call 63; refine (put_one r.l x _ (w.heap.size + 2) G g n n t _ HK4.out HO4.out (by have := HLTG.out; omega) HLE.out n0 (by omega) HT1.out HNE.out).mono ?_; rintro e w4 ⟨rfl, d4, rfl⟩)
        go_roundw
        case rel =>
          have K5 := HK4.out.other (p := ⟨g, t % n, none⟩) HNE.out (.int .u8 x)
          refine ⟨q + 1, t + 1, HQ.out, by go_num, by have := HT.out; omega, ?_, ?_, ?_, ?_⟩
          · have h := (K5.set 2 (.int .i64 ((t : Int) + 1))).drewN d4
            exact h
          · have h := own_set (HO4.out.store (t % n) x) (own_ne (HO4.out.store (t % n) x) K5 (by decide)) (.int .i64 ((t : Int) + 1)) (p := ⟨G, 2, none⟩)
            rw [HST.out, put1, HJ.out]
            exact h
          · exact ((HZ4.out.other (p := ⟨g, t % n, none⟩) (by have := HGB.out; show g ≠ w.heap.size + 1; omega) _).other (p := ⟨G, 2, none⟩) (by have := HLTG.out; show G ≠ w.heap.size + 1; omega) _).drewN d4
          · refine below_drewN ?_ d4
            have z1 : w.heap.size ≤ g := by have := HGB.out; omega
            have z2 : w.heap.size ≤ G := by have := HLTG.out; omega
            exact Below.setCell (Below.setCell HW4.out z1 _) z2 _
        case measure => simp [intOf]; omega
      · have he : q = m := by omega
        subst he
        obtain ⟨z0, z1, z2, y0, y1, y2⟩ := Z.three
        obtain ⟨p0, p1, p2, -, -, -⟩ := K.three
        clear K O Z acc hlt hq ht
        go_wp2
        obtain ⟨t0, t1, t2, -, -, -⟩ := (HZ4.out.store3 (a := .int .i64 r.l) (b := .slice (some ⟨g, 0, none⟩) n n) (c := .int .i64 (t : Int))).three
        refine bodyPost_ret (by simp [results, Try.results41, go_sem, t0, t1, t2]; try rfl) rfl ?_
        have hall : l.take q = l := List.take_of_length_le (by rw [HM.out]; exact Nat.le_refl _)
        refine ⟨g, n, ?_, ?_, below_store3 HW4.out (Nat.le_succ _)⟩
        · rw [putR_n, HM.out, ← HT.out]
        · have h := HO4.out
          rw [hall] at h
          exact (own_store3 h HZ4.out (by decide)).mono (by omega)
end Go.Proofs.Ytemiecghdmagnaa.rgW

namespace Go.Proofs.Ytemiecghdmagnaa.cxP
set_option maxRecDepth 100000
open Go.RowKit Go.Proofs.Ytemiecghdmagnaa.base Go.Proofs.Ytemiecghdmagnaa.rgP Go.Proofs.Ytemiecghdmagnaa.rgW
set_option linter.unusedVariables false
theorem put_new {l : Int} (hl : lvB l = true) (bs : List Int) (hm : bs.length ≤ 700) : newE l = 0 ∧ putE (newR l) bs = 0 ∧ rgOk (putR (newR l) bs) = true ∧ (putR (newR l) bs).n = bs.length ∧ (putR (newR l) bs).b.length = szOf l := by
  have h := newR_ok hl
  have en : (newR l).n = 0 := by unfold newR; rw [if_pos hl]
  have eb : (newR l).b.length = szOf l := by unfold newR; rw [if_pos hl]; simp
  have e1 : putE (newR l) bs = 0 := by rw [putE, if_pos h, if_neg (by omega), en, if_neg (by omega)]
  exact ⟨by unfold newE; rw [if_pos hl], e1, putR_ok bs h (by rw [en]; omega), by rw [putR_n, en]; omega, by rw [putR_len, eb]⟩
theorem ago_put {l : Int} (hl : lvB l = true) (bs : List Int) (k : Nat) (h1 : 1 ≤ k) (h2 : k ≤ szOf l) (h3 : k ≤ bs.length) : ago (putR (newR l) bs) k = bs.getD (bs.length - k) 0 := by
  have en : (newR l).n = 0 := by unfold newR; rw [if_pos hl]
  have eb : (newR l).b.length = szOf l := by unfold newR; rw [if_pos hl]; simp
  have hs := sz_bd hl
  have e := putR_get bs (newR l) (bs.length - k) (by rw [en]; omega) (by rw [eb]; omega) (by omega) (by rw [eb]; omega)
  rw [ago, putR_n, putR_len, en, if_neg (by omega), ← e, en]
  congr 1
  congr 1
  omega
theorem lastL_put {l : Int} (hl : lvB l = true) (bs : List Int) (k : Nat) (h2 : k ≤ szOf l) (h3 : k ≤ bs.length) : lastL (putR (newR l) bs) k = bs.drop (bs.length - k) := by
  apply List.ext_getElem
  · rw [lastL_len]; simp; omega
  · intro i i1 i2
    rw [lastL_len] at i1
    have h := lastL_at (putR (newR l) bs) k i i1
    rw [show (k : Int) - (i : Int) = ((k - i : Nat) : Int) by omega, ago_put hl bs (k - i) (by omega) (by omega) (by omega)] at h
    have e : (lastL (putR (newR l) bs) k).getD i 0 = (lastL (putR (newR l) bs) k)[i]'(by rw [lastL_len]; exact i1) := by rw [List.getD_eq_getElem?_getD, List.getElem?_eq_getElem (by rw [lastL_len]; exact i1)]; rfl
    rw [← e, ← h, List.getElem_drop, List.getD_eq_getElem?_getD, List.getElem?_eq_getElem (by omega)]
    simp only [Option.getD_some]
    congr 1
    omega
end Go.Proofs.Ytemiecghdmagnaa.cxP

namespace Go.Proofs.Ytemiecghdmagnaa.rgL
set_option maxRecDepth 100000
open Go.RowKit Go.Proofs.Ytemiecghdmagnaa.base Go.Proofs.Ytemiecghdmagnaa.rgP Go.Proofs.Ytemiecghdmagnaa.rgW
set_option linter.unusedVariables false
set_option linter.unusedSimpArgs false

theorem put1_b {r : Rg} {c : Int} (h : ∀ z ∈ r.b, 0 ≤ z ∧ z ≤ 255) (hc : 0 ≤ c ∧ c ≤ 255) : ∀ z ∈ (put1 r c).b, 0 ≤ z ∧ z ≤ 255 := by
  intro z hz
  rcases List.mem_or_eq_of_mem_set hz with h1 | h1
  · exact h z h1
  · rw [h1]; exact hc
theorem putR_b : ∀ (l : List Int) {r : Rg}, (∀ z ∈ r.b, 0 ≤ z ∧ z ≤ 255) → (∀ z ∈ l, 0 ≤ z ∧ z ≤ 255) → ∀ z ∈ (putR r l).b, 0 ≤ z ∧ z ≤ 255
  | [], _, h, _ => h
  | c :: l, r, h, hl => putR_b l (put1_b h (hl c (by simp))) (fun z hz => hl z (by simp [hz]))
theorem own_cap {w : World} {B g : Nat} {e : TypeId} {k : IntKind} {n c : Nat} {zs : List Int} (h : OwnI w B e k (.slice (some ⟨g, 0, none⟩) n c) zs) : n = zs.length ∧ n ≤ c ∧ c ≤ 9223372036854775807 := by
  obtain ⟨hl, h2⟩ := h
  rcases h2 with ⟨h', _⟩ | ⟨g', cap, cur, hv, hB, hg, hnc, hcm, hcs, ht⟩
  · cases h'
  · injection hv with v1 v2 v3
    subst v2 v3
    exact ⟨rfl, hnc, by simpa [maxLen] using hcm⟩
theorem zero_in (w : World) : RgIn w none 0 0 zeroR := ⟨by decide, by decide, by decide, by decide, .inl rfl, rfl, Nat.le_refl _, by decide, by intro z h; cases h⟩
theorem zero_z (w : World) (B : Nat) : OwnZ w B (.slice none 0 0) zeroR.b := .inr ⟨rfl, none, rfl⟩
theorem new_in {l : Int} (h : lvB l = true) {w : World} {B g : Nat} (o : OwnI w B 5 .u8 (.slice (some ⟨g, 0, none⟩) (szOf l) (szOf l)) (List.replicate (szOf l) 0)) : RgIn w (some ⟨g, 0, none⟩) (szOf l) (szOf l) (newR l) := by
  have hl := (lvB_iff l).1 h
  have hb := sz_bd h
  have e : newR l = ⟨l, List.replicate (szOf l) 0, 0⟩ := by unfold newR; rw [if_pos h]
  rw [e]
  exact ⟨by show -9223372036854775808 ≤ l; omega, by show l ≤ 9223372036854775807; omega, by show -9223372036854775808 ≤ (0 : Int); omega, by show (0 : Int) ≤ 9223372036854775807; omega, o.has, by simp, Nat.le_refl _, by omega, by intro z hz; have := List.eq_of_mem_replicate hz; omega⟩
theorem New_any (l : Int) (w : World) :
    Calls Try.prog 23 #[.int .i64 l] w fun e w' => ∃ A n c, e = .returned (.tuple #[.agg #[.int .i64 (newR l).l, .slice A n c, .int .i64 (newR l).n], .int .i64 (newE l)]) ∧ RgIn w' A n c (newR l) ∧ OwnZ w' w.heap.size (.slice A n c) (newR l).b ∧ Below w.heap.size w w' := by
  cases h : lvB l
  · refine (New_bad l w h).mono ?_
    rintro e w1 ⟨rfl, hb⟩
    have e1 : newR l = zeroR := by unfold newR; rw [h]; rfl
    have e2 : newE l = 2 := by unfold newE; rw [h]; rfl
    rw [e1, e2]
    exact ⟨none, 0, 0, rfl, zero_in _, zero_z _ _, hb⟩
  · refine (New_ok l w h).mono ?_
    rintro e w1 ⟨g, rfl, ho, hb⟩
    have hi := new_in h ho
    have e1 : newR l = ⟨l, List.replicate (szOf l) 0, 0⟩ := by unfold newR; rw [if_pos h]
    have e2 : newE l = 0 := by unfold newE; rw [h]; rfl
    refine ⟨_, _, _, ?_, hi, ?_, hb⟩
    · rw [e1, e2]
    · rw [e1]; exact .inl ho
theorem put_in {r : Rg} {A : Option Addr} {n c m : Nat} {l : List Int} {w w1 : World} {B g d : Nat} (h : RgIn w A n c r) (hm : l.length = m) (hb : ∀ z ∈ l, 0 ≤ z ∧ z ≤ 255) (hk : putE r l = 0) (o : OwnI w1 B 5 .u8 (.slice (some ⟨g, 0, none⟩) n d) (putR r l).b) : RgIn w1 (some ⟨g, 0, none⟩) n d (putR r l) := by
  obtain ⟨h1, h3, h4⟩ := put_parts hm hk
  obtain ⟨a1, a2, a3, a4⟩ := ok_parts h h1
  obtain ⟨c1, c2, c3⟩ := own_cap o
  have e1 := putR_l l r
  have e2 := putR_n l r
  refine ⟨by rw [e1]; exact h.l1, by rw [e1]; exact h.l2, by rw [e2]; omega, by rw [e2]; omega, o.has, c1.symm, c2, c3, putR_b l h.b hb⟩
theorem Put_any (r : Rg) (A B : Option Addr) (n c m d : Nat) (l : List Int) (w : World) (h : RgIn w A n c r) (hl : Has .u8 w B l) (hm : l.length = m) (m2 : m ≤ 9223372036854775807) (hb : ∀ z ∈ l, 0 ≤ z ∧ z ≤ 255) :
    Calls Try.prog 41 #[.agg #[.int .i64 (r).l, .slice A n c, .int .i64 (r).n], .slice B m d] w fun e w' => ∃ A' n' c', e = .returned (.tuple #[.agg #[.int .i64 (putV r l).l, .slice A' n' c', .int .i64 (putV r l).n], .int .i64 (putE r l)]) ∧ RgIn w' A' n' c' (putV r l) ∧ OwnZ w' w.heap.size (.slice A' n' c') (putV r l).b ∧ Below w.heap.size w w' := by
  by_cases hk : putE r l = 0
  · refine (Put_ok r A B n c m d l w h hl hm hk).mono ?_
    rintro e w1 ⟨g, d, rfl, ho, hb1⟩
    have e1 : putV r l = putR r l := by unfold putV; rw [if_pos hk]
    rw [e1, hk]
    refine ⟨_, _, _, ?_, put_in h hm hb hk ho, .inl ho, hb1⟩
    rw [putR_l]
  · refine (Put_bad r A B n c m d l w h hm m2 hk).mono ?_
    rintro e w1 ⟨rfl, hb1⟩
    have e1 : putV r l = zeroR := by unfold putV; rw [if_neg hk]
    rw [e1]
    exact ⟨none, 0, 0, rfl, zero_in _, zero_z _ _, hb1⟩
end Go.Proofs.Ytemiecghdmagnaa.rgL

namespace Go.Proofs.Ytemiecghdmagnaa.rgL
set_option maxRecDepth 100000
open Go.RowKit Go.Proofs.Ytemiecghdmagnaa.base Go.Proofs.Ytemiecghdmagnaa.rgP Go.Proofs.Ytemiecghdmagnaa.rgW
set_option linter.unusedVariables false
set_option linter.unusedSimpArgs false

theorem has_mark {w : World} {e : TypeId} {zs : List Int} {g : Nat} {fr : Nat × Nat} (hg : w.heap.size = g) : Has .u8 (w.alloc (.cells (zs.map (Value.int .u8)).toArray e fr)) (some ⟨g, 0, none⟩) zs := by
  refine .inr ⟨g, 0, rfl, by rw [← hg]; simp, fun i hi => ?_⟩
  rw [Joins.cell_alloc_mark_at w _ e fr g _ hg.symm, Nat.zero_add]
  simp [List.getD_eq_getElem?_getD, List.getElem?_eq_getElem hi]
theorem has_drew {w : World} {k : IntKind} {A : Option Addr} {zs : List Int} (h : Has k w A zs) : Has k w.drew A zs := h
theorem has_alloc {w : World} {k : IntKind} {A : Option Addr} {zs : List Int} (h : Has k w A zs) (o : Obj) : Has k (w.alloc o) A zs := h.below ((Below.refl _ _).alloc (Nat.le_refl _) _) (Nat.le_refl _)
theorem _root_.Go.Proofs.Ytemiecghdmagnaa.base.RgIn.own {w w' : World} {A : Option Addr} {n c B : Nat} {r : Rg} (h : RgIn w A n c r) (o : OwnZ w' B (.slice A n c) r.b) : RgIn w' A n c r := ⟨h.l1, h.l2, h.n1, h.n2, o.has, h.e, h.c1, h.c2, h.b⟩
theorem y3 {w : World} {g : Nat} {t : TypeId} {a b c : Value} (h : Lies w g t [a, b, c]) : w.cell? ⟨g, 0, none⟩ = some a ∧ w.cell? ⟨g, 1, none⟩ = some b ∧ w.cell? ⟨g, 2, none⟩ = some c := ⟨h.three.1, h.three.2.1, h.three.2.2.1⟩
end Go.Proofs.Ytemiecghdmagnaa.rgL
