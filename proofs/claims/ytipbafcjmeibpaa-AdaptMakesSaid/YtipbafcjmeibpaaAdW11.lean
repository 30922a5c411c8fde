/- Run of adaptive maps, by walks. -/
import Derived.Test.YtipbafcjmeibpaaAdW10
import Derived.Test.YtipbafcjmeibpaaStW3
namespace Go.Proofs.Ytipbafcjmeibpaa.adW
open Go.RowKit Go.Proofs.Ytipbafcjmeibpaa.base Go.Proofs.Ytipbafcjmeibpaa.adP Go.Proofs.Ytipbafcjmeibpaa.cntP Go.Proofs.Ytipbafcjmeibpaa.stP
open Go.Proofs.Ytipbafcjmeibpaa.stW (NextS_any)
set_option linter.unusedVariables false
set_option linter.unusedSimpArgs false

set_option maxHeartbeats 1000000 in
theorem Run_bad (m : Ad) (A B : Option Addr) (lp ln cp cn : Nat) (s : Int) (C : Option Addr) (n cc : Nat) (w : World) (h : AdIn w A B lp ln m) (s0 : 0 ≤ s) (s1 : s ≤ 255) (hk : atE m s ≠ 0) :
    Calls Try.prog 13 #[.agg #[.int .i32 (m).l, .slice A lp cp, .slice B ln cn], .int .u8 s, .slice C n cc] w fun e w' => e = .returned (.tuple #[.agg #[.int .i32 (zeroA).l, .slice none 0 0, .slice none 0 0], .int .u8 0, .int .i64 (atE m s)]) ∧ Below w.heap.size w w' := by
  have H := Lib.hid h
  clear h
  obtain ⟨e, he, hne⟩ : ∃ e, atE m s = e ∧ (e != 0) = true := ⟨_, rfl, by simpa using hk⟩
  have HE := Lib.hid he
  clear hk he
  rw [HE.out]
  go_enter Try.func13, Try.ntmps13
  go_wp2_with (first | (go_at_call 28; refine (checkAt_any m A B lp ln cp cn s _ (H.out.below (by (repeat' (first | (with_reducible exact Below.refl _ _) | (with_reducible assumption) | (with_reducible refine below_drewN ?_ _) | (with_reducible refine below_new ?_ _) | (with_reducible refine Below.alloc ?_ ?_ _) | (with_reducible refine Below.drew ?_) | (with_reducible refine Below.setCell ?_ ?_ _) | (with_reducible apply below_at; (case k => (with_reducible assumption)); (case hB => omega)) | (with_reducible apply below_on; (with_reducible assumption)) | (go_size; done) | (with_reducible apply size_of))))) s0 s1).mono ?_; rintro e1 w1 ⟨rfl, hb1⟩; rw [HE.out]; have hr1 : Lies (w1) (w.heap.size + 1) 24 [.int .i32 0, .slice none 0 0, .slice none 0 0] := (by (repeat' (first | (with_reducible assumption) | (with_reducible exact Lies.fresh _ _ _) | (with_reducible apply Lies.fresh_at; (first | (with_reducible rfl) | (simp; done))) | (with_reducible refine Lies.drew ?_) | (with_reducible refine Lies.drewN ?_ _) | (with_reducible refine Lies.alloc ?_ _) | (with_reducible apply Lies.past; case hb => (with_reducible assumption)) | (with_reducible apply Lies.keeps; (case k => (with_reducible assumption)); (case ht => decide)) | (with_reducible apply Lies.store3) | (with_reducible apply Lies.other; case hp => (first | omega | (simp; done) | (simp; omega)))))); obtain ⟨r0, r1, r2, f0, f1, f2⟩ := hr1.three))
  obtain ⟨t0, t1, t2, -, -, -⟩ := (hr1.store3 (a := .int .i32 0) (b := .slice none 0 0) (c := .slice none 0 0)).three
  refine bodyPost_ret (by simp [results, Try.results13, go_sem, t0, t1, t2]; try rfl) rfl ?_
  exact ⟨rfl, by (repeat' (first | (with_reducible exact Below.refl _ _) | (with_reducible assumption) | (with_reducible refine below_drewN ?_ _) | (with_reducible refine below_new ?_ _) | (with_reducible refine Below.alloc ?_ ?_ _) | (with_reducible refine Below.drew ?_) | (with_reducible refine Below.setCell ?_ ?_ _) | (with_reducible apply below_at; (case k => (with_reducible assumption)); (case hB => omega)) | (with_reducible apply below_on; (with_reducible assumption)) | (go_size; done) | (with_reducible apply size_of)))⟩
set_option maxHeartbeats 1000000 in
theorem Run_many (m : Ad) (A B : Option Addr) (lp ln cp cn : Nat) (s : Int) (C : Option Addr) (n cc : Nat) (w : World) (h : AdIn w A B lp ln m) (s0 : 0 ≤ s) (s1 : s ≤ 255) (hk : atE m s = 0) (hn : 20000 < n) (hn2 : n ≤ 9223372036854775807) :
    Calls Try.prog 13 #[.agg #[.int .i32 (m).l, .slice A lp cp, .slice B ln cn], .int .u8 s, .slice C n cc] w fun e w' => e = .returned (.tuple #[.agg #[.int .i32 (zeroA).l, .slice none 0 0, .slice none 0 0], .int .u8 0, .int .i64 4]) ∧ Below w.heap.size w w' := by
  have H := Lib.hid h
  have HE := Lib.hid hk
  have hn' : (20000 : Int) < n := by omega
  have hn3 : (n : Int) ≤ 9223372036854775807 := by omega
  clear h hk hn hn2
  go_enter Try.func13, Try.ntmps13
  go_wp2_with (first | (go_at_call 28; refine (checkAt_any m A B lp ln cp cn s _ (H.out.below (by (repeat' (first | (with_reducible exact Below.refl _ _) | (with_reducible assumption) | (with_reducible refine below_drewN ?_ _) | (with_reducible refine below_new ?_ _) | (with_reducible refine Below.alloc ?_ ?_ _) | (with_reducible refine Below.drew ?_) | (with_reducible refine Below.setCell ?_ ?_ _) | (with_reducible apply below_at; (case k => (with_reducible assumption)); (case hB => omega)) | (with_reducible apply below_on; (with_reducible assumption)) | (go_size; done) | (with_reducible apply size_of))))) s0 s1).mono ?_; rintro e1 w1 ⟨rfl, hb1⟩; rw [HE.out]; have hr1 : Lies (w1) (w.heap.size + 1) 24 [.int .i32 0, .slice none 0 0, .slice none 0 0] := (by (repeat' (first | (with_reducible assumption) | (with_reducible exact Lies.fresh _ _ _) | (with_reducible apply Lies.fresh_at; (first | (with_reducible rfl) | (simp; done))) | (with_reducible refine Lies.drew ?_) | (with_reducible refine Lies.drewN ?_ _) | (with_reducible refine Lies.alloc ?_ _) | (with_reducible apply Lies.past; case hb => (with_reducible assumption)) | (with_reducible apply Lies.keeps; (case k => (with_reducible assumption)); (case ht => decide)) | (with_reducible apply Lies.store3) | (with_reducible apply Lies.other; case hp => (first | omega | (simp; done) | (simp; omega)))))); obtain ⟨r0, r1, r2, f0, f1, f2⟩ := hr1.three))
  obtain ⟨t0, t1, t2, -, -, -⟩ := (hr1.store3 (a := .int .i32 0) (b := .slice none 0 0) (c := .slice none 0 0)).three
  refine bodyPost_ret (by simp [results, Try.results13, go_sem, t0, t1, t2]; try rfl) rfl ?_
  exact ⟨rfl, by (repeat' (first | (with_reducible exact Below.refl _ _) | (with_reducible assumption) | (with_reducible refine below_drewN ?_ _) | (with_reducible refine below_new ?_ _) | (with_reducible refine Below.alloc ?_ ?_ _) | (with_reducible refine Below.drew ?_) | (with_reducible refine Below.setCell ?_ ?_ _) | (with_reducible apply below_at; (case k => (with_reducible assumption)); (case hB => omega)) | (with_reducible apply below_on; (with_reducible assumption)) | (go_size; done) | (with_reducible apply size_of)))⟩
theorem ruM_l : ∀ (l : List Int) (m : Ad) (s : Int), (ruM m s l).l = m.l
  | [], _, _ => rfl
  | z :: l, m, s => by show (ruM (mv m s z) (sNext s z) l).l = m.l; rw [ruM_l l]; rfl
theorem take_next {zs : List Int} {k : Nat} (hk : k < zs.length) : zs.take (k + 1) = zs.take k ++ [zs.getD k 0] := by
  rw [List.take_add_one, List.getD_eq_getElem?_getD, List.getElem?_eq_getElem hk]; rfl
theorem bits_take {zs : List Int} {k : Nat} (hk : k < zs.length) (h : bitsB (zs.take k) = true) (hz : zs.getD k 0 ≤ 1) : bitsB (zs.take (k + 1)) = true := by
  rw [take_next hk, bitsB_snoc, h, decide_eq_true hz]; rfl
theorem bits_not {zs : List Int} {k : Nat} (hk : k < zs.length) (hz : ¬ zs.getD k 0 ≤ 1) : bitsB zs = false := by
  rw [Bool.eq_false_iff]
  intro h
  exact hz ((bitsB_iff zs).1 h _ (by rw [List.getD_eq_getElem?_getD, List.getElem?_eq_getElem hk]; exact List.getElem_mem hk))
theorem bits_two {zs : List Int} (h : bitsB zs = true) (hz : ∀ z ∈ zs, 0 ≤ z ∧ z ≤ 255) : ∀ z ∈ zs, z = 0 ∨ z = 1 := fun z hm => by
  have a := (bitsB_iff zs).1 h z hm
  have b := hz z hm
  omega
set_option maxHeartbeats 4000000 in
theorem Run_ok (m : Ad) (A B : Option Addr) (cp cn : Nat) (s : Int) (C : Option Addr) (n cc : Nat) (zs : List Int) (w : World) (h : AdIn w A B 193 193 m) (hcp : 193 ≤ cp) (hcn : 193 ≤ cn) (s0 : 0 ≤ s) (s1 : s < 193) (ha : adOk m = true) (hC : Has .u8 w C zs) (hn : zs.length = n) (hn2 : n ≤ 20000) (hz : ∀ z ∈ zs, 0 ≤ z ∧ z ≤ 255) :
    Calls Try.prog 13 #[.agg #[.int .i32 (m).l, .slice A 193 cp, .slice B 193 cn], .int .u8 s, .slice C n cc] w fun e w' => (bitsB zs = true ∧ ∃ gp gn c d, e = .returned (.tuple #[.agg #[.int .i32 (m).l, .slice (some ⟨gp, 0, none⟩) 193 c, .slice (some ⟨gn, 0, none⟩) 193 d], .int .u8 (sRun s zs), .int .i64 0]) ∧ AdOwn w' w.heap.size gp gn c d (ruM m s zs) ∧ Below w.heap.size w w') ∨ (bitsB zs = false ∧ e = .returned (.tuple #[.agg #[.int .i32 (zeroA).l, .slice none 0 0, .slice none 0 0], .int .u8 0, .int .i64 2]) ∧ Below w.heap.size w w') := by
  have H := Lib.hid h
  have HK : Hid (atE m s = 0) := Lib.hid ((atE_zero m s).2 ⟨ha, s1⟩)
  have HA := Lib.hid ha
  have HC := Lib.hid hC
  have HN := Lib.hid hn
  have HZ := Lib.hid hz
  have hn3 : (n : Int) ≤ 20000 := by omega
  clear h ha hC hn hz hn2
  go_enter Try.func13, Try.ntmps13
  go_wp2_with (first
    | (go_at_call 28; refine (checkAt_any m A B 193 193 cp cn s _ (H.out.below (by (repeat' (first | (with_reducible exact Below.refl _ _) | (with_reducible assumption) | (with_reducible refine below_drewN ?_ _) | (with_reducible refine below_new ?_ _) | (with_reducible refine Below.alloc ?_ ?_ _) | (with_reducible refine Below.drew ?_) | (with_reducible refine Below.setCell ?_ ?_ _) | (with_reducible apply below_at; (case k => (with_reducible assumption)); (case hB => omega)) | (with_reducible apply below_on; (with_reducible assumption)) | (go_size; done) | (with_reducible apply size_of))))) s0 (by omega)).mono ?_; rintro e1 w1 ⟨rfl, hb1⟩; rw [HK.out]; have hr1 : Lies (w1) (w.heap.size + 1) 24 [.int .i32 0, .slice none 0 0, .slice none 0 0] := (by (repeat' (first | (with_reducible assumption) | (with_reducible exact Lies.fresh _ _ _) | (with_reducible apply Lies.fresh_at; (first | (with_reducible rfl) | (simp; done))) | (with_reducible refine Lies.drew ?_) | (with_reducible refine Lies.drewN ?_ _) | (with_reducible refine Lies.alloc ?_ _) | (with_reducible apply Lies.past; case hb => (with_reducible assumption)) | (with_reducible apply Lies.keeps; (case k => (with_reducible assumption)); (case ht => decide)) | (with_reducible apply Lies.store3) | (with_reducible apply Lies.other; case hp => (first | omega | (simp; done) | (simp; omega)))))); have hk1 : Lies w1 w.heap.size 24 [.int .i32 m.l, .slice A 193 cp, .slice B 193 cn] := (by (repeat' (first | (with_reducible assumption) | (with_reducible exact Lies.fresh _ _ _) | (with_reducible apply Lies.fresh_at; (first | (with_reducible rfl) | (simp; done))) | (with_reducible refine Lies.drew ?_) | (with_reducible refine Lies.drewN ?_ _) | (with_reducible refine Lies.alloc ?_ _) | (with_reducible apply Lies.past; case hb => (with_reducible assumption)) | (with_reducible apply Lies.keeps; (case k => (with_reducible assumption)); (case ht => decide)) | (with_reducible apply Lies.store3) | (with_reducible apply Lies.other; case hp => (first | omega | (simp; done) | (simp; omega)))))); have lk1 := hk1.lt; have lr1 := hr1.lt; obtain ⟨r0, r1, r2, f0, f1, f2⟩ := hr1.three; obtain ⟨p0, p1, p2, -, -, -⟩ := hk1.three)
    | (go_at_call 29; refine (clone_ok m A B cp cn _ (H.out.below (by (repeat' (first | (with_reducible exact Below.refl _ _) | (with_reducible assumption) | (with_reducible refine below_drewN ?_ _) | (with_reducible refine below_new ?_ _) | (with_reducible refine Below.alloc ?_ ?_ _) | (with_reducible refine Below.drew ?_) | (with_reducible refine Below.setCell ?_ ?_ _) | (with_reducible apply below_at; (case k => (with_reducible assumption)); (case hB => omega)) | (with_reducible apply below_on; (with_reducible assumption)) | (go_size; done) | (with_reducible apply size_of))))) hcp hcn).mono ?_; rintro e1 w2 ⟨gp, gn, c, d, rfl, O2, hb2⟩; have hr2 := hr1.past hb2; have lr2 := hr2.lt; have HO2 := Lib.hid O2; clear O2))
  have HB1 : Hid (Below w.heap.size w w1) := Lib.hid (by (repeat' (first | (with_reducible exact Below.refl _ _) | (with_reducible assumption) | (with_reducible refine below_drewN ?_ _) | (with_reducible refine below_new ?_ _) | (with_reducible refine Below.alloc ?_ ?_ _) | (with_reducible refine Below.drew ?_) | (with_reducible refine Below.setCell ?_ ?_ _) | (with_reducible apply below_at; (case k => (with_reducible assumption)); (case hB => omega)) | (with_reducible apply below_on; (with_reducible assumption)) | (go_size; done) | (with_reducible apply size_of))))
  have HB2 := Lib.hid hb2
  have HR2 := Lib.hid hr2
  clear hr1 hk1 r0 r1 r2 f0 f1 f2 p0 p1 p2 hr2
  have HS0 : Hid (Below w.heap.size w w2) := Lib.hid (by have := HB1.out; (repeat' (first | (with_reducible exact Below.refl _ _) | (with_reducible assumption) | (with_reducible refine below_drewN ?_ _) | (with_reducible refine below_new ?_ _) | (with_reducible refine Below.alloc ?_ ?_ _) | (with_reducible refine Below.drew ?_) | (with_reducible refine Below.setCell ?_ ?_ _) | (with_reducible apply below_at; (case k => (with_reducible assumption)); (case hB => omega)) | (with_reducible apply below_on; (with_reducible assumption)) | (go_size; done) | (with_reducible apply size_of))))
  have hsz := hb2.size
  clear hb1 hb2
  go_loopw [1, 31] (fun st i wr => ∃ k : Nat, k ≤ zs.length ∧ i = .int .i64 k ∧ st = .int .u8 (sRun s (zs.take k)) ∧ bitsB (zs.take k) = true ∧ (Lies (wr) (w2.heap.size) 24 [.int .i32 (m.l), .slice (some ⟨gp, 0, none⟩) 193 (c), .slice (some ⟨gn, 0, none⟩) 193 (d)]) ∧ AdOwn wr w1.heap.size gp gn c d (ruM m s (zs.take k)) ∧ (Lies (wr) (w.heap.size + 1) 24 [.int .i32 0, .slice none 0 0, .slice none 0 0]) ∧ Below w.heap.size w wr) (fun _ i _ => n - (intOf i).toNat)
  case atStart => exact ⟨0, Nat.zero_le _, rfl, rfl, rfl, by (repeat' (first | (with_reducible assumption) | (with_reducible exact Lies.fresh _ _ _) | (with_reducible apply Lies.fresh_at; (first | (with_reducible rfl) | (simp; done))) | (with_reducible refine Lies.drew ?_) | (with_reducible refine Lies.drewN ?_ _) | (with_reducible refine Lies.alloc ?_ _) | (with_reducible apply Lies.past; case hb => (with_reducible assumption)) | (with_reducible apply Lies.keeps; (case k => (with_reducible assumption)); (case ht => decide)) | (with_reducible apply Lies.store3) | (with_reducible apply Lies.other; case hp => (first | omega | (simp; done) | (simp; omega))))), HO2.out.alloc _, by have := HR2.out; (repeat' (first | (with_reducible assumption) | (with_reducible exact Lies.fresh _ _ _) | (with_reducible apply Lies.fresh_at; (first | (with_reducible rfl) | (simp; done))) | (with_reducible refine Lies.drew ?_) | (with_reducible refine Lies.drewN ?_ _) | (with_reducible refine Lies.alloc ?_ _) | (with_reducible apply Lies.past; case hb => (with_reducible assumption)) | (with_reducible apply Lies.keeps; (case k => (with_reducible assumption)); (case ht => decide)) | (with_reducible apply Lies.store3) | (with_reducible apply Lies.other; case hp => (first | omega | (simp; done) | (simp; omega))))), by have := HS0.out; (repeat' (first | (with_reducible exact Below.refl _ _) | (with_reducible assumption) | (with_reducible refine below_drewN ?_ _) | (with_reducible refine below_new ?_ _) | (with_reducible refine Below.alloc ?_ ?_ _) | (with_reducible refine Below.drew ?_) | (with_reducible refine Below.setCell ?_ ?_ _) | (with_reducible apply below_at; (case k => (with_reducible assumption)); (case hB => omega)) | (with_reducible apply below_on; (with_reducible assumption)) | (go_size; done) | (with_reducible apply size_of)))⟩
  case round =>
    obtain ⟨k, hk, rfl, rfl, hbt, K, O, R, W⟩ := hrel
    have HBT := Lib.hid hbt
    have HKK := Lib.hid K
    have HO := Lib.hid O
    have HRR := Lib.hid R
    have HW := Lib.hid W
    have lk := K.lt
    have lr := R.lt
    obtain ⟨p0, p1, p2, -, -, -⟩ := K.three
    obtain ⟨r0, r1, r2, f0, f1, f2⟩ := R.three
    clear hbt K O R W
    have hnl := HN.out
    by_cases hlt : k < n
    · have hlt' : k < zs.length := by omega
      have HL := Lib.hid hlt'
      have hz2 := HZ.out (zs.getD k 0) (by rw [List.getD_eq_getElem?_getD, List.getElem?_eq_getElem hlt']; exact List.getElem_mem hlt')
      have HTK := Lib.hid (take_next hlt')
      obtain ⟨cb, co, rfl, hcb, hcell⟩ := has_some HC.out (by omega)
      have hc1 : wr.cell? ⟨cb, co + k, none⟩ = some (.int .u8 (zs.getD k 0)) := by rw [(bcell HW.out).1 cb _ hcb]; exact hcell k hlt'
      have hsb := sRun_bd (zs.take k) s0 s1 (bits_two HBT.out (fun z hm => HZ.out z (List.mem_of_mem_take hm)))
      have HBY : Hid (zs.getD k 0 ≤ 1 → bitsB (zs.take (k + 1)) = true) := Lib.hid (bits_take hlt' HBT.out)
      have HBN : Hid (¬ zs.getD k 0 ≤ 1 → bitsB zs = false) := Lib.hid (bits_not hlt')
      have HRU : Hid (ruM m s (zs.take (k + 1)) = mv (ruM m s (zs.take k)) (sRun s (zs.take k)) (zs.getD k 0)) := Lib.hid (by rw [take_next hlt', ruM_snoc])
      have HSR : Hid (sRun s (zs.take (k + 1)) = sNext (sRun s (zs.take k)) (zs.getD k 0)) := Lib.hid (by rw [take_next hlt', sRun_snoc])
      have HOK : Hid (adOk (ruM m s (zs.take k)) = true) := Lib.hid (ruM_ok _ HA.out s0 s1 (bits_two HBT.out (fun z hm => HZ.out z (List.mem_of_mem_take hm))))
      have HUL : Hid ((ruM m s (zs.take k)).l = m.l) := Lib.hid (ruM_l _ _ _)
      clear hcell hlt' hk HTK
      generalize zs.getD k 0 = z at *
      generalize ruM m s (zs.take k) = u at *
      generalize hst : sRun s (zs.take k) = st at *
      clear hst
      obtain ⟨q1, q2⟩ := hsb
      obtain ⟨z1, z2⟩ := hz2
      by_cases hz01 : z ≤ 1
      · have HS1 : Hid (stN st z = sNext st z ∧ stE st z = 0) := Lib.hid ⟨by rw [stN, if_pos q2, if_pos hz01], by rw [stE, if_pos q2, if_pos hz01]⟩
        go_wp2_with fail
        refine (NextS_any st z _ q1 (by omega) z1 z2).mono ?_
        rintro e1 w4 ⟨rfl, hb4⟩
        rw [HS1.out.1, HS1.out.2]
        have K4 := HKK.out.past hb4
        have R4 := HRR.out.past hb4
        go_wp2_with fail
        refine (change_any u w1.heap.size w2.heap.size gp gn c d st z _ ⟨HOK.out, q1, q2, by omega⟩ (by rw [HUL.out]; exact K4) (HO.out.past hb4) (by have := hb4.size; omega)).mono ?_
        rintro e1 w5 ⟨rfl, k5, O5, hb5⟩
        have HO5 := Lib.hid O5
        have HK5 : Hid (Lies (w5) (w2.heap.size) 24 [.int .i32 (m.l), .slice (some ⟨gp, 0, none⟩) 193 (c), .slice (some ⟨gn, 0, none⟩) 193 (d)]) := Lib.hid (k5 _ _ _ K4 (by decide))
        have HR5 : Hid (Lies (w5) (w.heap.size + 1) 24 [.int .i32 0, .slice none 0 0, .slice none 0 0]) := Lib.hid (k5 _ _ _ R4 (by decide))
        have HB5 : Hid (Below w.heap.size w w5) := Lib.hid (by have h4 : Below w.heap.size w w4 := (by have := HW.out; (repeat' (first | (with_reducible exact Below.refl _ _) | (with_reducible assumption) | (with_reducible refine below_drewN ?_ _) | (with_reducible refine below_new ?_ _) | (with_reducible refine Below.alloc ?_ ?_ _) | (with_reducible refine Below.drew ?_) | (with_reducible refine Below.setCell ?_ ?_ _) | (with_reducible apply below_at; (case k => (with_reducible assumption)); (case hB => omega)) | (with_reducible apply below_on; (with_reducible assumption)) | (go_size; done) | (with_reducible apply size_of)))); exact h4.trans (hb5.mono (by omega)))
        clear O5 K4 R4 k5 hb5
        go_wp2
        go_roundw
        case rel =>
          refine ⟨k + 1, by have := HL.out; omega, by go_num, by rw [HSR.out], HBY.out hz01, HK5.out, ?_, HR5.out, HB5.out⟩
          rw [HRU.out]
          exact HO5.out
        case measure => simp [intOf]; omega
      · have HS1 : Hid (stN st z = 0 ∧ stE st z = 2) := Lib.hid ⟨by rw [stN, if_pos q2, if_neg hz01], by rw [stE, if_pos q2, if_neg hz01]⟩
        go_wp2_with fail
        refine (NextS_any st z _ q1 (by omega) z1 z2).mono ?_
        rintro e1 w4 ⟨rfl, hb4⟩
        rw [HS1.out.1, HS1.out.2]
        have R4 := HRR.out.past hb4
        clear r0 r1 r2 f0 f1 f2
        obtain ⟨r0, r1, r2, f0, f1, f2⟩ := R4.three
        have lr4 := R4.lt
        go_wp2_with fail
        obtain ⟨t0, t1, t2, -, -, -⟩ := (R4.store3 (a := .int .i32 0) (b := .slice none 0 0) (c := .slice none 0 0)).three
        refine bodyPost_ret (by simp [results, Try.results13, go_sem, t0, t1, t2]; try rfl) rfl ?_
        exact .inr ⟨HBN.out hz01, rfl, by have := HW.out; (repeat' (first | (with_reducible exact Below.refl _ _) | (with_reducible assumption) | (with_reducible refine below_drewN ?_ _) | (with_reducible refine below_new ?_ _) | (with_reducible refine Below.alloc ?_ ?_ _) | (with_reducible refine Below.drew ?_) | (with_reducible refine Below.setCell ?_ ?_ _) | (with_reducible apply below_at; (case k => (with_reducible assumption)); (case hB => omega)) | (with_reducible apply below_on; (with_reducible assumption)) | (go_size; done) | (with_reducible apply size_of)))⟩
    · have hke : zs.take k = zs := List.take_of_length_le (by omega)
      rw [hke] at HBT HO ⊢
      have HSE := Lib.hid (show sRun s (zs.take k) = sRun s zs by rw [hke])
      generalize hst : sRun s zs = st at *
      have HST := Lib.hid hst
      clear hke hst
      go_wp2
      obtain ⟨t0, t1, t2, -, -, -⟩ := (HRR.out.store3 (a := .int .i32 m.l) (b := .slice (some ⟨gp, 0, none⟩) 193 c) (c := .slice (some ⟨gn, 0, none⟩) 193 d)).three
      refine bodyPost_ret (by simp [results, Try.results13, go_sem, t0, t1, t2]; try rfl) rfl ?_
      exact .inl ⟨HBT.out, gp, gn, c, d, by rw [HST.out], (HO.out.store3 HRR.out (by decide)).mono (by omega), by have := HW.out; (repeat' (first | (with_reducible exact Below.refl _ _) | (with_reducible assumption) | (with_reducible refine below_drewN ?_ _) | (with_reducible refine below_new ?_ _) | (with_reducible refine Below.alloc ?_ ?_ _) | (with_reducible refine Below.drew ?_) | (with_reducible refine Below.setCell ?_ ?_ _) | (with_reducible apply below_at; (case k => (with_reducible assumption)); (case hB => omega)) | (with_reducible apply below_on; (with_reducible assumption)) | (go_size; done) | (with_reducible apply size_of)))⟩
theorem Run_any (m : Ad) (A B : Option Addr) (lp ln cp cn : Nat) (s : Int) (C : Option Addr) (n cc : Nat) (zs : List Int) (w : World) (h : AdIn w A B lp ln m) (hcp : lp ≤ cp) (hcn : ln ≤ cn) (s0 : 0 ≤ s) (s1 : s ≤ 255) (hC : Has .u8 w C zs) (hn : zs.length = n) (hn2 : n ≤ 9223372036854775807) (hz : ∀ z ∈ zs, 0 ≤ z ∧ z ≤ 255) :
    Calls Try.prog 13 #[.agg #[.int .i32 (m).l, .slice A lp cp, .slice B ln cn], .int .u8 s, .slice C n cc] w fun e w' => ∃ A' B' lp' ln' c d, e = .returned (.tuple #[.agg #[.int .i32 (ruR m s zs).l, .slice A' lp' c, .slice B' ln' d], .int .u8 (ruS m s zs), .int .i64 (ruE m s zs)]) ∧ AdIn w' A' B' lp' ln' (ruR m s zs) ∧ lp' ≤ c ∧ ln' ≤ d ∧ Below w.heap.size w w' := by
  by_cases hk : atE m s = 0
  · obtain ⟨ha, hs⟩ := (atE_zero m s).1 hk
    obtain ⟨rfl, rfl⟩ := ad_len h ha
    by_cases hm : 20000 < n
    · have e1 : ruE m s zs = 4 := by rw [ruE, if_pos hk, if_pos (by omega)]
      have e2 : ruR m s zs = zeroA := by rw [ruR, if_neg (by rw [e1]; decide)]
      have e3 : ruS m s zs = 0 := by rw [ruS, if_neg (by rw [e1]; decide)]
      rw [e1, e2, e3]
      refine (Run_many m A B _ _ cp cn s C n cc w h s0 s1 hk hm hn2).mono ?_
      rintro e w' ⟨rfl, hb'⟩
      exact ⟨none, none, 0, 0, 0, 0, rfl, zero_in w', Nat.le_refl _, Nat.le_refl _, hb'⟩
    · refine (Run_ok m A B cp cn s C n cc zs w h hcp hcn s0 hs ha hC hn (by omega) hz).mono ?_
      rintro e w' (⟨hb, gp, gn, c, d, rfl, O, hb'⟩ | ⟨hb, rfl, hb'⟩)
      · have e1 : ruE m s zs = 0 := by rw [ruE, if_pos hk, if_neg (by omega), if_pos hb]
        have e2 : ruR m s zs = ruM m s zs := by rw [ruR, if_pos e1]
        have e3 : ruS m s zs = sRun s zs := by rw [ruS, if_pos e1]
        rw [e1, e2, e3, ruM_l]
        exact ⟨_, _, _, _, c, d, rfl, O.inOk (ruM_ok _ ha s0 hs (bits_two hb hz)), O.capLe.1, O.capLe.2, hb'⟩
      · have e1 : ruE m s zs = 2 := by rw [ruE, if_pos hk, if_neg (by omega), if_neg (by rw [hb]; decide)]
        have e2 : ruR m s zs = zeroA := by rw [ruR, if_neg (by rw [e1]; decide)]
        have e3 : ruS m s zs = 0 := by rw [ruS, if_neg (by rw [e1]; decide)]
        rw [e1, e2, e3]
        exact ⟨none, none, 0, 0, 0, 0, rfl, zero_in w', Nat.le_refl _, Nat.le_refl _, hb'⟩
  · have e1 : ruE m s zs = atE m s := by rw [ruE, if_neg hk]
    have e2 : ruR m s zs = zeroA := by rw [ruR, if_neg (by rw [e1]; exact hk)]
    have e3 : ruS m s zs = 0 := by rw [ruS, if_neg (by rw [e1]; exact hk)]
    rw [e1, e2, e3]
    refine (Run_bad m A B lp ln cp cn s C n cc w h s0 s1 hk).mono ?_
    rintro e w' ⟨rfl, hb'⟩
    exact ⟨none, none, 0, 0, 0, 0, rfl, zero_in w', Nat.le_refl _, Nat.le_refl _, hb'⟩
end Go.Proofs.Ytipbafcjmeibpaa.adW
