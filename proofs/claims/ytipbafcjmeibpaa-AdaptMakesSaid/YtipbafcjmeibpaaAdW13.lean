/- The reference's Run of adaptive maps, by walks. -/
import Derived.Test.YtipbafcjmeibpaaAdW12
import Derived.Deep.DeepCutAuto
import Derived.WalkMore
namespace Go.Proofs.Ytipbafcjmeibpaa.adW
open Go.RowKit Go.Proofs.Ytipbafcjmeibpaa.base Go.Proofs.Ytipbafcjmeibpaa.adP Go.Proofs.Ytipbafcjmeibpaa.cntP Go.Proofs.Ytipbafcjmeibpaa.stP
open Go.Proofs.Ytipbafcjmeibpaa.stW (rThen_any)
open Go.Proofs.Ytipbafcjmeibpaa.cntW (bits_any)
set_option linter.unusedVariables false
set_option linter.unusedSimpArgs false

/-- The struct's limit may be spelled otherwise. -/
theorem rMove_at (m : Ad) (l : Int) (hl : m.l = l) (B gp gn cp cn : Nat) (s b : Int) (w : World) (F : Fits m s b) (O : AdOwn w B gp gn cp cn m) (hB : B ≤ w.heap.size) :
    Calls Try.prog 37 #[.agg #[.int .i32 l, .slice (some ⟨gp, 0, none⟩) 193 cp, .slice (some ⟨gn, 0, none⟩) 193 cn], .int .u8 s, .int .u8 b] w fun e w' => e = .returned (.tuple #[]) ∧ Keeps w w' ∧ AdOwn w' B gp gn cp cn (mv m s b) ∧ Below B w w' := by
  subst hl
  exact rMove_any m B gp gn cp cn s b w F O hB
set_option maxHeartbeats 2000000 in
theorem rRun_bad (m : Ad) (A B : Option Addr) (lp ln cp cn : Nat) (s : Int) (C : Option Addr) (n cc : Nat) (zs : List Int) (w : World) (h : AdIn w A B lp ln m) (s0 : 0 ≤ s) (s1 : s ≤ 255) (hC : Has .u8 w C zs) (hn : zs.length = n) (hn2 : n ≤ 9223372036854775807) (hz : ∀ z ∈ zs, 0 ≤ z ∧ z ≤ 255) (hk : ruE m s zs ≠ 0) :
    Calls Try.prog 22 #[.agg #[.int .i32 (m).l, .slice A lp cp, .slice B ln cn], .int .u8 s, .slice C n cc] w fun e w' => e = .returned (.tuple #[.agg #[.int .i32 (zeroA).l, .slice none 0 0, .slice none 0 0], .int .u8 0, .int .i64 (ruE m s zs)]) ∧ Below w.heap.size w w' := by
  have H := Lib.hid h
  have HC := Lib.hid hC
  have HZ := Lib.hid hz
  have HN := Lib.hid hn
  have hn3 : (n : Int) ≤ 9223372036854775807 := by omega
  by_cases ha : atE m s = 0
  · by_cases hm : 20000 < zs.length
    · have e1 : ruE m s zs = 4 := by rw [ruE, if_pos ha, if_pos hm]
      have HE := Lib.hid e1
      have HA := Lib.hid ha
      have hm' : (20000 : Int) < n := by omega
      clear h hC hz hn hk ha hm e1 hn2
      go_enter Try.func22, Try.ntmps22
      go_wp2_with (first | (go_at_call 34; refine (rAt_any m A B lp ln cp cn s _ (H.out.below (by (repeat' (first | (with_reducible exact Below.refl _ _) | (with_reducible assumption) | (with_reducible refine below_drewN ?_ _) | (with_reducible refine below_new ?_ _) | (with_reducible refine Below.alloc ?_ ?_ _) | (with_reducible refine Below.drew ?_) | (with_reducible refine Below.setCell ?_ ?_ _) | (with_reducible apply below_at; (case k => (with_reducible assumption)); (case hB => omega)) | (with_reducible apply below_on; (with_reducible assumption)) | (go_size; done) | (with_reducible apply size_of))))) s0 s1).mono ?_; rintro e1 w1 ⟨rfl, hb1⟩; rw [HA.out]; have hr1 : Lies (w1) (w.heap.size + 1) 24 [.int .i32 0, .slice none 0 0, .slice none 0 0] := (by (repeat' (first | (with_reducible assumption) | (with_reducible exact Lies.fresh _ _ _) | (with_reducible apply Lies.fresh_at; (first | (with_reducible rfl) | (simp; done))) | (with_reducible refine Lies.drew ?_) | (with_reducible refine Lies.drewN ?_ _) | (with_reducible refine Lies.alloc ?_ _) | (with_reducible apply Lies.past; case hb => (with_reducible assumption)) | (with_reducible apply Lies.keeps; (case k => (with_reducible assumption)); (case ht => decide)) | (with_reducible apply Lies.store3) | (with_reducible apply Lies.other; case hp => (first | omega | (simp; done) | (simp; omega)))))); obtain ⟨r0, r1, r2, f0, f1, f2⟩ := hr1.three))
      obtain ⟨t0, t1, t2, -, -, -⟩ := (hr1.store3 (a := .int .i32 0) (b := .slice none 0 0) (c := .slice none 0 0)).three
      refine bodyPost_ret (by simp [results, Try.results22, go_sem, t0, t1, t2]; try rfl) rfl ?_
      exact ⟨by rw [HE.out]; rfl, by (repeat' (first | (with_reducible exact Below.refl _ _) | (with_reducible assumption) | (with_reducible refine below_drewN ?_ _) | (with_reducible refine below_new ?_ _) | (with_reducible refine Below.alloc ?_ ?_ _) | (with_reducible refine Below.drew ?_) | (with_reducible refine Below.setCell ?_ ?_ _) | (with_reducible apply below_at; (case k => (with_reducible assumption)); (case hB => omega)) | (with_reducible apply below_on; (with_reducible assumption)) | (go_size; done) | (with_reducible apply size_of)))⟩
    · have hbf : bitsB zs = false := by
        cases hb : bitsB zs
        · rfl
        · exact absurd (by rw [ruE, if_pos ha, if_neg hm, if_pos hb]) hk
      have e1 : ruE m s zs = 2 := by rw [ruE, if_pos ha, if_neg hm, if_neg (by rw [hbf]; decide)]
      have HE := Lib.hid e1
      have HA := Lib.hid ha
      have HB := Lib.hid hbf
      have hm' : ¬ (20000 : Int) < n := by omega
      clear h hC hz hn hk ha hm e1 hbf hn2
      go_enter Try.func22, Try.ntmps22
      go_wp2_with (first | (go_at_call 34; refine (rAt_any m A B lp ln cp cn s _ (H.out.below (by (repeat' (first | (with_reducible exact Below.refl _ _) | (with_reducible assumption) | (with_reducible refine below_drewN ?_ _) | (with_reducible refine below_new ?_ _) | (with_reducible refine Below.alloc ?_ ?_ _) | (with_reducible refine Below.drew ?_) | (with_reducible refine Below.setCell ?_ ?_ _) | (with_reducible apply below_at; (case k => (with_reducible assumption)); (case hB => omega)) | (with_reducible apply below_on; (with_reducible assumption)) | (go_size; done) | (with_reducible apply size_of))))) s0 s1).mono ?_; rintro e1 w1 ⟨rfl, hb1⟩; rw [HA.out]; have hr1 : Lies (w1) (w.heap.size + 1) 24 [.int .i32 0, .slice none 0 0, .slice none 0 0] := (by (repeat' (first | (with_reducible assumption) | (with_reducible exact Lies.fresh _ _ _) | (with_reducible apply Lies.fresh_at; (first | (with_reducible rfl) | (simp; done))) | (with_reducible refine Lies.drew ?_) | (with_reducible refine Lies.drewN ?_ _) | (with_reducible refine Lies.alloc ?_ _) | (with_reducible apply Lies.past; case hb => (with_reducible assumption)) | (with_reducible apply Lies.keeps; (case k => (with_reducible assumption)); (case ht => decide)) | (with_reducible apply Lies.store3) | (with_reducible apply Lies.other; case hp => (first | omega | (simp; done) | (simp; omega)))))); obtain ⟨r0, r1, r2, f0, f1, f2⟩ := hr1.three) | (go_at_call 24; refine (bits_any C n cc zs _ HZ.out (HC.out.below (by (repeat' (first | (with_reducible exact Below.refl _ _) | (with_reducible assumption) | (with_reducible refine below_drewN ?_ _) | (with_reducible refine below_new ?_ _) | (with_reducible refine Below.alloc ?_ ?_ _) | (with_reducible refine Below.drew ?_) | (with_reducible refine Below.setCell ?_ ?_ _) | (with_reducible apply below_at; (case k => (with_reducible assumption)); (case hB => omega)) | (with_reducible apply below_on; (with_reducible assumption)) | (go_size; done) | (with_reducible apply size_of)))) (Nat.le_refl _)) HN.out (by omega)).mono ?_; rintro e w2 ⟨rfl, rfl⟩; rw [HB.out]))
      obtain ⟨t0, t1, t2, -, -, -⟩ := (hr1.store3 (a := .int .i32 0) (b := .slice none 0 0) (c := .slice none 0 0)).three
      refine bodyPost_ret (by simp [results, Try.results22, go_sem, t0, t1, t2]; try rfl) rfl ?_
      exact ⟨by rw [HE.out]; rfl, by (repeat' (first | (with_reducible exact Below.refl _ _) | (with_reducible assumption) | (with_reducible refine below_drewN ?_ _) | (with_reducible refine below_new ?_ _) | (with_reducible refine Below.alloc ?_ ?_ _) | (with_reducible refine Below.drew ?_) | (with_reducible refine Below.setCell ?_ ?_ _) | (with_reducible apply below_at; (case k => (with_reducible assumption)); (case hB => omega)) | (with_reducible apply below_on; (with_reducible assumption)) | (go_size; done) | (with_reducible apply size_of)))⟩
  · have e1 : ruE m s zs = atE m s := by rw [ruE, if_neg ha]
    rw [e1]
    obtain ⟨e, he, hne⟩ : ∃ e, atE m s = e ∧ (e != 0) = true := ⟨_, rfl, by simpa using ha⟩
    have HE := Lib.hid he
    clear h hC hz hn hk ha he e1 hn2
    rw [HE.out]
    go_enter Try.func22, Try.ntmps22
    go_wp2_with (first | (go_at_call 34; refine (rAt_any m A B lp ln cp cn s _ (H.out.below (by (repeat' (first | (with_reducible exact Below.refl _ _) | (with_reducible assumption) | (with_reducible refine below_drewN ?_ _) | (with_reducible refine below_new ?_ _) | (with_reducible refine Below.alloc ?_ ?_ _) | (with_reducible refine Below.drew ?_) | (with_reducible refine Below.setCell ?_ ?_ _) | (with_reducible apply below_at; (case k => (with_reducible assumption)); (case hB => omega)) | (with_reducible apply below_on; (with_reducible assumption)) | (go_size; done) | (with_reducible apply size_of))))) s0 s1).mono ?_; rintro e1 w1 ⟨rfl, hb1⟩; rw [HE.out]; have hr1 : Lies (w1) (w.heap.size + 1) 24 [.int .i32 0, .slice none 0 0, .slice none 0 0] := (by (repeat' (first | (with_reducible assumption) | (with_reducible exact Lies.fresh _ _ _) | (with_reducible apply Lies.fresh_at; (first | (with_reducible rfl) | (simp; done))) | (with_reducible refine Lies.drew ?_) | (with_reducible refine Lies.drewN ?_ _) | (with_reducible refine Lies.alloc ?_ _) | (with_reducible apply Lies.past; case hb => (with_reducible assumption)) | (with_reducible apply Lies.keeps; (case k => (with_reducible assumption)); (case ht => decide)) | (with_reducible apply Lies.store3) | (with_reducible apply Lies.other; case hp => (first | omega | (simp; done) | (simp; omega)))))); obtain ⟨r0, r1, r2, f0, f1, f2⟩ := hr1.three))
    obtain ⟨t0, t1, t2, -, -, -⟩ := (hr1.store3 (a := .int .i32 0) (b := .slice none 0 0) (c := .slice none 0 0)).three
    refine bodyPost_ret (by simp [results, Try.results22, go_sem, t0, t1, t2]; try rfl) rfl ?_
    exact ⟨rfl, by (repeat' (first | (with_reducible exact Below.refl _ _) | (with_reducible assumption) | (with_reducible refine below_drewN ?_ _) | (with_reducible refine below_new ?_ _) | (with_reducible refine Below.alloc ?_ ?_ _) | (with_reducible refine Below.drew ?_) | (with_reducible refine Below.setCell ?_ ?_ _) | (with_reducible apply below_at; (case k => (with_reducible assumption)); (case hB => omega)) | (with_reducible apply below_on; (with_reducible assumption)) | (go_size; done) | (with_reducible apply size_of)))⟩
set_option maxHeartbeats 4000000 in
theorem rRun_ok (m : Ad) (A B : Option Addr) (cp cn : Nat) (s : Int) (C : Option Addr) (n cc : Nat) (zs : List Int) (w : World) (h : AdIn w A B 193 193 m) (s0 : 0 ≤ s) (s1 : s < 193) (ha : adOk m = true) (hC : Has .u8 w C zs) (hn : zs.length = n) (hn2 : n ≤ 20000) (hz : ∀ z ∈ zs, 0 ≤ z ∧ z ≤ 255) (hbits : bitsB zs = true) :
    Calls Try.prog 22 #[.agg #[.int .i32 (m).l, .slice A 193 cp, .slice B 193 cn], .int .u8 s, .slice C n cc] w fun e w' => ∃ gp gn c d, e = .returned (.tuple #[.agg #[.int .i32 (m).l, .slice (some ⟨gp, 0, none⟩) 193 c, .slice (some ⟨gn, 0, none⟩) 193 d], .int .u8 (sRun s zs), .int .i64 0]) ∧ AdOwn w' w.heap.size gp gn c d (ruM m s zs) ∧ Below w.heap.size w w' := by
  have H := Lib.hid h
  have HK : Hid (atE m s = 0) := Lib.hid ((atE_zero m s).2 ⟨ha, s1⟩)
  have HA := Lib.hid ha
  have HC := Lib.hid hC
  have HN := Lib.hid hn
  have HZ := Lib.hid hz
  have HB := Lib.hid hbits
  have HBT := Lib.hid (bits_two hbits hz)
  have hn3 : (n : Int) ≤ 20000 := by omega
  clear h ha hC hn hz hn2 hbits
  go_enter Try.func22, Try.ntmps22
  go_wp2_with (first
    | (go_at_call 34; refine (rAt_any m A B 193 193 cp cn s _ (H.out.below (by (repeat' (first | (with_reducible exact Below.refl _ _) | (with_reducible assumption) | (with_reducible refine below_drewN ?_ _) | (with_reducible refine below_new ?_ _) | (with_reducible refine Below.alloc ?_ ?_ _) | (with_reducible refine Below.drew ?_) | (with_reducible refine Below.setCell ?_ ?_ _) | (with_reducible apply below_at; (case k => (with_reducible assumption)); (case hB => omega)) | (with_reducible apply below_on; (with_reducible assumption)) | (go_size; done) | (with_reducible apply size_of))))) s0 (by omega)).mono ?_; rintro e1 w1 ⟨rfl, hb1⟩; rw [HK.out]; have hr1 : Lies (w1) (w.heap.size + 1) 24 [.int .i32 0, .slice none 0 0, .slice none 0 0] := (by (repeat' (first | (with_reducible assumption) | (with_reducible exact Lies.fresh _ _ _) | (with_reducible apply Lies.fresh_at; (first | (with_reducible rfl) | (simp; done))) | (with_reducible refine Lies.drew ?_) | (with_reducible refine Lies.drewN ?_ _) | (with_reducible refine Lies.alloc ?_ _) | (with_reducible apply Lies.past; case hb => (with_reducible assumption)) | (with_reducible apply Lies.keeps; (case k => (with_reducible assumption)); (case ht => decide)) | (with_reducible apply Lies.store3) | (with_reducible apply Lies.other; case hp => (first | omega | (simp; done) | (simp; omega)))))); have hk1 : Lies w1 w.heap.size 24 [.int .i32 m.l, .slice A 193 cp, .slice B 193 cn] := (by (repeat' (first | (with_reducible assumption) | (with_reducible exact Lies.fresh _ _ _) | (with_reducible apply Lies.fresh_at; (first | (with_reducible rfl) | (simp; done))) | (with_reducible refine Lies.drew ?_) | (with_reducible refine Lies.drewN ?_ _) | (with_reducible refine Lies.alloc ?_ _) | (with_reducible apply Lies.past; case hb => (with_reducible assumption)) | (with_reducible apply Lies.keeps; (case k => (with_reducible assumption)); (case ht => decide)) | (with_reducible apply Lies.store3) | (with_reducible apply Lies.other; case hp => (first | omega | (simp; done) | (simp; omega)))))); have lk1 := hk1.lt; have lr1 := hr1.lt; obtain ⟨p0, p1, p2, -, -, -⟩ := hk1.three)
    | (go_at_call 24; refine (bits_any C n cc zs _ HZ.out (HC.out.below (by (repeat' (first | (with_reducible exact Below.refl _ _) | (with_reducible assumption) | (with_reducible refine below_drewN ?_ _) | (with_reducible refine below_new ?_ _) | (with_reducible refine Below.alloc ?_ ?_ _) | (with_reducible refine Below.drew ?_) | (with_reducible refine Below.setCell ?_ ?_ _) | (with_reducible apply below_at; (case k => (with_reducible assumption)); (case hB => omega)) | (with_reducible apply below_on; (with_reducible assumption)) | (go_size; done) | (with_reducible apply size_of)))) (Nat.le_refl _)) HN.out (by omega)).mono ?_; rintro e w2 ⟨rfl, rfl⟩; rw [HB.out])
    | (go_at_call 10; refine (Twin_own m A B cp cn _ (H.out.below (by (repeat' (first | (with_reducible exact Below.refl _ _) | (with_reducible assumption) | (with_reducible refine below_drewN ?_ _) | (with_reducible refine below_new ?_ _) | (with_reducible refine Below.alloc ?_ ?_ _) | (with_reducible refine Below.drew ?_) | (with_reducible refine Below.setCell ?_ ?_ _) | (with_reducible apply below_at; (case k => (with_reducible assumption)); (case hB => omega)) | (with_reducible apply below_on; (with_reducible assumption)) | (go_size; done) | (with_reducible apply size_of)))))).mono ?_; rintro e1 w2 ⟨gp, gn, c, d, rfl, O2, hb2⟩; have hr2 := hr1.past hb2; have lr2 := hr2.lt; have HO2 := Lib.hid O2; clear O2))
  have HR2 := Lib.hid hr2
  have HS0 : Hid (Below w.heap.size w w2) := Lib.hid (by (repeat' (first | (with_reducible exact Below.refl _ _) | (with_reducible assumption) | (with_reducible refine below_drewN ?_ _) | (with_reducible refine below_new ?_ _) | (with_reducible refine Below.alloc ?_ ?_ _) | (with_reducible refine Below.drew ?_) | (with_reducible refine Below.setCell ?_ ?_ _) | (with_reducible apply below_at; (case k => (with_reducible assumption)); (case hB => omega)) | (with_reducible apply below_on; (with_reducible assumption)) | (go_size; done) | (with_reducible apply size_of))))
  have hsz := hb2.size
  clear hr1 hk1 p0 p1 p2 hr2 hb1 hb2
  go_loopw [1, 11] (fun st i wr => ∃ k : Nat, k ≤ zs.length ∧ i = .int .i64 k ∧ st = .int .u8 (sRun s (zs.take k)) ∧ (Lies (wr) (w2.heap.size) 24 [.int .i32 (m.l), .slice (some ⟨gp, 0, none⟩) 193 (c), .slice (some ⟨gn, 0, none⟩) 193 (d)]) ∧ AdOwn wr w1.heap.size gp gn c d (ruM m s (zs.take k)) ∧ (Lies (wr) (w.heap.size + 1) 24 [.int .i32 0, .slice none 0 0, .slice none 0 0]) ∧ Below w.heap.size w wr) (fun _ i _ => n - (intOf i).toNat)
  case atStart => exact ⟨0, Nat.zero_le _, rfl, rfl, by (repeat' (first | (with_reducible assumption) | (with_reducible exact Lies.fresh _ _ _) | (with_reducible apply Lies.fresh_at; (first | (with_reducible rfl) | (simp; done))) | (with_reducible refine Lies.drew ?_) | (with_reducible refine Lies.drewN ?_ _) | (with_reducible refine Lies.alloc ?_ _) | (with_reducible apply Lies.past; case hb => (with_reducible assumption)) | (with_reducible apply Lies.keeps; (case k => (with_reducible assumption)); (case ht => decide)) | (with_reducible apply Lies.store3) | (with_reducible apply Lies.other; case hp => (first | omega | (simp; done) | (simp; omega))))), HO2.out.alloc _, by have := HR2.out; (repeat' (first | (with_reducible assumption) | (with_reducible exact Lies.fresh _ _ _) | (with_reducible apply Lies.fresh_at; (first | (with_reducible rfl) | (simp; done))) | (with_reducible refine Lies.drew ?_) | (with_reducible refine Lies.drewN ?_ _) | (with_reducible refine Lies.alloc ?_ _) | (with_reducible apply Lies.past; case hb => (with_reducible assumption)) | (with_reducible apply Lies.keeps; (case k => (with_reducible assumption)); (case ht => decide)) | (with_reducible apply Lies.store3) | (with_reducible apply Lies.other; case hp => (first | omega | (simp; done) | (simp; omega))))), by have := HS0.out; (repeat' (first | (with_reducible exact Below.refl _ _) | (with_reducible assumption) | (with_reducible refine below_drewN ?_ _) | (with_reducible refine below_new ?_ _) | (with_reducible refine Below.alloc ?_ ?_ _) | (with_reducible refine Below.drew ?_) | (with_reducible refine Below.setCell ?_ ?_ _) | (with_reducible apply below_at; (case k => (with_reducible assumption)); (case hB => omega)) | (with_reducible apply below_on; (with_reducible assumption)) | (go_size; done) | (with_reducible apply size_of)))⟩
  case round =>
    obtain ⟨k, hk, rfl, rfl, K, O, R, W⟩ := hrel
    have HKK := Lib.hid K
    have HO := Lib.hid O
    have HRR := Lib.hid R
    have HW := Lib.hid W
    have lk := K.lt
    have lr := R.lt
    obtain ⟨p0, p1, p2, -, -, -⟩ := K.three
    obtain ⟨r0, r1, r2, f0, f1, f2⟩ := R.three
    clear K O R W
    have hnl := HN.out
    by_cases hlt : k < n
    · have hlt' : k < zs.length := by omega
      have HL := Lib.hid hlt'
      have hz2 := HBT.out (zs.getD k 0) (by rw [List.getD_eq_getElem?_getD, List.getElem?_eq_getElem hlt']; exact List.getElem_mem hlt')
      obtain ⟨cb, co, rfl, hcb, hcell⟩ := has_some HC.out (by omega)
      have HCE : Hid (∀ wx : World, Below w.heap.size w wx → wx.cell? ⟨cb, co + k, none⟩ = some (.int .u8 (zs.getD k 0))) := Lib.hid (fun wx hx => by rw [(bcell hx).1 cb _ hcb]; exact hcell k hlt')
      have hc1 := HCE.out wr HW.out
      have hsb := sRun_bd (zs.take k) s0 s1 (fun z hm => HBT.out z (List.mem_of_mem_take hm))
      have HRU : Hid (ruM m s (zs.take (k + 1)) = mv (ruM m s (zs.take k)) (sRun s (zs.take k)) (zs.getD k 0)) := Lib.hid (by rw [take_next hlt', ruM_snoc])
      have HSR : Hid (sRun s (zs.take (k + 1)) = sNext (sRun s (zs.take k)) (zs.getD k 0)) := Lib.hid (by rw [take_next hlt', sRun_snoc])
      have HOK : Hid (adOk (ruM m s (zs.take k)) = true) := Lib.hid (ruM_ok _ HA.out s0 s1 (fun z hm => HBT.out z (List.mem_of_mem_take hm)))
      have HUL : Hid ((ruM m s (zs.take k)).l = m.l) := Lib.hid (ruM_l _ _ _)
      clear hcell hlt' hk
      generalize zs.getD k 0 = z at *
      generalize ruM m s (zs.take k) = u at *
      generalize hst : sRun s (zs.take k) = st at *
      clear hst
      obtain ⟨q1, q2⟩ := hsb
      have z0 : 0 ≤ z := by omega
      have z1 : z ≤ 1 := by omega
      have HF : Hid (Fits u st z) := Lib.hid ⟨HOK.out, q1, q2, hz2⟩
      have HZ2 := Lib.hid hz2
      clear hz2
      go_upto_region 12 with fail
      go_cut [] (fun wx => Keeps wr wx ∧ AdOwn wx w1.heap.size gp gn c d (mv u st z) ∧ Below w1.heap.size wr wx)
      case first =>
        go_region_law (first | (go_simp; go_at_call 37; refine (rMove_at u m.l HUL.out w1.heap.size gp gn c d st z _ HF.out (HO.out.drewN 1) (by simp; omega)).mono ?_; rintro e1 w4 ⟨rfl, k4, O4, hb4⟩))
        all_goals
          go_wp2_with fail
          go_meet
          exact ⟨fun g t cs K ht => k4 g t cs (Lies.drew K) ht, O4, (show Below w1.heap.size wr wr.drew from Below.drew (Below.refl _ _)).trans hb4⟩
      case rest =>
        obtain ⟨k5, O5, hb5⟩ := hcut
        have K5 := k5 _ _ _ HKK.out (by decide)
        have R5 := k5 _ _ _ HRR.out (by decide)
        have HO5 := Lib.hid O5
        have HK5 := Lib.hid K5
        have HR5 := Lib.hid R5
        have HB5 : Hid (Below w.heap.size w wc) := Lib.hid (HW.out.trans (hb5.mono (by omega)))
        have hc5 := HCE.out wc HB5.out
        clear k5 O5 K5 R5 hb5 p0 p1 p2 r0 r1 r2 f0 f1 f2 hc1
        go_wp2_with fail
        refine (rThen_any st z _ q1 (by omega) HZ2.out).mono ?_
        rintro e1 w6 ⟨rfl, hb6⟩
        go_wp2
        go_roundw
        case rel =>
          refine ⟨k + 1, by have := HL.out; omega, by go_num, by rw [HSR.out], HK5.out.past hb6, ?_, HR5.out.past hb6, by have := HB5.out; (repeat' (first | (with_reducible exact Below.refl _ _) | (with_reducible assumption) | (with_reducible refine below_drewN ?_ _) | (with_reducible refine below_new ?_ _) | (with_reducible refine Below.alloc ?_ ?_ _) | (with_reducible refine Below.drew ?_) | (with_reducible refine Below.setCell ?_ ?_ _) | (with_reducible apply below_at; (case k => (with_reducible assumption)); (case hB => omega)) | (with_reducible apply below_on; (with_reducible assumption)) | (go_size; done) | (with_reducible apply size_of)))⟩
          rw [HRU.out]
          exact HO5.out.past hb6
        case measure => simp [intOf]; omega
    · have hke : zs.take k = zs := List.take_of_length_le (by omega)
      rw [hke] at HO ⊢
      generalize hst : sRun s zs = st at *
      have HST := Lib.hid hst
      clear hke hst
      go_wp2
      obtain ⟨t0, t1, t2, -, -, -⟩ := (HRR.out.store3 (a := .int .i32 m.l) (b := .slice (some ⟨gp, 0, none⟩) 193 c) (c := .slice (some ⟨gn, 0, none⟩) 193 d)).three
      refine bodyPost_ret (by simp [results, Try.results22, go_sem, t0, t1, t2]; try rfl) rfl ?_
      exact ⟨gp, gn, c, d, by rw [HST.out], (HO.out.store3 HRR.out (by decide)).mono (by omega), by have := HW.out; (repeat' (first | (with_reducible exact Below.refl _ _) | (with_reducible assumption) | (with_reducible refine below_drewN ?_ _) | (with_reducible refine below_new ?_ _) | (with_reducible refine Below.alloc ?_ ?_ _) | (with_reducible refine Below.drew ?_) | (with_reducible refine Below.setCell ?_ ?_ _) | (with_reducible apply below_at; (case k => (with_reducible assumption)); (case hB => omega)) | (with_reducible apply below_on; (with_reducible assumption)) | (go_size; done) | (with_reducible apply size_of)))⟩
theorem rRun_any (m : Ad) (A B : Option Addr) (lp ln cp cn : Nat) (s : Int) (C : Option Addr) (n cc : Nat) (zs : List Int) (w : World) (h : AdIn w A B lp ln m) (s0 : 0 ≤ s) (s1 : s ≤ 255) (hC : Has .u8 w C zs) (hn : zs.length = n) (hn2 : n ≤ 9223372036854775807) (hz : ∀ z ∈ zs, 0 ≤ z ∧ z ≤ 255) :
    Calls Try.prog 22 #[.agg #[.int .i32 (m).l, .slice A lp cp, .slice B ln cn], .int .u8 s, .slice C n cc] w fun e w' => ∃ A' B' lp' ln' c d, e = .returned (.tuple #[.agg #[.int .i32 (ruR m s zs).l, .slice A' lp' c, .slice B' ln' d], .int .u8 (ruS m s zs), .int .i64 (ruE m s zs)]) ∧ AdIn w' A' B' lp' ln' (ruR m s zs) ∧ lp' ≤ c ∧ ln' ≤ d ∧ Below w.heap.size w w' := by
  by_cases hk : ruE m s zs = 0
  · have ha : atE m s = 0 := by
      by_cases h0 : atE m s = 0
      · exact h0
      · rw [ruE, if_neg h0] at hk; exact absurd hk h0
    obtain ⟨hok, hs⟩ := (atE_zero m s).1 ha
    obtain ⟨rfl, rfl⟩ := ad_len h hok
    have hm : ¬ 20000 < zs.length := fun hm => by rw [ruE, if_pos ha, if_pos hm] at hk; omega
    have hb : bitsB zs = true := by
      cases hb : bitsB zs
      · rw [ruE, if_pos ha, if_neg hm, if_neg (by rw [hb]; decide)] at hk; omega
      · rfl
    have e2 : ruR m s zs = ruM m s zs := by rw [ruR, if_pos hk]
    have e3 : ruS m s zs = sRun s zs := by rw [ruS, if_pos hk]
    rw [hk, e2, e3, ruM_l]
    refine (rRun_ok m A B cp cn s C n cc zs w h s0 hs hok hC hn (by omega) hz hb).mono ?_
    rintro e w' ⟨gp, gn, c, d, rfl, O, hb'⟩
    exact ⟨_, _, _, _, c, d, rfl, O.inOk (ruM_ok _ hok s0 hs (bits_two hb hz)), O.capLe.1, O.capLe.2, hb'⟩
  · have e2 : ruR m s zs = zeroA := by rw [ruR, if_neg hk]
    have e3 : ruS m s zs = 0 := by rw [ruS, if_neg hk]
    rw [e2, e3]
    refine (rRun_bad m A B lp ln cp cn s C n cc zs w h s0 s1 hC hn hn2 hz hk).mono ?_
    rintro e w' ⟨rfl, hb'⟩
    exact ⟨none, none, 0, 0, 0, 0, rfl, zero_in _, Nat.le_refl _, Nat.le_refl _, hb'⟩
end Go.Proofs.Ytipbafcjmeibpaa.adW
