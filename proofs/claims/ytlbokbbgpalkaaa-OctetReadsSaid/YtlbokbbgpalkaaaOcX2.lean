/- The reference's reading, by walks. -/
import Derived.Test.YtlbokbbgpalkaaaOcX1
import Derived.Test.YtlbokbbgpalkaaaOcW9
import Derived.Test.YtlbokbbgpalkaaaFar
namespace Go.Proofs.Ytlbokbbgpalkaaa.ocW
open Go.RowKit Go.Proofs.Ytlbokbbgpalkaaa.base Go.Proofs.Ytlbokbbgpalkaaa.ocP
set_option linter.unusedVariables false
set_option linter.unusedSimpArgs false

set_option maxHeartbeats 4000000 in
theorem rMoved_any (c : Cu) (A : Option Addr) (n d : Nat) (x : Int) (w : World) (h : CuIn w A n d c) (h1 : 0 ≤ c.a) (h2 : 0 ≤ x) (h3 : c.a + x ≤ n) (h4 : n ≤ 50000) :
    Calls Try.prog 38 #[.agg #[.slice A n d, .int .i64 (c).a], .int .i64 x] w fun e w' => ∃ A' c', e = .returned (.agg #[.slice A' n c', .int .i64 (c.a + x)]) ∧ OwnZ w' w.heap.size (.slice A' n c') c.b ∧ Below w.heap.size w w' := by
  have n9 : (n : Int) ≤ 50000 := by omega
  have H := Lib.hid h
  have H4 : Hid (n ≤ 140737488355328) := Lib.hid (by omega)
  clear h h4
  generalize hca : c.a = a at *
  clear hca
  have hwr : IntKind.i64.wrap (a + x) = a + x := by rw [IntKind.wrap_i64]; omega
  go_enter Try.func38, Try.ntmps38
  go_wp2_with fail
  have HZ0 : Hid (Lies ((w.alloc (.cells #[.slice A n d, .int .i64 a] 29)).alloc (.cells #[.slice none 0 0, .int .i64 0] 29)) w.heap.size 29 [.slice A n d, .int .i64 a] ∧ Lies ((w.alloc (.cells #[.slice A n d, .int .i64 a] 29)).alloc (.cells #[.slice none 0 0, .int .i64 0] 29)) (w.heap.size + 1) 29 [.slice none 0 0, .int .i64 0]) := Lib.hid ⟨by (repeat' (first | (with_reducible assumption) | (with_reducible exact Lies.fresh _ _ _) | (with_reducible apply Lies.fresh_at; (first | (with_reducible rfl) | (simp; done))) | (with_reducible refine Lies.drew ?_) | (with_reducible refine Lies.drewN ?_ _) | (with_reducible refine Lies.alloc ?_ _) | (with_reducible apply Lies.past; case hb => (with_reducible assumption)) | (with_reducible apply Lies.keeps; (case k => (with_reducible assumption)); (case ht => decide)) | (with_reducible apply Lies.store3) | (with_reducible apply Lies.other; case hp => (first | omega | (simp; done) | (simp; omega))))), by (repeat' (first | (with_reducible assumption) | (with_reducible exact Lies.fresh _ _ _) | (with_reducible apply Lies.fresh_at; (first | (with_reducible rfl) | (simp; done))) | (with_reducible refine Lies.drew ?_) | (with_reducible refine Lies.drewN ?_ _) | (with_reducible refine Lies.alloc ?_ _) | (with_reducible apply Lies.past; case hb => (with_reducible assumption)) | (with_reducible apply Lies.keeps; (case k => (with_reducible assumption)); (case ht => decide)) | (with_reducible apply Lies.store3) | (with_reducible apply Lies.other; case hp => (first | omega | (simp; done) | (simp; omega)))))⟩
  go_region_held3 (fun x' => x'.cell? ⟨w.heap.size, 0, none⟩ = some (.slice A n d) ∧ x'.cell? ⟨w.heap.size, 1, none⟩ = some (.int .i64 a) ∧ x'.cell? ⟨w.heap.size + 1, 0, none⟩ = some (cellOr x' (w.heap.size + 1) 0) ∧ x'.cell? ⟨w.heap.size + 1, 1, none⟩ = some (cellOr x' (w.heap.size + 1) 1) ∧ x'.frozen? ⟨w.heap.size + 1, 0, none⟩ = false ∧ x'.frozen? ⟨w.heap.size + 1, 1, none⟩ = false)
    ((apply two_of (t := 29); (focus (have KZ := HZ0.out.1; (repeat' (first | (with_reducible assumption) | (with_reducible refine Lies.drew ?_) | (with_reducible refine Lies.drewN ?_ _) | (with_reducible refine Lies.alloc ?_ _) | (with_reducible apply lies_store2) | (with_reducible refine Lies.other ?_ (by simp) _) | (with_reducible apply Lies.past; case hb => (with_reducible assumption)) | (with_reducible apply Lies.keeps; (case k => (with_reducible assumption)); (case ht => decide)))))); (focus (have KZ := HZ0.out.2; (repeat' (first | (with_reducible assumption) | (with_reducible refine Lies.drew ?_) | (with_reducible refine Lies.drewN ?_ _) | (with_reducible refine Lies.alloc ?_ _) | (with_reducible apply lies_store2) | (with_reducible refine Lies.other ?_ (by simp) _) | (with_reducible apply Lies.past; case hb => (with_reducible assumption)) | (with_reducible apply Lies.keeps; (case k => (with_reducible assumption)); (case ht => decide))))))))
    (first | (refine step_app8g (by rfl) _ _ (by rfl) _ _ [] (by rfl) (.inr ⟨rfl, _, rfl⟩) A n d c.b (by rfl) H.out.e (H.out.h.below (by (repeat' (first | (with_reducible exact Below.refl _ _) | (with_reducible assumption) | (with_reducible refine below_drewN ?_ _) | (with_reducible refine below_new ?_ _) | (with_reducible refine Below.alloc ?_ ?_ _) | (with_reducible refine Below.drew ?_) | (with_reducible refine Below.setCell ?_ ?_ _) | (with_reducible apply below_at; (case k => (with_reducible assumption)); (case hB => omega)) | (with_reducible apply below_on; (with_reducible assumption)) | (go_size; done) | (with_reducible apply size_of)))) (Nat.le_refl _)) n (by simp) H4.out (Nat.le_refl _) ?_; intro A3 c3 w3 ho3 hk3 hb3; rw [List.nil_append] at ho3))
  all_goals
    go_wp2_with fail
    have z3 := hb3.size
    simp at z3
    have hr3 : Lies (w3) (w.heap.size + 1) 29 [.slice none 0 0, .int .i64 0] := (by have KZ := HZ0.out.2; (repeat' (first | (with_reducible assumption) | (with_reducible refine Lies.drew ?_) | (with_reducible refine Lies.drewN ?_ _) | (with_reducible refine Lies.alloc ?_ _) | (with_reducible apply lies_store2) | (with_reducible refine Lies.other ?_ (by simp) _) | (with_reducible apply Lies.past; case hb => (with_reducible assumption)) | (with_reducible apply Lies.keeps; (case k => (with_reducible assumption)); (case ht => decide)))))
    obtain ⟨t0, t1, -, -⟩ := (lies_store2 hr3 (a := .slice A3 n c3) (b := .int .i64 (a + x))).two
    refine bodyPost_ret (by simp [results, Try.results38, go_sem, t0, t1]; try rfl) rfl ?_
    exact ⟨A3, c3, rfl, OwnZ.store2 (OwnZ.mono ho3 (by simp; try omega)) hr3 (by decide), by (repeat' (first | (with_reducible exact Below.refl _ _) | (with_reducible assumption) | (with_reducible refine below_drewN ?_ _) | (with_reducible refine below_new ?_ _) | (with_reducible refine Below.alloc ?_ ?_ _) | (with_reducible refine Below.drew ?_) | (with_reducible refine Below.setCell ?_ ?_ _) | (with_reducible apply below_at; (case k => (with_reducible assumption)); (case hB => omega)) | (with_reducible apply below_on; (with_reducible assumption)) | (go_size; done) | (with_reducible apply size_of)))⟩
set_option maxHeartbeats 4000000 in
theorem rValue_any (A : Option Addr) (q d : Nat) (bs : List Int) (w : World) (h : Has .u8 w A bs) (he : bs.length = q) (hb : ∀ z ∈ bs, 0 ≤ z ∧ z ≤ 255) (hq : q ≤ 8) :
    Calls Try.prog 37 #[.slice A q d] w fun e w' => e = .returned (.int .u64 (valB bs)) ∧ Below w.heap.size w w' := by
  have HQ := Lib.hid hq
  have HE := Lib.hid he
  have HB := Lib.hid hb
  have q8 : (q : Int) ≤ 8 := by omega
  have hcell : bs = [] ∨ ∃ b off, A = some ⟨b, off, none⟩ ∧ b < w.heap.size ∧ ∀ i, i < bs.length → w.cell? ⟨b, off + i, none⟩ = some (.int .u8 (bs.getD i 0)) := h
  rcases hcell with hn | ⟨b, off, rfl, hlt, hc⟩
  · have hq0 : q = 0 := by rw [← he, hn]; rfl
    have HV : Hid (valB bs = 0) := Lib.hid (by rw [hn]; rfl)
    subst hq0
    clear h he hb hq hn
    go_enter Try.func37, Try.ntmps37
    go_wp2_with fail
    go_loop [3, 4] (fun a i => i = .int .i64 0 ∧ a = .int .u64 0) (fun a i => 0)
    case atStart => exact ⟨rfl, rfl⟩
    case round =>
      obtain ⟨rfl, rfl⟩ := hrel
      go_wp2
      go_ret
      exact ⟨by rw [HV.out]; rfl, by (repeat' (first | (with_reducible exact Below.refl _ _) | (with_reducible assumption) | (with_reducible refine below_drewN ?_ _) | (with_reducible refine below_new ?_ _) | (with_reducible refine Below.alloc ?_ ?_ _) | (with_reducible refine Below.drew ?_) | (with_reducible refine Below.setCell ?_ ?_ _) | (with_reducible apply below_at; (case k => (with_reducible assumption)); (case hB => omega)) | (with_reducible apply below_on; (with_reducible assumption)) | (go_size; done) | (with_reducible apply size_of)))⟩
  · have HC := Lib.hid hc
    clear h he hb hq hc
    go_enter Try.func37, Try.ntmps37
    go_wp2_with fail
    go_loopw [3, 4] (fun a i wr => ∃ k : Nat, k ≤ q ∧ i = .int .i64 (k : Int) ∧ a = .int .u64 (valB (bs.take k)) ∧ w = wr) (fun _ i _ => q - (intOf i).toNat)
    case atStart => exact ⟨0, Nat.zero_le _, rfl, rfl, rfl⟩
    case round =>
      obtain ⟨k, hk, rfl, rfl, rfl⟩ := hrel
      by_cases hkq : k < q
      · have hcell := HC.out k (by rw [HE.out]; exact hkq)
        have HV : Hid (0 ≤ valB (bs.take k) ∧ valB (bs.take k) ≤ 72057594037927935) := Lib.hid (valB_7 HB.out (by rw [HE.out]; omega) (by have := HQ.out; omega))
        have HX : Hid (0 ≤ bs.getD k 0 ∧ bs.getD k 0 ≤ 255) := Lib.hid (by
          have := HE.out
          exact HB.out _ (by rw [List.getD_eq_getElem?_getD, List.getElem?_eq_getElem (by omega)]; exact List.getElem_mem _))
        have HNX : Hid (valB (bs.take (k + 1)) = valB (bs.take k) * 256 + bs.getD k 0) := Lib.hid (valB_take (by rw [HE.out]; exact hkq))
        have HLT := Lib.hid hkq
        have k1 : (k : Int) < q := by omega
        obtain ⟨v, hv⟩ : ∃ v, valB (bs.take k) = v := ⟨_, rfl⟩
        obtain ⟨y, hy⟩ : ∃ y, bs.getD k 0 = y := ⟨_, rfl⟩
        rw [hv] at HV HNX ⊢
        rw [hy] at HX HNX hcell
        have v1 := HV.out.1
        have v2 := HV.out.2
        have y1 := HX.out.1
        have y2 := HX.out.2
        have hw1 : IntKind.u64.wrap (256 * v) = 256 * v := by rw [IntKind.wrap_u64]; omega
        have hw2 : IntKind.u64.wrap (256 * v + y) = 256 * v + y := by rw [IntKind.wrap_u64]; omega
        have hw3 : IntKind.u64.wrap y = y := by rw [IntKind.wrap_u64]; omega
        clear hk hkq hv hy
        go_wp2
        go_roundw
        case rel => exact ⟨k + 1, HLT.out, by go_num, by rw [HNX.out, Int.mul_comm], by first | trivial | rfl⟩
        case measure => simp [intOf]; have := HLT.out; omega
      · have hkl : k = q := by omega
        subst hkl
        have HV : Hid (valB (bs.take k) = valB bs) := Lib.hid (by rw [List.take_of_length_le (by rw [HE.out]; exact Nat.le_refl _)])
        have HV2 : Hid (0 ≤ valB (bs.take k) ∧ valB (bs.take k) ≤ 18446744073709551615) := Lib.hid (valB_8 HB.out (by rw [HE.out]; exact Nat.le_refl _) HQ.out)
        obtain ⟨v, hv⟩ : ∃ v, valB (bs.take k) = v := ⟨_, rfl⟩
        rw [hv] at HV HV2 ⊢
        clear hk hkq hv
        go_wp2
        go_ret
        exact ⟨by rw [← HV.out]; rfl, by (repeat' (first | (with_reducible exact Below.refl _ _) | (with_reducible assumption) | (with_reducible refine below_drewN ?_ _) | (with_reducible refine below_new ?_ _) | (with_reducible refine Below.alloc ?_ ?_ _) | (with_reducible refine Below.drew ?_) | (with_reducible refine Below.setCell ?_ ?_ _) | (with_reducible apply below_at; (case k => (with_reducible assumption)); (case hB => omega)) | (with_reducible apply below_on; (with_reducible assumption)) | (go_size; done) | (with_reducible apply size_of)))⟩
set_option maxHeartbeats 1000000 in
theorem rLeft_any (c : Cu) (A : Option Addr) (n d : Nat) (w : World) (h : CuIn w A n d c) :
    Calls Try.prog 23 #[.agg #[.slice A n d, .int .i64 (c).a]] w fun e w' => e = .returned (.tuple #[.int .i64 (leftV c), .int .i64 (cuE c)]) ∧ Below w.heap.size w w' := by
  have H := Lib.hid h
  cases hok : cuB c
  · have HV : Hid (leftV c = 0 ∧ cuE c = 8) := Lib.hid ⟨by rw [leftV, if_neg (by rw [hok]; decide)], by rw [cuE, if_neg (by rw [hok]; decide)]⟩
    clear h hok
    go_enter Try.func23, Try.ntmps23
    go_wp2_with (first | (go_at_call 28; refine (rCheck_any c A n d _ (H.out.below (by (repeat' (first | (with_reducible exact Below.refl _ _) | (with_reducible assumption) | (with_reducible refine below_drewN ?_ _) | (with_reducible refine below_new ?_ _) | (with_reducible refine Below.alloc ?_ ?_ _) | (with_reducible refine Below.drew ?_) | (with_reducible refine Below.setCell ?_ ?_ _) | (with_reducible apply below_at; (case k => (with_reducible assumption)); (case hB => omega)) | (with_reducible apply below_on; (with_reducible assumption)) | (go_size; done) | (with_reducible apply size_of)))))).mono ?_; rintro e w1 ⟨rfl, hb1⟩; rw [HV.out.2]; have K1 : Lies (w1) (w.heap.size) 29 [.slice (A) (n) (d), .int .i64 (c).a] := (by (repeat' (first | (with_reducible assumption) | (with_reducible exact Lies.fresh _ _ _) | (with_reducible apply Lies.fresh_at; (first | (with_reducible rfl) | (simp; done))) | (with_reducible refine Lies.drew ?_) | (with_reducible refine Lies.drewN ?_ _) | (with_reducible refine Lies.alloc ?_ _) | (with_reducible apply Lies.past; case hb => (with_reducible assumption)) | (with_reducible apply Lies.keeps; (case k => (with_reducible assumption)); (case ht => decide)) | (with_reducible apply Lies.store3) | (with_reducible apply Lies.other; case hp => (first | omega | (simp; done) | (simp; omega)))))); obtain ⟨p0, p1, -, -⟩ := K1.two; have lt0 := K1.lt; have HK1 := Lib.hid K1; have HB1 := Lib.hid hb1))
    go_ret2
    exact ⟨ret2 HV.out.1.symm HV.out.2.symm, by (repeat' (first | (with_reducible exact Below.refl _ _) | (with_reducible assumption) | (with_reducible refine below_drewN ?_ _) | (with_reducible refine below_new ?_ _) | (with_reducible refine Below.alloc ?_ ?_ _) | (with_reducible refine Below.drew ?_) | (with_reducible refine Below.setCell ?_ ?_ _) | (with_reducible apply below_at; (case k => (with_reducible assumption)); (case hB => omega)) | (with_reducible apply below_on; (with_reducible assumption)) | (go_size; done) | (with_reducible apply size_of)))⟩
  · have hb := (cuB_iff c).1 hok
    have HV : Hid (leftV c = (n : Int) - c.a ∧ cuE c = 0) := Lib.hid ⟨by rw [leftV, if_pos hok, h.e], by rw [cuE, if_pos hok]⟩
    have q1 : 0 ≤ c.a := by omega
    have q2 : c.a ≤ n := by have := h.e; omega
    have q3 : (n : Int) ≤ 50000 := by have := h.e; omega
    clear h hok hb
    go_enter Try.func23, Try.ntmps23
    go_wp2_with (first | (go_at_call 28; refine (rCheck_any c A n d _ (H.out.below (by (repeat' (first | (with_reducible exact Below.refl _ _) | (with_reducible assumption) | (with_reducible refine below_drewN ?_ _) | (with_reducible refine below_new ?_ _) | (with_reducible refine Below.alloc ?_ ?_ _) | (with_reducible refine Below.drew ?_) | (with_reducible refine Below.setCell ?_ ?_ _) | (with_reducible apply below_at; (case k => (with_reducible assumption)); (case hB => omega)) | (with_reducible apply below_on; (with_reducible assumption)) | (go_size; done) | (with_reducible apply size_of)))))).mono ?_; rintro e w1 ⟨rfl, hb1⟩; rw [HV.out.2]; have K1 : Lies (w1) (w.heap.size) 29 [.slice (A) (n) (d), .int .i64 (c).a] := (by (repeat' (first | (with_reducible assumption) | (with_reducible exact Lies.fresh _ _ _) | (with_reducible apply Lies.fresh_at; (first | (with_reducible rfl) | (simp; done))) | (with_reducible refine Lies.drew ?_) | (with_reducible refine Lies.drewN ?_ _) | (with_reducible refine Lies.alloc ?_ _) | (with_reducible apply Lies.past; case hb => (with_reducible assumption)) | (with_reducible apply Lies.keeps; (case k => (with_reducible assumption)); (case ht => decide)) | (with_reducible apply Lies.store3) | (with_reducible apply Lies.other; case hp => (first | omega | (simp; done) | (simp; omega)))))); obtain ⟨p0, p1, -, -⟩ := K1.two; have lt0 := K1.lt; have HK1 := Lib.hid K1; have HB1 := Lib.hid hb1))
    go_ret2
    exact ⟨ret2 HV.out.1.symm HV.out.2.symm, by (repeat' (first | (with_reducible exact Below.refl _ _) | (with_reducible assumption) | (with_reducible refine below_drewN ?_ _) | (with_reducible refine below_new ?_ _) | (with_reducible refine Below.alloc ?_ ?_ _) | (with_reducible refine Below.drew ?_) | (with_reducible refine Below.setCell ?_ ?_ _) | (with_reducible apply below_at; (case k => (with_reducible assumption)); (case hB => omega)) | (with_reducible apply below_on; (with_reducible assumption)) | (go_size; done) | (with_reducible apply size_of)))⟩
end Go.Proofs.Ytlbokbbgpalkaaa.ocW
