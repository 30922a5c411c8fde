/- The last bytes of the program and of the reference, the reference's word, by walks. -/
import Derived.Test.YtemiecghdmagnaaCxW
import Derived.Test.YtemiecghdmagnaaGL
import Derived.Test.YtemiecghdmagnaaGP
namespace Go.Proofs.Ytemiecghdmagnaa.cxW
set_option maxRecDepth 100000
open Go.RowKit Go.Proofs.Ytemiecghdmagnaa.base Go.Proofs.Ytemiecghdmagnaa.rgP Go.Proofs.Ytemiecghdmagnaa.cxP
set_option linter.unusedVariables false
set_option linter.unusedSimpArgs false
theorem last_cons (r : Rg) (i : Nat) : lastL r (i + 1) = ago r ((i : Int) + 1) :: lastL r i := by
  refine getD_ext (by simp [cxP.last_len]) fun j hj => ?_
  rw [cxP.last_len] at hj
  rw [last_at r _ j hj]
  rcases j with _ | j
  · show _ = ago r _
    congr 1
  · show _ = (lastL r i).getD j 0
    rw [last_at r i j (by omega)]
    congr 1
    omega
def lateK (r : Rg) (k i : Nat) : List Int := List.replicate (k - i) 0 ++ lastL r i
theorem late_len (r : Rg) (k i : Nat) (h : i ≤ k) : (lateK r k i).length = k := by simp [lateK, cxP.last_len]; omega
theorem late_set (r : Rg) (k i : Nat) (h : i < k) : (lateK r k i).set (k - 1 - i) (ago r ((i : Int) + 1)) = lateK r k (i + 1) := by
  unfold lateK
  rw [last_cons, show k - i = (k - (i + 1)) + 1 by omega, List.replicate_succ', List.append_assoc, List.set_append_right _ _ (by simp; omega)]
  simp only [List.length_replicate]
  rw [show k - 1 - i - (k - (i + 1)) = 0 by omega]
  rfl
set_option maxHeartbeats 2000000 in
theorem Lately_any (r : Rg) (A : Option Addr) (n c k : Nat) (w : World) (h : RgIn w A n c r) (hok : rgOk r = true) (hk : k ≤ 1000) :
    Calls Try.prog 71 #[.agg #[.int .i64 (r).l, .slice A n c, .int .i64 (r).n], .int .i64 (k : Int)] w fun e w' => ∃ A' c', e = .returned (.slice A' k c') ∧ OwnZ w' w.heap.size (.slice A' k c') (lastL r k) ∧ Below w.heap.size w w' := by
  have H := Lib.hid h
  have HOK := Lib.hid hok
  have k9 : (k : Int) ≤ 1000 := by omega
  have k8 : 0 ≤ (k : Int) := by omega
  have LL : Hid (Lies (w.alloc (.cells #[.int .i64 r.l, .slice A n c, .int .i64 r.n] 26)) (w.heap.size) 26 [.int .i64 (r).l, .slice (A) (n) (c), .int .i64 (r).n]) := Lib.hid (Lies.fresh _ _ _)
  have HK := Lib.hid hk
  clear h hok hk
  go_enter Try.func71, Try.ntmps71
  go_wp2_with (at_make; refine make8 (by rfl) _ _ rfl .i64 .i64 k rfl rfl (by omega) (w.heap.size + 1) (by simp) ?_; intro w1 own1 hb1; rw [show (w.alloc (.cells #[.int .i64 r.l, .slice A n c, .int .i64 r.n] 26)).heap.size = w.heap.size + 1 by simp] at own1; have HO1 := Lib.hid own1; have HB1 := Lib.hid (And.intro (LL.out.past hb1) (((Below.refl _ _).alloc (Nat.le_refl _) _).trans (hb1.mono (by simp)))); clear own1 hb1)
  generalize hg : w.heap.size + 1 = g at *
  have HG : Hid (w.heap.size < g) := Lib.hid (by omega)
  clear hg
  go_loopw [6] (fun i wr => ∃ j : Nat, j ≤ k ∧ i = .int .i64 j ∧ OwnI wr g 5 .u8 (.slice (some ⟨g, 0, none⟩) k k) (lateK r k j) ∧ (Lies (wr) (w.heap.size) 26 [.int .i64 (r).l, .slice (A) (n) (c), .int .i64 (r).n]) ∧ Below w.heap.size w wr) (fun i _ => k - (intOf i).toNat)
  case atStart => exact ⟨0, Nat.zero_le _, rfl, by rw [show lateK r k 0 = List.replicate k 0 by simp [lateK, lastL]]; exact HO1.out, HB1.out.1, HB1.out.2⟩
  case round =>
    clear HO1 HB1 LL
    obtain ⟨j, hj, rfl, own, T, acc⟩ := hrel
    have HO := Lib.hid own
    have HT := Lib.hid T
    have HACC := Lib.hid acc
    by_cases hlt : j < k
    · have hii : ((k : Int) - 1 - j) = ((k - 1 - j : Nat) : Int) := by omega
      obtain ⟨q, hq⟩ : ∃ q, k - 1 - j = q := ⟨_, rfl⟩
      rw [hq] at hii
      have HSET := Lib.hid (late_set r k j hlt)
      rw [hq] at HSET
      have HQ : Hid (q < k ∧ j < k) := Lib.hid ⟨by omega, hlt⟩
      obtain ⟨r0, r1, r2, -, -, -⟩ := T.three
      have k1 : (j : Int) < k := by omega
      have k0 : 0 ≤ (j : Int) := by omega
      have q0 : 0 ≤ (q : Int) := by omega
      have q1 : (q : Int) < k := by omega
      clear hj own T acc hlt hq
      go_wp2_with fail
      refine (rgW.rAgo_any r A n c ((j : Int) + 1) _ (H.out.below HACC.out) HOK.out (by omega) (by omega)).mono ?_
      rintro e w2 ⟨rfl, hb2⟩
      have own2 := HO.out.below hb2 (Nat.le_refl _)
      have HT2 := Lib.hid (HT.out.past hb2)
      have HA2 := Lib.hid (HACC.out.trans (hb2.mono HACC.out.size))
      have p1 := own2.cell q (by rw [late_len r k j (by have := HQ.out; omega)]; exact HQ.out.1)
      have p2 := own2.frozen q
      have HS := Lib.hid (own2.store q (ago r ((j : Int) + 1)))
      rw [HSET.out] at HS
      clear own2 hb2 r0 r1 r2
      generalize ago r ((j : Int) + 1) = x at *
      go_wp2_with fail
      refine ⟨⟨j + 1, by have := HQ.out; omega, by first | rfl | go_num, HS.out, HT2.out.other (by have := HG.out; show g ≠ w.heap.size; omega) _, by have := HA2.out; have : w.heap.size ≤ g := (by have := HG.out; omega); (repeat' (first | (with_reducible exact Below.refl _ _) | (with_reducible assumption) | (with_reducible refine below_drewN ?_ _) | (with_reducible refine below_new ?_ _) | (with_reducible refine Below.alloc ?_ ?_ _) | (with_reducible refine Below.drew ?_) | (with_reducible refine Below.setCell ?_ ?_ _) | (with_reducible apply below_at; (case k => (with_reducible assumption)); (case hB => omega)) | (with_reducible apply below_on; (with_reducible assumption)) | (go_size; done) | (with_reducible apply size_of)))⟩, by simp [intOf]; have := HQ.out; omega⟩
    · have e : j = k := by omega
      subst e
      have HF : Hid (lateK r j j = lastL r j) := Lib.hid (by simp [lateK])
      have k1 : ¬ (j : Int) < j := by omega
      clear hj own T acc hlt
      go_wp2_with fail
      go_ret
      exact ⟨some ⟨g, 0, none⟩, j, rfl, .inl (by rw [← HF.out]; exact HO.out.mono (by have := HG.out; omega)), HACC.out⟩
end Go.Proofs.Ytemiecghdmagnaa.cxW
