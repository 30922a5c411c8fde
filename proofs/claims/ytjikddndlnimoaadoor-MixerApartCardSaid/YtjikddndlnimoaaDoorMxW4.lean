/- Mixing with a set, by walks. -/
import Derived.Test.YtjikddndlnimoaaDoorMxW3
import Derived.Deep.DeepCutAuto
namespace Go.Proofs.YtjikddndlnimoaaDoor.mxP
set_option maxRecDepth 100000
open Go.Proofs.YtjikddndlnimoaaDoor.base Go.Proofs.YtjikddndlnimoaaDoor.rfP Go.Proofs.YtjikddndlnimoaaDoor.sqP Go.Proofs.YtjikddndlnimoaaDoor.fixP
def mixV (l : List (List Int)) (set : Int) (ins : List Int) : Int := if mAskE l set ins = 0 then mixD (l.getD set.toNat []) ins else 0
def mixQ (l : List (List Int)) (set : Int) (ins : List Int) : Int := if mAskE l set ins = 0 then sq (mixD (l.getD set.toNat []) ins) else 0
theorem clamp_is (n : Int) : min (max n (-2047)) 2047 = clampD n := by unfold clampD; omega
end Go.Proofs.YtjikddndlnimoaaDoor.mxP
namespace Go.Proofs.YtjikddndlnimoaaDoor.mxW
set_option maxRecDepth 100000
open Go.RowKit Go.Proofs.YtjikddndlnimoaaDoor.base Go.Proofs.YtjikddndlnimoaaDoor.rfP Go.Proofs.YtjikddndlnimoaaDoor.mxP Go.Proofs.YtjikddndlnimoaaDoor.sqP Go.Proofs.YtjikddndlnimoaaDoor.sqW Go.Proofs.YtjikddndlnimoaaDoor.fixP Go.Proofs.YtjikddndlnimoaaDoor.fixW
set_option linter.unusedVariables false
set_option linter.unusedSimpArgs false
set_option maxHeartbeats 800000 in
theorem rMix_any (P : Option Addr) (m c : Nat) (rs : List RY) (set : Int) (B : Option Addr) (n d : Nat) (ys : List Int) (w : World) (h : RowsY w P m c rs) (hi : In8 w B n d ys) :
    Calls Tryd.prog 12 #[.agg #[.slice P m c], .int .i64 set, .slice B n d] w fun e w' => e = .returned (.tuple #[.int .i32 (mixV (numsY rs) set ys), .int .i32 (mixQ (numsY rs) set ys), .int .i64 (mAskE (numsY rs) set ys)]) ∧ Below w.heap.size w w' := by
  have H := Lib.hid (And.intro h hi)
  have LB : Hid (MxAt (w.alloc (.cells #[.slice P m c] 24)) w.heap.size P m c rs ∧ Below w.heap.size w (w.alloc (.cells #[.slice P m c] 24))) := Lib.hid ⟨mxAt_new h, by (repeat' (first | (with_reducible exact Below.refl _ _) | (with_reducible assumption) | (with_reducible refine below_drewN ?_ _) | (with_reducible refine below_new ?_ _) | (with_reducible refine Below.alloc ?_ ?_ _) | (with_reducible refine Below.drew ?_) | (with_reducible refine Below.setCell ?_ ?_ _) | (with_reducible apply below_at; (case k => (with_reducible assumption)); (case hB => omega)) | (with_reducible apply below_on; (with_reducible assumption)) | (go_size; done) | (with_reducible apply size_of)))⟩
  by_cases ha : mAskE (numsY rs) set ys = 0
  · obtain ⟨a1, a2, a3, a4⟩ := mAsk_zero ha
    obtain ⟨k, rfl⟩ : ∃ k : Nat, set = k := ⟨set.toNat, by omega⟩
    have hkm : k < m := by rw [nums_len, h.l] at a3; omega
    have HL : Hid (rs.length = m) := Lib.hid h.l
    have m9 : (m : Int) ≤ 9223372036854775807 := by have := h.c1; have := h.c2; omega
    have hn8 : n = 8 := by rw [← hi.e]; exact ((inB_iff _).1 a4).1
    subst hn8
    have HRW := Lib.hid (mx_row a1 k (by rw [nums_len, HL.out]; exact hkm))
    have HN := Lib.hid (nums_at rs k (by rw [HL.out]; exact hkm))
    have HI := Lib.hid (h.h.get k (by rw [HL.out]; exact hkm))
    obtain ⟨b, off, rfl, hb, hc⟩ := h.h.some (by rw [HL.out]; omega)
    have HC : Hid (∀ x', Below w.heap.size w x' → x'.cell? ⟨b, off + k, none⟩ = some (.slice (rs.getD k ry0).A (rs.getD k ry0).n (rs.getD k ry0).c)) := Lib.hid (fun x' hx => ((bcell hx).1 b _ hb).trans (hc k (by rw [HL.out]; exact hkm)))
    have HA := Lib.hid ha
    have HIN := Lib.hid a4
    have HV : Hid (mixV (numsY rs) (k : Int) ys = mixD ((numsY rs).getD k []) ys ∧ mixQ (numsY rs) (k : Int) ys = sq (mixD ((numsY rs).getD k []) ys)) := Lib.hid (by unfold mixV mixQ; rw [if_pos ha, if_pos ha, Int.toNat_natCast]; exact ⟨rfl, rfl⟩)
    have k1 : (k : Int) < m := by omega
    have k0 : 0 ≤ (k : Int) := by omega
    rw [HV.out.1, HV.out.2, HA.out]
    rw [HN.out] at HRW ⊢
    generalize rs.getD k ry0 = r at *
    obtain ⟨A, q, dd, z⟩ := r
    have HZ : Hid (z.length = 8) := HRW
    obtain rfl : q = 8 := by have e1 : z.length = q := HI.out.e; have e2 := HZ.out; omega
    clear h hi ha a1 a2 a3 a4 hkm hb hc HV HRW
    go_enter Tryd.func12, Tryd.ntmps12
    go_wp2_with fail
    generalize (w.alloc (.cells #[.slice (some ⟨b, off, none⟩) m c] 24)) = w0 at *
    refine (rAsked_any (some ⟨b, off, none⟩) m c rs k B 8 d ys w0 LB.out.1.rows (H.out.2.past LB.out.2)).mono ?_
    rintro e w1 ⟨rfl, hb1⟩
    rw [HA.out]
    have L1 := Lib.hid (And.intro (LB.out.1.past hb1) (below_bs LB.out.2 hb1))
    have x1 := L1.out.1.cell
    have x2 := HC.out w1 L1.out.2
    clear hb1
    go_wp2_with fail
    refine (Mixed_any A B dd d z ys w1 ((HI.out.below L1.out.2 (Nat.le_refl _)).h) HZ.out HI.out.b ((H.out.2.past L1.out.2).h) HIN.out).mono ?_
    rintro e w2 ⟨rfl, hb2⟩
    have HB2 := Lib.hid (below_bs L1.out.2 hb2)
    clear hb2
    go_wp2_with fail
    refine bodyPost_ret (by simp [results, Tryd.results12, go_sem, ]; try rfl) rfl ?_
    exact ⟨rfl, HB2.out⟩
  · have HV : Hid (mixV (numsY rs) set ys = 0 ∧ mixQ (numsY rs) set ys = 0) := Lib.hid (by unfold mixV mixQ; rw [if_neg ha, if_neg ha]; exact ⟨rfl, rfl⟩)
    obtain ⟨v, hv⟩ : ∃ v, mAskE (numsY rs) set ys = v := ⟨_, rfl⟩
    have HVV := Lib.hid hv
    rw [HV.out.1, HV.out.2, hv]
    rw [hv] at ha
    clear hv h hi HV
    go_enter Tryd.func12, Tryd.ntmps12
    go_wp2_with fail
    generalize (w.alloc (.cells #[.slice P m c] 24)) = w0 at *
    refine (rAsked_any P m c rs set B n d ys w0 LB.out.1.rows (H.out.2.past LB.out.2)).mono ?_
    rintro e w1 ⟨rfl, hb1⟩
    rw [HVV.out]
    have L1 := Lib.hid (And.intro (LB.out.1.past hb1) (below_bs LB.out.2 hb1))
    have x1 := L1.out.1.cell
    clear hb1
    go_wp2_with fail
    refine (rAsked_any P m c rs set B n d ys w1 L1.out.1.rows (H.out.2.past L1.out.2)).mono ?_
    rintro e w2 ⟨rfl, hb2⟩
    rw [HVV.out]
    have HB2 := Lib.hid (below_bs L1.out.2 hb2)
    clear hb2
    go_wp2_with fail
    refine bodyPost_ret (by simp [results, Tryd.results12, go_sem, ]; try rfl) rfl ?_
    exact ⟨rfl, HB2.out⟩
set_option maxHeartbeats 800000 in
theorem Mix_any (P : Option Addr) (m c : Nat) (rs : List RY) (set : Int) (B : Option Addr) (n d : Nat) (ys : List Int) (w : World) (h : RowsY w P m c rs) (hi : In8 w B n d ys) (hT : Tab w) :
    Calls Tryd.prog 11 #[.agg #[.slice P m c], .int .i64 set, .slice B n d] w fun e w' => e = .returned (.tuple #[.int .i32 (mixV (numsY rs) set ys), .int .i32 (mixQ (numsY rs) set ys), .int .i64 (mAskE (numsY rs) set ys)]) ∧ Below w.heap.size w w' := by
  have H := Lib.hid (And.intro h hi)
  have HT := Lib.hid hT
  have LB : Hid (MxAt (w.alloc (.cells #[.slice P m c] 24)) w.heap.size P m c rs ∧ Below w.heap.size w (w.alloc (.cells #[.slice P m c] 24))) := Lib.hid ⟨mxAt_new h, by (repeat' (first | (with_reducible exact Below.refl _ _) | (with_reducible assumption) | (with_reducible refine below_drewN ?_ _) | (with_reducible refine below_new ?_ _) | (with_reducible refine Below.alloc ?_ ?_ _) | (with_reducible refine Below.drew ?_) | (with_reducible refine Below.setCell ?_ ?_ _) | (with_reducible apply below_at; (case k => (with_reducible assumption)); (case hB => omega)) | (with_reducible apply below_on; (with_reducible assumption)) | (go_size; done) | (with_reducible apply size_of)))⟩
  by_cases ha : mAskE (numsY rs) set ys = 0
  · obtain ⟨a1, a2, a3, a4⟩ := mAsk_zero ha
    obtain ⟨k, rfl⟩ : ∃ k : Nat, set = k := ⟨set.toNat, by omega⟩
    have hkm : k < m := by rw [nums_len, h.l] at a3; omega
    have HL : Hid (rs.length = m) := Lib.hid h.l
    have m9 : (m : Int) ≤ 9223372036854775807 := by have := h.c1; have := h.c2; omega
    have hn8 : n = 8 := by rw [← hi.e]; exact ((inB_iff _).1 a4).1
    subst hn8
    have HRW := Lib.hid (mx_row a1 k (by rw [nums_len, HL.out]; exact hkm))
    have HN := Lib.hid (nums_at rs k (by rw [HL.out]; exact hkm))
    have HI := Lib.hid (h.h.get k (by rw [HL.out]; exact hkm))
    obtain ⟨b, off, rfl, hb, hc⟩ := h.h.some (by rw [HL.out]; omega)
    have HC : Hid (∀ x', Below w.heap.size w x' → x'.cell? ⟨b, off + k, none⟩ = some (.slice (rs.getD k ry0).A (rs.getD k ry0).n (rs.getD k ry0).c)) := Lib.hid (fun x' hx => ((bcell hx).1 b _ hb).trans (hc k (by rw [HL.out]; exact hkm)))
    have HA := Lib.hid ha
    have HIN := Lib.hid a4
    have HV : Hid (mixV (numsY rs) (k : Int) ys = mixD ((numsY rs).getD k []) ys ∧ mixQ (numsY rs) (k : Int) ys = sq (mixD ((numsY rs).getD k []) ys)) := Lib.hid (by unfold mixV mixQ; rw [if_pos ha, if_pos ha, Int.toNat_natCast]; exact ⟨rfl, rfl⟩)
    have k1 : (k : Int) < m := by omega
    have k0 : 0 ≤ (k : Int) := by omega
    rw [HV.out.1, HV.out.2, HA.out]
    rw [HN.out] at HRW ⊢
    generalize rs.getD k ry0 = r at *
    obtain ⟨A, q, dd, z⟩ := r
    have HZ : Hid (z.length = 8) := HRW
    obtain rfl : q = 8 := by have e1 : z.length = q := HI.out.e; have e2 := HZ.out; omega
    have HM : Hid (mixD z ys = clampD (dotP z ys / 65536)) := Lib.hid rfl
    have hdb : -2147483648 ≤ dotP z ys ∧ dotP z ys ≤ 2147483647 := sat_bd _
    have HDP : Hid (dotP z ys = sat (prods z ys).sum) := Lib.hid rfl
    obtain ⟨v, hv⟩ : ∃ v, mixD z ys = v := ⟨_, rfl⟩
    have HVM := Lib.hid hv
    rw [show mixD (⟨A, 8, dd, z⟩ : RY).b ys = v from hv]
    obtain ⟨p, hp⟩ : ∃ p, dotP z ys = p := ⟨_, rfl⟩
    rw [hp] at HM hdb HDP
    rw [hv] at HM
    have hcb := clamp_bd (p / 65536)
    have hci := clamp_is (p / 65536)
    rw [← HM.out] at hcb hci
    have HCI := Lib.hid hci
    obtain ⟨v0, v1⟩ := hcb
    obtain ⟨p0, p1⟩ := hdb
    clear h hi ha a1 a2 a3 a4 hkm hb hc HV HRW hv hp hci
    go_enter Tryd.func11, Tryd.ntmps11
    go_wp2_with fail
    generalize (w.alloc (.cells #[.slice (some ⟨b, off, none⟩) m c] 24)) = w0 at *
    refine (checkIn_any (some ⟨b, off, none⟩) m c rs k B 8 d ys w0 LB.out.1.rows (H.out.2.past LB.out.2)).mono ?_
    rintro e w1 ⟨rfl, hb1⟩
    rw [HA.out]
    have L1 := Lib.hid (And.intro (LB.out.1.past hb1) (below_bs LB.out.2 hb1))
    have x1 := L1.out.1.cell
    have x2 := HC.out w1 L1.out.2
    clear hb1
    go_wp2_with fail
    refine (dot_any A B 8 dd d z ys w1 (by decide) HZ.out (H.out.2.e) ((HI.out.below L1.out.2 (Nat.le_refl _)).h) ((H.out.2.past L1.out.2).h) HI.out.b H.out.2.b).mono ?_
    rintro e w2 ⟨rfl, rfl⟩
    rw [← HDP.out]
    go_upto_region 7 with fail
    go_cut [6] (fun s wx => s = .int .i32 v ∧ w1 = wx)
    case first =>
      have h := HCI.out
      go_wp2_with fail
      all_goals (go_meet; refine ⟨?_, rfl⟩; congr 1; (try split) <;> omega)
    case rest =>
      obtain ⟨rfl, rfl⟩ := hcut
      go_wp2_with fail
      with_reducible refine (sq_any _ w1 (HT.out.below L1.out.2)).mono ?_
      rintro e w3 ⟨rfl, nn, rfl⟩
      go_wp2_with fail
      refine bodyPost_ret (by simp [results, Tryd.results11, go_sem, ]; try rfl) rfl ?_
      exact ⟨rfl, below_dN L1.out.2 _⟩
  · have HV : Hid (mixV (numsY rs) set ys = 0 ∧ mixQ (numsY rs) set ys = 0) := Lib.hid (by unfold mixV mixQ; rw [if_neg ha, if_neg ha]; exact ⟨rfl, rfl⟩)
    obtain ⟨v, hv⟩ : ∃ v, mAskE (numsY rs) set ys = v := ⟨_, rfl⟩
    have HVV := Lib.hid hv
    rw [HV.out.1, HV.out.2, hv]
    rw [hv] at ha
    clear hv h hi HV
    go_enter Tryd.func11, Tryd.ntmps11
    go_wp2_with fail
    generalize (w.alloc (.cells #[.slice P m c] 24)) = w0 at *
    refine (checkIn_any P m c rs set B n d ys w0 LB.out.1.rows (H.out.2.past LB.out.2)).mono ?_
    rintro e w1 ⟨rfl, hb1⟩
    rw [HVV.out]
    have HB2 := Lib.hid (below_bs LB.out.2 hb1)
    clear hb1
    go_wp2_with fail
    refine bodyPost_ret (by simp [results, Tryd.results11, go_sem, ]; try rfl) rfl ?_
    exact ⟨rfl, HB2.out⟩
end Go.Proofs.YtjikddndlnimoaaDoor.mxW
