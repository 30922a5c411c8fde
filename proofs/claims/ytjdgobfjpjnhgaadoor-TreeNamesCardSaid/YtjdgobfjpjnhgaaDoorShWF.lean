/- Pieces, by a walk. -/
import Derived.Test.YtjdgobfjpjnhgaaDoorShWE
namespace Go.Proofs.YtjdgobfjpjnhgaaDoor.shW
set_option maxRecDepth 100000
open Go.RowKit Go.Proofs.YtjdgobfjpjnhgaaDoor.base Go.Proofs.YtjdgobfjpjnhgaaDoor.shP
set_option linter.unusedVariables false
set_option linter.unusedSimpArgs false
set_option maxRecDepth 100000 in
set_option maxHeartbeats 4000000 in
theorem Pieces_any (rs : List R8) (P : Option Addr) (m d : Nat) (w : World) (hT : Tab w) (h : HasL w P rs) (hl : rs.length = m) (hm : m ≤ 9223372036854775807) :
    Calls Tryd.prog 27 #[.slice P m d] w fun e w' => e = .returned (.tuple #[.agg (darr (piV rs)), .int .i64 (piE rs)]) ∧ Below w.heap.size w w' := by
  have n9 : (m : Int) ≤ 9223372036854775807 := by omega
  have HTB := Lib.hid hT
  have H := Lib.hid h
  have HL := Lib.hid hl
  have HZ0 := Lib.hid (z20_new w rfl)
  have HP := Lib.hid zd_one
  by_cases c : (m : Int) ≤ 20
  · clear hT h hl hm
    go_enter Tryd.func27, Tryd.ntmps27
    go_wp2_with fail
    go_loopw [4, 13] (fun v i wr => ∃ (k n : Nat) (A : Option Addr) (c : Nat), k ≤ m ∧ i = .int .i64 k ∧ v = .slice A n c ∧ n = (wholeK rs k).length ∧ n ≤ 20000 ∧ OwnZ wr (w.heap.size + 1) (.slice A n c) (wholeK rs k) ∧ Lies wr w.heap.size 26 z20 ∧ Below w.heap.size w wr) (fun _ i _ => m - (intOf i).toNat)
    case atStart => exact ⟨0, 0, none, 0, Nat.zero_le _, rfl, rfl, rfl, by omega, .inr ⟨rfl, _, rfl⟩, HZ0.out, by (repeat' (first | (with_reducible exact Below.refl _ _) | (with_reducible assumption) | (with_reducible refine below_drewN ?_ _) | (with_reducible refine below_new ?_ _) | (with_reducible refine Below.alloc ?_ ?_ _) | (with_reducible refine Below.drew ?_) | (with_reducible refine Below.setCell ?_ ?_ _) | (with_reducible apply below_at; (case k => (with_reducible assumption)); (case hB => omega)) | (with_reducible apply below_on; (with_reducible assumption)) | (go_size; done) | (with_reducible apply size_of)))⟩
    case round =>
      clear HZ0
      obtain ⟨k, n, A, c, hk, rfl, rfl, hn, hn2, own, Z, acc⟩ := hrel
      have HN := Lib.hid hn
      have HN2 := Lib.hid hn2
      have HO := Lib.hid own
      have HZ0 := Lib.hid Z
      have HACC := Lib.hid acc
      have n2 : (n : Int) ≤ 20000 := by omega
      by_cases hlt : k < m
      · obtain ⟨b, off, rfl, hb, hc⟩ := H.out.some (by rw [HL.out]; omega)
        have hcell := hc k (by rw [HL.out]; exact hlt)
        rw [← acc.cell (p := ⟨b, off + k, none⟩) hb] at hcell
        have hin := H.out.get k (by rw [HL.out]; exact hlt)
        have hr9 : (rs.getD k r80).n ≤ 9223372036854775807 := Nat.le_trans hin.c1 hin.c2
        have HS := Lib.hid (wholeK_snoc rs k (by rw [HL.out]; exact hlt))
        have HLE := Lib.hid (wholeK_le rs (k + 1))
        have HTOT : Hid (n + (rs.getD k r80).n = (wholeK rs (k + 1)).length) := Lib.hid (by
          rw [HS.out, List.length_append, hin.e, ← HN.out])
        have HLT := Lib.hid hlt
        have k1 : (k : Int) < m := by omega
        have k0 : 0 ≤ (k : Int) := by omega
        generalize rs.getD k r80 = r at *
        obtain ⟨rA, rn, rc, rb⟩ := r
        have HIN := Lib.hid hin
        simp only [] at *
        have r9 : (rn : Int) ≤ 9223372036854775807 := by omega
        have HSZ : Hid (w.heap.size + 1 ≤ wr.heap.size) := Lib.hid (by have := Z.lt; omega)
        clear own acc Z hk hlt hn hn2 hin hc hr9
        by_cases cs : (rn : Int) ≤ 20000 - (n : Int)
        · have HC : Hid (n + rn ≤ 20000) := Lib.hid (by omega)
          go_wp2_with (at_builtin; go_loud (refine app8z rfl _ _ rfl (w.heap.size + 1) _ (wholeK rs k) rfl HO.out rA rn rc rb rfl HIN.out.e (HIN.out.h.below HACC.out (Nat.le_refl _)) (n + rn) (by rw [HN.out]) (Nat.le_trans HC.out (by omega)) HSZ.out ?_; intro A4 c4 w4 ho4 hk4 hb4; have HO4 := Lib.hid ho4; have HB4 := Lib.hid hb4; clear ho4 hk4 hb4))
          refine ⟨⟨k + 1, n + rn, A4, c4, HLT.out, by go_num, rfl, HTOT.out, HC.out, by rw [HS.out]; exact HO4.out, HZ0.out.below HB4.out (by omega), ?_⟩, by simp [intOf]; have := HLT.out; omega⟩
          exact HACC.out.trans (HB4.out.mono (by omega))
        · have HV := Lib.hid (pi_no (rs := rs) (fun hh => by have := hh.2; have := HLE.out; have := HTOT.out; omega))
          go_wp2_with (show wpList _ _ _ ({ dst := none, op := Op.store 26 _ _, type := _, pos := _, after := _, guard := none } :: _) _ _; go_must (refine wpList_store_arr (P := Tryd.prog) rfl 26 (.tmp 2) (.tmp 23) rfl w.heap.size ?c4 (darr zd) ?c0 26 _ HZ0.out rfl HP.out info20z ?_); (case c4 => rfl); (case c0 => rfl); intro w9 hR9 hb9 hz9)
          refine bodyPost_ret (results_cell_tmp (P := Tryd.prog) Tryd.results27 _ _ _ _ _ _ _ rfl hR9 Tryd.underlying26 rfl info20z) rfl ⟨?_, ?_⟩
          · rw [HV.out.1, HV.out.2]; rfl
          · exact HACC.out.trans hb9
      · have k1 : ¬ (k : Int) < m := by omega
        have HK : Hid (wholeK rs k = wholeL rs) := Lib.hid (wholeK_all rs k (by rw [HL.out]; omega))
        have HV := Lib.hid (pi_yes (rs := rs) (by rw [HL.out]; omega) (by rw [← HK.out, ← HN.out]; exact HN2.out))
        have HBD : Hid (∀ z ∈ wholeL rs, 0 ≤ z ∧ z ≤ 255) := Lib.hid (by rw [← HK.out]; exact whole_bd H.out k)
        obtain ⟨v, hv⟩ := dg_form (wholeL rs)
        have HVV := Lib.hid hv
        have HPP := Lib.hid (done1 v)
        clear own acc Z hk hlt hn hn2 hv
        go_wp2_with fail
        refine (digest_any (wholeL rs) A n c _ (HTB.out.below HACC.out (Nat.le_refl _)) (by rw [← HK.out]; exact HO.out.has) (by rw [← HK.out, ← HN.out]) HO.out.bounds.2.1 HN2.out HBD.out).mono ?_
        rintro e w1 ⟨rfl, hb1⟩
        rw [HVV.out]
        have HZ1 := Lib.hid (HZ0.out.past hb1)
        have HB1 := Lib.hid hb1
        clear hb1
        go_wp2_with (show wpList _ _ _ ({ dst := none, op := Op.store 26 _ _, type := _, pos := _, after := _, guard := none } :: _) _ _; go_must (refine wpList_store_arr (P := Tryd.prog) rfl 26 (.tmp 2) (.tmp 29) rfl w.heap.size ?c4 (darr (wbytes v)) ?c0 26 _ HZ1.out rfl HPP.out (info20 v) ?_); (case c4 => rfl); (case c0 => rfl); intro w9 hR9 hb9 hz9)
        refine bodyPost_ret (results_cell_tmp (P := Tryd.prog) Tryd.results27 _ _ _ _ _ _ _ rfl hR9 Tryd.underlying26 rfl (info20 v)) rfl ⟨?_, ?_⟩
        · rw [HV.out.1, HV.out.2, HVV.out]; rfl
        · exact (HACC.out.trans (HB1.out.mono HACC.out.size)).trans hb9
  · have HV := Lib.hid (pi_no (rs := rs) (fun hh => by have := hh.1; omega))
    clear hT h hl hm
    go_enter Tryd.func27, Tryd.ntmps27
    go_wp2_with (show wpList _ _ _ ({ dst := none, op := Op.store 26 _ _, type := _, pos := _, after := _, guard := none } :: _) _ _; go_must (refine wpList_store_arr (P := Tryd.prog) rfl 26 (.tmp 2) (.tmp 10) rfl w.heap.size ?c4 (darr zd) ?c0 26 _ HZ0.out rfl HP.out info20z ?_); (case c4 => rfl); (case c0 => rfl); intro w9 hR9 hb9 hz9)
    refine bodyPost_ret (results_cell_tmp (P := Tryd.prog) Tryd.results27 _ _ _ _ _ _ _ rfl hR9 Tryd.underlying26 rfl info20z) rfl ⟨?_, ?_⟩
    · rw [HV.out.1, HV.out.2]; rfl
    · exact Below.trans (by (repeat' (first | (with_reducible exact Below.refl _ _) | (with_reducible assumption) | (with_reducible refine below_drewN ?_ _) | (with_reducible refine below_new ?_ _) | (with_reducible refine Below.alloc ?_ ?_ _) | (with_reducible refine Below.drew ?_) | (with_reducible refine Below.setCell ?_ ?_ _) | (with_reducible apply below_at; (case k => (with_reducible assumption)); (case hB => omega)) | (with_reducible apply below_on; (with_reducible assumption)) | (go_size; done) | (with_reducible apply size_of)))) hb9
end Go.Proofs.YtjdgobfjpjnhgaaDoor.shW
