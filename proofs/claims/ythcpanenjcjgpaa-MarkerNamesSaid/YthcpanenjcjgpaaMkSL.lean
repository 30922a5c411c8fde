/- Lists of strings of bytes compared, by a walk. -/
import Derived.Test.YthcpanenjcjgpaaMkW6
import Derived.Test.YthcpanenjcjgpaaRowsP
import Derived.BigQuiet
namespace Go.Proofs.Ythcpanenjcjgpaa.mkW
open Go.RowKit Go.Proofs.Ythcpanenjcjgpaa.base Go.Proofs.Ythcpanenjcjgpaa.mkP
set_option linter.unusedVariables false
set_option linter.unusedSimpArgs false
theorem maps_eq {rs ss : List R8} (hl : rs.length = ss.length) (h : ∀ i, i < rs.length → (rs.getD i r80).b = (ss.getD i r80).b) : rs.map R8.b = ss.map R8.b := by
  refine List.ext_getElem (by simp [hl]) fun i h1 h2 => ?_
  have h1' : i < rs.length := by simpa using h1
  have h2' : i < ss.length := by simpa using h2
  have := h i h1'
  rw [List.getD_eq_getElem?_getD, List.getD_eq_getElem?_getD, List.getElem?_eq_getElem h1', List.getElem?_eq_getElem h2'] at this
  simpa using this
theorem maps_ne {rs ss : List R8} {i : Nat} (hi : i < rs.length) (hj : i < ss.length) (h : (rs.getD i r80).b ≠ (ss.getD i r80).b) : rs.map R8.b ≠ ss.map R8.b := by
  intro e
  have := congrArg (fun l => l[i]?) e
  simp only [List.getElem?_map, List.getElem?_eq_getElem hi, List.getElem?_eq_getElem hj, Option.map_some, Option.some.injEq] at this
  apply h
  rw [List.getD_eq_getElem?_getD, List.getD_eq_getElem?_getD, List.getElem?_eq_getElem hi, List.getElem?_eq_getElem hj]
  exact this
theorem conv_drew {w : World} {r : R8} (h : InR w r) (q : Nat) : (convert 22 9 (.slice r.A r.n r.c)).run Try.prog (w.drewN q) = .ok (.string (bstr r.b)) (w.drewN q) :=
  conv8 (h.h.below (below_drewN (Below.refl w.heap.size w) q) (Nat.le_refl _)) h.e
set_option maxHeartbeats 1000000 in
theorem sameL_any (rs ss : List R8) (P Q : Option Addr) (m d m2 d2 : Nat) (w : World) (h : HasL w P rs) (hl : rs.length = m) (hm : m ≤ 9223372036854775807) (h2 : HasL w Q ss) (hl2 : ss.length = m2) (hm2 : m2 ≤ 9223372036854775807) :
    Calls Try.prog 20 #[.slice P m d, .slice Q m2 d2] w fun e w' => e = .returned (.bool (decide (rs.map R8.b = ss.map R8.b))) ∧ Below w.heap.size w w' := by
  have n9 : (m : Int) ≤ 9223372036854775807 := by omega
  have n92 : (m2 : Int) ≤ 9223372036854775807 := by omega
  by_cases he : m = m2
  · subst he
    have H := Lib.hid h
    have H2 := Lib.hid h2
    have HL := Lib.hid (And.intro hl hl2)
    clear h h2 hl hl2 hm hm2
    go_enter Try.func20, Try.ntmps20
    go_wp2_with fail
    go_loopw [5] (fun i wr => ∃ k : Nat, k ≤ m ∧ i = .int .i64 k ∧ (∀ t, t < k → (rs.getD t r80).b = (ss.getD t r80).b) ∧ Below w.heap.size w wr) (fun i _ => m - (intOf i).toNat)
    case atStart => exact ⟨0, Nat.zero_le _, rfl, fun t ht => by omega, Below.refl _ _⟩
    case round =>
      obtain ⟨k, hk, rfl, hall, acc⟩ := hrel
      have HALL := Lib.hid hall
      have HACC := Lib.hid acc
      by_cases hlt : k < m
      · obtain ⟨b, off, rfl, hb, hc⟩ := H.out.some (by rw [HL.out.1]; omega)
        obtain ⟨b2, off2, rfl, hb2, hc2⟩ := H2.out.some (by rw [HL.out.2]; omega)
        have p1 := hc k (by rw [HL.out.1]; exact hlt)
        have p2 := hc2 k (by rw [HL.out.2]; exact hlt)
        rw [← acc.cell (p := ⟨b, off + k, none⟩) hb] at p1
        rw [← acc.cell (p := ⟨b2, off2 + k, none⟩) hb2] at p2
        have i1 := (H.out.get k (by rw [HL.out.1]; exact hlt)).below acc (Nat.le_refl _)
        have i2 := (H2.out.get k (by rw [HL.out.2]; exact hlt)).below acc (Nat.le_refl _)
        have hne := maps_ne (rs := rs) (ss := ss) (i := k) (by rw [HL.out.1]; exact hlt) (by rw [HL.out.2]; exact hlt)
        have HNE := Lib.hid hne
        have HLT := Lib.hid hlt
        have k1 : (k : Int) < m := by omega
        generalize hr : rs.getD k r80 = r at *
        generalize hs : ss.getD k r80 = s at *
        have HRS := Lib.hid (And.intro hr hs)
        obtain ⟨rA, rn, rc, rb⟩ := r
        obtain ⟨sA, sn, sc, sb⟩ := s
        have v1 := conv_drew i1
        have v2 := conv_drew i2
        have hb1 := i1.b
        have hb2' := i2.b
        simp only [] at p1 p2 v1 v2 hb1 hb2'
        by_cases heq : rb = sb
        · have HEQ := Lib.hid heq
          subst heq
          have HIN : Hid (∀ t, t < k + 1 → (rs.getD t r80).b = (ss.getD t r80).b) := Lib.hid fun t ht => by
            by_cases e : t = k
            · subst e; rw [HRS.out.1, HRS.out.2]
            · exact HALL.out t (by omega)
          have hbb : ((bstr rb).toList != (bstr rb).toList) = false := by simp
          generalize bstr rb = x at *
          clear hall acc hlt hk hc hc2 i1 i2 hne hr hs hb1 hb2' hb hb2
          go_wp2_with fail
          go_quiet (fail)
          go_wp2_with fail
          go_roundw
          case rel => exact ⟨k + 1, HLT.out, by go_num, HIN.out, by have := HACC.out; (repeat' (first | (with_reducible exact Below.refl _ _) | (with_reducible assumption) | (with_reducible refine below_drewN ?_ _) | (with_reducible refine below_new ?_ _) | (with_reducible refine Below.alloc ?_ ?_ _) | (with_reducible refine Below.drew ?_) | (with_reducible refine Below.setCell ?_ ?_ _) | (with_reducible apply below_at; (case k => (with_reducible assumption)); (case hB => omega)) | (with_reducible apply below_on; (with_reducible assumption)) | (go_size; done) | (with_reducible apply size_of)))⟩
          case measure => simp [intOf]; have := HLT.out; omega
        · have hbb := bstr_ne hb1 hb2' heq
          have hbb2 : ((bstr rb).toList != (bstr sb).toList) = true := by simp only [bne, hbb]; rfl
          have HR := Lib.hid (HNE.out heq)
          generalize bstr rb = x at *
          generalize bstr sb = y at *
          clear hall acc hlt hk hc hc2 i1 i2 hne hr hs hb1 hb2' hb hb2 heq
          go_wp2_with fail
          go_quiet (fail)
          go_wp2_with fail
          go_ret
          exact ⟨by rw [decide_eq_false HR.out]; rfl, by have := HACC.out; (repeat' (first | (with_reducible exact Below.refl _ _) | (with_reducible assumption) | (with_reducible refine below_drewN ?_ _) | (with_reducible refine below_new ?_ _) | (with_reducible refine Below.alloc ?_ ?_ _) | (with_reducible refine Below.drew ?_) | (with_reducible refine Below.setCell ?_ ?_ _) | (with_reducible apply below_at; (case k => (with_reducible assumption)); (case hB => omega)) | (with_reducible apply below_on; (with_reducible assumption)) | (go_size; done) | (with_reducible apply size_of)))⟩
      · obtain rfl : k = m := by omega
        have HR := Lib.hid (maps_eq (rs := rs) (ss := ss) (by rw [HL.out.1, HL.out.2]) (fun i hi => hall i (by rw [← HL.out.1]; exact hi)))
        clear hall acc hlt hk
        go_wp2_with fail
        go_ret
        exact ⟨by rw [decide_eq_true HR.out]; rfl, HACC.out⟩
  · have HR : Hid (rs.map R8.b ≠ ss.map R8.b) := Lib.hid (fun e => he (by have := congrArg List.length e; simp at this; omega))
    have hne : ((m : Int) == (m2 : Int)) = false := by
      have : ¬ (m : Int) = m2 := by omega
      simpa using this
    have hne2 : ¬ (m : Int) = m2 := by omega
    have hne3 : ¬ m = m2 := he
    clear h h2 hl hl2 hm hm2 he
    go_enter Try.func20, Try.ntmps20
    go_wp2_with fail
    go_ret
    exact ⟨by rw [decide_eq_false HR.out]; rfl, Below.refl _ _⟩
end Go.Proofs.Ythcpanenjcjgpaa.mkW
