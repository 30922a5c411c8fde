/- Pieces, by walks. -/
import Derived.Test.YtmlfajmkgkgegaaDoorShWC
import Derived.Test.YtmlfajmkgkgegaaDoorRows8
import Derived.Test.YtmlfajmkgkgegaaDoorFar
namespace Go.Proofs.YtmlfajmkgkgegaaDoor.shW
open Go.RowKit Go.Proofs.YtmlfajmkgkgegaaDoor.base Go.Proofs.YtmlfajmkgkgegaaDoor.shP
set_option linter.unusedVariables false
set_option linter.unusedSimpArgs false
/-- The first k strings, one behind the other. -/
def wholeK (rs : List R8) (k : Nat) : List Int := ((rs.take k).map R8.b).flatten
def wholeL (rs : List R8) : List Int := (rs.map R8.b).flatten
theorem wholeK_0 (rs : List R8) : wholeK rs 0 = [] := rfl
theorem wholeK_all (rs : List R8) (k : Nat) (h : rs.length ≤ k) : wholeK rs k = wholeL rs := by rw [wholeK, List.take_of_length_le h]; rfl
theorem wholeK_snoc (rs : List R8) (k : Nat) (h : k < rs.length) : wholeK rs (k + 1) = wholeK rs k ++ (rs.getD k r80).b := by
  rw [wholeK, take_snoc r80 rs k h, List.map_append, List.flatten_append]; simp [wholeK]
theorem wholeK_le (rs : List R8) (k : Nat) : (wholeK rs k).length ≤ (wholeL rs).length := by
  have : wholeL rs = wholeK rs k ++ ((rs.drop k).map R8.b).flatten := by
    rw [wholeK, wholeL, ← List.flatten_append, ← List.map_append, List.take_append_drop]
  rw [this, List.length_append]; omega
theorem whole_bd {w : World} {P : Option Addr} {rs : List R8} (h : HasL w P rs) (k : Nat) : ∀ z ∈ wholeK rs k, 0 ≤ z ∧ z ≤ 255 := by
  intro z hz
  rw [wholeK, List.mem_flatten] at hz
  obtain ⟨l, hl, hz⟩ := hz
  obtain ⟨r, hr, rfl⟩ := List.mem_map.1 hl
  exact (h.all r (List.mem_of_mem_take hr)).b z hz
set_option maxHeartbeats 4000000 in
theorem rWhole (rs : List R8) (P : Option Addr) (m d : Nat) (w : World) (h : HasL w P rs) (hl : rs.length = m) (hm : m ≤ 9223372036854775807) (ht : (wholeL rs).length ≤ 2000000) :
    Calls Tryd.prog 15 #[.slice P m d] w fun e w' => ∃ A n c, e = .returned (.slice A n c) ∧ n = (wholeL rs).length ∧ OwnZ w' w.heap.size (.slice A n c) (wholeL rs) ∧ Below w.heap.size w w' := by
  have n9 : (m : Int) ≤ 9223372036854775807 := by omega
  have H := Lib.hid h
  have HL := Lib.hid hl
  have HT := Lib.hid ht
  clear h hl hm ht
  go_enter Tryd.func15, Tryd.ntmps15
  go_wp2_with fail
  go_loopw [3, 4] (fun v i wr => ∃ (k n : Nat) (A : Option Addr) (c : Nat), k ≤ m ∧ i = .int .i64 k ∧ v = .slice A n c ∧ n = (wholeK rs k).length ∧ OwnZ wr w.heap.size (.slice A n c) (wholeK rs k) ∧ Below w.heap.size w wr) (fun _ i _ => m - (intOf i).toNat)
  case atStart => exact ⟨0, 0, none, 0, Nat.zero_le _, rfl, rfl, rfl, .inr ⟨rfl, _, rfl⟩, by (repeat' (first | (with_reducible exact Below.refl _ _) | (with_reducible assumption) | (with_reducible refine below_drewN ?_ _) | (with_reducible refine below_new ?_ _) | (with_reducible refine Below.alloc ?_ ?_ _) | (with_reducible refine Below.drew ?_) | (with_reducible refine Below.setCell ?_ ?_ _) | (with_reducible apply below_at; (case k => (with_reducible assumption)); (case hB => omega)) | (with_reducible apply below_on; (with_reducible assumption)) | (go_size; done) | (with_reducible apply size_of)))⟩
  case round =>
    obtain ⟨k, n, A, c, hk, rfl, rfl, hn, own, acc⟩ := hrel
    have HN := Lib.hid hn
    have HO := Lib.hid own
    have HACC := Lib.hid acc
    by_cases hlt : k < m
    · obtain ⟨b, off, rfl, hb, hc⟩ := H.out.some (by rw [HL.out]; omega)
      have hcell := hc k (by rw [HL.out]; exact hlt)
      rw [← acc.cell (p := ⟨b, off + k, none⟩) hb] at hcell
      have hin := H.out.get k (by rw [HL.out]; exact hlt)
      have HS := Lib.hid (wholeK_snoc rs k (by rw [HL.out]; exact hlt))
      have HLE := Lib.hid (wholeK_le rs (k + 1))
      have HTOT : Hid (n + (rs.getD k r80).n ≤ 2000000) := Lib.hid (by
        have e2 := congrArg List.length HS.out
        rw [List.length_append, hin.e] at e2
        have := HLE.out; have := HT.out; omega)
      have HLT := Lib.hid hlt
      have k1 : (k : Int) < m := by omega
      generalize rs.getD k r80 = r at *
      obtain ⟨rA, rn, rc, rb⟩ := r
      have HIN := Lib.hid hin
      simp only [] at *
      clear own acc hk hlt hn hin hc
      go_wp2_with (at_builtin; go_loud (refine app8z rfl _ _ rfl w.heap.size _ (wholeK rs k) rfl HO.out rA rn rc rb rfl HIN.out.e (HIN.out.h.below HACC.out (Nat.le_refl _)) (n + rn) ?c0 ?c1 ?c2 ?_; (case c0 => (rw [HN.out])); (case c1 => (exact Nat.le_trans HTOT.out (by omega))); (case c2 => exact HACC.out.size); intro A4 c4 w4 ho4 hk4 hb4; have HO4 := Lib.hid ho4; have HB4 := Lib.hid hb4; clear ho4 hk4 hb4))
      refine ⟨⟨k + 1, n + rn, A4, c4, HLT.out, by go_num, rfl, by rw [HS.out, List.length_append, ← HN.out]; exact congrArg (n + ·) HIN.out.e.symm, by rw [HS.out]; exact HO4.out, ?_⟩, by simp [intOf]; have := HLT.out; omega⟩
      have := HACC.out
      have := HB4.out
      (repeat' (first | (with_reducible exact Below.refl _ _) | (with_reducible assumption) | (with_reducible refine below_drewN ?_ _) | (with_reducible refine below_new ?_ _) | (with_reducible refine Below.alloc ?_ ?_ _) | (with_reducible refine Below.drew ?_) | (with_reducible refine Below.setCell ?_ ?_ _) | (with_reducible apply below_at; (case k => (with_reducible assumption)); (case hB => omega)) | (with_reducible apply below_on; (with_reducible assumption)) | (go_size; done) | (with_reducible apply size_of)))
    · have HK : Hid (wholeK rs k = wholeL rs) := Lib.hid (wholeK_all rs k (by rw [HL.out]; omega))
      have k2 : ¬ (k : Int) < m := by omega
      clear own acc hk hlt hn
      go_wp2_with fail
      go_ret
      exact ⟨A, n, c, rfl, by rw [HN.out, HK.out], by rw [← HK.out]; exact HO.out, HACC.out⟩
end Go.Proofs.YtmlfajmkgkgegaaDoor.shW
