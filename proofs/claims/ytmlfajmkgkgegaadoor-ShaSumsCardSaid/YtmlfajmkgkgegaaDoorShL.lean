/- The examples, by walks. -/
import Derived.Test.YtmlfajmkgkgegaaDoorShWF
import Derived.Laws.IdiomStrings
import Derived.Lib.SmallJoins
namespace Go.Proofs.YtmlfajmkgkgegaaDoor.shL
open Go.RowKit Go.Proofs.YtmlfajmkgkgegaaDoor.base Go.Proofs.YtmlfajmkgkgegaaDoor.shP Go.Proofs.YtmlfajmkgkgegaaDoor.shW
set_option linter.unusedVariables false
set_option linter.unusedSimpArgs false
/-- A string's bytes as numbers. -/
def bl (s : ByteArray) : List Int := s.data.toList.map fun b => (b.toNat : Int)
theorem bl_len (s : ByteArray) : (bl s).length = s.size := by simp [bl]
theorem bl_bd (s : ByteArray) : ∀ z ∈ bl s, 0 ≤ z ∧ z ≤ 255 := by
  intro z hz
  obtain ⟨b, _, rfl⟩ := List.mem_map.1 hz
  have := b.toNat_lt
  omega
def brow (s : ByteArray) (c : Nat) : Array Value := bytesRow s c
theorem has_brow (w : World) (s : ByteArray) (c : Nat) (e : TypeId) (fr : Nat × Nat) {g : Nat} (hg : w.heap.size = g) : Has .u8 (w.alloc (.cells (brow s c) e fr)) (some ⟨g, 0, none⟩) (bl s) := by
  refine .inr ⟨g, 0, rfl, by rw [← hg]; simp, fun i hi => ?_⟩
  rw [Joins.cell_alloc_mark_at w _ e fr g _ hg.symm, Nat.zero_add]
  have h1 : i < s.data.toList.length := by simpa [bl] using hi
  have h2 : i < s.data.size := by simpa using h1
  unfold brow bytesRow bl
  rw [Array.getElem?_append_left (by simpa using h2), Array.getElem?_map, Array.getElem?_eq_getElem h2, List.getD_eq_getElem?_getD, List.getElem?_map, List.getElem?_eq_getElem h1]
  simp
theorem has_drew1 {k : IntKind} {w : World} {A : Option Addr} {zs : List Int} (h : Has k w A zs) : Has k w.drew A zs := h
theorem conv_s (s : ByteArray) (w : World) : ∃ c, s.size ≤ c ∧ (convert 9 29 (.string s)).run Tryd.prog w = .ok (.slice (some ⟨w.heap.size, 0, none⟩) s.size c) (w.drew.alloc (.cells (brow s c) 5 ((brow s c).size, (brow s c).size + 1))) :=
  ⟨_, grownCap_ge _ _ _ _, run_bytes_of_string w 9 29 5 s Tryd.underlying9 Tryd.underlying29 Tryd.underlying5⟩
attribute [irreducible] brow
theorem d20 {w : World} {g : Nat} {l : List Int} (h : w.heap[g]? = some (.cells (darr l) 25 (0, 0))) (i : Nat) (hi : i < l.length) : w.cell? ⟨g, i, none⟩ = some (.int .u8 (l.getD i 0)) := by
  have e : Lies w g 25 (l.map (Value.int .u8)) := h
  rw [e.cell, List.getElem?_map, List.getD_eq_getElem?_getD, List.getElem?_eq_getElem hi]
  rfl
theorem digest_len (b : List Int) : (digest b).length = 20 := rfl
set_option maxRecDepth 100000 in
set_option maxHeartbeats 4000000 in
theorem is_yes (s : ByteArray) (b : List Int) (p q r t l : Int) (w : World) (hT : Tab w) (hb : bl s = b) (hl : b.length ≤ 20000) (hp : (digest b).getD 0 0 = p) (hq : (digest b).getD 1 0 = q) (hr : (digest b).getD 2 0 = r) (ht : (digest b).getD 3 0 = t) (hl2 : (digest b).getD 19 0 = l) :
    Calls Tryd.prog 8 #[.string s, .agg #[.int .u8 p, .int .u8 q, .int .u8 r, .int .u8 t], .int .u8 l] w fun e w' => e = .returned (.bool true) ∧ Below w.heap.size w w' := by
  have HTB := Lib.hid hT
  have HB := Lib.hid hb
  have HL : Hid (s.size ≤ 20000) := Lib.hid (by rw [← bl_len, hb]; exact hl)
  have HD := Lib.hid (And.intro hp (And.intro hq (And.intro hr (And.intro ht hl2))))
  have HV : Hid (sumE b = 0 ∧ sumV b = digest b) := Lib.hid ⟨by rw [sumE, if_pos hl], by rw [sumV, if_pos hl]⟩
  have HP : Hid (∀ v ∈ (darr (digest b)).toList, v.oneCell' = true) := Lib.hid (by obtain ⟨v, hv⟩ := dg_form b; rw [hv]; exact done1 v)
  have HSZ : Hid ((darr (digest b)).size = 20) := Lib.hid (by obtain ⟨v, hv⟩ := dg_form b; rw [hv]; rfl)
  have HIN : Hid ((Tryd.prog.info? 25).map (·.size) = some (darr (digest b)).size) := Lib.hid (by obtain ⟨v, hv⟩ := dg_form b; rw [hv]; exact info20 v)
  clear hT hb hl hp hq hr ht hl2
  go_enter Tryd.func8, Tryd.ntmps8
  obtain ⟨c, hc, hcv⟩ := conv_s s (w.alloc (.cells #[.int .u8 p, .int .u8 q, .int .u8 r, .int .u8 t] 23))
  have HC := Lib.hid hc
  clear hc
  go_wp2_with fail
  refine (Sum_any b _ s.size c _ (HTB.out.below (by (repeat' (first | (with_reducible exact Below.refl _ _) | (with_reducible assumption) | (with_reducible refine below_drewN ?_ _) | (with_reducible refine below_new ?_ _) | (with_reducible refine Below.alloc ?_ ?_ _) | (with_reducible refine Below.drew ?_) | (with_reducible refine Below.setCell ?_ ?_ _) | (with_reducible apply below_at; (case k => (with_reducible assumption)); (case hB => omega)) | (with_reducible apply below_on; (with_reducible assumption)) | (go_size; done) | (with_reducible apply size_of)))) (Nat.le_refl _)) (by rw [← HB.out]; exact has_drew1 (has_brow _ s c _ _ (by simp))) (by rw [← HB.out, bl_len]) HC.out (by have := HL.out; omega) (by rw [← HB.out]; exact bl_bd s)).mono ?_
  rintro e w2 ⟨rfl, hb2⟩
  rw [HV.out.1, HV.out.2]
  have HB2 : Hid (Below w.heap.size w w2) := Lib.hid (by (repeat' (first | (with_reducible exact Below.refl _ _) | (with_reducible assumption) | (with_reducible refine below_drewN ?_ _) | (with_reducible refine below_new ?_ _) | (with_reducible refine Below.alloc ?_ ?_ _) | (with_reducible refine Below.drew ?_) | (with_reducible refine Below.setCell ?_ ?_ _) | (with_reducible apply below_at; (case k => (with_reducible assumption)); (case hB => omega)) | (with_reducible apply below_on; (with_reducible assumption)) | (go_size; done) | (with_reducible apply size_of))))
  have K2 : Lies w2 w.heap.size 23 [.int .u8 p, .int .u8 q, .int .u8 r, .int .u8 t] := by (repeat' (first | (with_reducible assumption) | (with_reducible exact Lies.fresh _ _ _) | (with_reducible apply Lies.fresh_at; (first | (with_reducible rfl) | (simp; done))) | (with_reducible refine Lies.drew ?_) | (with_reducible refine Lies.drewN ?_ _) | (with_reducible refine Lies.alloc ?_ _) | (with_reducible apply Lies.past; case hb => (with_reducible assumption)) | (with_reducible apply Lies.keeps; (case k => (with_reducible assumption)); (case ht => decide)) | (with_reducible apply Lies.store3) | (with_reducible apply Lies.other; case hp => (first | omega | (simp; done) | (simp; omega)))))
  have HK2 := Lib.hid K2
  have HZ2 := Lib.hid (z20_new w2 rfl)
  clear hcv hb2 K2
  go_wp2_with (show wpList _ _ _ ({ dst := none, op := Op.store 25 _ _, type := _, pos := _, after := _, guard := none } :: _) _ _; go_must (refine wpList_store_arr (P := Tryd.prog) rfl 25 (.tmp 7) (.tmp 13) rfl w2.heap.size ?c4 (darr (digest b)) ?c0 25 _ HZ2.out HSZ.out.symm HP.out HIN.out ?_); (case c4 => rfl); (case c0 => rfl); intro w3 hR3 hb3 hz3; have g0 := d20 hR3 0 (by rw [digest_len]; omega); have g1 := d20 hR3 1 (by rw [digest_len]; omega); have g2 := d20 hR3 2 (by rw [digest_len]; omega); have g3 := d20 hR3 3 (by rw [digest_len]; omega); have g19 := d20 hR3 19 (by rw [digest_len]; omega); rw [HD.out.1] at g0; rw [HD.out.2.1] at g1; rw [HD.out.2.2.1] at g2; rw [HD.out.2.2.2.1] at g3; rw [HD.out.2.2.2.2] at g19; have K3 := (HK2.out.alloc (.cells #[.int .u8 0, .int .u8 0, .int .u8 0, .int .u8 0, .int .u8 0, .int .u8 0, .int .u8 0, .int .u8 0, .int .u8 0, .int .u8 0, .int .u8 0, .int .u8 0, .int .u8 0, .int .u8 0, .int .u8 0, .int .u8 0, .int .u8 0, .int .u8 0, .int .u8 0, .int .u8 0] 25)).below hb3 HK2.out.lt; have k0 := K3.cell 0; have k1 := K3.cell 1; have k2 := K3.cell 2; have k3 := K3.cell 3; simp only [List.getElem?_cons_zero, List.getElem?_cons_succ] at k0 k1 k2 k3; have lt3 := K3.lt; have lt2 := lt_of_block hR3; have HB3 := Lib.hid hb3; clear hR3 hb3 hz3 K3)
  go_ret
  refine ⟨rfl, ?_⟩
  have h2 := HB2.out
  exact (h2.alloc h2.size _).trans (HB3.out.mono h2.size)
end Go.Proofs.YtmlfajmkgkgegaaDoor.shL
