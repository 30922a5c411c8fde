/- Markers: next of the program, by a walk over bytes.Index's contract. -/
import Derived.Test.YthcpanenjcjgpaaMkW4
import Derived.Test.YthcpanenjcjgpaaMkShelf
namespace Go.Proofs.Ythcpanenjcjgpaa.mkW
open Go.RowKit Go.Proofs.Ythcpanenjcjgpaa.base Go.Proofs.Ythcpanenjcjgpaa.mkP
set_option linter.unusedVariables false
set_option linter.unusedSimpArgs false
/-- internal/bytealg.MaxLen's cell holds some int. -/
def Tab (w : World) : Prop := ∃ m : Int, w.cell? ⟨0, 0, none⟩ = some (.int .i64 m)
theorem Tab.below {w w' : World} (h : Tab w) (hb : Below w.heap.size w w') : Tab w' := by
  obtain ⟨m, hm⟩ := h
  exact ⟨m, by rw [hb.cell (p := ⟨0, 0, none⟩) (lt_of_cell hm)]; exact hm⟩
theorem Tab.at_ {w w' : World} {B : Nat} (h : Tab w) (hb : Below B w w') (hB : w.heap.size ≤ B) : Tab w' := h.below (hb.mono hB)
/-- A slice of bytes: nil has no room. -/
structure Ib (w : World) (A : Option Addr) (n c : Nat) (b : List Int) : Prop where
  h : InR w ⟨A, n, c, b⟩
  z : A = none → c = 0
theorem Ib.below {w w' : World} {A : Option Addr} {n c : Nat} {b : List Int} (h : Ib w A n c b) (hb : Below w.heap.size w w') : Ib w' A n c b := ⟨h.h.below hb (Nat.le_refl _), h.z⟩
theorem Ib.at_ {w w' : World} {B : Nat} {A : Option Addr} {n c : Nat} {b : List Int} (h : Ib w A n c b) (hb : Below B w w') (hB : w.heap.size ≤ B) : Ib w' A n c b := h.below (hb.mono hB)
theorem Ib.e {w : World} {A : Option Addr} {n c : Nat} {b : List Int} (h : Ib w A n c b) : b.length = n := h.h.e
theorem Ib.bd {w : World} {A : Option Addr} {n c : Nat} {b : List Int} (h : Ib w A n c b) : ∀ z ∈ b, 0 ≤ z ∧ z ≤ 255 := h.h.b
/-- 'b[q:]' as the walk spells it. -/
theorem cut_at {w : World} {b : List Int} {ad : Addr} {n c q : Nat} (h : InR w ⟨some ad, n, c, b⟩) (hq : q ≤ n) :
    ∃ a1, (if c = q then some ad else some (ad.add q)) = some a1 ∧ ∀ i, i < n - q → w.cell? (a1.add i) = some (.int .u8 ((b.drop q).getD i 0)) := by
  have hc : n ≤ c := h.c1
  have e : b.length = n := h.e
  by_cases c1 : c = q
  · exact ⟨ad, by rw [if_pos c1], fun i hi => by omega⟩
  · refine ⟨ad.add q, by rw [if_neg c1], fun i hi => ?_⟩
    obtain ⟨bb, off, hA, hlt, hcell⟩ := has_some h.h (by show 0 < b.length; omega)
    have hA' : ad = ⟨bb, off, none⟩ := by injection hA
    subst hA'
    rw [addr_add, addr_add, getD_drop, Nat.add_assoc]
    exact hcell (q + i) (by show q + i < b.length; omega)
theorem nx_index {b : List Int} (hb : ∀ z ∈ b, 0 ≤ z ∧ z ≤ 255) {q : Nat} (hq : q ≤ b.length) :
    (nx b q < b.length ∧ Lib.index (Lib.bytesOf (b.drop q)) (Lib.bytesOf mk) = ((nx b q - q : Nat) : Int)) ∨ (nx b q = b.length ∧ Lib.index (Lib.bytesOf (b.drop q)) (Lib.bytesOf mk) = -1) := by
  rw [index_nxt fun z hz => hb z (List.mem_of_mem_drop hz)]
  have h1 := nx_le b q hq
  unfold nx at *
  rw [List.length_drop]
  by_cases c : nxt (b.drop q) < b.length - q
  · exact .inl ⟨by omega, by rw [if_pos c]; congr 1; omega⟩
  · exact .inr ⟨by omega, by rw [if_neg c]⟩
theorem mk_cells (w : World) (i : Nat) (hi : i < 13) (g : Nat) (hg : w.heap.size = g) : (w.alloc (.cells (mk.map (Value.int .u8)).toArray 5 (13, 14))).cell? ((⟨g, 0, none⟩ : Addr).add i) = some (.int .u8 (mk.getD i 0)) := by
  rw [addr_add, Nat.zero_add, Joins.cell_alloc_mark_at w _ _ _ g _ hg.symm]
  have hl : i < mk.length := hi
  simp [List.getD_eq_getElem?_getD, List.getElem?_eq_getElem hl]
theorem lt_cell {w : World} {a : Addr} {v : Value} (h : w.cell? a = some v) : a.block < w.heap.size := by
  obtain ⟨bl, off, sp⟩ := a
  have := World.cell?_spot h
  simp only at this
  subst this
  exact lt_of_cell h
theorem mk_256 : ∀ z ∈ mk, 0 ≤ z ∧ z < 256 := by decide
set_option maxHeartbeats 1000000 in
theorem next_any (b : List Int) (A : Option Addr) (n c q : Nat) (w : World) (hT : Tab w) (h : Ib w A n c b) (hq : q ≤ n) (hl : n ≤ 50000) :
    Calls Try.prog 27 #[.slice A n c, .int .i64 (q : Int)] w fun e w' => e = .returned (.int .i64 (nx b q : Nat)) ∧ Below w.heap.size w w' := by
  have kc := fun (w : World) (C : Array Value) (n c g : Nat) (hg : g = w.heap.size) => Joins.run_convert_bytes_const_at (P := Try.prog) w 22 5 C n c g hg Try.underlying22 Try.underlying5
  obtain ⟨m, hm⟩ := hT
  have hm0 := lt_of_cell hm
  have hm1 : (w.alloc (.cells (mk.map (Value.int .u8)).toArray 5 (13, 14))).cell? ⟨0, 0, none⟩ = some (.int .i64 m) := by rw [((Below.refl w.heap.size w).alloc (Nat.le_refl _) _).cell (p := ⟨0, 0, none⟩) hm0]; exact hm
  have HM := Lib.hid hm1
  have HI := Lib.hid (nx_index h.bd (q := q) (by rw [h.e]; exact hq))
  have HN := Lib.hid h.e
  have HLE := Lib.hid (nx_le b q (by rw [h.e]; exact hq))
  have n9 : (n : Int) ≤ 50000 := by omega
  have c9 : (c : Int) ≤ 9223372036854775807 := by have := h.h.c2; show ((c : Nat) : Int) ≤ _; have h2 : c ≤ 9223372036854775807 := this; omega
  have cn : n ≤ c := h.h.c1
  rcases A with _ | ad
  · have h0 := h.z rfl
    subst h0
    obtain rfl : n = 0 := by omega
    obtain rfl : q = 0 := by omega
    have HV : Hid (nx b 0 = 0) := Lib.hid (by have := HLE.out; rw [HN.out] at this; omega)
    clear h hq hl cn hm hm0 hm1 n9 c9
    go_enter Try.func27, Try.ntmps27
    go_wp2_with fail
    refine (mkS.bytes_Index_nil _ 13 13 _ (by omega) (fun hh => by omega)).mono ?_
    rintro e w1 ⟨rfl, rfl⟩
    rw [if_neg (by omega)]
    go_wp2_with fail
    go_ret
    exact ⟨by rw [HV.out]; rfl, by (repeat' (first | (with_reducible exact Below.refl _ _) | (with_reducible assumption) | (with_reducible refine below_drewN ?_ _) | (with_reducible refine below_new ?_ _) | (with_reducible refine Below.alloc ?_ ?_ _) | (with_reducible refine Below.drew ?_) | (with_reducible refine Below.setCell ?_ ?_ _) | (with_reducible apply below_at; (case k => (with_reducible assumption)); (case hB => omega)) | (with_reducible apply below_on; (with_reducible assumption)) | (go_size; done) | (with_reducible apply size_of)))⟩
  · obtain ⟨a1, hif, hcell⟩ := cut_at h.h hq
    have HC : Hid (∀ i, i < n - q → (w.alloc (.cells (mk.map (Value.int .u8)).toArray 5 (13, 14))).cell? (a1.add i) = some (.int .u8 ((b.drop q).getD i 0))) := Lib.hid (fun i hi => by
      have h1 := hcell i hi
      have h2 : (a1.add i).block < w.heap.size := lt_cell h1
      rw [((Below.refl w.heap.size w).alloc (Nat.le_refl _) _).cell h2]; exact h1)
    have HB : Hid (∀ x ∈ b.drop q, 0 ≤ x ∧ x < 256) := Lib.hid (fun x hx => by have := h.bd x (List.mem_of_mem_drop hx); omega)
    have HX : Hid (q ≤ n ∧ n ≤ c ∧ n ≤ 50000) := Lib.hid ⟨hq, cn, hl⟩
    have q1 : (q : Int) ≤ n := by omega
    clear h hq hl cn hm hm0 hm1 hcell
    go_enter Try.func27, Try.ntmps27
    go_wp2_with fail
    clear hif
    refine (mkS.bytes_Index_at a1 ⟨w.heap.size, 0, none⟩ (n - q) (c - q) 13 13 (b.drop q) mk m _ (by rw [List.length_drop, HN.out]) rfl HB.out mk_256 HC.out (fun i hi => mk_cells w i hi _ rfl) (by have := HX.out; omega) (by have := HX.out; omega) (by omega) HM.out).mono ?_
    rintro e w1 ⟨rfl, q1, rfl⟩
    have hbel : Below w.heap.size w ((w.alloc (.cells (mk.map (Value.int .u8)).toArray 5 (13, 14))).drewN q1) := below_drewN ((Below.refl _ _).alloc (Nat.le_refl _) _) q1
    have HBEL := Lib.hid hbel
    clear hbel
    rcases HI.out with ⟨i1, i2⟩ | ⟨i1, i2⟩
    · have HR := Lib.hid i1
      obtain ⟨t, ht⟩ : ∃ t, nx b q - q = t := ⟨_, rfl⟩
      have HV : Hid (q + t = nx b q ∧ q + t < n) := Lib.hid (by have := HLE.out; have := HN.out; omega)
      have t1 : ¬ (t : Int) < 0 := by omega
      have t2 : (q : Int) + t ≤ 50000 := by have := HV.out; have := HX.out; omega
      have t3 : 0 ≤ (q : Int) + t := by omega
      rw [i2, ht]
      clear i1 i2 ht
      go_wp2_with fail
      go_ret
      exact ⟨by rw [← HV.out.1, Int.natCast_add]; rfl, HBEL.out⟩
    · have HV : Hid (nx b q = n) := Lib.hid (by rw [i1, HN.out])
      rw [i2]
      clear i1 i2
      go_wp2_with fail
      go_ret
      exact ⟨by rw [HV.out]; rfl, HBEL.out⟩
end Go.Proofs.Ythcpanenjcjgpaa.mkW
