/- MarkerCuts, by a walk. -/
import Derived.Test.YthcpanenjcjgpaaMkL1
import Derived.Test.YthcpanenjcjgpaaMkW9
import Derived.Test.YthcpanenjcjgpaaMkWB
import Derived.Test.YthcpanenjcjgpaaMkSL
import Derived.Laws.Closers25b
namespace Go.Proofs.Ythcpanenjcjgpaa.mkL
open Go.RowKit Go.Proofs.Ythcpanenjcjgpaa.base Go.Proofs.Ythcpanenjcjgpaa.mkP Go.Proofs.Ythcpanenjcjgpaa.mkW
set_option linter.unusedVariables false
set_option linter.unusedSimpArgs false
theorem cutV_le (b : List Int) : (cutV b).length ≤ 50001 := by
  unfold cutV
  split
  · have h1 := plK_len b b.length
    have h2 := ends_len b
    rw [mkP.cuts, cK_len, h2]
    have : (pl b).length ≤ b.length := h1
    omega
  · simp
/-- A cell of bytes that may be written. -/
structure Byt (w0 wr : World) (pb g k : Nat) : Prop where
  lo : w0.heap.size ≤ g
  ne : g ≠ pb
  lt : g < wr.heap.size
  x : ∃ x : Int, 0 ≤ x ∧ x ≤ 255 ∧ wr.cell? ⟨g, k, none⟩ = some (.int .u8 x)
  fr : wr.frozen? ⟨g, k, none⟩ = false
structure Zs (w0 : World) (pb off : Nat) (rs : List R8) (wr : World) : Prop where
  row : ∀ i, i < rs.length → wr.cell? ⟨pb, off + i, none⟩ = some (.slice (rs.getD i r80).A (rs.getD i r80).n (rs.getD i r80).c)
  cap : ∀ i, i < rs.length → (rs.getD i r80).n ≤ 9223372036854775807
  byt : ∀ i, i < rs.length → ∀ k, k < (rs.getD i r80).n → ∃ g, (rs.getD i r80).A = some ⟨g, 0, none⟩ ∧ Byt w0 wr pb g k
theorem Byt.set {w0 wr : World} {pb g k g2 k2 : Nat} {x : Int} (h : Byt w0 wr pb g k) (h0 : 0 ≤ x) (h1 : x ≤ 255) (hc : ∃ v, wr.cell? ⟨g2, k2, none⟩ = some v) : Byt w0 (wr.setCell ⟨g2, k2, none⟩ (.int .u8 x)) pb g k := by
  refine ⟨h.lo, h.ne, by simpa [World.setCell] using h.lt, ?_, by rw [World.frozen?_setCell]; exact h.fr⟩
  by_cases e : (⟨g2, k2, none⟩ : Addr) = ⟨g, k, none⟩
  · obtain ⟨v, hv⟩ := hc
    exact ⟨x, h0, h1, by rw [← e]; exact World.cell?_setCell_same _ _ _ hv⟩
  · obtain ⟨y, y0, y1, hy⟩ := h.x
    exact ⟨y, y0, y1, by rw [World.cell?_setCell_other _ _ _ _ e]; exact hy⟩
theorem Zs.set {w0 wr : World} {pb off g k : Nat} {rs : List R8} {x : Int} (h : Zs w0 pb off rs wr) (h0 : 0 ≤ x) (h1 : x ≤ 255) (hb : Byt w0 wr pb g k) : Zs w0 pb off rs (wr.setCell ⟨g, k, none⟩ (.int .u8 x)) := by
  refine ⟨fun i hi => ?_, h.cap, fun i hi t ht => ?_⟩
  · rw [World.cell?_setCell_other _ _ _ _ (by intro e; injection e with e1 _; exact hb.ne e1)]
    exact h.row i hi
  · obtain ⟨g2, e2, b2⟩ := h.byt i hi t ht
    obtain ⟨y, _, _, hy⟩ := hb.x
    exact ⟨g2, e2, b2.set h0 h1 ⟨_, hy⟩⟩
theorem zs_of {w w9 : World} {B : Nat} {A : Option Addr} {n c : Nat} {rs : List R8} (h : OwnP w9 B (.slice A n c) rs) (hB : w.heap.size ≤ B) : ∃ pb off, (0 < rs.length → A = some ⟨pb, off, none⟩) ∧ Zs w pb off rs w9 := by
  obtain ⟨P, d, e1, hL, hcap, hbl⟩ := h.val
  have hA : A = P := by injection e1
  subst hA
  rcases Nat.eq_zero_or_pos rs.length with h0 | h0
  · exact ⟨0, 0, fun hh => by omega, ⟨fun i hi => by omega, fun i hi => by omega, fun i hi => by omega⟩⟩
  · obtain ⟨pb, off, rfl, hpb, hc⟩ := hL.some h0
    refine ⟨pb, off, fun _ => rfl, ⟨hc, fun i hi => Nat.le_trans (hL.get i hi).c1 (hL.get i hi).c2, fun i hi k hk => ?_⟩⟩
    have hm : rs.getD i r80 ∈ rs := by rw [List.getD_eq_getElem?_getD, List.getElem?_eq_getElem hi]; exact List.getElem_mem hi
    have o := h.own _ hm
    have bd := h.bd _ hm
    obtain ⟨g, e2, g1, g2, o2⟩ := OwnZ.at_head (A := (rs.getD i r80).A) (n := (rs.getD i r80).n) (c := (rs.getD i r80).c) o (by omega)
    have hl : (rs.getD i r80).n = (rs.getD i r80).b.length := (OwnZ.bounds (A := (rs.getD i r80).A) o).1
    refine ⟨g, e2, ⟨by omega, ?_, g2, ?_, o2.frozen k⟩⟩
    · have := ne_blocks h.row o2
      simpa [Value.ownBlock] using this
    · refine ⟨_, ?_, ?_, o2.cell k (by omega)⟩
      · exact (bd _ (by rw [List.getD_eq_getElem?_getD (l := (rs.getD i r80).b), List.getElem?_eq_getElem (by omega)]; exact List.getElem_mem _)).1
      · exact (bd _ (by rw [List.getD_eq_getElem?_getD (l := (rs.getD i r80).b), List.getElem?_eq_getElem (by omega)]; exact List.getElem_mem _)).2
set_option maxRecDepth 100000 in
set_option maxHeartbeats 4000000 in
theorem cuts (A : Option Addr) (n c : Nat) (z : List Int) (w : World) (hr : IsRow .u8 w A n c z) (hT : Tab w) :
    Calls Try.prog 4 #[.slice A n c] w fun e w' => e = .returned (.bool true) ∧ Below w.heap.size w w' := by
  have hi := ib_of hr
  obtain ⟨b, hb⟩ : ∃ b, z.take n = b := ⟨_, rfl⟩
  rw [hb] at hi
  have HH := Lib.hid hi
  have HTT := Lib.hid hT
  have n9 : (n : Int) ≤ 9223372036854775807 := by have h1 : n ≤ c := hi.h.c1; have h2 : c ≤ 9223372036854775807 := hi.h.c2; omega
  have HN9 : Hid (n ≤ 9223372036854775807) := Lib.hid (by omega)
  clear hr hb hT
  by_cases c1 : (3000 : Int) < n ∧ (n : Int) ≤ 50000
  · obtain ⟨k1, k2⟩ := c1
    clear hi
    go_enter Try.func4, Try.ntmps4
    go_wp2_with fail
    go_ret
    exact ⟨rfl, Below.refl _ _⟩
  · have cv := conv8 (c := c) hi.h.h hi.e
    have key : ((3000 : Int) < n ∧ (50000 : Int) < n) ∨ ((n : Int) ≤ 3000 ∧ (n : Int) ≤ 3000) := by omega
    rcases key with ⟨k1, k2⟩ | ⟨k1, k2⟩
    all_goals
      clear hi c1
      go_enter Try.func4, Try.ntmps4
      go_wp2_with fail
      refine (Cut_any b A n c _ HTT.out HH.out).mono ?_
      rintro e w1 ⟨A1, n1, d1, rs, rfl, hrs, hn1, ho1, hb1⟩
      clear cv
      have HRS := Lib.hid (And.intro hrs hn1)
      have HO1 := Lib.hid ho1
      have HB1 := Lib.hid hb1
      clear hrs hn1 ho1 hb1
      obtain ⟨d2, w2, hcv2, ib2, hb2⟩ := conv_b b n HH.out.e HH.out.bd HN9.out w1
      have IB2 := Lib.hid ib2
      have HO2 := Lib.hid (HO1.out.past hb2)
      have HB2 : Hid (Below w.heap.size w w2) := Lib.hid (HB1.out.trans (hb2.mono HB1.out.size))
      clear ib2 hb2
      go_wp2_with fail
      clear hcv2
      refine (rCut b _ n d2 _ IB2.out.h).mono ?_
      rintro e w3 ⟨A3, n3, d3, ss, rfl, hss, hn3, ho3, hb3⟩
      have HSS := Lib.hid (And.intro hss hn3)
      have HO3 := Lib.hid ho3
      have HP3 := Lib.hid (HO2.out.past hb3)
      have HB3 : Hid (Below w.heap.size w w3) := Lib.hid (HB2.out.trans (hb3.mono HB2.out.size))
      clear hss hn3 ho3 hb3
      go_wp2_with fail
      refine (Partial_any b A n c _ (HH.out.below HB3.out).h).mono ?_
      rintro e w4 ⟨rfl, hb4⟩
      have HO4 := Lib.hid (HO3.out.past hb4)
      have HP4 := Lib.hid (HP3.out.past hb4)
      have HB4 : Hid (Below w.heap.size w w4) := Lib.hid (HB3.out.trans (hb4.mono HB3.out.size))
      clear hb4
      obtain ⟨d5, w5, hcv5, ib5, hb5⟩ := conv_b b n HH.out.e HH.out.bd HN9.out w4
      have IB5 := Lib.hid ib5
      have HO5 := Lib.hid (HO4.out.past hb5)
      have HP5 := Lib.hid (HP4.out.past hb5)
      have HB5 : Hid (Below w.heap.size w w5) := Lib.hid (HB4.out.trans (hb5.mono HB4.out.size))
      clear ib5 hb5
      go_wp2_with fail
      clear hcv5
      refine (rPartial b _ n d5 _ IB5.out.h).mono ?_
      rintro e w6 ⟨rfl, hb6⟩
      have HO6 := Lib.hid (HO5.out.past hb6)
      have HP6 := Lib.hid (HP5.out.past hb6)
      have HB6 : Hid (Below w.heap.size w w6) := Lib.hid (HB5.out.trans (hb6.mono HB5.out.size))
      clear hb6
      have hlen : rs.length ≤ 9223372036854775807 ∧ ss.length ≤ 9223372036854775807 := by
        have h1 : rs.length = (cutV b).length := by rw [← HRS.out.1, List.length_map]
        have h2 : ss.length = (cutV b).length := by rw [← HSS.out.1, List.length_map]
        have h3 : (cutV b).length ≤ 50001 := cutV_le b
        omega
      have HLEN := Lib.hid hlen
      have n19 : (n1 : Int) ≤ 9223372036854775807 := by have := HRS.out.2; omega
      clear hlen
      go_wp2_with fail
      obtain ⟨P, dp, ep, hLp, -, -⟩ := HP6.out.val
      obtain ⟨Q, dq, eq, hLq, -, -⟩ := HO6.out.val
      have e1 : A1 = P := by injection ep
      have e2 : A3 = Q := by injection eq
      refine (sameL_any rs ss A1 A3 n1 d1 n3 d3 _ (by rw [e1]; exact hLp) HRS.out.2.symm (by rw [HRS.out.2]; exact HLEN.out.1) (by rw [e2]; exact hLq) HSS.out.2.symm (by rw [HSS.out.2]; exact HLEN.out.2)).mono ?_
      rintro e w7 ⟨rfl, hb7⟩
      rw [decide_eq_true (by rw [HRS.out.1, HSS.out.1])]
      have HB7 : Hid (Below w.heap.size w w7) := Lib.hid (HB6.out.trans (hb7.mono HB6.out.size))
      obtain ⟨pb, off, hA, hZ⟩ := zs_of (w := w) (HP6.out.past hb7) (Nat.le_refl _)
      have HA := Lib.hid hA
      have HZ := Lib.hid hZ
      clear hb7 hLp hLq e1 e2 ep eq hA hZ
      go_wp2_with fail
      go_loopw [12] (fun i wr => ∃ k : Nat, k ≤ n1 ∧ i = .int .i64 k ∧ Below w.heap.size w wr ∧ Zs w pb off rs wr) (fun i _ => n1 - (intOf i).toNat)
      case atStart => exact ⟨0, Nat.zero_le _, rfl, HB7.out, HZ.out⟩
      case round =>
        obtain ⟨k, hk, rfl, acc, Z⟩ := hrel
        have HACC := Lib.hid acc
        have HZ := Lib.hid Z
        by_cases hlt : k < n1
        · have hkr : k < rs.length := by rw [← HRS.out.2]; exact hlt
          obtain rfl := HA.out (by omega)
          have HKR := Lib.hid hkr
          have HLT := Lib.hid hlt
          have k1' : (k : Int) < n1 := by omega
          have p1 := Z.row k hkr
          have hcap := Z.cap k hkr
          have HBY := Lib.hid (fun (wr : World) (Z : Zs w pb off rs wr) => Z.byt k hkr)
          have HROW := Lib.hid (fun (wr : World) (Z : Zs w pb off rs wr) => Z.row k hkr)
          generalize rs.getD k r80 = r at *
          obtain ⟨rA, rn, rc, rb⟩ := r
          simp only [] at p1 hcap
          have r9 : (rn : Int) ≤ 9223372036854775807 := by omega
          clear hk acc Z hlt hkr hcap p1
          go_wp2_with fail
          go_loopw [13] (fun j wr => ∃ t : Nat, t ≤ rn ∧ j = .int .i64 t ∧ Below w.heap.size w wr ∧ Zs w pb off rs wr) (fun j _ => rn - (intOf j).toNat)
          case atStart => exact ⟨0, Nat.zero_le _, rfl, HACC.out, HZ.out⟩
          case round =>
            clear HACC HZ
            obtain ⟨t, ht, rfl, acc, Z⟩ := hrel
            have HACC := Lib.hid acc
            have HZ := Lib.hid Z
            have p1 := HROW.out _ Z
            by_cases htl : t < rn
            · obtain ⟨g, hg, by_⟩ := HBY.out _ Z t htl
              obtain rfl : rA = some ⟨g, 0, none⟩ := hg
              obtain ⟨x, x0, x1, hx⟩ := by_.x
              have hfr := by_.fr
              have HBT := Lib.hid by_
              have HTL := Lib.hid htl
              have t1 : (t : Int) < rn := by omega
              have t0 : t < rn := htl
              clear ht acc Z htl by_
              go_wp2_with fail
              have hbw := bits_within BinOp.xor IntKind.u8 x 255
              have hb0 : 0 ≤ bits BinOp.xor IntKind.u8 x 255 := hbw.1
              have hb1 : bits BinOp.xor IntKind.u8 x 255 ≤ 255 := hbw.2
              refine ⟨⟨t + 1, HTL.out, by go_num, ?_, HZ.out.set hb0 hb1 HBT.out⟩, by simp [intOf]; have := HTL.out; omega⟩
              have := HACC.out
              have := HBT.out.lo
              exact Below.setCell ‹_› (by omega) _
            · obtain rfl : t = rn := by omega
              have t1 : ¬ (t : Int) < t := by omega
              clear ht acc Z htl
              go_wp2_with fail
              go_roundw
              case rel => exact ⟨k + 1, HLT.out, by go_num, HACC.out, HZ.out⟩
              case measure => simp [intOf]; have := HLT.out; omega
        · have k1' : ¬ (k : Int) < n1 := by omega
          have cv := conv8 (c := c) (HH.out.below HACC.out).h.h HH.out.e
          clear hk acc Z hlt
          go_wp2_with fail
          go_ret
          exact ⟨rfl, HACC.out⟩
end Go.Proofs.Ythcpanenjcjgpaa.mkL
