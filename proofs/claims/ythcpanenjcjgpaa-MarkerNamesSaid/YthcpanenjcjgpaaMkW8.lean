/- Markers: Cut of the program, by a walk. -/
import Derived.Test.YthcpanenjcjgpaaMkW7
import Derived.Test.YthcpanenjcjgpaaMkPlain3
import Derived.Test.YthcpanenjcjgpaaRowsP
namespace Go.Proofs.Ythcpanenjcjgpaa.mkW
open Go.RowKit Go.Proofs.Ythcpanenjcjgpaa.base Go.Proofs.Ythcpanenjcjgpaa.mkP
set_option linter.unusedVariables false
set_option linter.unusedSimpArgs false
def cutV (b : List Int) : List (List Int) := if b.length ≤ 50000 then cuts b else []
/-- The places that All gives, and the end, in a row of the call's own: cell k. -/
theorem ends_cell {w wr : World} {B : Nat} {A : Option Addr} {n c : Nat} {b : List Int} (h : OwnI w B 3 .i64 (.slice A n c) (ends b)) (hb : Below w.heap.size w wr) {k : Nat} (hk : k < (ends b).length) :
    ∃ g, A = some ⟨g, 0, none⟩ ∧ wr.cell? ⟨g, k, none⟩ = some (.int .i64 (toK b k : Nat)) ∧ g < w.heap.size := by
  obtain ⟨g, rfl, h1, h2, h3⟩ := h.form (by intro e; rw [e] at hk; simp at hk)
  refine ⟨g, rfl, ?_, h2⟩
  rw [hb.cell (p := ⟨g, k, none⟩) h2, h.cell k hk, toK_cast hk]
theorem cut_has {w : World} {b : List Int} {A : Option Addr} {n c f t : Nat} (h : InR w ⟨A, n, c, b⟩) (hf : f ≤ t) (ht : t ≤ n) : Has .u8 w (if c = f then A else Option.map (fun x => x.add f) A) (seg b f t) := by
  have e : b.length = n := h.e
  exact (h.h.cut (by show f ≤ b.length; omega) (by show b.length ≤ c; rw [e]; exact h.c1)).front (t - f)
def CutPost (b : List Int) (w : World) (e : Ending) (w' : World) : Prop := ∃ A' n' c' rs, e = .returned (.tuple #[.slice A' n' c', .int .i64 (chE b)]) ∧ rs.map R8.b = cutV b ∧ n' = rs.length ∧ OwnP w' w.heap.size (.slice A' n' c') rs ∧ Below w.heap.size w w'
set_option maxHeartbeats 4000000 in
theorem Cut_any (b : List Int) (A : Option Addr) (n c : Nat) (w : World) (hT : Tab w) (h : Ib w A n c b) :
    Calls Try.prog 16 #[.slice A n c] w (CutPost b w) := by
  have HH := Lib.hid h
  have HTT := Lib.hid hT
  have hn : b.length = n := h.e
  have HN := Lib.hid hn
  have n9 : (n : Int) ≤ 9223372036854775807 := by have h1 : n ≤ c := h.h.c1; have h2 : c ≤ 9223372036854775807 := h.h.c2; omega
  have c9 : (c : Int) ≤ 9223372036854775807 := by have h2 : c ≤ 9223372036854775807 := h.h.c2; omega
  have hcn : n ≤ c := h.h.c1
  have HCN := Lib.hid hcn
  by_cases c1 : (n : Int) ≤ 50000
  · have HC := Lib.hid (chE_yes (b := b) (by omega))
    have HV : Hid (allV b = pl b ∧ cutV b = cuts b) := Lib.hid ⟨by rw [allV, if_pos (by omega)], by rw [cutV, if_pos (by omega)]⟩
    have HL : Hid (n ≤ 50000) := Lib.hid (by omega)
    have HPL : Hid ((pl b).length ≤ n) := Lib.hid (by have := plK_len b b.length; rw [← hn]; exact this)
    clear h hT hn hcn
    go_enter Try.func16, Try.ntmps16
    go_wp2_with fail
    refine (All_any b A n c _ HTT.out HH.out).mono ?_
    rintro e w1 ⟨A1, n1, d1, rfl, hn1, ho1, hb1⟩
    rw [HC.out]
    rw [HV.out.1] at hn1 ho1
    have HN1 := Lib.hid hn1
    have HO1 := Lib.hid ho1
    have HB1 := Lib.hid hb1
    have n19 : (n1 : Int) ≤ 50000 := by have := HPL.out; have := HL.out; omega
    clear hn1 ho1 hb1
    go_wp2_with (at_builtin; refine appI rfl _ _ rfl w.heap.size _ (pl b) rfl (HO1.out.below ((Below.refl _ _).alloc (Nat.le_refl _) _) (Nat.le_refl _)) (some ⟨_, 0, none⟩) 1 1 [(n : Int)] rfl rfl (has_lit (zs := [(n : Int)]) rfl (by simp [maxLen])) (n1 + 1) (by rw [HN1.out]) (by have := HN1.out; have := HPL.out; have := HL.out; omega) (by have := HB1.out.size; simp; omega) ?_; intro A2 d2 w2 ho2 hg2 hb2; have HO2 : Hid (OwnI w2 w.heap.size 3 .i64 (.slice A2 (n1 + 1) d2) (ends b)) := Lib.hid (by rw [ends, HN.out]; exact ho2); have HB2 : Hid (Below w.heap.size w w2) := Lib.hid (by have := HB1.out; (repeat' (first | (with_reducible exact Below.refl _ _) | (with_reducible assumption) | (with_reducible refine below_drewN ?_ _) | (with_reducible refine below_new ?_ _) | (with_reducible refine Below.alloc ?_ ?_ _) | (with_reducible refine Below.drew ?_) | (with_reducible refine Below.setCell ?_ ?_ _) | (with_reducible apply below_at; (case k => (with_reducible assumption)); (case hB => omega)) | (with_reducible apply below_on; (with_reducible assumption)) | (go_size; done) | (with_reducible apply size_of)))); clear ho2 hg2 hb2)
    obtain ⟨g, rfl, -, hg, -⟩ := HO2.out.form (by have := ends_pos b; intro e; rw [e] at this; simp at this)
    have HG := Lib.hid hg
    have HEL : Hid ((ends b).length = n1 + 1) := Lib.hid (by rw [ends_len, HN1.out])
    clear hg
    go_wp2_with fail
    go_loopw [6, 7, 24] (fun v f j wr => ∃ (k m : Nat) (B : Option Addr) (d : Nat) (rs : List R8), k ≤ n1 + 1 ∧ j = .int .i64 k ∧ f = .int .i64 (frK b k : Nat) ∧ v = .slice B m d ∧ m = k ∧ rs.length = k ∧ rs.map R8.b = cK b k ∧ OwnP wr w2.heap.size (.slice B m d) rs ∧ Below w2.heap.size w2 wr) (fun _ _ j _ => n1 + 1 - (intOf j).toNat)
    case atStart => exact ⟨0, 0, none, 0, [], Nat.zero_le _, rfl, rfl, rfl, rfl, rfl, rfl, OwnP.nil _ _, Below.refl _ _⟩
    case round =>
      obtain ⟨k, m, B, d, rs, hk, rfl, rfl, rfl, hm, hrl, hrs, own, acc⟩ := hrel
      obtain rfl : m = k := hm
      have HR := Lib.hid (And.intro hrl hrs)
      have HO := Lib.hid own
      have HACC := Lib.hid acc
      by_cases hlt : m < n1 + 1
      · obtain ⟨g', hg', p1, -⟩ := ends_cell HO2.out acc (k := m) (by rw [HEL.out]; exact hlt)
        obtain rfl : g = g' := by injection hg' with e; injection e
        have hft := frK_le (b := b) (k := m) (by rw [HEL.out]; exact hlt)
        have htn : toK b m ≤ n := by rw [← HN.out]; exact toK_le (by rw [HEL.out]; exact hlt)
        have HS := Lib.hid (cK_snoc b m)
        have HF : Hid (frK b (m + 1) = toK b m) := Lib.hid rfl
        have hbw : Below w.heap.size w wr := HB2.out.trans (acc.mono HB2.out.size)
        have HCH := Lib.hid (cut_has (HH.out.below hbw).h hft htn)
        have HSL : Hid ((seg b (frK b m) (toK b m)).length = toK b m - frK b m) := Lib.hid (seg_len (by rw [HN.out]; exact htn))
        have HBD := Lib.hid (seg_bd HH.out.bd (frK b m) (toK b m))
        have HLT := Lib.hid hlt
        have k1 : (m : Int) < (n1 : Int) + 1 := by omega
        generalize frK b m = f at *
        generalize toK b m = t at *
        generalize seg b f t = sg at *
        have HFT : Hid (f ≤ t ∧ t ≤ n) := Lib.hid ⟨hft, htn⟩
        have q1 : (f : Int) ≤ t := by omega
        have q2 : (t : Int) ≤ c := by have := HCN.out; omega
        have q3 : (t : Int) ≤ n := by omega
        obtain ⟨A', hif⟩ : ∃ A', (if c = f then A else Option.map (fun x => x.add f) A) = A' := ⟨_, rfl⟩
        rw [hif] at HCH
        clear hk hrl hrs own acc hlt hg' hft htn hbw
        go_wp2_with fail
        refine (Clone8 (zs := sg) HCH.out HSL.out (by omega) (by have := HFT.out; have := HL.out; omega)).mono ?_
        rintro e w5 ⟨A5, d5, rfl, -, ho5, hb5⟩
        have HO5 := Lib.hid ho5
        have HB5 : Hid (Below w2.heap.size w2 w5) := Lib.hid (HACC.out.trans (hb5.mono HACC.out.size))
        have HP5 := Lib.hid (HO.out.past hb5)
        have HSZ := Lib.hid hb5.size
        clear ho5 hb5
        go_wp2_with (at_builtin; refine appP rfl _ _ rfl w2.heap.size _ rs rfl (HP5.out.past ((Below.refl _ _).alloc (Nat.le_refl _) _)) ?c0 w5.heap.size 1 rfl ⟨A5, t - f, d5, sg⟩ ?c1 ?c2 HBD.out (m + 1) ?c3 ?c4 ?_; (case c0 => (have := HB5.out.size; simp; omega)); (case c1 => (simp [R8.val])); (case c2 => (exact (HO5.out.mono HACC.out.size).alloc _)); (case c3 => (rw [HR.out.1])); (case c4 => (have := HLT.out; have := HN1.out; have := HPL.out; have := HL.out; omega)); intro A6 d6 w6 hp6 hb6)
        go_roundw
        case rel =>
          refine ⟨m + 1, m + 1, A6, d6, rs ++ [⟨A5, t - f, d5, sg⟩], HLT.out, by go_num, by rw [HF.out], rfl, rfl, by rw [List.length_append, HR.out.1]; rfl, by rw [List.map_append, HR.out.2, HS.out]; rfl, hp6, ?_⟩
          have := HB5.out
          (repeat' (first | (with_reducible exact Below.refl _ _) | (with_reducible assumption) | (with_reducible refine below_drewN ?_ _) | (with_reducible refine below_new ?_ _) | (with_reducible refine Below.alloc ?_ ?_ _) | (with_reducible refine Below.drew ?_) | (with_reducible refine Below.setCell ?_ ?_ _) | (with_reducible apply below_at; (case k => (with_reducible assumption)); (case hB => omega)) | (with_reducible apply below_on; (with_reducible assumption)) | (go_size; done) | (with_reducible apply size_of)))
        case measure => simp [intOf]; have := HLT.out; omega
      · obtain rfl : m = n1 + 1 := by omega
        have k1 : ¬ ((n1 + 1 : Nat) : Int) < (n1 : Int) + 1 := by omega
        clear hk hrl hrs own acc hlt
        go_wp2_with fail
        go_ret2
        unfold CutPost
        exact ⟨B, n1 + 1, d, rs, by rw [HC.out]; rfl, by rw [HV.out.2, HR.out.2, cuts, HEL.out], HR.out.1.symm, HO.out.mono HB2.out.size, HB2.out.trans (HACC.out.mono HB2.out.size)⟩
  · have HC := Lib.hid (chE_no (b := b) (by omega))
    have HV : Hid (allV b = [] ∧ cutV b = []) := Lib.hid ⟨by rw [allV, if_neg (by omega)], by rw [cutV, if_neg (by omega)]⟩
    clear h hT hn hcn
    go_enter Try.func16, Try.ntmps16
    go_wp2_with fail
    refine (All_any b A n c _ HTT.out HH.out).mono ?_
    rintro e w1 ⟨A1, n1, d1, rfl, hn1, ho1, hb1⟩
    rw [HC.out]
    go_wp2_with fail
    go_ret2
    unfold CutPost
    exact ⟨none, 0, 0, [], by rw [HC.out]; rfl, by rw [HV.out.2]; rfl, rfl, OwnP.nil _ _, hb1⟩
end Go.Proofs.Ythcpanenjcjgpaa.mkW
