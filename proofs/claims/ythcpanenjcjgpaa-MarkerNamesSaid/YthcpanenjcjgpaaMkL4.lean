/- MarkerPieces, by a walk (the examples' walk is handed in as a premise). -/
import Derived.Test.YthcpanenjcjgpaaMkL1
import Derived.Test.YthcpanenjcjgpaaMkW9
import Derived.BigQuiet
namespace Go.Proofs.Ythcpanenjcjgpaa.mkL
open Go.RowKit Go.Proofs.Ythcpanenjcjgpaa.base Go.Proofs.Ythcpanenjcjgpaa.mkP Go.Proofs.Ythcpanenjcjgpaa.mkW
set_option linter.unusedVariables false
set_option linter.unusedSimpArgs false
def Alive : Prop := ∀ w : World, Tab w → Calls Try.prog 22 #[] w fun e w' => e = .returned (.bool true) ∧ Below w.heap.size w w'
theorem ib_own {w : World} {B : Nat} {A : Option Addr} {n c : Nat} {zs : List Int} (o : OwnZ w B (.slice A n c) zs) (hb : ∀ z ∈ zs, 0 ≤ z ∧ z ≤ 255) : Ib w A n c zs := by
  obtain ⟨b1, b2, b3⟩ := o.bounds
  refine ⟨⟨o.has, b1.symm, b2, b3, hb⟩, fun e => ?_⟩
  rcases o with o | ⟨_, D, e2⟩
  · rcases o.2 with ⟨h1, _⟩ | ⟨g, cap, cur, h1, _⟩
    · injection h1 with _ _ h3
    · injection h1 with h2 _ _
      rw [e] at h2; cases h2
  · injection e2 with _ _ h3
theorem bstr_app (a b : List Int) : bstr a ++ bstr b = bstr (a ++ b) := by
  apply ByteArray.ext
  apply Array.ext'
  rw [ByteArray.data_append, Array.toList_append, bstr_list, bstr_list, bstr_list]
  simp [Lib.bytesOf]
theorem piece_b {b : List Int} {rs : List R8} (h : rs.map R8.b = mkP.cuts b) {k : Nat} (hk : k < rs.length) : k < (ends b).length ∧ (rs.getD k r80).b = seg b (frK b k) (toK b k) := by
  have hl := congrArg List.length h
  rw [List.length_map, mkP.cuts, cK_len] at hl
  refine ⟨by omega, ?_⟩
  have := congrArg (fun l => l[k]?) h
  simp only [List.getElem?_map, List.getElem?_eq_getElem hk, Option.map_some] at this
  rw [List.getD_eq_getElem?_getD, List.getElem?_eq_getElem hk]
  have h2 : (mkP.cuts b)[k]? = some (seg b (frK b k) (toK b k)) := by
    rw [mkP.cuts, cK, List.getElem?_map, List.getElem?_range (by omega)]; rfl
  rw [h2] at this
  exact Option.some.inj this
set_option maxRecDepth 100000 in
set_option maxHeartbeats 4000000 in
theorem pieces_of (AL : Alive) (A : Option Addr) (n c : Nat) (z : List Int) (w : World) (hr : IsRow .u8 w A n c z) (hT : Tab w) :
    Calls Try.prog 7 #[.slice A n c] w fun e w' => e = .returned (.bool true) ∧ Below w.heap.size w w' := by
  have hi := ib_of hr
  obtain ⟨b, hb⟩ : ∃ b, z.take n = b := ⟨_, rfl⟩
  rw [hb] at hi
  have HAL := Lib.hid (show ∀ w : World, Tab w → Calls Try.prog 22 #[] w fun e w' => e = .returned (.bool true) ∧ Below w.heap.size w w' from AL)
  have HH := Lib.hid hi
  have HTT := Lib.hid hT
  have n9 : (n : Int) ≤ 9223372036854775807 := by have h1 : n ≤ c := hi.h.c1; have h2 : c ≤ 9223372036854775807 := hi.h.c2; omega
  clear hr hb hT AL
  by_cases c1 : (1000 : Int) < n
  · clear hi
    go_enter Try.func7, Try.ntmps7
    go_wp2_with fail
    refine (HAL.out _ HTT.out).mono ?_
    rintro e w1 ⟨rfl, hb1⟩
    go_wp2_with fail
    go_ret
    exact ⟨rfl, hb1⟩
  · have HN : Hid (b.length = n) := Lib.hid hi.e
    have HL : Hid (n ≤ 1000) := Lib.hid (by omega)
    have HCE : Hid (chE b = 0) := Lib.hid (chE_yes (by rw [hi.e]; omega))
    have HCV : Hid (cutV b = mkP.cuts b) := Lib.hid (by rw [cutV, if_pos (by rw [hi.e]; omega)])
    clear hi
    go_enter Try.func7, Try.ntmps7
    go_wp2_with fail
    refine (HAL.out _ HTT.out).mono ?_
    rintro e w1 ⟨rfl, hb1⟩
    have HB1 := Lib.hid hb1
    clear hb1
    go_wp2_with fail
    refine (Cut_any b A n c _ (HTT.out.below HB1.out) (HH.out.below HB1.out)).mono ?_
    rintro e w2 ⟨A2, n2, d2, rs, rfl, hrs, hn2, ho2, hb2⟩
    rw [HCE.out]
    have HB2 : Hid (Below w.heap.size w w2) := Lib.hid (HB1.out.trans (hb2.mono HB1.out.size))
    have hlen : rs.length = (ends b).length := by
      have := congrArg List.length hrs
      rw [List.length_map, HCV.out, mkP.cuts, cK_len] at this; exact this
    have HRS : Hid (rs.map R8.b = mkP.cuts b ∧ n2 = rs.length ∧ rs.length = (ends b).length) := Lib.hid ⟨by rw [hrs, HCV.out], hn2, hlen⟩
    have h0 : 0 < n2 := by have := ends_pos b; omega
    have hle : n2 ≤ 1001 := by have h1 := plK_len b b.length; have h2 := ends_len b; have : (pl b).length ≤ b.length := h1; have := HN.out; have := HL.out; omega
    obtain ⟨P, d, e1, hL, -, -⟩ := ho2.val
    have e1' : A2 = P := by injection e1
    subst e1'
    obtain ⟨pb, off, rfl, hpb, -⟩ := hL.some (by omega)
    have HO2 := Lib.hid ho2
    have HLL := Lib.hid hL
    have HPB := Lib.hid hpb
    have n20 : (n2 : Int) ≤ 1001 := by omega
    have n21 : ¬ (n2 : Int) = 0 := by omega
    have n22 : ((n2 : Int) == 0) = false := by simpa using n21
    have n23 : ¬ n2 = 0 := by omega
    have n24 : 0 < (n2 : Int) := by omega
    clear ho2 hb2 hrs hn2 hlen e1 hL hpb h0 hle
    go_wp2_with fail
    go_loopw [6, 7] (fun s i wr => ∃ k : Nat, k ≤ n2 ∧ i = .int .i64 k ∧ s = .string (bstr (cK b k).flatten) ∧ Below w2.heap.size w2 wr) (fun _ i _ => n2 - (intOf i).toNat)
    case atStart => exact ⟨0, Nat.zero_le _, rfl, rfl, Below.refl _ _⟩
    case round =>
      obtain ⟨k, hk, rfl, rfl, acc⟩ := hrel
      have HACC := Lib.hid acc
      have HBW : Hid (Below w.heap.size w wr) := Lib.hid (HB2.out.trans (acc.mono HB2.out.size))
      by_cases hlt : k < n2
      · have hkr : k < rs.length := by rw [← HRS.out.2.1]; exact hlt
        obtain ⟨hke, hpc⟩ := piece_b HRS.out.1 hkr
        have hL' := HLL.out.below acc (Nat.le_refl _)
        obtain ⟨pb', off', hP, -, hcc⟩ := hL'.some (by omega)
        obtain ⟨rfl, rfl⟩ : pb = pb' ∧ off = off' := by injection hP with h; injection h with h1 h2 _; exact ⟨h1, h2⟩
        have p1 := hcc k hkr
        have hown := (HO2.out.past acc).own (rs.getD k r80) (by rw [List.getD_eq_getElem?_getD, List.getElem?_eq_getElem hkr]; exact List.getElem_mem hkr)
        have hbd := seg_bd HH.out.bd (frK b k) (toK b k)
        have HPL := Lib.hid (piece_pl hke)
        have HS : Hid ((cK b (k + 1)).flatten = (cK b k).flatten ++ seg b (frK b k) (toK b k)) := Lib.hid (by rw [cK_snoc, List.flatten_append]; simp)
        have hsl : (seg b (frK b k) (toK b k)).length ≤ 1000 := by rw [seg_len (toK_le hke)]; have := toK_le hke; have := HN.out; have := HL.out; omega
        have hsz : ¬ 9223372036854775807 < (bstr (cK b k).flatten).size + (bstr (seg b (frK b k) (toK b k))).size := by
          rw [bstr_size, bstr_size, pieces_join k (by omega), List.length_take]; have := HN.out; have := HL.out; omega
        generalize rs.getD k r80 = r at *
        obtain ⟨rA, rn, rc, rb⟩ := r
        have hpc' : rb = seg b (frK b k) (toK b k) := hpc
        have hib : Ib wr rA rn rc (seg b (frK b k) (toK b k)) := ib_own (by rw [← hpc']; exact hown) hbd
        have HIB := Lib.hid hib
        have HAV : Hid (chE (seg b (frK b k) (toK b k)) = 0 ∧ allV (seg b (frK b k) (toK b k)) = if k = 0 then [] else [0]) := Lib.hid ⟨chE_yes (by omega), by rw [allV, if_pos (by omega), HPL.out]⟩
        have HLT := Lib.hid hlt
        have k1 : (k : Int) < n2 := by omega
        simp only [] at p1
        generalize seg b (frK b k) (toK b k) = sg at *
        clear hk acc hlt hkr hke hpc hL' hP hcc hown hbd hsl hpc' hib
        go_wp2_with fail
        refine (All_any sg rA rn rc _ (HTT.out.below HBW.out) HIB.out).mono ?_
        rintro e w5 ⟨A5, n5, d5, rfl, hn5, ho5, hb5⟩
        rw [HAV.out.1]
        rw [HAV.out.2] at hn5 ho5
        have HB5 : Hid (Below w2.heap.size w2 w5) := Lib.hid (HACC.out.trans (hb5.mono HACC.out.size))
        have HI5 := Lib.hid (HIB.out.below hb5)
        have p5 : w5.cell? ⟨pb, off + k, none⟩ = some (.slice rA rn rc) := by rw [hb5.cell (p := ⟨pb, off + k, none⟩) (lt_of_cell p1)]; exact p1
        have HP5 := Lib.hid p5
        clear p1
        by_cases hk0 : k = 0
        · subst hk0
          rw [if_pos rfl] at hn5 ho5
          obtain rfl : n5 = 0 := hn5
          rw [Nat.add_zero] at p5
          have cv := conv8 (c := rc) HI5.out.h.h HI5.out.e
          clear hb5 ho5
          go_wp2_with fail
          exact ⟨⟨1, HLT.out, rfl, by rw [bstr_app, ← HS.out], HB5.out⟩, by simp [intOf]; have := HLT.out; omega⟩
        · rw [if_neg hk0] at hn5 ho5
          obtain rfl : n5 = 1 := hn5
          have HO5 := Lib.hid ho5
          have z1 : ¬ (k : Int) = 0 := by omega
          have z2 : ((k : Int) == 0) = false := by simpa using z1
          have z3 : 0 < (k : Int) := by omega
          have z4 : 0 < k := by omega
          clear hb5 ho5 hk0 p5
          go_wp2_with fail
          refine (sameI_any A5 (some ⟨w5.heap.size, 0, none⟩) 1 1 d5 1 [0] [0] _ (HO5.out.has.below ((Below.refl _ _).alloc (Nat.le_refl _) _) (Nat.le_refl _)) rfl (has_lit (zs := [0]) rfl (by simp [maxLen])) rfl (by decide) (by decide)).mono ?_
          rintro e w6 ⟨rfl, hb6⟩
          rw [show decide (([0] : List Int) = [0]) = true from rfl]
          have hb6' : Below w5.heap.size w5 w6 := by (repeat' (first | (with_reducible exact Below.refl _ _) | (with_reducible assumption) | (with_reducible refine below_drewN ?_ _) | (with_reducible refine below_new ?_ _) | (with_reducible refine Below.alloc ?_ ?_ _) | (with_reducible refine Below.drew ?_) | (with_reducible refine Below.setCell ?_ ?_ _) | (with_reducible apply below_at; (case k => (with_reducible assumption)); (case hB => omega)) | (with_reducible apply below_on; (with_reducible assumption)) | (go_size; done) | (with_reducible apply size_of)))
          have HB6 : Hid (Below w2.heap.size w2 w6) := Lib.hid (HB5.out.trans (hb6'.mono HB5.out.size))
          have p6 : w6.cell? ⟨pb, off + k, none⟩ = some (.slice rA rn rc) := by rw [hb6'.cell (p := ⟨pb, off + k, none⟩) (lt_of_cell HP5.out)]; exact HP5.out
          have cv := conv8 (c := rc) (HI5.out.below hb6').h.h HI5.out.e
          clear hb6 hb6'
          go_wp2_with fail
          exact ⟨⟨k + 1, HLT.out, by go_num, by rw [bstr_app, ← HS.out], HB6.out⟩, by simp [intOf]; have := HLT.out; omega⟩
      · obtain rfl : k = n2 := by omega
        have HF : Hid ((cK b k).flatten = b) := Lib.hid (by rw [HRS.out.2.1, HRS.out.2.2]; exact pieces_all b)
        have k1 : ¬ (k : Int) < k := by omega
        have cv := conv8 (c := c) (HH.out.below HBW.out).h.h HH.out.e
        rw [HF.out]
        clear hk acc hlt
        go_wp2_with fail
        go_ret
        exact ⟨rfl, HBW.out⟩
end Go.Proofs.Ythcpanenjcjgpaa.mkL
