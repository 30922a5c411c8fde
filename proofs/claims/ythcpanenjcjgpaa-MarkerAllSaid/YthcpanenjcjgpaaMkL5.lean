/- MarkerAll, by a walk (the examples' walk is handed in as a premise). -/
import Derived.Test.YthcpanenjcjgpaaMkL4
namespace Go.Proofs.Ythcpanenjcjgpaa.mkL
open Go.RowKit Go.Proofs.Ythcpanenjcjgpaa.base Go.Proofs.Ythcpanenjcjgpaa.mkP Go.Proofs.Ythcpanenjcjgpaa.mkW
set_option linter.unusedVariables false
set_option linter.unusedSimpArgs false
theorem pl_prefix (b : List Int) {m : Nat} (h : m ≤ b.length) : ∃ t, pl b = plK b m ++ t := by
  rw [pl]
  obtain ⟨d, hd⟩ : ∃ d, b.length = m + d := ⟨b.length - m, by omega⟩
  rw [hd]
  clear hd h
  induction d with
  | zero => exact ⟨[], by simp⟩
  | succ d ih =>
    obtain ⟨t, ht⟩ := ih
    rw [← Nat.add_assoc]
    cases ho : occ b (m + d) with
    | true => exact ⟨t ++ [((m + d : Nat) : Int)], by rw [plK_hit ho, ht, List.append_assoc]⟩
    | false => exact ⟨t, by rw [plK_miss ho, ht]⟩
/-- What All has at the number of those that stand before. -/
theorem at_num {b : List Int} {i : Nat} (hi : i ≤ b.length) : ((plK b i).length < (pl b).length ∧ nx b i < b.length ∧ (pl b).getD (plK b i).length 0 = (nx b i : Nat)) ∨ ((plK b i).length = (pl b).length ∧ nx b i = b.length) := by
  have hle := nx_le b i hi
  have hs : plK b (nx b i) = plK b i := plK_same hle.1 fun j h1 h2 => nx_no b hi h1 h2
  rcases Nat.lt_or_ge (nx b i) b.length with h | h
  · left
    have ho : occ b (nx b i) = true := by
      rcases nx_at b hi with h1 | h1
      · omega
      · exact h1
    obtain ⟨t, ht⟩ := pl_prefix b (m := nx b i + 1) (by omega)
    rw [plK_hit ho, hs] at ht
    refine ⟨?_, h, ?_⟩
    · rw [ht]; simp
    · rw [ht, List.append_assoc, List.getD_eq_getElem?_getD, List.getElem?_append_right (Nat.le_refl _)]
      simp
  · right
    have e : nx b i = b.length := by omega
    exact ⟨by rw [pl, ← e, hs], e⟩
theorem before_at {b : List Int} {i j : Nat} (ho : occ b i = true) (hj : (plK b i).length = j + 1) : ∃ v : Nat, (pl b).getD j 0 = v ∧ v + 13 ≤ i := by
  have hi : i ≤ b.length := by have := occ_room ho; omega
  obtain ⟨t, ht⟩ := pl_prefix b hi
  rw [ht, List.getD_eq_getElem?_getD, List.getElem?_append_left (by omega), List.getElem?_eq_getElem (by omega)]
  obtain ⟨v, e, h1, h2⟩ := plK_mem (List.getElem_mem (l := plK b i) (n := j) (by omega))
  exact ⟨v, e, occ_apart h2 ho h1⟩
set_option maxRecDepth 100000 in
set_option maxHeartbeats 4000000 in
theorem all_of (AL : Alive) (A : Option Addr) (n c : Nat) (z : List Int) (w : World) (hr : IsRow .u8 w A n c z) (hT : Tab w) :
    Calls Try.prog 6 #[.slice A n c] w fun e w' => e = .returned (.bool true) ∧ Below w.heap.size w w' := by
  have hi := ib_of hr
  obtain ⟨b, hb⟩ : ∃ b, z.take n = b := ⟨_, rfl⟩
  rw [hb] at hi
  have HAL := Lib.hid (show ∀ w : World, Tab w → Calls Try.prog 22 #[] w fun e w' => e = .returned (.bool true) ∧ Below w.heap.size w w' from AL)
  have HH := Lib.hid hi
  have HTT := Lib.hid hT
  have n9 : (n : Int) ≤ 9223372036854775807 := by have h1 : n ≤ c := hi.h.c1; have h2 : c ≤ 9223372036854775807 := hi.h.c2; omega
  have cn : n ≤ c := hi.h.c1
  have c9 : (c : Int) ≤ 9223372036854775807 := by have h2 : c ≤ 9223372036854775807 := hi.h.c2; omega
  clear hr hb hT AL
  by_cases c1 : (1000 : Int) < n
  · clear hi
    go_enter Try.func6, Try.ntmps6
    go_wp2_with fail
    refine (HAL.out _ HTT.out).mono ?_
    rintro e w1 ⟨rfl, hb1⟩
    go_wp2_with fail
    go_ret
    exact ⟨rfl, hb1⟩
  · have HN : Hid (b.length = n) := Lib.hid hi.e
    have HL : Hid (n ≤ 1000) := Lib.hid (by omega)
    have HCE : Hid (chE b = 0) := Lib.hid (chE_yes (by rw [hi.e]; omega))
    have HAV : Hid (allV b = pl b) := Lib.hid (by rw [allV, if_pos (by rw [hi.e]; omega)])
    have HCN := Lib.hid cn
    clear hi
    go_enter Try.func6, Try.ntmps6
    go_wp2_with fail
    refine (HAL.out _ HTT.out).mono ?_
    rintro e w1 ⟨rfl, hb1⟩
    have HB1 := Lib.hid hb1
    clear hb1
    go_wp2_with fail
    refine (All_any b A n c _ (HTT.out.below HB1.out) (HH.out.below HB1.out)).mono ?_
    rintro e w2 ⟨A2, n2, d2, rfl, hn2, ho2, hb2⟩
    rw [HCE.out]
    rw [HAV.out] at hn2 ho2
    have HB2 : Hid (Below w.heap.size w w2) := Lib.hid (HB1.out.trans (hb2.mono HB1.out.size))
    have HN2 := Lib.hid hn2
    have HO2 := Lib.hid ho2
    have n29 : (n2 : Int) ≤ 1000 := by have h1 : (pl b).length ≤ b.length := plK_len b b.length; have := HN.out; have := HL.out; omega
    clear ho2 hb2 hn2
    go_wp2_with fail
    go_loopw [6, 7] (fun s i wr => ∃ k I : Nat, I ≤ n + 1 ∧ i = .int .i64 I ∧ s = .int .i64 k ∧ k = (plK b I).length ∧ Below w2.heap.size w2 wr) (fun _ i _ => n + 1 - (intOf i).toNat)
    case atStart => exact ⟨0, 0, Nat.zero_le _, rfl, rfl, rfl, Below.refl _ _⟩
    case round =>
      obtain ⟨k, I, hI, rfl, rfl, hk, acc⟩ := hrel
      have HK := Lib.hid hk
      have HACC := Lib.hid acc
      have HBW : Hid (Below w.heap.size w wr) := Lib.hid (HB2.out.trans (acc.mono HB2.out.size))
      by_cases hle : I ≤ n
      · have k1 : (I : Int) ≤ n := by omega
        have k3 : (I : Int) ≤ 9223372036854775807 := by omega
        have k4 : -9223372036854775808 ≤ (I : Int) := by omega
        have e0 : asE b I = 0 := by rw [asE, if_pos (by rw [HN.out]; have := HL.out; omega), if_pos (by rw [HN.out]; omega)]
        have HAT : Hid (atV b I = occ b I ∧ asE b I = 0) := Lib.hid ⟨by rw [atV, e0, occI, Int.toNat_natCast, decide_eq_true (by omega)]; rfl, e0⟩
        have HFI : Hid ((nx b I < n → fiV b I = nx b I ∧ fiE b I = 0) ∧ (¬ nx b I < n → fiV b I = 0 ∧ fiE b I = 6)) := Lib.hid ⟨fun hh => by rw [fiV, fiE, if_pos e0, if_pos e0, Int.toNat_natCast, if_pos (by rw [HN.out]; exact hh), if_pos (by rw [HN.out]; exact hh)]; exact ⟨rfl, rfl⟩, fun hh => by rw [fiV, fiE, if_pos e0, if_pos e0, Int.toNat_natCast, if_neg (by rw [HN.out]; exact hh), if_neg (by rw [HN.out]; exact hh)]; exact ⟨rfl, rfl⟩⟩
        have HNUM := Lib.hid (at_num (b := b) (i := I) (by rw [HN.out]; exact hle))
        have HLE := Lib.hid hle
        by_cases ho : occ b I = true
        · have hroom := occ_room ho
          obtain ⟨bb, off, rfl, hw, hlw⟩ := win_has HH.out.h (q := I) (k := 13) (by omega) (by rw [← HN.out]; exact hroom)
          have hz : (b.drop I).take 13 = mk := of_decide_eq_true ho
          rw [hz] at hw hlw
          have hnx := nx_hit ho
          rcases HNUM.out with ⟨m1, m2, m3⟩ | ⟨m1, m2⟩
          · rw [hnx] at m3
            obtain ⟨g, rfl, -, hg, -⟩ := HO2.out.form (by intro e; rw [e] at m1; simp at m1)
            have HF := Lib.hid (HFI.out.1 (by rw [hnx]; rw [HN.out] at hroom; omega))
            rw [hnx] at HF
            have HPL : Hid (plK b (I + 1) = plK b I ++ [(I : Int)]) := Lib.hid (plK_hit ho)
            have HOC := Lib.hid ho
            have HG := Lib.hid hg
            have HW := Lib.hid hw
            have hkn : k < n2 := by rw [hk, HN2.out]; exact m1
            have HKN := Lib.hid hkn
            have HCELL : Hid ((pl b).getD k 0 = (I : Int)) := Lib.hid (by rw [hk]; exact m3)
            have q1 : (I : Int) + 13 ≤ n := by rw [HN.out] at hroom; omega
            have q2 : (I : Int) + 13 ≤ c := by have := HCN.out; omega
            have q3 : ¬ c = I := by have := HCN.out; rw [HN.out] at hroom; omega
            have q4 : (I : Int) + 13 ≤ 9223372036854775807 := by omega
            have q5 : (I : Int) ≤ c := by omega
            have t1 : (k : Int) < n2 := by omega
            have d1 : decide (k < n2) = true := decide_eq_true hkn
            have d4 : decide (n2 ≤ k) = false := decide_eq_false (by omega)
            have d5 : decide ((n2 : Int) ≤ k) = false := decide_eq_false (by omega)
            have HIN : Hid (I < n) := Lib.hid (by rw [HN.out] at hroom; omega)
            clear hI hk acc hle ho hroom hw hlw hz hnx m1 m2 m3 hg hkn e0
            go_wp2_with fail
            refine (At_any b _ n c (I : Int) _ (HH.out.below HBW.out).h k4 k3).mono ?_
            rintro e w' ⟨rfl, rfl⟩
            rw [HAT.out.1, HAT.out.2, HOC.out]
            go_wp2_with fail
            refine (Find_any b _ n c (I : Int) _ (HTT.out.below HBW.out) (HH.out.below HBW.out) k4 k3).mono ?_
            rintro e w4 ⟨rfl, hb4⟩
            rw [HF.out.1, HF.out.2]
            have HB4 : Hid (Below w2.heap.size w2 w4) := Lib.hid (HACC.out.trans (hb4.mono HACC.out.size))
            have HBW4 : Hid (Below w.heap.size w w4) := Lib.hid (HBW.out.trans (hb4.mono HBW.out.size))
            have p1 : w4.cell? ⟨g, k, none⟩ = some (.int .i64 (I : Int)) := by
              rw [HB4.out.cell (p := ⟨g, k, none⟩) HG.out, ← HCELL.out]
              exact HO2.out.cell k (by rw [← HN2.out]; exact HKN.out)
            have cv := conv8 (n := 13) (c := c - I) (HW.out.below HBW4.out (Nat.le_refl _)) rfl
            rw [bstr_mk] at cv
            clear hb4
            by_cases hk0 : k = 0
            · have d2 : decide (0 < k) = false := decide_eq_false (by omega)
              have d3 : decide (0 < (k : Int)) = false := decide_eq_false (by omega)
              clear hk0
              go_wp2_with fail
              go_quiet (fail)
              go_wp2_with fail
              go_roundw
              case rel => exact ⟨k + 1, I + 1, by have := HIN.out; omega, by go_num, by go_num, by rw [HPL.out, List.length_append, ← HK.out]; rfl, by have := HB4.out; (repeat' (first | (with_reducible exact Below.refl _ _) | (with_reducible assumption) | (with_reducible refine below_drewN ?_ _) | (with_reducible refine below_new ?_ _) | (with_reducible refine Below.alloc ?_ ?_ _) | (with_reducible refine Below.drew ?_) | (with_reducible refine Below.setCell ?_ ?_ _) | (with_reducible apply below_at; (case k => (with_reducible assumption)); (case hB => omega)) | (with_reducible apply below_on; (with_reducible assumption)) | (go_size; done) | (with_reducible apply size_of)))⟩
              case measure => simp [intOf]; have := HIN.out; omega
            · obtain ⟨j, hj⟩ : ∃ j, k = j + 1 := ⟨k - 1, by omega⟩
              obtain ⟨v, hv, hvI⟩ := before_at HOC.out (by rw [← HK.out]; exact hj)
              have p2 : w4.cell? ⟨g, j, none⟩ = some (.int .i64 (v : Int)) := by
                rw [HB4.out.cell (p := ⟨g, j, none⟩) HG.out, ← hv]
                exact HO2.out.cell j (by rw [← HN2.out]; have := HKN.out; omega)
              obtain ⟨m, hm⟩ : ∃ m, I = v + m := ⟨I - v, by omega⟩
              have hm13 : 13 ≤ m := by omega
              have ej : IntKind.i64.wrap ((k : Int) - 1) = (j : Int) := by
                have : (k : Int) - 1 = j := by omega
                rw [this]; exact IntWalk.i64_in _ (by omega)
              have es : IntKind.i64.wrap ((I : Int) - (v : Int)) = (m : Int) := by
                have : (I : Int) - (v : Int) = m := by omega
                rw [this]; exact IntWalk.i64_in _ (by omega)
              have d2 : decide (0 < k) = true := decide_eq_true (by omega)
              have d3 : decide (0 < (k : Int)) = true := decide_eq_true (by omega)
              have d6 : (j : Int) < n2 := by omega
              have d7 : ¬ (m : Int) < 13 := by omega
              have d8 : decide ((m : Int) < 13) = false := decide_eq_false d7
              clear hk0 hj hv hvI hm hm13
              go_wp2_with fail
              go_quiet (fail)
              clear ej es
              go_wp2_with fail
              go_roundw
              case rel => exact ⟨k + 1, I + 1, by have := HIN.out; omega, by go_num, by go_num, by rw [HPL.out, List.length_append, ← HK.out]; rfl, by have := HB4.out; (repeat' (first | (with_reducible exact Below.refl _ _) | (with_reducible assumption) | (with_reducible refine below_drewN ?_ _) | (with_reducible refine below_new ?_ _) | (with_reducible refine Below.alloc ?_ ?_ _) | (with_reducible refine Below.drew ?_) | (with_reducible refine Below.setCell ?_ ?_ _) | (with_reducible apply below_at; (case k => (with_reducible assumption)); (case hB => omega)) | (with_reducible apply below_on; (with_reducible assumption)) | (go_size; done) | (with_reducible apply size_of)))⟩
              case measure => simp [intOf]; have := HIN.out; omega
          · exact absurd m2 (by rw [hnx]; omega)
        · rw [Bool.not_eq_true] at ho
          have HOC := Lib.hid ho
          have HPL := Lib.hid (plK_miss ho)
          rcases HNUM.out with ⟨m1, m2, m3⟩ | ⟨m1, m2⟩
          · obtain ⟨g, rfl, -, hg, -⟩ := HO2.out.form (by intro e; rw [e] at m1; simp at m1)
            have HF := Lib.hid (HFI.out.1 (by rw [← HN.out]; exact m2))
            have HG := Lib.hid hg
            have hkn : k < n2 := by rw [hk, HN2.out]; exact m1
            have HKN := Lib.hid hkn
            have HCELL : Hid ((pl b).getD k 0 = (nx b I : Nat)) := Lib.hid (by rw [hk]; exact m3)
            have t1 : (k : Int) < n2 := by omega
            have d1 : decide (k < n2) = true := decide_eq_true hkn
            by_cases hf : I + 13 ≤ n
            · obtain ⟨bb, off, rfl, hw, hlw⟩ := win_has HH.out.h (q := I) (k := 13) (by omega) hf
              have hne0 := bstr_ne (fun z hz => HH.out.bd z (List.mem_of_mem_drop (List.mem_of_mem_take hz))) mk_bd (of_decide_eq_false ho)
              rw [mk_U] at hne0
              have HNE := Lib.hid hne0
              have HW := Lib.hid (And.intro hw hlw)
              have q1 : (I : Int) + 13 ≤ n := by omega
              have q2 : (I : Int) + 13 ≤ c := by have := HCN.out; omega
              have q3 : ¬ c = I := by have := HCN.out; omega
              have q4 : (I : Int) + 13 ≤ 9223372036854775807 := by omega
              have q5 : (I : Int) ≤ c := by omega
              clear hw hlw hne0
              clear hI hk acc hle ho m1 m2 m3 hg hkn e0 hf
              go_wp2_with fail
              refine (At_any b _ n c (I : Int) _ (HH.out.below HBW.out).h k4 k3).mono ?_
              rintro e w' ⟨rfl, rfl⟩
              rw [HAT.out.1, HAT.out.2, HOC.out]
              go_wp2_with fail
              refine (Find_any b _ n c (I : Int) _ (HTT.out.below HBW.out) (HH.out.below HBW.out) k4 k3).mono ?_
              rintro e w4 ⟨rfl, hb4⟩
              rw [HF.out.1, HF.out.2]
              have HB4 : Hid (Below w2.heap.size w2 w4) := Lib.hid (HACC.out.trans (hb4.mono HACC.out.size))
              have HBW4 : Hid (Below w.heap.size w w4) := Lib.hid (HBW.out.trans (hb4.mono HBW.out.size))
              have p1 : w4.cell? ⟨g, k, none⟩ = some (.int .i64 (nx b I : Nat)) := by
                rw [HB4.out.cell (p := ⟨g, k, none⟩) HG.out, ← HCELL.out]
                exact HO2.out.cell k (by rw [← HN2.out]; exact HKN.out)
              have cv := conv8 (n := 13) (c := c - I) (HW.out.1.below HBW4.out (Nat.le_refl _)) HW.out.2
              have hne := HNE.out
              generalize bstr ((b.drop I).take 13) = sx at *
              clear hb4
              go_wp2_with fail
              go_roundw
              case rel => exact ⟨k, I + 1, by have := HLE.out; omega, by go_num, rfl, by rw [HPL.out]; exact HK.out, HB4.out⟩
              case measure => simp [intOf]; have := HLE.out; omega
            · have q1 : (n : Int) < (I : Int) + 13 := by omega
              have q2 : decide ((I : Int) + 13 ≤ n) = false := decide_eq_false (by omega)
              have q4 : (I : Int) + 13 ≤ 9223372036854775807 := by have := HL.out; omega
              clear hI hk acc hle ho m1 m2 m3 hg hkn e0 hf
              go_wp2_with fail
              refine (At_any b _ n c (I : Int) _ (HH.out.below HBW.out).h k4 k3).mono ?_
              rintro e w' ⟨rfl, rfl⟩
              rw [HAT.out.1, HAT.out.2, HOC.out]
              go_wp2_with fail
              refine (Find_any b _ n c (I : Int) _ (HTT.out.below HBW.out) (HH.out.below HBW.out) k4 k3).mono ?_
              rintro e w4 ⟨rfl, hb4⟩
              rw [HF.out.1, HF.out.2]
              have HB4 : Hid (Below w2.heap.size w2 w4) := Lib.hid (HACC.out.trans (hb4.mono HACC.out.size))
              have HBW4 : Hid (Below w.heap.size w w4) := Lib.hid (HBW.out.trans (hb4.mono HBW.out.size))
              have p1 : w4.cell? ⟨g, k, none⟩ = some (.int .i64 (nx b I : Nat)) := by
                rw [HB4.out.cell (p := ⟨g, k, none⟩) HG.out, ← HCELL.out]
                exact HO2.out.cell k (by rw [← HN2.out]; exact HKN.out)
              clear hb4
              go_wp2_with fail
              go_roundw
              case rel => exact ⟨k, I + 1, by have := HLE.out; omega, by go_num, rfl, by rw [HPL.out]; exact HK.out, HB4.out⟩
              case measure => simp [intOf]; have := HLE.out; omega
          · have HF := Lib.hid (HFI.out.2 (by rw [m2, HN.out]; omega))
            have hkn : k = n2 := by rw [hk, HN2.out]; exact m1
            have t1 : (n2 : Int) ≤ k := by omega
            have d1 : decide (k < n2) = false := decide_eq_false (by omega)
            have d2 : decide ((k : Int) < n2) = false := decide_eq_false (by omega)
            by_cases hf : I + 13 ≤ n
            · obtain ⟨bb, off, rfl, hw, hlw⟩ := win_has HH.out.h (q := I) (k := 13) (by omega) hf
              have hne0 := bstr_ne (fun z hz => HH.out.bd z (List.mem_of_mem_drop (List.mem_of_mem_take hz))) mk_bd (of_decide_eq_false ho)
              rw [mk_U] at hne0
              have HNE := Lib.hid hne0
              have HW := Lib.hid (And.intro hw hlw)
              have q1 : (I : Int) + 13 ≤ n := by omega
              have q2 : (I : Int) + 13 ≤ c := by have := HCN.out; omega
              have q3 : ¬ c = I := by have := HCN.out; omega
              have q4 : (I : Int) + 13 ≤ 9223372036854775807 := by omega
              have q5 : (I : Int) ≤ c := by omega
              clear hw hlw hne0
              clear hI hk acc hle ho m1 m2 hkn e0 hf
              go_wp2_with fail
              refine (At_any b _ n c (I : Int) _ (HH.out.below HBW.out).h k4 k3).mono ?_
              rintro e w' ⟨rfl, rfl⟩
              rw [HAT.out.1, HAT.out.2, HOC.out]
              go_wp2_with fail
              refine (Find_any b _ n c (I : Int) _ (HTT.out.below HBW.out) (HH.out.below HBW.out) k4 k3).mono ?_
              rintro e w4 ⟨rfl, hb4⟩
              rw [HF.out.1, HF.out.2]
              have HB4 : Hid (Below w2.heap.size w2 w4) := Lib.hid (HACC.out.trans (hb4.mono HACC.out.size))
              have HBW4 : Hid (Below w.heap.size w w4) := Lib.hid (HBW.out.trans (hb4.mono HBW.out.size))
              have cv := conv8 (n := 13) (c := c - I) (HW.out.1.below HBW4.out (Nat.le_refl _)) HW.out.2
              have hne := HNE.out
              generalize bstr ((b.drop I).take 13) = sx at *
              clear hb4
              go_wp2_with fail
              go_roundw
              case rel => exact ⟨k, I + 1, by have := HLE.out; omega, by go_num, rfl, by rw [HPL.out]; exact HK.out, HB4.out⟩
              case measure => simp [intOf]; have := HLE.out; omega
            · have q1 : (n : Int) < (I : Int) + 13 := by omega
              have q2 : decide ((I : Int) + 13 ≤ n) = false := decide_eq_false (by omega)
              have q4 : (I : Int) + 13 ≤ 9223372036854775807 := by have := HL.out; omega
              clear hI hk acc hle ho m1 m2 hkn e0 hf
              go_wp2_with fail
              refine (At_any b _ n c (I : Int) _ (HH.out.below HBW.out).h k4 k3).mono ?_
              rintro e w' ⟨rfl, rfl⟩
              rw [HAT.out.1, HAT.out.2, HOC.out]
              go_wp2_with fail
              refine (Find_any b _ n c (I : Int) _ (HTT.out.below HBW.out) (HH.out.below HBW.out) k4 k3).mono ?_
              rintro e w4 ⟨rfl, hb4⟩
              rw [HF.out.1, HF.out.2]
              have HB4 : Hid (Below w2.heap.size w2 w4) := Lib.hid (HACC.out.trans (hb4.mono HACC.out.size))
              have HBW4 : Hid (Below w.heap.size w w4) := Lib.hid (HBW.out.trans (hb4.mono HBW.out.size))
              clear hb4
              go_wp2_with fail
              go_roundw
              case rel => exact ⟨k, I + 1, by have := HLE.out; omega, by go_num, rfl, by rw [HPL.out]; exact HK.out, HB4.out⟩
              case measure => simp [intOf]; have := HLE.out; omega
      · obtain rfl : I = n + 1 := by omega
        have HE : Hid (k = n2) := Lib.hid (by rw [hk, HN2.out, pl, HN.out, plK_miss (occ_end (by rw [HN.out]; omega))])
        obtain rfl := HE.out
        have k1 : ¬ ((n + 1 : Nat) : Int) ≤ n := by omega
        have k2 : (n : Int) < (n : Int) + 1 := by omega
        clear hI hk acc hle
        go_wp2_with fail
        go_ret
        exact ⟨rfl, HBW.out⟩
end Go.Proofs.Ythcpanenjcjgpaa.mkL
