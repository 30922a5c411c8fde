/- Which strings are lost, by walks. -/
import Derived.Test.YtacllaeccdgnmaaPaP
import Derived.Test.YtacllaeccdgnmaaMemI
import Derived.Test.YtacllaeccdgnmaaBool
namespace Go.Proofs.Ytacllaeccdgnmaa.paW
set_option maxRecDepth 100000
open Go.RowKit Go.Proofs.Ytacllaeccdgnmaa.base Go.Proofs.Ytacllaeccdgnmaa.paP
set_option linter.unusedVariables false
set_option linter.unusedSimpArgs false
set_option maxRecDepth 100000
theorem set_mid_rep (a b : Int) (q n : Nat) (h : q < n) : (List.replicate q a ++ List.replicate (n - q) b).set q a = List.replicate (q + 1) a ++ List.replicate (n - (q + 1)) b := by
  rw [List.set_append_right _ _ (by simp), List.length_replicate, Nat.sub_self]
  obtain ⟨k, hk⟩ : ∃ k, n - q = k + 1 := ⟨n - q - 1, by omega⟩
  rw [hk, List.replicate_succ, List.set_cons_zero, show n - (q + 1) = k by omega, List.replicate_succ', List.append_assoc]
  rfl
theorem rep_mid (a b : Int) (q n : Nat) (h : q < n) : (List.replicate q a ++ List.replicate (n - q) b).getD q 0 = b := by
  rw [List.getD_eq_getElem?_getD, List.getElem?_append_right (by simp), List.length_replicate, Nat.sub_self, List.getElem?_replicate, if_pos (by omega)]
  rfl
/-- What the row of lost ones says of the strings before k. -/
structure Ones (lost : List Bool) (g G k : Nat) (os : List Int) : Prop where
  l : os.length = G
  u : ∀ i j, i < k → j < k → i / g = j / g → lost.getD i false = true → lost.getD j false = true → i = j
  h : ∀ j, j < G → (os.getD j 0 = -1 ∧ ∀ i, i < k → i / g = j → lost.getD i false = false) ∨ (∃ i, i < k ∧ i / g = j ∧ lost.getD i false = true ∧ os.getD j 0 = (i : Int))
theorem Ones.keep {lost : List Bool} {g G k : Nat} {os : List Int} (h : Ones lost g G k os) (hk : lost.getD k false = false) : Ones lost g G (k + 1) os := by
  refine ⟨h.l, fun i j hi hj hg h1 h2 => ?_, fun j hj => ?_⟩
  · rcases Nat.lt_or_ge i k with a | a
    · rcases Nat.lt_or_ge j k with b | b
      · exact h.u i j a b hg h1 h2
      · obtain rfl : j = k := by omega
        rw [hk] at h2; cases h2
    · obtain rfl : i = k := by omega
      rw [hk] at h1; cases h1
  · rcases h.h j hj with ⟨h1, h2⟩ | ⟨i, h1, h2⟩
    · refine .inl ⟨h1, fun i hi hg => ?_⟩
      rcases Nat.lt_or_ge i k with a | a
      · exact h2 i a hg
      · obtain rfl : i = k := by omega
        exact hk
    · exact .inr ⟨i, by omega, h2⟩
theorem getD_set (l : List Int) (i j : Nat) (x : Int) (hi : i < l.length) : (l.set i x).getD j 0 = if i = j then x else l.getD j 0 := by
  rw [List.getD_eq_getElem?_getD, List.getElem?_set]
  by_cases h : i = j
  · subst h; rw [if_pos rfl, if_pos rfl, if_pos hi]; rfl
  · rw [if_neg h, if_neg h, List.getD_eq_getElem?_getD]
theorem Ones.put {lost : List Bool} {g G k : Nat} {os : List Int} (h : Ones lost g G k os) (hg : k / g < G) (hk : lost.getD k false = true) (hm : os.getD (k / g) 0 < 0) : Ones lost g G (k + 1) (os.set (k / g) (k : Int)) := by
  have hno : ∀ i, i < k → i / g = k / g → lost.getD i false = false := by
    rcases h.h (k / g) hg with ⟨_, h2⟩ | ⟨i, _, _, _, h4⟩
    · exact h2
    · rw [h4] at hm; omega
  refine ⟨by rw [List.length_set]; exact h.l, fun i j hi hj hgg h1 h2 => ?_, fun j hj => ?_⟩
  · rcases Nat.lt_or_ge i k with a | a
    · rcases Nat.lt_or_ge j k with b | b
      · exact h.u i j a b hgg h1 h2
      · obtain rfl : j = k := by omega
        rw [hno i a hgg] at h1; cases h1
    · obtain rfl : i = k := by omega
      rcases Nat.lt_or_ge j i with b | b
      · rw [hno j b hgg.symm] at h2; cases h2
      · omega
  · rw [getD_set _ _ _ _ (by rw [h.l]; exact hg)]
    by_cases e : k / g = j
    · rw [if_pos e]; exact .inr ⟨k, by omega, e, hk, rfl⟩
    · rw [if_neg e]
      rcases h.h j hj with ⟨h1, h2⟩ | ⟨i, h1, h2⟩
      · refine .inl ⟨h1, fun i hi hgg => ?_⟩
        rcases Nat.lt_or_ge i k with a | a
        · exact h2 i a hgg
        · obtain rfl : i = k := by omega
          exact absurd hgg e
      · exact .inr ⟨i, by omega, h2⟩
theorem Ones.two {lost : List Bool} {g G k n : Nat} {os : List Int} (h : Ones lost g G k os) (hg : k / g < G) (hk : lost.getD k false = true) (hm : 0 ≤ os.getD (k / g) 0) (hn : k < n) : twoB lost g n = true := by
  rcases h.h (k / g) hg with ⟨h1, _⟩ | ⟨i, h1, h2, h3, _⟩
  · rw [h1] at hm; omega
  · exact twoB_yes (by omega) hn (by omega) h2 h3 hk
def LO (w' : World) (B : Nat) (e : Ending) (lost : List Bool) (g n : Nat) : Prop := (twoB lost g n = true ∧ e = .returned (.tuple #[.slice none 0 0, .int .i64 40])) ∨
  (twoB lost g n = false ∧ ∃ gb os, e = .returned (.tuple #[.slice (some ⟨gb, 0, none⟩) (groups n g) (groups n g), .int .i64 0]) ∧ OwnI w' B 3 .i64 (.slice (some ⟨gb, 0, none⟩) (groups n g) (groups n g)) os ∧ Ones lost g (groups n g) n os)
set_option maxHeartbeats 4000000 in
theorem lostOnes_any (A : Option Addr) (n c g : Nat) (lost : List Bool) (w : World) (hl : HasB w A lost) (hn : lost.length = n) (h100 : n ≤ 100) (hg1 : 1 ≤ g) (hg2 : g ≤ 16) :
    Calls Try.prog 23 #[.slice A n c, .int .i64 (g : Int)] w fun e w' => LO w' w.heap.size e lost g n ∧ Below w.heap.size w w' := by
  have HL := Lib.hid hl
  have HN := Lib.hid (And.intro hn (And.intro h100 (And.intro hg1 hg2)))
  obtain ⟨G, hG⟩ : ∃ G, groups n g = G := ⟨_, rfl⟩
  have hGn := groups_le (n := n) (g := g) hg1
  rw [hG] at hGn
  have HG := Lib.hid (And.intro hG hGn)
  have n1 : (n : Int) ≤ 100 := by omega
  have n0 : 0 ≤ (n : Int) := by omega
  have g1 : (1 : Int) ≤ g := by omega
  have g2 : (g : Int) ≤ 16 := by omega
  have g3 : ¬ (g : Int) = 0 := by omega
  have g4 : ((g : Int) == 0) = false := by simpa using g3
  have g5 : ¬ g = 0 := by omega
  have g6 : (g == 0) = false := by simpa using g5
  have w1 : IntKind.i64.wrap ((n : Int) + g) = (n : Int) + g := IntWalk.i64_in _ (by omega)
  have w2 : IntKind.i64.wrap ((n : Int) + g - 1) = ((n + g - 1 : Nat) : Int) := by rw [show (n : Int) + g - 1 = ((n + g - 1 : Nat) : Int) by omega]; exact IntWalk.i64_in _ (by omega)
  have w3 : Int.tdiv ((n + g - 1 : Nat) : Int) (g : Int) = (G : Int) := by rw [← hG]; exact (Int.ofNat_tdiv _ _).symm
  have w4 : IntKind.i64.wrap (G : Int) = (G : Int) := IntWalk.i64_in _ (by omega)
  have G1 : (G : Int) ≤ 100 := by omega
  have G0 : 0 ≤ (G : Int) := by omega
  have w5 : IntKind.i64.wrap (Int.tdiv ((n + g - 1 : Nat) : Int) (g : Int)) = (G : Int) := by rw [w3, w4]
  generalize ((n + g - 1 : Nat) : Int) = ng at *
  clear hl hn h100 hg1 hg2 hG hGn
  go_enter Try.func23, Try.ntmps23
  go_wp2_with (at_make; go_loud (refine makeI rfl _ _ rfl _ _ G rfl rfl (by have := HG.out; have := HN.out; omega) w.heap.size (Nat.le_refl _) ?_); intro wm own hbm)
  have HO := Lib.hid own
  have HB := Lib.hid hbm
  have HGB : Hid (∃ gb, w.heap.size = gb) := Lib.hid ⟨_, rfl⟩
  clear own hbm
  go_loopw [7, 19] (fun _ i wr => ∃ q : Nat, q ≤ G ∧ i = .int .i64 (q : Int) ∧ OwnI wr w.heap.size 3 .i64 (.slice (some ⟨w.heap.size, 0, none⟩) G G) (List.replicate q (-1) ++ List.replicate (G - q) 0) ∧ Below w.heap.size w wr) (fun _ i _ => G - (intOf i).toNat)
  case atStart => exact ⟨0, Nat.zero_le _, rfl, HO.out, HB.out⟩
  case round =>
    obtain ⟨q, hq, rfl, own, acc⟩ := hrel
    have HOQ := Lib.hid own
    have HA := Lib.hid acc
    by_cases hlt : q < G
    · have q1 : (q : Int) < G := by omega
      have q0 : 0 ≤ (q : Int) := by omega
      have HQ := Lib.hid hlt
      have p1 := own.cell q (by simp; omega)
      have p2 := own.frozen q
      rw [rep_mid _ _ _ _ hlt] at p1
      have HS := Lib.hid (set_mid_rep (-1) 0 q G hlt)
      clear hlt hq own acc
      go_wp2_with fail
      go_roundw
      case rel => exact ⟨q + 1, HQ.out, by go_num, by rw [← HS.out]; exact HOQ.out.store q (-1), Below.setCell HA.out (Nat.le_refl _) _⟩
      case measure => simp [intOf]; have := HQ.out; omega
    · obtain rfl : q = G := by omega
      have q1 : ¬ (q : Int) < q := by omega
      rw [Nat.sub_self, List.replicate_zero, List.append_nil] at own
      have HO2 := Lib.hid own
      clear hlt hq own acc
      go_wp2_with fail
      go_loopw [8, 28] (fun _ i w5 => ∃ (x : Nat) (os : List Int), x ≤ n ∧ i = .int .i64 (x : Int) ∧ OwnI w5 w.heap.size 3 .i64 (.slice (some ⟨w.heap.size, 0, none⟩) q q) os ∧ Ones lost g q x os ∧ Below w.heap.size w w5) (fun _ i _ => n - (intOf i).toNat)
      case atStart => exact ⟨0, _, Nat.zero_le _, rfl, HO2.out, ⟨by simp, fun i j hi => by omega, fun j hj => .inl ⟨by simp [List.getD_eq_getElem?_getD, hj], fun i hi => by omega⟩⟩, HA.out⟩
      case round =>
        rename World => w5
        obtain ⟨x, os, hx, rfl, own, hos, acc⟩ := hrel
        have HOX := Lib.hid own
        have HS := Lib.hid hos
        have HA5 := Lib.hid acc
        by_cases hlt : x < n
        · have x1 : (x : Int) < n := by omega
          have x0 : 0 ≤ (x : Int) := by omega
          have HX := Lib.hid hlt
          obtain ⟨b, off, rfl, hb, hc⟩ : ∃ b off, A = some ⟨b, off, none⟩ ∧ b < w.heap.size ∧ ∀ i, i < lost.length → w.cell? ⟨b, off + i, none⟩ = some (.bool (lost.getD i false)) := by
            rcases HL.out with h | h
            · have := HN.out.1; rw [h] at this; simp at this; omega
            · exact h
          have c1 : w5.cell? ⟨b, off + x, none⟩ = some (.bool (lost.getD x false)) := by rw [acc.cell (p := ⟨b, off + x, none⟩) hb]; exact hc x (by rw [HN.out.1]; exact hlt)
          obtain ⟨t, ht⟩ : ∃ t, lost.getD x false = t := ⟨_, rfl⟩
          rw [ht] at c1
          have HT := Lib.hid ht
          clear hb hc
          cases t
          · clear hlt hx ht own acc
            go_wp2_with fail
            go_roundw
            case rel => exact ⟨x + 1, os, HX.out, by go_num, HOX.out, HS.out.keep HT.out, HA5.out⟩
            case measure => simp [intOf]; have := HX.out; omega
          · obtain ⟨j, hj⟩ : ∃ j, x / g = j := ⟨_, rfl⟩
            have hjq : j < q := by
              rw [← HG.out.1, ← hj, groups_iff HN.out.2.2.1]
              have h1 := Nat.div_mul_le_self x g
              omega
            have HJ := Lib.hid (And.intro hj hjq)
            have w8 : Int.tdiv (x : Int) (g : Int) = (j : Int) := by rw [← hj]; exact (Int.ofNat_tdiv _ _).symm
            have w9 : IntKind.i64.wrap (Int.tdiv (x : Int) (g : Int)) = (j : Int) := by rw [w8]; exact IntWalk.i64_in _ (by omega)
            have j1 : (j : Int) < q := by omega
            have j0 : 0 ≤ (j : Int) := by omega
            have p1 := own.cell j (by rw [HS.out.l]; exact hjq)
            have p2 := own.frozen j
            obtain ⟨v, hv⟩ : ∃ v, os.getD j 0 = v := ⟨_, rfl⟩
            rw [hv] at p1
            have HV := Lib.hid hv
            clear hlt hx ht own acc hj hjq hv
            by_cases hv0 : 0 ≤ v
            · have HTW := Lib.hid (HS.out.two (by rw [HJ.out.1]; exact HJ.out.2) HT.out (by rw [HJ.out.1, HV.out]; exact hv0) HX.out)
              go_wp2_with fail
              go_ret2
              exact ⟨.inl ⟨HTW.out, rfl⟩, HA5.out⟩
            · have HPUT := Lib.hid (HS.out.put (by rw [HJ.out.1]; exact HJ.out.2) HT.out (by rw [HJ.out.1, HV.out]; omega))
              go_wp2_with fail
              go_roundw
              case rel => exact ⟨x + 1, os.set j (x : Int), HX.out, by go_num, HOX.out.store j x, by rw [← HJ.out.1]; exact HPUT.out, Below.setCell HA5.out (Nat.le_refl _) _⟩
              case measure => simp [intOf]; have := HX.out; omega
        · obtain rfl : x = n := by omega
          have x1 : ¬ (x : Int) < x := by omega
          have HNO := Lib.hid (twoB_no (lost := lost) (g := g) (n := x) HS.out.u)
          clear hlt hx own acc
          go_wp2_with fail
          go_ret2
          exact ⟨.inr ⟨HNO.out, w.heap.size, os, by rw [HG.out.1]; rfl, by rw [HG.out.1]; exact HOX.out, by rw [HG.out.1]; exact HS.out⟩, HA5.out⟩
end Go.Proofs.Ytacllaeccdgnmaa.paW
