/- The reference's Recover, by walks. -/
import Derived.Test.YtacllaeccdgnmaaPaRc
import Derived.Test.YtacllaeccdgnmaaPaRp
namespace Go.Proofs.Ytacllaeccdgnmaa.paW
set_option maxRecDepth 100000
open Go.RowKit Go.Proofs.Ytacllaeccdgnmaa.base Go.Proofs.Ytacllaeccdgnmaa.paP
set_option linter.unusedVariables false
set_option linter.unusedSimpArgs false
set_option maxRecDepth 100000
set_option maxHeartbeats 1000000 in
theorem gone_any (A : Option Addr) (n c a b : Nat) (lost : List Bool) (w : World) (hl : HasB w A lost) (hn : lost.length = n) (hab : a ≤ b) (hb : b ≤ n) (h100 : n ≤ 100) :
    Calls Try.prog 26 #[.slice A n c, .int .i64 (a : Int), .int .i64 (b : Int)] w fun e w' => ∃ A' c', e = .returned (.slice A' (goneP lost a (b - a)).length c') ∧ OwnI w' w.heap.size 3 .i64 (.slice A' (goneP lost a (b - a)).length c') (goneP lost a (b - a)) ∧ Below w.heap.size w w' := by
  have HL := Lib.hid hl
  have HN := Lib.hid (And.intro hn (And.intro hab (And.intro hb h100)))
  have b1 : (b : Int) ≤ 100 := by omega
  have n1 : (n : Int) ≤ 100 := by omega
  have bn : (b : Int) ≤ n := by omega
  clear hl hn hab hb h100
  go_enter Try.func26, Try.ntmps26
  go_wp2_with fail
  go_loopw [7, 8] (fun o i wr => ∃ (x t c' : Nat) (A' : Option Addr), a ≤ x ∧ x ≤ b ∧ i = .int .i64 (x : Int) ∧ o = .slice A' t c' ∧ t = (goneP lost a (x - a)).length ∧ OwnI wr w.heap.size 3 .i64 (.slice A' t c') (goneP lost a (x - a)) ∧ Below w.heap.size w wr) (fun _ i _ => b - (intOf i).toNat)
  case atStart => exact ⟨a, 0, 0, none, Nat.le_refl _, HN.out.2.1, rfl, rfl, by rw [Nat.sub_self]; rfl, by rw [Nat.sub_self]; exact OwnI.nil _ _ _ _, Below.refl _ _⟩
  case round =>
    obtain ⟨x, t, c', A', hx1, hx2, rfl, rfl, ht, own, acc⟩ := hrel
    have HO := Lib.hid own
    have HA := Lib.hid acc
    have HX := Lib.hid (And.intro hx1 (And.intro hx2 ht))
    by_cases hlt : x < b
    · have x1 : (x : Int) < b := by omega
      have x0 : 0 ≤ (x : Int) := by omega
      have x2 : (x : Int) < n := by omega
      have HLT := Lib.hid hlt
      obtain ⟨bb, off, rfl, hbb, hc⟩ : ∃ b off, A = some ⟨b, off, none⟩ ∧ b < w.heap.size ∧ ∀ i, i < lost.length → w.cell? ⟨b, off + i, none⟩ = some (.bool (lost.getD i false)) := by
        rcases HL.out with h | h
        · have := HN.out.1; rw [h] at this; simp at this; omega
        · exact h
      have d1 : wr.cell? ⟨bb, off + x, none⟩ = some (.bool (lost.getD x false)) := by rw [acc.cell (p := ⟨bb, off + x, none⟩) hbb]; exact hc x (by rw [HN.out.1]; omega)
      have hst := goneP_step lost a (x - a)
      rw [show a + (x - a) = x by omega, show x - a + 1 = x + 1 - a by omega] at hst
      obtain ⟨y, hy⟩ : ∃ y, lost.getD x false = y := ⟨_, rfl⟩
      rw [hy] at d1 hst
      cases y
      · have HST := Lib.hid hst
        clear hlt hx1 hx2 ht own acc hbb hc hy hst
        go_wp2_with fail
        go_roundw
        case rel => exact ⟨x + 1, t, c', A', by have := HX.out; omega, HLT.out, by go_num, rfl, by rw [HST.out]; exact HX.out.2.2, by rw [HST.out]; exact HO.out, HA.out⟩
        case measure => simp [intOf]; have := HLT.out; omega
      · have HST : Hid (goneP lost a (x + 1 - a) = goneP lost a (x - a) ++ [(x : Int)]) := Lib.hid (by rw [hst]; rfl)
        have HOA : Hid (OwnI (wr.alloc (.cells #[.int .i64 (x : Int)] 3)) w.heap.size 3 .i64 (.slice A' t c') (goneP lost a (x - a)) ∧ Below w.heap.size w (wr.alloc (.cells #[.int .i64 (x : Int)] 3)) ∧ Has .i64 (wr.alloc (.cells #[.int .i64 (x : Int)] 3)) (some ⟨wr.heap.size, 0, none⟩) [(x : Int)]) := Lib.hid
          ⟨own.below ((Below.refl _ _).alloc (Nat.le_refl _) _) (Nat.le_refl _), acc.alloc acc.size _, has_lit (zs := [(x : Int)]) rfl (by unfold maxLen; simp)⟩
        have hgl := goneP_len (lost := lost) (a := a) (k := x - a)
        have HGL : Hid (t + 1 ≤ 200) := Lib.hid (by have := HN.out; omega)
        obtain ⟨t2, ht2⟩ : ∃ t2, t + 1 = t2 := ⟨_, rfl⟩
        have HT2 := Lib.hid ht2
        clear hlt hx1 hx2 ht own acc hbb hc hy hst hgl ht2
        go_wp2_with (at_builtin; go_loud (refine appI rfl _ _ rfl w.heap.size _ _ rfl HOA.out.1 _ 1 _ [(x : Int)] rfl rfl HOA.out.2.2 t2 (by rw [← HT2.out, HX.out.2.2]) (by have := HGL.out; have := HT2.out; omega) HOA.out.2.1.size ?_); intro A3 c3 w3 ho3 hg3 hb3)
        go_roundw
        case rel => exact ⟨x + 1, t2, c3, A3, by have := HX.out; omega, HLT.out, by go_num, rfl, by rw [HST.out, List.length_append, ← HT2.out, HX.out.2.2]; rfl, by rw [HST.out]; exact ho3, HOA.out.2.1.trans hb3⟩
        case measure => simp [intOf]; have := HLT.out; omega
    · obtain rfl : x = b := by omega
      have x1 : ¬ (x : Int) < x := by omega
      clear hlt hx1 hx2 ht own acc
      go_wp2_with fail
      go_ret
      exact ⟨A', c', by rw [← HX.out.2.2]; rfl, by rw [← HX.out.2.2]; exact HO.out, HA.out⟩
set_option maxHeartbeats 400000 in
theorem Groups_any (n g : Nat) (w : World) (hn : n ≤ 1000000) (h1 : 1 ≤ g) (h2 : g ≤ 16) : Calls Try.prog 25 #[.int .i64 (n : Int), .int .i64 (g : Int)] w fun e w' => e = .returned (.int .i64 (groups n g : Nat)) ∧ w' = w := by
  obtain ⟨G, hG⟩ : ∃ G, groups n g = G := ⟨_, rfl⟩
  have hGn := groups_le (n := n) (g := g) h1
  rw [hG] at hGn ⊢
  have g3 : ¬ (g : Int) = 0 := by omega
  have g4 : ((g : Int) == 0) = false := by simpa using g3
  have g5 : ¬ g = 0 := by omega
  have g6 : (g == 0) = false := by simpa using g5
  have w1 : IntKind.i64.wrap ((n : Int) + g) = (n : Int) + g := IntWalk.i64_in _ (by omega)
  have w2 : IntKind.i64.wrap ((n : Int) + g - 1) = ((n + g - 1 : Nat) : Int) := by rw [show (n : Int) + g - 1 = ((n + g - 1 : Nat) : Int) by omega]; exact IntWalk.i64_in _ (by omega)
  have w3 : Int.tdiv ((n + g - 1 : Nat) : Int) (g : Int) = (G : Int) := by rw [← hG]; exact (Int.ofNat_tdiv _ _).symm
  have w4 : IntKind.i64.wrap (G : Int) = (G : Int) := IntWalk.i64_in _ (by omega)
  have w5 : IntKind.i64.wrap (Int.tdiv ((n + g - 1 : Nat) : Int) (g : Int)) = (G : Int) := by rw [w3, w4]
  generalize ((n + g - 1 : Nat) : Int) = ng at *
  clear hG hGn hn
  go_enter Try.func25, Try.ntmps25
  go_wp2_with fail
  go_ret
  exact ⟨rfl, rfl⟩
end Go.Proofs.Ytacllaeccdgnmaa.paW
