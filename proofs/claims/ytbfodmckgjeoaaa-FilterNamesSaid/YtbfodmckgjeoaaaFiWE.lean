/- Filters: runs spelled again, of the reference, by a walk. -/
import Derived.Test.YtbfodmckgjeoaaaFiWD
namespace Go.Proofs.Ytbfodmckgjeoaaa.fiW
set_option maxRecDepth 100000
open Go.RowKit Go.Proofs.Ytbfodmckgjeoaaa.base Go.Proofs.Ytbfodmckgjeoaaa.fiP
set_option linter.unusedVariables false
set_option linter.unusedSimpArgs false
set_option maxRecDepth 100000
theorem rep_snoc {zs : List Int} {x : Int} {m : Nat} : zs ++ List.replicate m x ++ [x] = zs ++ List.replicate (m + 1) x := by
  rw [List.append_assoc, List.replicate_succ']
def SplPost (b : List Int) (w w' : World) (e : Ending) : Prop := ∃ A' t c' zs, e = .returned (.slice A' t c') ∧ zs.length = t ∧ OwnI w' w.heap.size 5 .u8 (.slice A' t c') zs ∧ Byt zs ∧ t ≤ 10400 ∧ (un b = if t ≤ 10125 ∧ cn zs 0 = b then some zs else none) ∧ Below w.heap.size w w'
set_option maxHeartbeats 4000000 in
theorem rSpelled (b : List Int) (A : Option Addr) (n c : Nat) (w : World) (h : Ib w A n c b) (hl : n ≤ 10125) :
    Calls Try.prog 48 #[.slice A n c] w fun e w' => SplPost b w w' e := by
  have HH := Lib.hid h
  have hn : b.length = n := h.e
  have HN := Lib.hid hn
  have HL := Lib.hid hl
  have n9 : (n : Int) ≤ 10125 := by omega
  clear h hn hl
  go_enter Try.func48, Try.ntmps48
  go_wp2_with fail
  go_loopw [3, 4] (fun v j wr => ∃ (k t : Nat) (B : Option Addr) (d : Nat) (zs : List Int), k ≤ n ∧ j = .int .i64 k ∧ v = .slice B t d ∧ zs.length = t ∧ t ≤ 10400 ∧ Tr b zs k ∧ Byt zs ∧ OwnI wr w.heap.size 5 .u8 (.slice B t d) zs ∧ Below w.heap.size w wr) (fun _ j _ => n - (intOf j).toNat)
  case atStart => exact ⟨0, 0, none, 0, [], Nat.zero_le _, rfl, rfl, rfl, Nat.zero_le _, Tr.start b, (by intro z hz; cases hz), OwnI.nil _ _ _ _, Below.refl _ _⟩
  case round =>
    obtain ⟨k, t, B, d, zs, hk, rfl, rfl, ht, htm, hT, hby, own, acc⟩ := hrel
    have HT := Lib.hid ht
    have HTM := Lib.hid htm
    have HTR := Lib.hid hT
    have HBY := Lib.hid hby
    have HO := Lib.hid own
    have HACC := Lib.hid acc
    have t8 : (t : Int) ≤ 10400 := by omega
    by_cases hlt : k < n
    · by_cases h10 : t ≤ 10125
      · obtain ⟨bb, off, rfl, hbb, hc⟩ := in_at HH.out acc hlt
        have px := hc k hlt
        have t9 : (t : Int) ≤ 10125 := by omega
        have HK := Lib.hid hlt
        have k1 : (k : Int) < n := by omega
        have k2 : k < n := hlt
        have HONE := Lib.hid (fun hh => HTR.out.one (k := k) (by rw [HN.out]; exact hlt) (by rw [HN.out]; exact hh))
        obtain ⟨x1, x2⟩ := at_bd HH.out.bd k
        obtain ⟨x, hx⟩ : ∃ x, b.getD k 0 = x := ⟨_, rfl⟩
        rw [hx] at px HONE x1 x2
        have HX := Lib.hid hx
        have HBX : Hid (Byt (zs ++ [x])) := Lib.hid (by have := byt_rep (n := 1) HBY.out x1 x2; simpa using this)
        have T10 := Lib.hid h10
        clear hk ht htm hT hby own acc hlt h10 hc hx
        go_upto_region 6 with ((at_builtin; refine app8 rfl _ _ rfl w.heap.size _ (zs) rfl ((HO).out.below ((Below.refl _ _).alloc (Nat.le_refl _) _) (Nat.le_refl _)) (some ⟨_, 0, none⟩) 1 1 [x] rfl rfl (has_lit (zs := [x]) rfl (by simp [maxLen])) (t + 1) (by simp; have := HT.out; omega) (by omega) (by have := (HACC).out.size; simp; omega) ?_; intro A4 c4 w4 ho4 hg4 hb4; have HO4 := Lib.hid ho4; have HA4 : Hid (Below w.heap.size w w4) := Lib.hid ((Below.alloc (HACC).out (HACC).out.size _).trans hb4); clear ho4 hg4 hb4))
        obtain ⟨_, _, hbb2, hc⟩ : ∃ (_ : True) (_ : True), bb < w.heap.size ∧ ∀ j, j < n → w4.cell? ⟨bb, off + j, none⟩ = some (.int .u8 (b.getD j 0)) := by
          obtain ⟨b2, o2, e2, h2, h3⟩ := in_at HH.out HA4.out HK.out
          injection e2 with e2
          injection e2 with e3 e4
          subst e3 e4
          exact ⟨trivial, trivial, h2, h3⟩
        have HC4 := Lib.hid hc
        have px := hc k HK.out
        rw [HX.out] at px
        have u1 : IntKind.i64.wrap ((k : Int) + 2) = (k : Int) + 2 := IntWalk.i64_in _ (by omega)
        have u2 : IntKind.i64.wrap ((k : Int) + 1) = (k : Int) + 1 := IntWalk.i64_in _ (by omega)
        have u3 : ((k : Int) + 1).toNat = k + 1 := by omega
        have u4 : ((k : Int) + 2).toNat = k + 2 := by omega
        by_cases c2 : k + 2 < n
        · have q1 : (k : Int) + 2 < n := by omega
          have q2 : decide ((k : Int) + 2 < n) = true := decide_eq_true q1
          have q3 : (k : Int) + 1 < n := by omega
          have q4 : k + 1 < n := by omega
          have py := hc (k + 1) q4
          by_cases hxy : b.getD (k + 1) 0 = x
          · obtain ⟨z1, z2⟩ := at_bd HH.out.bd (k + 2)
            obtain ⟨z, hz⟩ := Int.eq_ofNat_of_zero_le z1
            have HTT := Lib.hid (HTR.out.two (by rw [HN.out]; exact c2) (by rw [hxy, HX.out]) hz)
            rw [HX.out] at HTT
            have HZ := Lib.hid hz
            rw [hxy] at py
            have C2 := Lib.hid c2
            rw [hz] at z1 z2
            clear hc hxy c2 hz
            go_quiet (fail)
            have HOQ := Lib.hid (HO4.out.below (w' := w4.drewN nq) (below_drewN (Below.refl _ _) _) (Nat.le_refl _))
            have HAQ := Lib.hid (HA4.out.trans ((below_drewN (w := w4) (Below.refl _ _) nq).mono HA4.out.size))
            clear px py u2 u3
            generalize w4.drewN nq = wq at *
            go_wp2_with fail
            go_loopw [3, 5] (fun v j wz => ∃ (m : Nat) (B : Option Addr) (d : Nat), m ≤ z + 1 ∧ j = .int .i64 m ∧ v = .slice B (t + 1 + m) d ∧ OwnI wz w.heap.size 5 .u8 (.slice B (t + 1 + m) d) (zs ++ List.replicate (m + 1) x) ∧ Below w.heap.size w wz) (fun _ j _ => z + 1 - (intOf j).toNat)
            case atStart => exact ⟨0, A4, c4, Nat.zero_le _, rfl, rfl, HOQ.out, HAQ.out⟩
            case round =>
              obtain ⟨m, B5, d5, hm, rfl, rfl, own5, acc5⟩ := hrel
              have HO5 := Lib.hid own5
              have HA5 := Lib.hid acc5
              have HM := Lib.hid hm
              obtain ⟨b2, o2, e2, h2, h3⟩ := in_at HH.out HA5.out HK.out
              injection e2 with e2
              injection e2 with e3 e4
              subst e3 e4
              have px := h3 k HK.out
              have pz := h3 (k + 2) C2.out
              rw [HX.out] at px
              rw [HZ.out] at pz
              by_cases hmz : m ≤ z
              · have m1 : (m : Int) ≤ z := by omega
                have HMZ := Lib.hid hmz
                have T10' := T10.out
                clear h3 own5 acc5 hm h2
                have zz : z ≤ 255 := by omega
                have e9 : zs ++ List.replicate (m + 1) x ++ [x] = zs ++ List.replicate (m + 1 + 1) x := rep_snoc
                have HE9 := Lib.hid e9
                have L5 : Hid ((zs ++ List.replicate (m + 1) x).length = t + 1 + m) := Lib.hid (by rw [List.length_append, List.length_replicate, HT.out]; omega)
                clear e9
                go_wp2_with (at_builtin; refine app8 rfl _ _ rfl w.heap.size _ (zs ++ List.replicate (m + 1) x) rfl (HO5.out.below ((Below.refl _ _).alloc (Nat.le_refl _) _) (Nat.le_refl _)) (some ⟨_, 0, none⟩) 1 1 [x] rfl rfl (has_lit (zs := [x]) rfl (by simp [maxLen])) (t + 1 + m + 1) (by rw [L5.out]) (by have := T10.out; have := HMZ.out; omega) (by have := HA5.out.size; simp; omega) ?_; intro A6 c6 w6 ho6 hg6 hb6; have HO6 := Lib.hid ho6; have HA6 : Hid (Below w.heap.size w w6) := Lib.hid ((Below.alloc HA5.out HA5.out.size _).trans hb6); clear ho6 hg6 hb6)
                go_roundw
                case rel => exact ⟨m + 1, A6, c6, by have := HMZ.out; omega, by go_num, rfl, by have := HO6.out; rw [HE9.out] at this; exact this, HA6.out⟩
                case measure => simp [intOf]; have := HMZ.out; omega
              · obtain rfl : m = z + 1 := by omega
                have m1 : ¬ (((z + 1 : Nat) : Int) ≤ z) := by omega
                have m2 : (z : Int) < ((z + 1 : Nat) : Int) := by omega
                clear h3 own5 acc5 hm h2 hmz
                obtain ⟨q, hq⟩ : ∃ q, z + 1 = q := ⟨_, rfl⟩
                rw [hq] at m1 m2 HO5 ⊢
                have HQ := Lib.hid hq
                clear hq
                go_wp2_with fail
                go_roundw
                case rel => exact ⟨k + 3, t + 1 + q, B5, d5, zs ++ List.replicate (q + 1) x, by have := C2.out; omega, by go_num, rfl, by rw [List.length_append, List.length_replicate, HT.out]; omega, by have := T10.out; have := HQ.out; omega, by have := HTT.out; rw [← HQ.out]; exact this, byt_rep HBY.out x1 x2, HO5.out, HA5.out⟩
                case measure => simp [intOf]; have := HK.out; omega
          · have hne : (b.getD (k + 1) 0 == x) = false := by simpa using hxy
            have HTT := Lib.hid (HONE.out (fun hh => hxy hh.2))
            generalize b.getD (k + 1) 0 = y at *
            clear hc hxy c2
            go_quiet (fail)
            have HOQ := Lib.hid (HO4.out.below (w' := w4.drewN nq) (below_drewN (Below.refl _ _) _) (Nat.le_refl _))
            have HAQ := Lib.hid (HA4.out.trans ((below_drewN (w := w4) (Below.refl _ _) nq).mono HA4.out.size))
            clear px py u1 u3
            generalize w4.drewN nq = wq at *
            go_wp2_with fail
            go_roundw
            case rel => exact ⟨k + 1, t + 1, A4, c4, zs ++ [x], HK.out, by go_num, rfl, by rw [List.length_append, HT.out]; rfl, by have := T10.out; omega, HTT.out, HBX.out, HOQ.out, HAQ.out⟩
            case measure => simp [intOf]; have := HK.out; omega
        · have q1 : ¬ (k : Int) + 2 < n := by omega
          have q2 : decide ((k : Int) + 2 < n) = false := decide_eq_false q1
          have HTT : Hid (Tr b (zs ++ [x]) (k + 1)) := Lib.hid (by
            by_cases hh : k + 1 < n ∧ b.getD (k + 1) 0 = x
            · exact Tr.of_none (HTR.out.none (by rw [HN.out]; omega) (by rw [hh.2, HX.out]))
            · exact HONE.out hh)
          clear hc c2
          go_quiet (fail)
          have HOQ := Lib.hid (HO4.out.below (w' := w4.drewN nq) (below_drewN (Below.refl _ _) _) (Nat.le_refl _))
          have HAQ := Lib.hid (HA4.out.trans ((below_drewN (w := w4) (Below.refl _ _) nq).mono HA4.out.size))
          clear px u1 u3
          generalize w4.drewN nq = wq at *
          go_wp2_with fail
          go_roundw
          case rel => exact ⟨k + 1, t + 1, A4, c4, zs ++ [x], HK.out, by go_num, rfl, by rw [List.length_append, HT.out]; rfl, by have := T10.out; omega, HTT.out, HBX.out, HOQ.out, HAQ.out⟩
          case measure => simp [intOf]; have := HK.out; omega
      · have k1 : (k : Int) < n := by omega
        have t9 : ¬ (t : Int) ≤ 10125 := by omega
        have HUN : Hid (un b = if t ≤ 10125 ∧ cn zs 0 = b then some zs else none) := Lib.hid (by rw [if_neg (fun hh => h10 hh.1)]; exact hT.long (by omega))
        clear hk ht htm hT hby own acc hlt h10
        go_wp2_with fail
        go_ret
        exact ⟨_, t, d, zs, rfl, HT.out, HO.out, HBY.out, HTM.out, HUN.out, HACC.out⟩
    · obtain rfl : k = n := by omega
      have k1 : ¬ (k : Int) < k := by omega
      have HUN : Hid (un b = if t ≤ 10125 ∧ cn zs 0 = b then some zs else none) := Lib.hid (by
        by_cases h10 : t ≤ 10125
        · rw [hT.done (by rw [HN.out]; omega) (by rw [ht]; exact h10)]
          by_cases hE : cn zs 0 = b
          · rw [if_pos hE, if_pos ⟨h10, hE⟩]
          · rw [if_neg hE, if_neg (fun hh => hE hh.2)]
        · rw [if_neg (fun hh => h10 hh.1)]; exact hT.long (by omega))
      clear hk ht htm hT hby own acc hlt
      go_wp2_with fail
      go_ret
      exact ⟨_, t, d, zs, rfl, HT.out, HO.out, HBY.out, HTM.out, HUN.out, HACC.out⟩
end Go.Proofs.Ytbfodmckgjeoaaa.fiW
