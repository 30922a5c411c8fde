/- Pieces: the program's and the reference's. -/
import Derived.Test.YthckpenindchlaaSpW
namespace Go.Proofs.Ythckpenindchlaa.spW
set_option maxRecDepth 100000
open Go.RowKit Go.Proofs.Ythckpenindchlaa.base Go.Proofs.Ythckpenindchlaa.mbW
set_option linter.unusedVariables false
set_option linter.unusedSimpArgs false
set_option maxRecDepth 100000
/-- What the functions answer. -/
def PiP (zs : List Int) (b : Int) (w : World) (e : Ending) (w' : World) : Prop := ∃ (A : Option Addr) (n c : Nat), e = .returned (.tuple #[.slice A n c, .int .i64 (pieE zs b)]) ∧ n = (pieV zs b).length ∧ PE.Own w' w.heap.size (.slice A n c) (pieV zs b) ∧ Below w.heap.size w w'
theorem pi_no {zs : List Int} {b e : Int} {w w' : World} (h : pieE zs b = e ∧ pieV zs b = []) (hb : Below w.heap.size w w') : PiP zs b w (.returned (.tuple #[.slice none 0 0, .int .i64 e])) w' :=
  ⟨none, 0, 0, by rw [h.1], by rw [h.2]; rfl, by rw [h.2]; exact Enc.Own.nil _ _, hb⟩
theorem lit1 (w : World) (p : Pc) {g : Nat} (hg : w.heap.size = g) : PE.Has (w.alloc (.cells #[.int .i64 p.m, .int .i64 p.o, .int .i64 p.r] 46)) (some ⟨g, 0, none⟩) [p] := Enc.lit PE w [p] hg
set_option maxHeartbeats 6400000 in
theorem Pieces_any (zs : List Int) (P : Option Addr) (m d : Nat) (b : Int) (w : World) (hR : ZsB w P m d zs) (hb1 : -9223372036854775808 ≤ b) (hb2 : b ≤ 9223372036854775807) :
    Calls Try.prog 9 #[.slice P m d, .int .i64 b] w (PiP zs b w) := by
  have HR := Lib.hid hR
  have HL := Lib.hid hR.l
  have m9 : (m : Int) ≤ 9223372036854775807 := by have := hR.c1; have := hR.c2; omega
  clear hR
  go_enter Try.func9, Try.ntmps9
  go_wp2_with fail
  refine (checkSizes_any zs P m d w HR.out).mono ?_
  rintro e _ ⟨rfl, rfl⟩
  rename World => w
  by_cases hs : szE zs = 0
  case neg =>
    have HP := Lib.hid (pie_sz b hs)
    have hbn : (szE zs != 0) = true := by simpa using hs
    generalize szE zs = v at *
    clear hs
    go_wp2_with fail
    go_ret2
    exact pi_no HP.out (Below.refl _ _)
  have HS := Lib.hid hs
  have HZ := Lib.hid (sz_zero hs)
  rw [hs]
  clear hs
  by_cases hbl : blB b = true
  case neg =>
    have HP := Lib.hid (pie_bl HS.out (b := b) (by simpa using hbl))
    have hn : ¬ (16 ≤ b ∧ b ≤ 4096) := fun h => hbl ((blB_iff b).2 h)
    clear hbl
    by_cases c1 : b < 16
    · clear hn
      go_wp2_with fail
      go_ret2
      exact pi_no HP.out (Below.refl _ _)
    · have c2 : 4096 < b := by omega
      clear hn
      go_wp2_with fail
      go_ret2
      exact pi_no HP.out (Below.refl _ _)
  have HBL := Lib.hid hbl
  have b1 := ((blB_iff b).1 hbl).1
  have b2 := ((blB_iff b).1 hbl).2
  have HB := Lib.hid (And.intro b1 b2)
  clear hbl
  go_wp2_with fail
  go_loopw [7, 24] (fun lv iv wr => ∃ (k np : Nat) (A : Option Addr) (c : Nat), k ≤ m ∧ iv = .int .i64 (k : Int) ∧ lv = .slice A np c ∧ np = (pcsT zs b k).length ∧ PE.Own wr w.heap.size (.slice A np c) (pcsT zs b k) ∧ Below w.heap.size w wr) (fun _ iv _ => m - (intOf iv).toNat)
  case atStart => exact ⟨0, 0, none, 0, Nat.zero_le _, rfl, rfl, rfl, Enc.Own.nil _ _, Below.refl _ _⟩
  case round =>
    obtain ⟨k, np0, A, c, hk, rfl, rfl, hnp, own, acc⟩ := hrel
    rename World => wr
    have HO := Lib.hid own
    have HACC := Lib.hid acc
    have HNP := Lib.hid hnp
    by_cases hlt : k < m
    · obtain ⟨bb, off, rfl, hbb, hc⟩ := zsAt HR.out hlt
      have HC := Lib.hid (fun w' (h : Below w.heap.size w w') => hc k hlt w' h)
      have x0 := hc k hlt wr acc
      have HBB := Lib.hid hbb
      have ltb : bb < wr.heap.size := Nat.lt_of_lt_of_le hbb acc.size
      have HK := Lib.hid hlt
      have k1 : (k : Int) < m := by omega
      have k0 : 0 ≤ (k : Int) := by omega
      have HZ1 := Lib.hid (sz_one HS.out (k := k) (by rw [HL.out]; exact hlt))
      have HSM := Lib.hid (pcs_small HS.out b1 (k := k + 1) (by rw [HL.out]; omega))
      have HPT : Hid (pcsT zs b (k + 1) = pcsT zs b k ++ pcs1 k (zs.getD k 0) b (cnt (zs.getD k 0) b)) := Lib.hid rfl
      obtain ⟨zk, hzk⟩ : ∃ z, zs.getD k 0 = z := ⟨_, rfl⟩
      rw [hzk] at x0 HZ1 HPT HC
      have z0 := HZ1.out.1
      have z9 := HZ1.out.2
      clear hk hlt own acc hc hnp hzk hbb
      go_wp2_with fail
      go_loopw [7, 10] (fun lv av wq => ∃ (t np : Nat) (A : Option Addr) (c : Nat), t ≤ cnt zk b ∧ av = .int .i64 ((t : Int) * b) ∧ lv = .slice A np c ∧ np = (pcsT zs b k ++ pcs1 k zk b t).length ∧ PE.Own wq w.heap.size (.slice A np c) (pcsT zs b k ++ pcs1 k zk b t) ∧ Below w.heap.size w wq) (fun _ av _ => (zk + b - intOf av).toNat)
      case atStart => exact ⟨0, np0, A, c, Nat.zero_le _, by simp, rfl, by rw [HNP.out]; simp [pcs1], by simpa [pcs1] using HO.out, HACC.out⟩
      case round =>
        clear HO HACC HNP x0 ltb
        obtain ⟨t, np, A, c, ht, rfl, rfl, hnp, own, acc⟩ := hrel
        rename World => wq
        have HO := Lib.hid own
        have HACC := Lib.hid acc
        have HNP := Lib.hid hnp
        have hct := lt_cnt (z := zk) (b := b) (by omega) t
        have htb : 0 ≤ (t : Int) * b := Int.mul_nonneg (by omega) (by omega)
        by_cases hlt : t < cnt zk b
        · have c1 := hct.2 hlt
          have HLT := Lib.hid hlt
          have HPS : Hid (pcsT zs b k ++ pcs1 k zk b (t + 1) = (pcsT zs b k ++ pcs1 k zk b t) ++ [pc1 k zk b t]) := Lib.hid (by rw [pcs1_snoc, List.append_assoc])
          have HPN : Hid (np < 600) := Lib.hid (by
            have h1 := HSM.out
            rw [HPT.out, List.length_append, pcs1_len] at h1
            rw [hnp, List.length_append, pcs1_len]; omega)
          have HPL : Hid ((pcsT zs b k ++ pcs1 k zk b t).length = np) := Lib.hid hnp.symm
          have HT1 : Hid (((t + 1 : Nat) : Int) * b = (t : Int) * b + b) := Lib.hid (by rw [Int.natCast_add, Int.add_mul]; simp)
          have HP1 : Hid (pc1 k zk b t = ⟨k, (t : Int) * b, min b (zk - (t : Int) * b)⟩) := Lib.hid rfl
          have O4 := Lib.hid (own.past (mb_new wq (.cells #[.int .i64 (k : Int), .int .i64 ((t : Int) * b), .int .i64 (min b (zk - (t : Int) * b))] 46)))
          have B4 := Lib.hid (mb_bb acc (mb_new wq (.cells #[.int .i64 (k : Int), .int .i64 ((t : Int) * b), .int .i64 (min b (zk - (t : Int) * b))] 46)))
          have HL4 := Lib.hid (lit1 wq (pc1 k zk b t) rfl)
          rw [HP1.out] at HL4
          obtain ⟨u, hu⟩ : ∃ u, min b (zk - (t : Int) * b) = u := ⟨_, rfl⟩
          rw [hu] at O4 B4 HL4 HP1
          generalize hps : pcsT zs b k ++ pcs1 k zk b t = ps at *
          generalize hx : (t : Int) * b = x at *
          clear ht hlt own acc hnp hct HO HACC hps hx
          by_cases cm : b ≤ zk - x
          · have hub : u = b := by rw [← hu, Int.min_eq_left cm]
            clear hu
            subst hub
            go_wp2_with (at_builtin; refine Enc.app PE IP (by decide) (by rfl) _ _ rfl w.heap.size _ ps rfl O4.out ⟨wq.heap.size, 0, none⟩ 1 1 [_] rfl rfl HL4.out (by rw [HPL.out]; have := HPN.out; omega) B4.out.size (np + 1) (by rw [HPL.out]) ?_; intro A7 c7 w7 ho7 hg7 hb7)
            go_roundw
            case rel => exact ⟨t + 1, np + 1, A7, c7, HLT.out, by rw [HT1.out], rfl, by rw [HPS.out, List.length_append, HPL.out]; rfl, by rw [HPS.out, HP1.out]; exact ho7, B4.out.trans hb7⟩
            case measure => simp [intOf]; omega
          · have hub : u = zk - x := by rw [← hu, Int.min_eq_right (by omega)]
            clear hu
            subst hub
            go_wp2_with (at_builtin; refine Enc.app PE IP (by decide) (by rfl) _ _ rfl w.heap.size _ ps rfl O4.out ⟨wq.heap.size, 0, none⟩ 1 1 [_] rfl rfl HL4.out (by rw [HPL.out]; have := HPN.out; omega) B4.out.size (np + 1) (by rw [HPL.out]) ?_; intro A7 c7 w7 ho7 hg7 hb7)
            go_roundw
            case rel => exact ⟨t + 1, np + 1, A7, c7, HLT.out, by rw [HT1.out], rfl, by rw [HPS.out, List.length_append, HPL.out]; rfl, by rw [HPS.out, HP1.out]; exact ho7, B4.out.trans hb7⟩
            case measure => simp [intOf]; omega
        · have c1 : ¬ (t : Int) * b < zk := fun h => hlt (hct.1 h)
          obtain rfl : t = cnt zk b := by omega
          generalize hx : (((cnt zk b : Nat) : Int)) * b = x at *
          clear ht hlt own acc hnp hct
          go_wp2_with fail
          go_roundw
          case rel => exact ⟨k + 1, np, A, c, HK.out, by go_num, rfl, by rw [HPT.out]; exact HNP.out, by rw [HPT.out]; exact HO.out, HACC.out⟩
          case measure => simp [intOf]; have := HK.out; omega
    · have k1 : ¬ (k : Int) < m := by omega
      obtain rfl : k = m := by omega
      have HP := Lib.hid (pie_ok HS.out HBL.out)
      rw [HL.out] at HP
      clear hk hlt own acc hnp
      go_wp2_with fail
      go_ret2
      exact ⟨A, np0, c, by rw [HP.out.1]; rfl, by rw [HP.out.2]; exact HNP.out, by rw [HP.out.2]; exact HO.out, HACC.out⟩
end Go.Proofs.Ythckpenindchlaa.spW
