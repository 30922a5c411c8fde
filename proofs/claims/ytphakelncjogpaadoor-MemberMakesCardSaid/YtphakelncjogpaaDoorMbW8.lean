/- What is great; members compared. -/
import Derived.Test.YtphakelncjogpaaDoorMbW7
namespace Go.Proofs.YtphakelncjogpaaDoor.mbW
set_option maxRecDepth 100000
open Go.RowKit Go.Proofs.YtphakelncjogpaaDoor.base Go.Proofs.YtphakelncjogpaaDoor.shP Go.Proofs.YtphakelncjogpaaDoor.shW
set_option linter.unusedVariables false
set_option linter.unusedSimpArgs false
set_option maxRecDepth 100000
def GrM (ms : List Mb) (m : Nat) (e : Ending) : Prop := ∃ b : Bool, e = .returned (.bool b) ∧ (b = false → m ≤ 30 ∧ ∀ k, k < m → (ms.getD k mb0).nm.size ≤ 100 ∧ (ms.getD k mb0).r.n ≤ 10000)
theorem snocG {ms : List Mb} {k : Nat} (h : ∀ j, j < k → (ms.getD j mb0).nm.size ≤ 100 ∧ (ms.getD j mb0).r.n ≤ 10000) {q : Mb} (hq : ms.getD k mb0 = q) (h1 : q.nm.size ≤ 100) (h2 : q.r.n ≤ 10000) : ∀ j, j < k + 1 → (ms.getD j mb0).nm.size ≤ 100 ∧ (ms.getD j mb0).r.n ≤ 10000 := by
  intro j hj
  rcases Nat.lt_or_ge j k with h' | h'
  · exact h j h'
  · have : j = k := by omega
    subst this
    rw [hq]; exact ⟨h1, h2⟩
set_option maxHeartbeats 3200000 in
theorem Great_any (ms : List Mb) (P : Option Addr) (m d : Nat) (w : World) (hR : MemB w P m d ms) :
    Calls Tryd.prog 9 #[.slice P m d] w fun e w' => GrM ms m e ∧ w' = w := by
  have HR := Lib.hid hR
  have HL := Lib.hid hR.l
  have m1 : (m : Int) ≤ 9223372036854775807 := by have := hR.c1; have := hR.c2; omega
  clear hR
  go_enter Tryd.func9, Tryd.ntmps9
  go_wp2_with fail
  go_loopw [3] (fun iv wr => ∃ k : Nat, k ≤ m ∧ k ≤ 31 ∧ iv = .int .i64 (k : Int) ∧ (∀ j, j < k → (ms.getD j mb0).nm.size ≤ 100 ∧ (ms.getD j mb0).r.n ≤ 10000) ∧ wr = w) (fun iv _ => m - (intOf iv).toNat)
  case atStart => exact ⟨0, Nat.zero_le _, by omega, rfl, by intro j hj; omega, rfl⟩
  case round =>
    obtain ⟨k, hk, hk31, rfl, hs, rfl⟩ := hrel
    rename World => w
    have HS := Lib.hid hs
    by_cases hlt : k < m
    · have k1 : (k : Int) < m := by omega
      have k0 : 0 ≤ (k : Int) := by omega
      by_cases h30 : k ≤ 30
      · have k3 : (k : Int) ≤ 30 := by omega
        obtain ⟨b, off, rfl, hb⟩ := HR.out.h.some (by rw [HL.out]; omega)
        obtain ⟨x1, x2⟩ := memCell HR.out hlt (Below.refl w.heap.size w)
        have HMI := Lib.hid (memIn HR.out hlt)
        have HK := Lib.hid (And.intro hlt h30)
        generalize hq : ms.getD k mb0 = q at *
        obtain ⟨nm, rA, rn, rc, rb⟩ := q
        have HQ := Lib.hid hq
        have r9 : (rn : Int) ≤ 9223372036854775807 := by have := HMI.out.c1; have := HMI.out.c2; dsimp only at *; omega
        dsimp only at x1 x2
        clear hk hk31 hs hlt h30 hq HMI
        by_cases c1 : (100 : Int) < nm.size
        · (go_wp2_with fail; go_ret; exact ⟨⟨true, rfl, fun h => by cases h⟩, rfl⟩)
        · by_cases c2 : (10000 : Int) < rn
          · (go_wp2_with fail; go_ret; exact ⟨⟨true, rfl, fun h => by cases h⟩, rfl⟩)
          · have HC := Lib.hid (And.intro c1 c2)
            by_cases c3 : (600 : Int) < rn
            · by_cases c4 : (rn : Int) < 8000
              · (go_wp2_with fail; go_ret; exact ⟨⟨true, rfl, fun h => by cases h⟩, rfl⟩)
              · go_wp2_with fail
                go_roundw
                case rel => exact ⟨k + 1, HK.out.1, by have := HK.out.2; omega, by go_num, snocG HS.out HQ.out (by have := HC.out; dsimp only; omega) (by have := HC.out; dsimp only; omega), by trivial⟩
                case measure => simp [intOf]; have := HK.out; omega
            · go_wp2_with fail
              go_roundw
              case rel => exact ⟨k + 1, HK.out.1, by have := HK.out.2; omega, by go_num, snocG HS.out HQ.out (by have := HC.out; dsimp only; omega) (by have := HC.out; dsimp only; omega), by trivial⟩
              case measure => simp [intOf]; have := HK.out; omega
      · have k3 : ¬ (k : Int) ≤ 30 := by omega
        have m3 : (30 : Int) < m := by omega
        clear hk hk31 hs hlt h30
        (go_wp2_with fail; go_ret; exact ⟨⟨true, rfl, fun h => by cases h⟩, rfl⟩)
    · have k1 : ¬ (k : Int) < m := by omega
      obtain rfl : k = m := by omega
      by_cases h30 : k ≤ 30
      · have m3 : ¬ (30 : Int) < k := by omega
        have H30 := Lib.hid h30
        clear hk hk31 hs hlt h30
        go_wp2_with fail
        go_ret
        exact ⟨⟨false, rfl, fun _ => ⟨H30.out, HS.out⟩⟩, rfl⟩
      · have m3 : (30 : Int) < k := by omega
        clear hk hk31 hs hlt h30
        (go_wp2_with fail; go_ret; exact ⟨⟨true, rfl, fun h => by cases h⟩, rfl⟩)
set_option maxHeartbeats 6400000 in
theorem SameMembers_any (ms ts : List Mb) (P Q : Option Addr) (m d c : Nat) (w : World) (hR : MemB w P m d ms) (hT : MemB w Q m c ts) (has : AsM ms ts) (hm30 : m ≤ 30) :
    Calls Tryd.prog 16 #[.slice P m d, .slice Q m c] w fun e w' => e = .returned (.bool true) ∧ Below w.heap.size w w' := by
  have m9 : (m : Int) ≤ 30 := by omega
  have HR := Lib.hid hR
  have HT := Lib.hid hT
  have HL := Lib.hid hR.l
  have HLT := Lib.hid hT.l
  have HAS := Lib.hid has
  clear hR hT has hm30
  go_enter Tryd.func16, Tryd.ntmps16
  go_wp2_with fail
  go_loopw [5] (fun iv wr => ∃ k : Nat, k ≤ m ∧ iv = .int .i64 (k : Int) ∧ Below w.heap.size w wr) (fun iv _ => m - (intOf iv).toNat)
  case atStart => exact ⟨0, Nat.zero_le _, rfl, Below.refl _ _⟩
  case round =>
    obtain ⟨k, hk, rfl, hw⟩ := hrel
    rename World => wr
    have HW := Lib.hid hw
    by_cases hlt : k < m
    · obtain ⟨b, off, rfl, hb⟩ := HR.out.h.some (by rw [HL.out]; omega)
      obtain ⟨b2, off2, rfl, hb2⟩ := HT.out.h.some (by rw [HLT.out]; omega)
      have XA := Lib.hid (fun x' (h : Below w.heap.size w x') => memCell HR.out hlt h)
      have XB := Lib.hid (fun x' (h : Below w.heap.size w x') => memCell HT.out hlt h)
      have HMA := Lib.hid (memIn HR.out hlt)
      have HMB := Lib.hid (memIn HT.out hlt)
      obtain ⟨e1, e2, e3⟩ := HAS.out k (by rw [HLT.out]; exact hlt)
      have HK := Lib.hid hlt
      have k1 : (k : Int) < m := by omega
      have k0 : 0 ≤ (k : Int) := by omega
      generalize ms.getD k mb0 = q at *
      generalize ts.getD k mb0 = t at *
      obtain ⟨nm, rA, rn, rc, rb⟩ := q
      obtain ⟨nm2, rA2, rn2, rc2, rb2⟩ := t
      dsimp only at XA XB HMA HMB e1 e2 e3
      subst e1 e2 e3
      clear hk hlt hw hb hb2
      go_upto_region 6 with fail
      (have RD := drawn_roads (S := fun x' => Below w.heap.size w x') (fun _ n h => below_drewN h n)); refine region_ord _ Drawn RD HW.out.drew (by kernel_rfl) ?_; intro ops Q' hops hPQ hN; (have HNS : Hid (Region.noSelect ops = true) := Lib.hid (by rw [hops]; kernel_rfl)); (have hsz : ops.size = 26 := (by rw [hops]; rfl)); have HOP := Lib.hid hops; have HPQ := Lib.hid hPQ; have HN := Lib.hid hN; rw [hsz]; clear hops hsz hPQ hN
      refine ord_take RD 0 (at_list (by rw [HOP.out]; rfl)) HNS.out HPQ.out (by rw [HOP.out]; kernel_rfl) (by rw [HOP.out]; kernel_rfl) (by rw [HOP.out]; rfl) (fun K hK => ?_); apply Exists.intro; refine ⟨fun W hSW => ?_, hK _ ?_⟩; (focus ((try dsimp only at hSW); go_simp; try with_reducible rfl)); clear hK K; (try simp only [Act.put, List.setIfInBounds_toArray, List.set_cons_zero, List.set_cons_succ])
      refine ord_take RD 1 (at_list (by rw [HOP.out]; rfl)) HNS.out HPQ.out (by rw [HOP.out]; kernel_rfl) (by rw [HOP.out]; kernel_rfl) (by rw [HOP.out]; rfl) (fun K hK => ?_); apply Exists.intro; refine ⟨fun W hSW => ?_, hK _ ?_⟩; (focus ((try dsimp only at hSW); go_simp; try with_reducible rfl)); clear hK K; (try simp only [Act.put, List.setIfInBounds_toArray, List.set_cons_zero, List.set_cons_succ])
      refine ord_take RD 2 (at_list (by rw [HOP.out]; rfl)) HNS.out HPQ.out (by rw [HOP.out]; kernel_rfl) (by rw [HOP.out]; kernel_rfl) (by rw [HOP.out]; rfl) (fun K hK => ?_); apply Exists.intro; refine ⟨fun W hSW => ?_, hK _ ?_⟩; (focus ((try dsimp only at hSW); go_simp; try with_reducible rfl)); clear hK K; (try simp only [Act.put, List.setIfInBounds_toArray, List.set_cons_zero, List.set_cons_succ])
      refine ord_take RD 3 (at_list (by rw [HOP.out]; rfl)) HNS.out HPQ.out (by rw [HOP.out]; kernel_rfl) (by rw [HOP.out]; kernel_rfl) (by rw [HOP.out]; rfl) (fun K hK => ?_); apply Exists.intro; refine ⟨fun W hSW => ?_, hK _ ?_⟩; (focus ((try dsimp only at hSW); go_simp; try with_reducible rfl)); clear hK K; (try simp only [Act.put, List.setIfInBounds_toArray, List.set_cons_zero, List.set_cons_succ])
      refine ord_take RD 4 (at_list (by rw [HOP.out]; rfl)) HNS.out HPQ.out (by rw [HOP.out]; kernel_rfl) (by rw [HOP.out]; kernel_rfl) (by rw [HOP.out]; rfl) (fun K hK => ?_); apply Exists.intro; refine ⟨fun W hSW => ?_, hK _ ?_⟩; (focus ((try dsimp only at hSW); have y1 := (XA.out _ hSW).1; go_simp; try with_reducible rfl)); clear hK K; (try simp only [Act.put, List.setIfInBounds_toArray, List.set_cons_zero, List.set_cons_succ])
      refine ord_take RD 5 (at_list (by rw [HOP.out]; rfl)) HNS.out HPQ.out (by rw [HOP.out]; kernel_rfl) (by rw [HOP.out]; kernel_rfl) (by rw [HOP.out]; rfl) (fun K hK => ?_); apply Exists.intro; refine ⟨fun W hSW => ?_, hK _ ?_⟩; (focus ((try dsimp only at hSW); go_simp; try with_reducible rfl)); clear hK K; (try simp only [Act.put, List.setIfInBounds_toArray, List.set_cons_zero, List.set_cons_succ])
      refine ord_take RD 6 (at_list (by rw [HOP.out]; rfl)) HNS.out HPQ.out (by rw [HOP.out]; kernel_rfl) (by rw [HOP.out]; kernel_rfl) (by rw [HOP.out]; rfl) (fun K hK => ?_); apply Exists.intro; refine ⟨fun W hSW => ?_, hK _ ?_⟩; (focus ((try dsimp only at hSW); go_simp; try with_reducible rfl)); clear hK K; (try simp only [Act.put, List.setIfInBounds_toArray, List.set_cons_zero, List.set_cons_succ])
      refine ord_take RD 7 (at_list (by rw [HOP.out]; rfl)) HNS.out HPQ.out (by rw [HOP.out]; kernel_rfl) (by rw [HOP.out]; kernel_rfl) (by rw [HOP.out]; rfl) (fun K hK => ?_); apply Exists.intro; refine ⟨fun W hSW => ?_, hK _ ?_⟩; (focus ((try dsimp only at hSW); go_simp; try with_reducible rfl)); clear hK K; (try simp only [Act.put, List.setIfInBounds_toArray, List.set_cons_zero, List.set_cons_succ])
      refine ord_take RD 8 (at_list (by rw [HOP.out]; rfl)) HNS.out HPQ.out (by rw [HOP.out]; kernel_rfl) (by rw [HOP.out]; kernel_rfl) (by rw [HOP.out]; rfl) (fun K hK => ?_); apply Exists.intro; refine ⟨fun W hSW => ?_, hK _ ?_⟩; (focus ((try dsimp only at hSW); go_simp; try with_reducible rfl)); clear hK K; (try simp only [Act.put, List.setIfInBounds_toArray, List.set_cons_zero, List.set_cons_succ])
      refine ord_take RD 9 (at_list (by rw [HOP.out]; rfl)) HNS.out HPQ.out (by rw [HOP.out]; kernel_rfl) (by rw [HOP.out]; kernel_rfl) (by rw [HOP.out]; rfl) (fun K hK => ?_); apply Exists.intro; refine ⟨fun W hSW => ?_, hK _ ?_⟩; (focus ((try dsimp only at hSW); have y1 := (XB.out _ hSW).1; go_simp; try with_reducible rfl)); clear hK K; (try simp only [Act.put, List.setIfInBounds_toArray, List.set_cons_zero, List.set_cons_succ])
      refine ord_take RD 10 (at_list (by rw [HOP.out]; rfl)) HNS.out HPQ.out (by rw [HOP.out]; kernel_rfl) (by rw [HOP.out]; kernel_rfl) (by rw [HOP.out]; rfl) (fun K hK => ?_); apply Exists.intro; refine ⟨fun W hSW => ?_, hK _ ?_⟩; (focus ((try dsimp only at hSW); go_simp; try with_reducible rfl)); clear hK K; (try simp only [Act.put, List.setIfInBounds_toArray, List.set_cons_zero, List.set_cons_succ])
      refine ord_take RD 11 (at_list (by rw [HOP.out]; rfl)) HNS.out HPQ.out (by rw [HOP.out]; kernel_rfl) (by rw [HOP.out]; kernel_rfl) (by rw [HOP.out]; rfl) (fun K hK => ?_); apply Exists.intro; refine ⟨fun W hSW => ?_, hK _ ?_⟩; (focus ((try dsimp only at hSW); go_simp; try with_reducible rfl)); clear hK K; (try simp only [Act.put, List.setIfInBounds_toArray, List.set_cons_zero, List.set_cons_succ])
      refine ord_take RD 12 (at_list (by rw [HOP.out]; rfl)) HNS.out HPQ.out (by rw [HOP.out]; kernel_rfl) (by rw [HOP.out]; kernel_rfl) (by rw [HOP.out]; rfl) (fun K hK => ?_); apply Exists.intro; refine ⟨fun W hSW => ?_, hK _ ?_⟩; (focus ((try dsimp only at hSW); go_simp; try with_reducible rfl)); clear hK K; (try simp only [Act.put, List.setIfInBounds_toArray, List.set_cons_zero, List.set_cons_succ])
      refine ord_take RD 13 (at_list (by rw [HOP.out]; rfl)) HNS.out HPQ.out (by rw [HOP.out]; kernel_rfl) (by rw [HOP.out]; kernel_rfl) (by rw [HOP.out]; rfl) (fun K hK => ?_); apply Exists.intro; refine ⟨fun W hSW => ?_, hK _ ?_⟩; (focus ((try dsimp only at hSW); go_simp; try with_reducible rfl)); clear hK K; (try simp only [Act.put, List.setIfInBounds_toArray, List.set_cons_zero, List.set_cons_succ])
      refine ord_take RD 14 (at_list (by rw [HOP.out]; rfl)) HNS.out HPQ.out (by rw [HOP.out]; kernel_rfl) (by rw [HOP.out]; kernel_rfl) (by rw [HOP.out]; rfl) (fun K hK => ?_); apply Exists.intro; refine ⟨fun W hSW => ?_, hK _ ?_⟩; (focus ((try dsimp only at hSW); go_simp; try with_reducible rfl)); clear hK K; (try simp only [Act.put, List.setIfInBounds_toArray, List.set_cons_zero, List.set_cons_succ])
      refine ord_take RD 15 (at_list (by rw [HOP.out]; rfl)) HNS.out HPQ.out (by rw [HOP.out]; kernel_rfl) (by rw [HOP.out]; kernel_rfl) (by rw [HOP.out]; rfl) (fun K hK => ?_); apply Exists.intro; refine ⟨fun W hSW => ?_, hK _ ?_⟩; (focus ((try dsimp only at hSW); go_simp; try with_reducible rfl)); clear hK K; (try simp only [Act.put, List.setIfInBounds_toArray, List.set_cons_zero, List.set_cons_succ])
      refine ord_take RD 16 (at_list (by rw [HOP.out]; rfl)) HNS.out HPQ.out (by rw [HOP.out]; kernel_rfl) (by rw [HOP.out]; kernel_rfl) (by rw [HOP.out]; rfl) (fun K hK => ?_); apply Exists.intro; refine ⟨fun W hSW => ?_, hK _ ?_⟩; (focus ((try dsimp only at hSW); have y1 := (XA.out _ hSW).2; go_simp; try with_reducible rfl)); clear hK K; (try simp only [Act.put, List.setIfInBounds_toArray, List.set_cons_zero, List.set_cons_succ])
      refine ord_take RD 17 (at_list (by rw [HOP.out]; rfl)) HNS.out HPQ.out (by rw [HOP.out]; kernel_rfl) (by rw [HOP.out]; kernel_rfl) (by rw [HOP.out]; rfl) (fun K hK => ?_); apply Exists.intro; refine ⟨fun W hSW => ?_, hK _ ?_⟩; (focus ((try dsimp only at hSW); (have cv := conv8 (n := rn2) (c := rc) (HMA.out.h.below hSW (Nat.le_refl _)) HMA.out.e); go_simp; try with_reducible rfl)); clear hK K; (try simp only [Act.put, List.setIfInBounds_toArray, List.set_cons_zero, List.set_cons_succ])
      refine ord_take RD 18 (at_list (by rw [HOP.out]; rfl)) HNS.out HPQ.out (by rw [HOP.out]; kernel_rfl) (by rw [HOP.out]; kernel_rfl) (by rw [HOP.out]; rfl) (fun K hK => ?_); apply Exists.intro; refine ⟨fun W hSW => ?_, hK _ ?_⟩; (focus ((try dsimp only at hSW); go_simp; try with_reducible rfl)); clear hK K; (try simp only [Act.put, List.setIfInBounds_toArray, List.set_cons_zero, List.set_cons_succ])
      refine ord_take RD 19 (at_list (by rw [HOP.out]; rfl)) HNS.out HPQ.out (by rw [HOP.out]; kernel_rfl) (by rw [HOP.out]; kernel_rfl) (by rw [HOP.out]; rfl) (fun K hK => ?_); apply Exists.intro; refine ⟨fun W hSW => ?_, hK _ ?_⟩; (focus ((try dsimp only at hSW); go_simp; try with_reducible rfl)); clear hK K; (try simp only [Act.put, List.setIfInBounds_toArray, List.set_cons_zero, List.set_cons_succ])
      refine ord_take RD 20 (at_list (by rw [HOP.out]; rfl)) HNS.out HPQ.out (by rw [HOP.out]; kernel_rfl) (by rw [HOP.out]; kernel_rfl) (by rw [HOP.out]; rfl) (fun K hK => ?_); apply Exists.intro; refine ⟨fun W hSW => ?_, hK _ ?_⟩; (focus ((try dsimp only at hSW); go_simp; try with_reducible rfl)); clear hK K; (try simp only [Act.put, List.setIfInBounds_toArray, List.set_cons_zero, List.set_cons_succ])
      refine ord_take RD 21 (at_list (by rw [HOP.out]; rfl)) HNS.out HPQ.out (by rw [HOP.out]; kernel_rfl) (by rw [HOP.out]; kernel_rfl) (by rw [HOP.out]; rfl) (fun K hK => ?_); apply Exists.intro; refine ⟨fun W hSW => ?_, hK _ ?_⟩; (focus ((try dsimp only at hSW); go_simp; try with_reducible rfl)); clear hK K; (try simp only [Act.put, List.setIfInBounds_toArray, List.set_cons_zero, List.set_cons_succ])
      refine ord_take RD 22 (at_list (by rw [HOP.out]; rfl)) HNS.out HPQ.out (by rw [HOP.out]; kernel_rfl) (by rw [HOP.out]; kernel_rfl) (by rw [HOP.out]; rfl) (fun K hK => ?_); apply Exists.intro; refine ⟨fun W hSW => ?_, hK _ ?_⟩; (focus ((try dsimp only at hSW); have y1 := (XB.out _ hSW).2; go_simp; try with_reducible rfl)); clear hK K; (try simp only [Act.put, List.setIfInBounds_toArray, List.set_cons_zero, List.set_cons_succ])
      refine ord_take RD 23 (at_list (by rw [HOP.out]; rfl)) HNS.out HPQ.out (by rw [HOP.out]; kernel_rfl) (by rw [HOP.out]; kernel_rfl) (by rw [HOP.out]; rfl) (fun K hK => ?_); apply Exists.intro; refine ⟨fun W hSW => ?_, hK _ ?_⟩; (focus ((try dsimp only at hSW); (have cv := conv8 (n := rn2) (c := rc2) (HMB.out.h.below hSW (Nat.le_refl _)) HMB.out.e); go_simp; try with_reducible rfl)); clear hK K; (try simp only [Act.put, List.setIfInBounds_toArray, List.set_cons_zero, List.set_cons_succ])
      refine ord_take RD 24 (at_list (by rw [HOP.out]; rfl)) HNS.out HPQ.out (by rw [HOP.out]; kernel_rfl) (by rw [HOP.out]; kernel_rfl) (by rw [HOP.out]; rfl) (fun K hK => ?_); apply Exists.intro; refine ⟨fun W hSW => ?_, hK _ ?_⟩; (focus ((try dsimp only at hSW); go_simp; try with_reducible rfl)); clear hK K; (try simp only [Act.put, List.setIfInBounds_toArray, List.set_cons_zero, List.set_cons_succ])
      refine ord_take RD 25 (at_list (by rw [HOP.out]; rfl)) HNS.out HPQ.out (by rw [HOP.out]; kernel_rfl) (by rw [HOP.out]; kernel_rfl) (by rw [HOP.out]; rfl) (fun K hK => ?_); apply Exists.intro; refine ⟨fun W hSW => ?_, hK _ ?_⟩; (focus ((try dsimp only at hSW); go_simp; try with_reducible rfl)); clear hK K; (try simp only [Act.put, List.setIfInBounds_toArray, List.set_cons_zero, List.set_cons_succ])
      refine ord_done (by rw [HOP.out]; kernel_rfl) (fun W1 hWW hSW => HN.out _ _ ?_); clear HOP HNS HPQ HN RD; (try dsimp only at hSW)
      have HSW := Lib.hid hSW
      clear hWW hSW
      go_wp2_with fail
      refine ⟨⟨k + 1, HK.out, by go_num, HSW.out⟩, by simp [intOf]; have := HK.out; omega⟩
    · have k1 : ¬ (k : Int) < m := by omega
      clear hk hlt hw
      go_wp2_with fail
      go_ret
      exact ⟨rfl, HW.out⟩
end Go.Proofs.YtphakelncjogpaaDoor.mbW
