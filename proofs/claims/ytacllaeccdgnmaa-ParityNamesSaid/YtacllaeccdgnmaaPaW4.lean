/- A group mixed into a frame, by walks. -/
import Derived.Test.YtacllaeccdgnmaaPaW3
import Derived.Test.YtacllaeccdgnmaaOrd
import Derived.Deep.Cut
import Derived.Deep.DeepCutAuto
import Derived.Deep.DeepMust
namespace Go.Proofs.Ytacllaeccdgnmaa.paW
set_option maxRecDepth 100000
open Go.RowKit Go.Proofs.Ytacllaeccdgnmaa.base Go.Proofs.Ytacllaeccdgnmaa.paP
set_option linter.unusedVariables false
set_option linter.unusedSimpArgs false
set_option maxRecDepth 100000
theorem bs_get {rs : List R8} {i : Nat} (h : i < rs.length) : (rs.getD i r80).b ∈ bs rs := by
  unfold bs
  rw [List.getD_eq_getElem?_getD, List.getElem?_eq_getElem h]
  exact List.mem_map_of_mem (List.getElem_mem h)
theorem bs_byt {w : World} {P : Option Addr} {m d : Nat} {rs : List R8} (h : RowsB w P m d rs) : ∀ s ∈ bs rs, Byt s := by
  intro s hs
  obtain ⟨r, hr, rfl⟩ := List.mem_map.1 hs
  exact (h.h.all r hr).b
theorem bs_take_mem {rs : List R8} {q : Nat} {s : List Int} (h : s ∈ bs (rs.take q)) : s ∈ bs rs := by
  obtain ⟨r, hr, rfl⟩ := List.mem_map.1 h
  exact List.mem_map_of_mem (List.mem_of_mem_take hr)
set_option maxHeartbeats 2000000 in
theorem foldm (P : Option Addr) (m d gl g n c W : Nat) (rs : List R8) (zs : List Int) (w0 w : World) (hr : RowsB w0 P m d rs) (hg : Lies w0 gl 22 [.slice P m d]) (hl : ∀ s ∈ bs rs, s.length ≤ W)
    (acc : Below w0.heap.size w0 w) (ho : OwnI w w0.heap.size 5 .u8 (.slice (some ⟨g, 0, none⟩) n c) zs) (hz : zs.length = W + 2) (hn : n = W + 2) (hW2 : W ≤ 5000) (bz : Byt zs) :
    Calls Try.prog 39 #[.int .i64 (m : Int), .slice (some ⟨g, 0, none⟩) n c, .func (.func 38) #[] #[.pointer (some ⟨gl, 0, none⟩)]] w fun e w' => e = .returned (.slice (some ⟨g, 0, none⟩) n c) ∧ OwnI w' w0.heap.size 5 .u8 (.slice (some ⟨g, 0, none⟩) n c) (mixL W zs (bs rs)) ∧ Below w0.heap.size w0 w' := by
  have HR := Lib.hid hr
  have HG := Lib.hid hg
  have HL := Lib.hid hl
  have HA := Lib.hid acc
  have HO := Lib.hid ho
  have HZ := Lib.hid (And.intro hz (And.intro hn (And.intro hW2 bz)))
  have m1 : (m : Int) ≤ 9223372036854775807 := by have := hr.c1; have := hr.c2; omega
  clear hr hg hl acc ho hz hn hW2 bz
  go_enter Try.func39, Try.ntmps39
  go_wp2_with fail
  go_loopw [7, 11] (fun a i wr => ∃ q : Nat, q ≤ m ∧ i = .int .i64 (q : Int) ∧ a = .slice (some ⟨g, 0, none⟩) n c ∧ OwnI wr w0.heap.size 5 .u8 (.slice (some ⟨g, 0, none⟩) n c) (mixL W zs (bs (rs.take q))) ∧ Below w0.heap.size w0 wr) (fun _ i _ => m - (intOf i).toNat)
  case atStart => exact ⟨0, Nat.zero_le _, rfl, rfl, HO.out, HA.out⟩
  case round =>
    obtain ⟨q, hq, rfl, rfl, own, hacc⟩ := hrel
    have HOQ := Lib.hid own
    have HAQ := Lib.hid hacc
    by_cases hlt : q < m
    · have q1 : (q : Int) < m := by omega
      have q0 : 0 ≤ (q : Int) := by omega
      have HQ := Lib.hid hlt
      have hqr : q < rs.length := by rw [HR.out.l]; exact hlt
      have HS := Lib.hid (bs_take rs q hqr)
      have HM1 : Hid ((mixL W zs (bs (rs.take q))).length = W + 2 ∧ Byt (mixL W zs (bs (rs.take q))) ∧ (rs.getD q r80).b.length ≤ W) := Lib.hid
        ⟨mixL_len HZ.out.1 fun s hs => HL.out s (bs_take_mem hs), mixL_byt (by have := HZ.out.2.2.1; omega) HZ.out.2.2.2 fun s hs => ⟨bs_byt HR.out s (bs_take_mem hs), HL.out s (bs_take_mem hs)⟩, HL.out _ (bs_get hqr)⟩
      clear hlt hq own hacc hqr
      go_wp2_with (go_at_call 38; refine (mix1 P m d gl g n c q W rs _ _ w0 wr HR.out HG.out HQ.out rfl HAQ.out HOQ.out HM1.out.1 HZ.out.2.1 HM1.out.2.2 HZ.out.2.2.1 HM1.out.2.1).mono ?_; rintro e w4 ⟨rfl, ho4, hb4⟩)
      go_roundw
      case rel => exact ⟨q + 1, HQ.out, by go_num, rfl, by rw [HS.out, mixL_snoc]; exact ho4, hb4⟩
      case measure => simp [intOf]; have := HQ.out; omega
    · obtain rfl : q = m := by omega
      have q1 : ¬ (q : Int) < q := by omega
      have HE : Hid (rs.take q = rs) := Lib.hid (List.take_of_length_le (by rw [HR.out.l]; exact Nat.le_refl _))
      clear hlt hq own hacc
      go_wp2_with fail
      go_ret
      exact ⟨rfl, by rw [HE.out] at HOQ; exact HOQ.out, HAQ.out⟩
set_option maxHeartbeats 2000000 in
theorem Combined_any (P A : Option Addr) (m d n c W : Nat) (rs : List R8) (zs : List Int) (w : World) (hr : RowsB w P m d rs) (hl : ∀ s ∈ bs rs, s.length ≤ W)
    (hh : Has .u8 w A zs) (hz : zs.length = W + 2) (hn : n = W + 2) (hc : n ≤ c) (hW2 : W ≤ 5000) (bz : Byt zs) :
    Calls Try.prog 29 #[.slice P m d, .slice A n c] w fun e w' => ∃ g c', e = .returned (.slice (some ⟨g, 0, none⟩) n c') ∧ OwnI w' w.heap.size 5 .u8 (.slice (some ⟨g, 0, none⟩) n c') (mixL W zs (bs rs)) ∧ Below w.heap.size w w' := by
  have hb : Below w.heap.size w (w.alloc (.cells #[.slice P m d] 22)) := (Below.refl _ _).alloc (Nat.le_refl _) _
  have HR := Lib.hid (hr.below hb (Nat.le_refl _))
  have HG : Hid (Lies (w.alloc (.cells #[.slice P m d] 22)) w.heap.size 22 [.slice P m d]) := Lib.hid (Lies.fresh _ _ _)
  have HB := Lib.hid hb
  have HH := Lib.hid (hh.below hb (Nat.le_refl _))
  have HL := Lib.hid hl
  have HZ := Lib.hid (And.intro hz (And.intro hn (And.intro hW2 bz)))
  have HC := Lib.hid hc
  clear hr hb hh hl hz hn hc hW2 bz
  go_enter Try.func29, Try.ntmps29
  go_upto_region 2 with fail
  generalize w.alloc (.cells #[.slice P m d] 22) = w1 at *
  (have RD := grows_roads (S := fun x' => Below w1.heap.size w1 x') (fun a b h1 h2 => h2.trans (h1.mono h2.size))); refine region_ord _ Grows RD (Below.drew (Below.refl w1.heap.size w1)) (by kernel_rfl) ?_; intro ops Q' hops hPQ hN; (have HNS : Hid (Region.noSelect ops = true) := Lib.hid (by rw [hops]; kernel_rfl)); (have hsz : ops.size = 7 := (by rw [hops]; rfl)); have HOP := Lib.hid hops; have HPQ := Lib.hid hPQ; have HN := Lib.hid hN; rw [hsz]; clear hops hsz hPQ hN
  refine ord_take RD 0 (at_list (by rw [HOP.out]; rfl)) HNS.out HPQ.out (by rw [HOP.out]; kernel_rfl) (by rw [HOP.out]; kernel_rfl) (by rw [HOP.out]; rfl) (fun K hK => ?_); apply Exists.intro; refine ⟨fun W hSW => ?_, hK _ ?_⟩; (focus ((try dsimp only at hSW); (have z1 := (HG.out.past hSW).one.1); go_simp; try with_reducible rfl)); clear hK K; (try simp only [Act.put, List.setIfInBounds_toArray, List.set_cons_zero, List.set_cons_succ])
  refine ord_take RD 1 (at_list (by rw [HOP.out]; rfl)) HNS.out HPQ.out (by rw [HOP.out]; kernel_rfl) (by rw [HOP.out]; kernel_rfl) (by rw [HOP.out]; rfl) (fun K hK => ?_); apply Exists.intro; refine ⟨fun W hSW => ?_, hK _ ?_⟩; (focus ((try dsimp only at hSW); go_simp; try with_reducible rfl)); clear hK K; (try simp only [Act.put, List.setIfInBounds_toArray, List.set_cons_zero, List.set_cons_succ])
  refine ord_take RD 2 (at_list (by rw [HOP.out]; rfl)) HNS.out HPQ.out (by rw [HOP.out]; kernel_rfl) (by rw [HOP.out]; kernel_rfl) (by rw [HOP.out]; rfl) (fun K hK => ?_); apply Exists.intro; refine ⟨fun W hSW => ?_, hK _ ?_⟩; (focus ((try dsimp only at hSW); go_simp; try with_reducible rfl)); clear hK K; (try simp only [Act.put, List.setIfInBounds_toArray, List.set_cons_zero, List.set_cons_succ])
  refine ord_take RD 4 (at_list (by rw [HOP.out]; rfl)) HNS.out HPQ.out (by rw [HOP.out]; kernel_rfl) (by rw [HOP.out]; kernel_rfl) (by rw [HOP.out]; rfl) (fun K hK => ?_); apply Exists.intro; refine ⟨fun W hSW => ?_, hK _ ?_⟩; (focus ((try dsimp only at hSW); go_simp; try with_reducible rfl)); clear hK K; (try simp only [Act.put, List.setIfInBounds_toArray, List.set_cons_zero, List.set_cons_succ])
  refine ord_one RD 3 (by rw [HOP.out]; kernel_rfl) (at_list (by rw [HOP.out]; rfl)) (by rw [HOP.out]; rfl) (fun W2 hWW hSW K hK => ?_); (try dsimp only at hSW)
  go_simp
  refine (Clone8 (HH.out.below hSW (Nat.le_refl _)) (by rw [HZ.out.1, ← HZ.out.2.1]) HC.out (by have := HZ.out; omega)).mono ?_
  rintro e w3 ⟨A3, c3, rfl, hh3, ho3, hb3⟩
  refine hK _ _ (RD.keep hb3 hSW) ?_
  have H3 : Hid (∃ g, A3 = some ⟨g, 0, none⟩ ∧ OwnI w3 w1.heap.size 5 .u8 (.slice (some ⟨g, 0, none⟩) n c3) zs) := Lib.hid (by
    have hne : zs ≠ [] := by intro e; have := HZ.out.1; rw [e] at this; simp at this
    rcases ho3 with ho3 | ⟨e, _⟩
    · obtain ⟨g, rfl, h1, h2, h3⟩ := ho3.form hne
      exact ⟨g, rfl, ho3.mono hSW.size⟩
    · exact absurd e hne)
  clear hh3 ho3 hb3 hSW hWW
  obtain ⟨g, rfl, H4⟩ := H3.out
  have HO3 := Lib.hid H4
  clear H4 H3
  clear hK K; (try simp only [Act.put, List.setIfInBounds_toArray, List.set_cons_zero, List.set_cons_succ])
  refine ord_one RD 5 (by rw [HOP.out]; kernel_rfl) (at_list (by rw [HOP.out]; rfl)) (by rw [HOP.out]; rfl) (fun W5 hWW hSW K hK => ?_); (try dsimp only at hSW)
  go_simp
  refine (foldm P m d w.heap.size g n c3 W rs zs w1 W5 HR.out HG.out HL.out hSW (HO3.out.below hWW (Nat.le_refl _)) HZ.out.1 HZ.out.2.1 HZ.out.2.2.1 HZ.out.2.2.2).mono ?_
  rintro e w6 ⟨rfl, ho6, hb6⟩
  refine hK _ _ hb6 ?_
  have HO6 := Lib.hid ho6
  clear ho6 hb6 hSW hWW
  clear hK K; (try simp only [Act.put, List.setIfInBounds_toArray, List.set_cons_zero, List.set_cons_succ])
  refine ord_take RD 6 (at_list (by rw [HOP.out]; rfl)) HNS.out HPQ.out (by rw [HOP.out]; kernel_rfl) (by rw [HOP.out]; kernel_rfl) (by rw [HOP.out]; rfl) (fun K hK => ?_); apply Exists.intro; refine ⟨fun W hSW => ?_, hK _ ?_⟩; (focus ((try dsimp only at hSW); go_simp; try with_reducible rfl)); clear hK K; (try simp only [Act.put, List.setIfInBounds_toArray, List.set_cons_zero, List.set_cons_succ])
  refine ord_done (by rw [HOP.out]; kernel_rfl) (fun W8 hWW hSW => HN.out _ _ ?_); clear HOP HNS HPQ HN RD; (try dsimp only at hSW)
  have HO8 := Lib.hid (And.intro (HO6.out.below hWW (Nat.le_refl _)) hSW)
  clear hWW hSW
  go_wp2_with fail
  go_ret
  exact ⟨g, c3, rfl, HO8.out.1.mono HB.out.size, HB.out.trans (HO8.out.2.mono HB.out.size)⟩
end Go.Proofs.Ytacllaeccdgnmaa.paW
