/- Read, the reference's. -/
import Derived.Test.YtiihafhnaiicoaaDoorMbRe
import Derived.Test.YtiihafhnaiicoaaDoorPk0
namespace Go.Proofs.YtiihafhnaiicoaaDoor.mbW
set_option maxRecDepth 100000
open Go.RowKit Go.Proofs.YtiihafhnaiicoaaDoor.base Go.Proofs.YtiihafhnaiicoaaDoor.shP Go.Proofs.YtiihafhnaiicoaaDoor.shW Go.Proofs.YtiihafhnaiicoaaDoor.ocP Go.Proofs.YtiihafhnaiicoaaDoor.ocW
open Go.Proofs.YtiihafhnaiicoaaDoor.trW (IsD sv zd_isD digest_isD z20_at)
set_option linter.unusedVariables false
set_option linter.unusedSimpArgs false
set_option maxRecDepth 100000
theorem in_atm {w wr : World} {b : List Int} {A : Option Addr} (h : Has .u8 w A b) (hb : Below w.heap.size w wr) {k : Nat} (hk : k < b.length) : ∃ bb off, A = some ⟨bb, off, none⟩ ∧ bb < w.heap.size ∧ ∀ j, j < b.length → wr.cell? ⟨bb, off + j, none⟩ = some (.int .u8 (b.getD j 0)) := by
  obtain ⟨bb, off, hA, hlt, hc⟩ := has_some h (by omega)
  exact ⟨bb, off, hA, hlt, fun j hj => by rw [hb.cell (p := ⟨bb, off + j, none⟩) hlt]; exact hc j hj⟩
/-- The digest laid byte by byte. -/
def sumS (b : List Int) (q m : Nat) : List Int := (b.drop q).take m ++ List.replicate (20 - m) 0
theorem sumS_len {b : List Int} {q m : Nat} (h : q + 20 ≤ b.length) (hm : m ≤ 20) : (sumS b q m).length = 20 := by
  unfold sumS
  rw [List.length_append, List.length_take, List.length_drop, List.length_replicate]; omega
theorem sumS_set {b : List Int} {q m : Nat} (h : q + 20 ≤ b.length) (hm : m < 20) : (sumS b q m).set m (b.getD (q + m) 0) = sumS b q (m + 1) := by
  unfold sumS
  have l1 : ((b.drop q).take m).length = m := by rw [List.length_take, List.length_drop]; omega
  rw [List.set_append_right _ _ (by omega), l1, Nat.sub_self, show 20 - m = (20 - (m + 1)) + 1 by omega, List.replicate_succ, List.set_cons_zero]
  rw [show (b.drop q).take (m + 1) = (b.drop q).take m ++ [b.getD (q + m) 0] by
    rw [List.take_add_one, List.getElem?_drop, List.getElem?_eq_getElem (by omega), List.getD_eq_getElem?_getD, List.getElem?_eq_getElem (by omega)]; rfl]
  simp
theorem sumS_all {b : List Int} {q : Nat} (h : q + 20 ≤ b.length) : sumS b q 20 = (b.drop q).take 20 := by simp [sumS]
theorem rcE_set {s : ByteArray} {z : Int} {S : List Int} (h : S.length = 20) {m : Nat} (x : Int) (hm : m < 20) : (rcE ⟨s, z, S⟩).set (2 + m) (.int .u8 x) = rcE ⟨s, z, S.set m x⟩ := by
  rw [rcE_eq (r := ⟨s, z, S⟩) h, rcE_eq (r := ⟨s, z, S.set m x⟩) (by rw [List.length_set]; exact h)]
  rw [Nat.add_comm]
  show _ :: _ :: (sv S).set m _ = _
  rw [sv, sv, List.map_set]
set_option maxHeartbeats 6400000 in
theorem rRead_m (b : List Int) (A : Option Addr) (n d : Nat) (q : Int) (w : World) (hA : Has .u8 w A b) (eA : b.length = n) (hd : n ≤ d) (hm : d ≤ 9223372036854775807) (hb : Byt8 b) (q1 : -9223372036854775808 ≤ q) (q2 : q ≤ 9223372036854775807) :
    Calls Tryd.prog 27 #[.slice A n d, .int .i64 q] w (RDP b q w) := by
  have n9 : (n : Int) ≤ 9223372036854775807 := by omega
  have HE := Lib.hid eA
  by_cases a1 : q < 0 ∨ 16 < q
  · have HM := Lib.hid (mr_no (mr_arg (b := b) a1) (by decide))
    rcases a1 with a1 | a1 <;>
    · clear hA hb eA
      go_enter Tryd.func27, Tryd.ntmps27
      go_wp2_with fail
      go_ret3
      exact rd_end HM.out (Below.refl _ _)
  by_cases a2 : 50000 < b.length
  · have HM := Lib.hid (mr_no (mr_many a1 a2) (by decide))
    have b1 : 0 ≤ q := by omega
    have b2 : q ≤ 16 := by omega
    have b3 : (50000 : Int) < n := by omega
    clear hA hb eA a1 a2
    go_enter Tryd.func27, Tryd.ntmps27
    go_wp2_with fail
    go_ret3
    exact rd_end HM.out (Below.refl _ _)
  have HA := Lib.hid hA
  have HD := Lib.hid (And.intro hd hm)
  have HB := Lib.hid hb
  have A12 := Lib.hid (And.intro a1 a2)
  obtain ⟨k, rfl⟩ : ∃ k : Nat, q = (k : Int) := ⟨q.toNat, by omega⟩
  have HKN := Lib.hid (show k ≤ 16 by omega)
  have k16 : (k : Int) ≤ 16 := by omega
  have k0 : 0 ≤ (k : Int) := by omega
  have b3 : (n : Int) ≤ 50000 := by omega
  have b4 : (n : Int) ≤ (d : Int) := by omega
  clear hA hb eA a1 a2 hd hm q1 q2
  go_enter Tryd.func27, Tryd.ntmps27
  go_wp2_with fail
  go_loopw [7, 8, 9] (fun ov av iv wr => ∃ (j p : Nat) (l : List Rc) (A' : Option Addr) (c : Nat), j ≤ k ∧ iv = .int .i64 (j : Int) ∧ av = .int .i64 (p : Int) ∧ ov = .slice A' j c ∧ rdS b j = some (l, p) ∧ RE.Own wr w.heap.size (.slice A' j c) l ∧ Below w.heap.size w wr) (fun _ _ iv _ => k - (intOf iv).toNat)
  case atStart => exact ⟨0, 0, [], none, 0, Nat.zero_le _, rfl, rfl, rfl, rfl, Enc.Own.nil _ _, Below.refl _ _⟩
  case round =>
    obtain ⟨j, p, l, A', c, hj, rfl, rfl, rfl, hr, own, acc⟩ := hrel
    rename World => wr
    have HR := Lib.hid hr
    have HO := Lib.hid own
    have HACC := Lib.hid acc
    have HP := Lib.hid (rdS_le HB.out hr)
    by_cases hlt : j < k
    · have HLT := Lib.hid hlt
      have j1 : (j : Int) < k := by omega
      have j0 : 0 ≤ (j : Int) := by omega
      have p0 : 0 ≤ (p : Int) := by omega
      have hpl := HP.out.1
      have p9 : (p : Int) ≤ 4448 := by have := HKN.out; omega
      have hn := HE.out
      by_cases f1 : p < n
      case neg =>
        have HS := Lib.hid (mr_no (mr_short A12.out.1 A12.out.2 (by rw [Int.toNat_natCast]; exact rdS_none (rdS_stop HR.out (by unfold fits; omega)) k HLT.out)) (by decide))
        have p1 : (n : Int) ≤ p := by omega
        clear hj hlt hr own acc hpl hn f1
        go_wp2_with fail
        go_ret3
        exact rd_end HS.out HACC.out
      obtain ⟨bb, off, rfl, hbb, hcc⟩ := in_atm HA.out acc (show 0 < b.length by omega)
      have x0 := hcc p (by omega)
      have lt : bb < wr.heap.size := by have := acc.size; omega
      have hx := nl_int HB.out p
      have hx2 := nl_le HB.out p
      rw [← hx] at x0
      obtain ⟨z, hz⟩ : ∃ z, nl b p = z := ⟨_, rfl⟩
      rw [hz] at x0 hx hx2
      have HZ := Lib.hid hz
      have z0 : 0 ≤ (z : Int) := by omega
      have z1 : (z : Int) ≤ 255 := by omega
      have p1 : (p : Int) < n := by omega
      have wz : IntKind.i64.wrap (z : Int) = z := by rw [IntKind.wrap_i64]; omega
      by_cases f2 : p + z + 23 ≤ n
      case neg =>
        have HS := Lib.hid (mr_no (mr_short A12.out.1 A12.out.2 (by rw [Int.toNat_natCast]; exact rdS_none (rdS_stop HR.out (by unfold fits; rw [HZ.out]; omega)) k HLT.out)) (by decide))
        have p2 : (n : Int) - p - 1 < z + 22 := by omega
        clear hj hlt hr own acc hpl hn f1 hx hx2 hcc f2 hz
        go_wp2_with fail
        go_ret3
        exact rd_end HS.out HACC.out
      have p2 : (z : Int) + 22 ≤ (n : Int) - p - 1 := by omega
      clear hj hlt hr own acc hpl hn f1 hx hx2 hz
      go_upto_region 13 with fail
      have HX := Lib.hid (fun (W : World) (h : Below wr.heap.size wr W) (i : Nat) (hi : i < b.length) => (h.cell (p := ⟨bb, off + i, none⟩) lt).trans (hcc i hi))
      have HSB : Hid (∀ W : World, Below wr.heap.size wr W → Has .u8 W (some ⟨bb, off + (p + 1), none⟩) ((b.drop (p + 1)).take z)) := Lib.hid (fun W h => by
        have := has_sub (HA.out.below (mb_bb HACC.out h) (Nat.le_refl _)) (p + 1) z
        rw [Option.map_some, addr_add] at this
        exact this)
      have HF2 := Lib.hid f2
      have HNE := Lib.hid (show b.length = n from HE.out)
      have w1 : IntKind.i64.wrap ((p : Int) + 1) = (p : Int) + 1 := by rw [IntKind.wrap_i64]; omega
      have w2 : IntKind.i64.wrap ((p : Int) + 1 + z) = (p : Int) + 1 + z := by rw [IntKind.wrap_i64]; omega
      have w3 : IntKind.i64.wrap ((p : Int) + 2) = (p : Int) + 2 := by rw [IntKind.wrap_i64]; omega
      have w4 : IntKind.i64.wrap ((p : Int) + 2 + z) = (p : Int) + 2 + z := by rw [IntKind.wrap_i64]; omega
      have t1 : ((p : Int) + 1).toNat = p + 1 := by omega
      have t2 : ((p : Int) + 1 + z).toNat = p + 1 + z := by omega
      have t3 : ((p : Int) + 2 + z).toNat = p + 2 + z := by omega
      have s1 : ¬ d = p + 1 := by omega
      have s2 : p + 1 + z - (p + 1) = z := by omega
      have i1 : (p : Int) + 1 ≤ (p : Int) + 1 + z := by omega
      have i2 : (p : Int) + 1 + z ≤ (d : Int) := by omega
      have i3 : 0 ≤ (p : Int) + 1 := by omega
      have i4 : 0 ≤ (p : Int) + 1 + z := by omega
      have i5 : (p : Int) + 1 + z < (n : Int) := by omega
      have i6 : 0 ≤ (p : Int) + 2 + z := by omega
      have i7 : (p : Int) + 2 + z < (n : Int) := by omega
      have i8 : (p : Int) + 1 ≤ (d : Int) := by omega
      obtain ⟨u, hu⟩ : ∃ u, b.getD (p + 1 + z) 0 = u := ⟨_, rfl⟩
      obtain ⟨v, hv⟩ : ∃ v, b.getD (p + 2 + z) 0 = v := ⟨_, rfl⟩
      have hub := HB.out.at (p + 1 + z)
      have hvb := HB.out.at (p + 2 + z)
      rw [hu] at hub
      rw [hv] at hvb
      have HU := Lib.hid hu
      have HV := Lib.hid hv
      have w5 : IntKind.i64.wrap u = u := by rw [IntKind.wrap_i64]; omega
      have w6 : IntKind.i64.wrap v = v := by rw [IntKind.wrap_i64]; omega
      have w7 : IntKind.i64.wrap (u * 256) = u * 256 := by rw [IntKind.wrap_i64]; omega
      have w8 : IntKind.i64.wrap (u * 256 + v) = u * 256 + v := by rw [IntKind.wrap_i64]; omega
      have HUV := Lib.hid (And.intro hub hvb)
      clear f2 hcc hbb hu hv hub hvb
      (have RD := grows_roads (S := fun x' => Below wr.heap.size wr x') (fun a b h1 h2 => h2.trans (h1.mono h2.size))); refine region_ordT 29 _ Grows RD (Below.drew (Below.refl _ _)) (by kernel_rfl) (by decide) ?_; intro ops Q' hops hPQ hN; (have HNS : Hid (Region.noSelect ops = true ∧ Region.sinkB .any ops 29 = true ∧ Region.chainB .any ops 29 = true ∧ 29 < ops.size) := Lib.hid (by rw [hops]; exact ⟨by kernel_rfl, by kernel_rfl, by kernel_rfl, by decide⟩)); (have hsz : ops.size = 30 := (by rw [hops]; rfl)); have HOP := Lib.hid hops; have HPQ := Lib.hid hPQ; have HN := Lib.hid hN; rw [hsz]; clear hops hsz hPQ hN
      refine ordT_take RD 0 (at_list (by rw [HOP.out]; rfl)) HNS.out HPQ.out (by rw [HOP.out]; kernel_rfl) (by rw [HOP.out]; kernel_rfl) (by rw [HOP.out]; rfl) (fun K hK => ?_); apply Exists.intro; refine ⟨fun W hSW => ?_, hK _ ?_⟩; (focus ((try dsimp only at hSW); go_simp; try with_reducible rfl)); clear hK K; (try simp only [Act.put, List.setIfInBounds_toArray, List.set_cons_zero, List.set_cons_succ])
      refine ordT_take RD 1 (at_list (by rw [HOP.out]; rfl)) HNS.out HPQ.out (by rw [HOP.out]; kernel_rfl) (by rw [HOP.out]; kernel_rfl) (by rw [HOP.out]; rfl) (fun K hK => ?_); apply Exists.intro; refine ⟨fun W hSW => ?_, hK _ ?_⟩; (focus ((try dsimp only at hSW); go_simp; try with_reducible rfl)); clear hK K; (try simp only [Act.put, List.setIfInBounds_toArray, List.set_cons_zero, List.set_cons_succ])
      refine ordT_take RD 2 (at_list (by rw [HOP.out]; rfl)) HNS.out HPQ.out (by rw [HOP.out]; kernel_rfl) (by rw [HOP.out]; kernel_rfl) (by rw [HOP.out]; rfl) (fun K hK => ?_); apply Exists.intro; refine ⟨fun W hSW => ?_, hK _ ?_⟩; (focus ((try dsimp only at hSW); go_simp; try with_reducible rfl)); clear hK K; (try simp only [Act.put, List.setIfInBounds_toArray, List.set_cons_zero, List.set_cons_succ])
      refine ordT_take RD 3 (at_list (by rw [HOP.out]; rfl)) HNS.out HPQ.out (by rw [HOP.out]; kernel_rfl) (by rw [HOP.out]; kernel_rfl) (by rw [HOP.out]; rfl) (fun K hK => ?_); apply Exists.intro; refine ⟨fun W hSW => ?_, hK _ ?_⟩; (focus ((try dsimp only at hSW); go_simp; try with_reducible rfl)); clear hK K; (try simp only [Act.put, List.setIfInBounds_toArray, List.set_cons_zero, List.set_cons_succ])
      refine ordT_take RD 4 (at_list (by rw [HOP.out]; rfl)) HNS.out HPQ.out (by rw [HOP.out]; kernel_rfl) (by rw [HOP.out]; kernel_rfl) (by rw [HOP.out]; rfl) (fun K hK => ?_); apply Exists.intro; refine ⟨fun W hSW => ?_, hK _ ?_⟩; (focus ((try dsimp only at hSW); go_simp; try with_reducible rfl)); clear hK K; (try simp only [Act.put, List.setIfInBounds_toArray, List.set_cons_zero, List.set_cons_succ])
      refine ordT_take RD 5 (at_list (by rw [HOP.out]; rfl)) HNS.out HPQ.out (by rw [HOP.out]; kernel_rfl) (by rw [HOP.out]; kernel_rfl) (by rw [HOP.out]; rfl) (fun K hK => ?_); apply Exists.intro; refine ⟨fun W hSW => ?_, hK _ ?_⟩; (focus ((try dsimp only at hSW); go_simp; try with_reducible rfl)); clear hK K; (try simp only [Act.put, List.setIfInBounds_toArray, List.set_cons_zero, List.set_cons_succ])
      refine ordT_take RD 6 (at_list (by rw [HOP.out]; rfl)) HNS.out HPQ.out (by rw [HOP.out]; kernel_rfl) (by rw [HOP.out]; kernel_rfl) (by rw [HOP.out]; rfl) (fun K hK => ?_); apply Exists.intro; refine ⟨fun W hSW => ?_, hK _ ?_⟩; (focus ((try dsimp only at hSW); go_simp; try with_reducible rfl)); clear hK K; (try simp only [Act.put, List.setIfInBounds_toArray, List.set_cons_zero, List.set_cons_succ])
      refine ordT_take RD 7 (at_list (by rw [HOP.out]; rfl)) HNS.out HPQ.out (by rw [HOP.out]; kernel_rfl) (by rw [HOP.out]; kernel_rfl) (by rw [HOP.out]; rfl) (fun K hK => ?_); apply Exists.intro; refine ⟨fun W hSW => ?_, hK _ ?_⟩; (focus ((try dsimp only at hSW); go_simp; try with_reducible rfl)); clear hK K; (try simp only [Act.put, List.setIfInBounds_toArray, List.set_cons_zero, List.set_cons_succ])
      refine ordT_take RD 8 (at_list (by rw [HOP.out]; rfl)) HNS.out HPQ.out (by rw [HOP.out]; kernel_rfl) (by rw [HOP.out]; kernel_rfl) (by rw [HOP.out]; rfl) (fun K hK => ?_); apply Exists.intro; refine ⟨fun W hSW => ?_, hK _ ?_⟩; (focus ((try dsimp only at hSW); have cv := conv8 (n := z) (c := d - (p + 1)) (HSB.out _ hSW) (by rw [List.length_take, List.length_drop]; have := HF2.out; have := HNE.out; omega); go_simp; try with_reducible rfl)); clear hK K; (try simp only [Act.put, List.setIfInBounds_toArray, List.set_cons_zero, List.set_cons_succ])
      refine ordT_take RD 9 (at_list (by rw [HOP.out]; rfl)) HNS.out HPQ.out (by rw [HOP.out]; kernel_rfl) (by rw [HOP.out]; kernel_rfl) (by rw [HOP.out]; rfl) (fun K hK => ?_); apply Exists.intro; refine ⟨fun W hSW => ?_, hK _ ?_⟩; (focus ((try dsimp only at hSW); go_simp; try with_reducible rfl)); clear hK K; (try simp only [Act.put, List.setIfInBounds_toArray, List.set_cons_zero, List.set_cons_succ])
      refine ordT_take RD 10 (at_list (by rw [HOP.out]; rfl)) HNS.out HPQ.out (by rw [HOP.out]; kernel_rfl) (by rw [HOP.out]; kernel_rfl) (by rw [HOP.out]; rfl) (fun K hK => ?_); apply Exists.intro; refine ⟨fun W hSW => ?_, hK _ ?_⟩; (focus ((try dsimp only at hSW); go_simp; try with_reducible rfl)); clear hK K; (try simp only [Act.put, List.setIfInBounds_toArray, List.set_cons_zero, List.set_cons_succ])
      refine ordT_take RD 11 (at_list (by rw [HOP.out]; rfl)) HNS.out HPQ.out (by rw [HOP.out]; kernel_rfl) (by rw [HOP.out]; kernel_rfl) (by rw [HOP.out]; rfl) (fun K hK => ?_); apply Exists.intro; refine ⟨fun W hSW => ?_, hK _ ?_⟩; (focus ((try dsimp only at hSW); go_simp; try with_reducible rfl)); clear hK K; (try simp only [Act.put, List.setIfInBounds_toArray, List.set_cons_zero, List.set_cons_succ])
      refine ordT_take RD 12 (at_list (by rw [HOP.out]; rfl)) HNS.out HPQ.out (by rw [HOP.out]; kernel_rfl) (by rw [HOP.out]; kernel_rfl) (by rw [HOP.out]; rfl) (fun K hK => ?_); apply Exists.intro; refine ⟨fun W hSW => ?_, hK _ ?_⟩; (focus ((try dsimp only at hSW); go_simp; try with_reducible rfl)); clear hK K; (try simp only [Act.put, List.setIfInBounds_toArray, List.set_cons_zero, List.set_cons_succ])
      refine ordT_take RD 13 (at_list (by rw [HOP.out]; rfl)) HNS.out HPQ.out (by rw [HOP.out]; kernel_rfl) (by rw [HOP.out]; kernel_rfl) (by rw [HOP.out]; rfl) (fun K hK => ?_); apply Exists.intro; refine ⟨fun W hSW => ?_, hK _ ?_⟩; (focus ((try dsimp only at hSW); go_simp; try with_reducible rfl)); clear hK K; (try simp only [Act.put, List.setIfInBounds_toArray, List.set_cons_zero, List.set_cons_succ])
      refine ordT_take RD 14 (at_list (by rw [HOP.out]; rfl)) HNS.out HPQ.out (by rw [HOP.out]; kernel_rfl) (by rw [HOP.out]; kernel_rfl) (by rw [HOP.out]; rfl) (fun K hK => ?_); apply Exists.intro; refine ⟨fun W hSW => ?_, hK _ ?_⟩; (focus ((try dsimp only at hSW); go_simp; try with_reducible rfl)); clear hK K; (try simp only [Act.put, List.setIfInBounds_toArray, List.set_cons_zero, List.set_cons_succ])
      refine ordT_take RD 15 (at_list (by rw [HOP.out]; rfl)) HNS.out HPQ.out (by rw [HOP.out]; kernel_rfl) (by rw [HOP.out]; kernel_rfl) (by rw [HOP.out]; rfl) (fun K hK => ?_); apply Exists.intro; refine ⟨fun W hSW => ?_, hK _ ?_⟩; (focus ((try dsimp only at hSW); have y := HX.out _ hSW (p + 1 + z) (by have := HF2.out; have := HNE.out; omega); rw [HU.out] at y; go_simp; try with_reducible rfl)); clear hK K; (try simp only [Act.put, List.setIfInBounds_toArray, List.set_cons_zero, List.set_cons_succ])
      refine ordT_take RD 16 (at_list (by rw [HOP.out]; rfl)) HNS.out HPQ.out (by rw [HOP.out]; kernel_rfl) (by rw [HOP.out]; kernel_rfl) (by rw [HOP.out]; rfl) (fun K hK => ?_); apply Exists.intro; refine ⟨fun W hSW => ?_, hK _ ?_⟩; (focus ((try dsimp only at hSW); go_simp; try with_reducible rfl)); clear hK K; (try simp only [Act.put, List.setIfInBounds_toArray, List.set_cons_zero, List.set_cons_succ])
      refine ordT_take RD 17 (at_list (by rw [HOP.out]; rfl)) HNS.out HPQ.out (by rw [HOP.out]; kernel_rfl) (by rw [HOP.out]; kernel_rfl) (by rw [HOP.out]; rfl) (fun K hK => ?_); apply Exists.intro; refine ⟨fun W hSW => ?_, hK _ ?_⟩; (focus ((try dsimp only at hSW); go_simp; try with_reducible rfl)); clear hK K; (try simp only [Act.put, List.setIfInBounds_toArray, List.set_cons_zero, List.set_cons_succ])
      refine ordT_take RD 18 (at_list (by rw [HOP.out]; rfl)) HNS.out HPQ.out (by rw [HOP.out]; kernel_rfl) (by rw [HOP.out]; kernel_rfl) (by rw [HOP.out]; rfl) (fun K hK => ?_); apply Exists.intro; refine ⟨fun W hSW => ?_, hK _ ?_⟩; (focus ((try dsimp only at hSW); go_simp; try with_reducible rfl)); clear hK K; (try simp only [Act.put, List.setIfInBounds_toArray, List.set_cons_zero, List.set_cons_succ])
      refine ordT_take RD 19 (at_list (by rw [HOP.out]; rfl)) HNS.out HPQ.out (by rw [HOP.out]; kernel_rfl) (by rw [HOP.out]; kernel_rfl) (by rw [HOP.out]; rfl) (fun K hK => ?_); apply Exists.intro; refine ⟨fun W hSW => ?_, hK _ ?_⟩; (focus ((try dsimp only at hSW); go_simp; try with_reducible rfl)); clear hK K; (try simp only [Act.put, List.setIfInBounds_toArray, List.set_cons_zero, List.set_cons_succ])
      refine ordT_take RD 20 (at_list (by rw [HOP.out]; rfl)) HNS.out HPQ.out (by rw [HOP.out]; kernel_rfl) (by rw [HOP.out]; kernel_rfl) (by rw [HOP.out]; rfl) (fun K hK => ?_); apply Exists.intro; refine ⟨fun W hSW => ?_, hK _ ?_⟩; (focus ((try dsimp only at hSW); go_simp; try with_reducible rfl)); clear hK K; (try simp only [Act.put, List.setIfInBounds_toArray, List.set_cons_zero, List.set_cons_succ])
      refine ordT_take RD 21 (at_list (by rw [HOP.out]; rfl)) HNS.out HPQ.out (by rw [HOP.out]; kernel_rfl) (by rw [HOP.out]; kernel_rfl) (by rw [HOP.out]; rfl) (fun K hK => ?_); apply Exists.intro; refine ⟨fun W hSW => ?_, hK _ ?_⟩; (focus ((try dsimp only at hSW); go_simp; try with_reducible rfl)); clear hK K; (try simp only [Act.put, List.setIfInBounds_toArray, List.set_cons_zero, List.set_cons_succ])
      refine ordT_take RD 22 (at_list (by rw [HOP.out]; rfl)) HNS.out HPQ.out (by rw [HOP.out]; kernel_rfl) (by rw [HOP.out]; kernel_rfl) (by rw [HOP.out]; rfl) (fun K hK => ?_); apply Exists.intro; refine ⟨fun W hSW => ?_, hK _ ?_⟩; (focus ((try dsimp only at hSW); go_simp; try with_reducible rfl)); clear hK K; (try simp only [Act.put, List.setIfInBounds_toArray, List.set_cons_zero, List.set_cons_succ])
      refine ordT_take RD 23 (at_list (by rw [HOP.out]; rfl)) HNS.out HPQ.out (by rw [HOP.out]; kernel_rfl) (by rw [HOP.out]; kernel_rfl) (by rw [HOP.out]; rfl) (fun K hK => ?_); apply Exists.intro; refine ⟨fun W hSW => ?_, hK _ ?_⟩; (focus ((try dsimp only at hSW); go_simp; try with_reducible rfl)); clear hK K; (try simp only [Act.put, List.setIfInBounds_toArray, List.set_cons_zero, List.set_cons_succ])
      refine ordT_take RD 24 (at_list (by rw [HOP.out]; rfl)) HNS.out HPQ.out (by rw [HOP.out]; kernel_rfl) (by rw [HOP.out]; kernel_rfl) (by rw [HOP.out]; rfl) (fun K hK => ?_); apply Exists.intro; refine ⟨fun W hSW => ?_, hK _ ?_⟩; (focus ((try dsimp only at hSW); have y := HX.out _ hSW (p + 2 + z) (by have := HF2.out; have := HNE.out; omega); rw [HV.out] at y; go_simp; try with_reducible rfl)); clear hK K; (try simp only [Act.put, List.setIfInBounds_toArray, List.set_cons_zero, List.set_cons_succ])
      refine ordT_take RD 25 (at_list (by rw [HOP.out]; rfl)) HNS.out HPQ.out (by rw [HOP.out]; kernel_rfl) (by rw [HOP.out]; kernel_rfl) (by rw [HOP.out]; rfl) (fun K hK => ?_); apply Exists.intro; refine ⟨fun W hSW => ?_, hK _ ?_⟩; (focus ((try dsimp only at hSW); go_simp; try with_reducible rfl)); clear hK K; (try simp only [Act.put, List.setIfInBounds_toArray, List.set_cons_zero, List.set_cons_succ])
      refine ordT_take RD 26 (at_list (by rw [HOP.out]; rfl)) HNS.out HPQ.out (by rw [HOP.out]; kernel_rfl) (by rw [HOP.out]; kernel_rfl) (by rw [HOP.out]; rfl) (fun K hK => ?_); apply Exists.intro; refine ⟨fun W hSW => ?_, hK _ ?_⟩; (focus ((try dsimp only at hSW); go_simp; try with_reducible rfl)); clear hK K; (try simp only [Act.put, List.setIfInBounds_toArray, List.set_cons_zero, List.set_cons_succ])
      refine ordT_take RD 27 (at_list (by rw [HOP.out]; rfl)) HNS.out HPQ.out (by rw [HOP.out]; kernel_rfl) (by rw [HOP.out]; kernel_rfl) (by rw [HOP.out]; rfl) (fun K hK => ?_); apply Exists.intro; refine ⟨fun W hSW => ?_, hK _ ?_⟩; (focus ((try dsimp only at hSW); go_simp; try with_reducible rfl)); clear hK K; (try simp only [Act.put, List.setIfInBounds_toArray, List.set_cons_zero, List.set_cons_succ])
      refine ordT_one RD 28 (by rw [HOP.out]; kernel_rfl) (at_list (by rw [HOP.out]; rfl)) (by rw [HOP.out]; rfl) (fun W0 hWW hSW K hK => ?_); (try dsimp only at hSW)
      go_simp
      have GA := mb_new W0 (.cells #[.string ⟨#[]⟩, .int .i64 0, .int .u8 0, .int .u8 0, .int .u8 0, .int .u8 0, .int .u8 0, .int .u8 0, .int .u8 0, .int .u8 0, .int .u8 0, .int .u8 0, .int .u8 0, .int .u8 0, .int .u8 0, .int .u8 0, .int .u8 0, .int .u8 0, .int .u8 0, .int .u8 0, .int .u8 0, .int .u8 0] 54)
      have LZ := Lib.hid (z22_at W0 rfl)
      have HGW := Lib.hid (show wr.heap.size ≤ W0.heap.size from hSW.size)
      refine hK _ _ (hSW.trans (GA.mono hSW.size)) ?_
      have HGZ := Lib.hid GA
      clear hSW hWW GA
      clear hK K; (try simp only [Act.put, List.setIfInBounds_toArray, List.set_cons_zero, List.set_cons_succ])
      refine ordT_end (by rw [HOP.out]; kernel_rfl) (fun W1 hWW hSW => ?_); rw [HOP.out]; simp only [List.drop_succ_cons, List.drop_zero]; have hN := HN.out; clear HOP HNS HPQ HN RD; (try dsimp only at hSW)
      have LW := Lib.hid (LZ.out.past hWW)
      have BW := Lib.hid hSW
      clear hWW hSW LZ HGZ
      generalize W0.heap.size = g at *
      generalize W0 = W00 at *
      obtain ⟨nm, hnm⟩ : ∃ nm, bstr ((b.drop (p + 1)).take z) = nm := ⟨_, rfl⟩
      have HNM := Lib.hid hnm
      rw [hnm]
      clear hnm
      go_wp2_with (first | (show wpList _ _ _ ({ dst := none, op := Op.store 54 _ _, type := _, pos := _, after := _, guard := _ } :: _) _ _; go_must (refine Enc.wp_st RE (x := ⟨nm, u * 256 + v, zd⟩) (g := g) (P := Tryd.prog) info22 (by rfl) _ _ rfl (LW.out) rfl rfl ?_); intro wv5 hR5 hg5 hb5 hz5))
      have B5 := Lib.hid (BW.out.trans (hb5.mono HGW.out))
      have L5 := Lib.hid hR5
      clear BW LW hR5 hg5 hb5 hz5 x0 w1 w2 w3 w4 w5 w6 w7 w8 t1 t2 t3 s1 s2 i1 i2 i3 i4 i5 i6 i7 i8 wz p2 HSB
      have HS0 : Hid (sumS b (p + 3 + z) 0 = zd) := Lib.hid (by unfold sumS zd; simp)
      go_loopw [12] (fun mv wq => ∃ m : Nat, m ≤ 20 ∧ mv = .int .i64 (m : Int) ∧ Lies wq g 54 (rcE ⟨nm, u * 256 + v, sumS b (p + 3 + z) m⟩) ∧ Below wr.heap.size wr wq) (fun mv _ => 20 - (intOf mv).toNat)
      case atStart => exact ⟨0, by decide, rfl, by rw [HS0.out]; exact L5.out, B5.out⟩
      case round =>
        clear B5 L5
        obtain ⟨m, hm, rfl, hlq, hbq⟩ := hrel
        rename World => wq
        have LQ := Lib.hid hlq
        have BQ := Lib.hid hbq
        by_cases hmt : m < 20
        · have HMT := Lib.hid hmt
          have y := HX.out wq hbq (p + 3 + z + m) (by have := HF2.out; have := HNE.out; omega)
          obtain ⟨x, hx⟩ : ∃ x, b.getD (p + 3 + z + m) 0 = x := ⟨_, rfl⟩
          have HSS := Lib.hid (sumS_set (b := b) (q := p + 3 + z) (m := m) (by have := HF2.out; have := HNE.out; omega) hmt)
          have HSL := Lib.hid (sumS_len (b := b) (q := p + 3 + z) (m := m) (by have := HF2.out; have := HNE.out; omega) (Nat.le_of_lt hmt))
          rw [hx] at y HSS
          have c0 : wq.cell? ⟨g, 2 + m, none⟩ = some (.int .u8 ((sumS b (p + 3 + z) m).getD m 0)) := sum_cell hlq HSL.out m hmt
          have c1 := hlq.free (2 + m)
          have ltg := hlq.lt
          have ltb : bb < wq.heap.size := Nat.lt_of_lt_of_le lt hbq.size
          have m1 : (m : Int) < 20 := by omega
          have m0 : 0 ≤ (m : Int) := by omega
          have f2 := HF2.out
          have w1 : IntKind.i64.wrap ((p : Int) + 3) = (p : Int) + 3 := by rw [IntKind.wrap_i64]; omega
          have w2 : IntKind.i64.wrap ((p : Int) + 3 + z) = (p : Int) + 3 + z := by rw [IntKind.wrap_i64]; omega
          have w3 : IntKind.i64.wrap ((p : Int) + 3 + z + m) = (p : Int) + 3 + z + m := by rw [IntKind.wrap_i64]; omega
          have t3 : ((p : Int) + 3 + z + m).toNat = p + 3 + z + m := by omega
          have i6 : 0 ≤ (p : Int) + 3 + z + m := by omega
          have i7 : (p : Int) + 3 + z + m < (n : Int) := by omega
          clear hx hm hmt hlq hbq f2
          go_wp2_with fail
          exact ⟨⟨m + 1, HMT.out, by go_num, by have := LQ.out.set (2 + m) (.int .u8 x); rw [rcE_set HSL.out x HMT.out, HSS.out] at this; exact this, BQ.out.setCell (p := ⟨g, 2 + m, none⟩) HGW.out _⟩, by simp [intOf]; have := HMT.out; omega⟩
        · obtain rfl : m = 20 := by omega
          have HQL : Hid (p + 3 + z + 20 ≤ b.length) := Lib.hid (by have := HF2.out; have := HNE.out; omega)
          have HSS := Lib.hid (sumS_all HQL.out)
          have HRC : Hid (rcAt b p = ⟨nm, u * 256 + v, sumS b (p + 3 + z) 20⟩) := Lib.hid (by
            unfold rcAt
            rw [HZ.out, HU.out, HV.out, HNM.out, HSS.out])
          have HFT : Hid (fits b p) := Lib.hid (by unfold fits; rw [HZ.out]; have := HF2.out; have := HNE.out; omega)
          have HRS := Lib.hid (rdS_step HR.out HFT.out)
          have HNX : Hid (nx b p = p + z + 23) := Lib.hid (by unfold nx; rw [HZ.out])
          obtain ⟨r, hr⟩ : ∃ r, (⟨nm, u * 256 + v, sumS b (p + 3 + z) 20⟩ : Rc) = r := ⟨_, rfl⟩
          have LR := Lib.hid (trW.rng_lies LQ.out)
          rw [hr] at LR HRC
          have HLJ := Lib.hid HP.out.2.2
          have O3 := Lib.hid (HO.out.past BQ.out)
          have B3 := Lib.hid (mb_bb HACC.out BQ.out)
          have G := mb_new wq (.cells (rcE r).toArray 54)
          have O4 := Lib.hid (O3.out.past G)
          have B4 := Lib.hid (mb_bb B3.out G)
          have HL4 := Lib.hid (litR_has wq r rfl)
          have w1 : IntKind.i64.wrap ((z : Int) + 23) = (z : Int) + 23 := by rw [IntKind.wrap_i64]; omega
          have w2 : IntKind.i64.wrap ((p : Int) + ((z : Int) + 23)) = ((p + z + 23 : Nat) : Int) := by rw [IntKind.wrap_i64]; omega
          have m1 : ¬ ((20 : Nat) : Int) < 20 := by decide
          clear hm hmt hlq hbq HX LQ BQ G O3 B3 HO HACC hr
          rw [show (((20 : Nat) : Int)) = 20 from rfl] at *
          go_wp2_with (first | (show wpList _ _ _ ({ dst := _, op := Op.load 54 _, type := _, pos := _, after := _, guard := _ } :: _) _ _; go_must (refine Enc.wp_ld RE (x := r) (P := Tryd.prog) Tryd.underlying54 rfl info22 (by rfl) _ rfl (LR.out) rfl ?_)) | (show wpList _ _ _ ({ dst := _, op := Op.buildSlice 25 1 _, type := _, pos := _, after := _, guard := _ } :: _) _ _; go_must (refine wp_litR (r := r) (by rfl) _ rfl rfl ?_)) | (at_builtin; refine Enc.app RE IR (by decide) (by rfl) _ _ rfl w.heap.size _ l rfl O4.out ⟨wq.heap.size, 0, none⟩ 1 1 [r] rfl rfl HL4.out (by rw [HLJ.out]; have := HKN.out; have := HLT.out; omega) B4.out.size (j + 1) (by rw [HLJ.out]) ?_; intro A7 c7 w7 ho7 hg7 hb7))
          exact ⟨⟨j + 1, nx b p, l ++ [rcAt b p], A7, c7, HLT.out, by go_num, by rw [HNX.out]; go_num, rfl, HRS.out, by rw [HRC.out]; exact ho7, B4.out.trans hb7⟩, by simp [intOf]; have := HLT.out; omega⟩
    · have j1 : ¬ (j : Int) < k := by omega
      obtain rfl : j = k := by omega
      have HLJ := Lib.hid HP.out.2.2
      have HOK := Lib.hid (rdS_ok HB.out HR.out)
      clear hj hlt hr own acc
      go_wp2_with fail
      refine (rValid_any l A' j c wr ⟨HO.out.has, HLJ.out, HO.out.len.2.1, by have := HO.out.len.2.2; unfold maxLen at this; omega, fun r hr => by have := (HOK.out r hr).1; omega, fun r hr => (HOK.out r hr).2⟩).mono ?_
      rintro e w4 ⟨rfl, b4⟩
      have O4 := Lib.hid (HO.out.past b4)
      have B4 := Lib.hid (mb_bb HACC.out b4)
      clear b4 HO HACC
      by_cases hv : vlE l = 0
      · have HM := Lib.hid (mr_ok A12.out.1 A12.out.2 (by rw [Int.toNat_natCast]; exact HR.out) hv)
        rw [hv]
        clear hv
        go_wp2_with fail
        go_ret3
        exact ⟨A', j, c, by rw [HM.out.1, HM.out.2.2]; rfl, by rw [HM.out.2.1]; exact O4.out, B4.out⟩
      · have HM := Lib.hid (mr_no (mr_form A12.out.1 A12.out.2 (by rw [Int.toNat_natCast]; exact HR.out) hv) (by decide))
        rcases vl_cases l with hc | hc | hc | hc
        · exact absurd hc hv
        all_goals
          rw [hc]
          clear hc hv
          go_wp2_with fail
          go_ret3
          exact rd_end HM.out B4.out
end Go.Proofs.YtiihafhnaiicoaaDoor.mbW
