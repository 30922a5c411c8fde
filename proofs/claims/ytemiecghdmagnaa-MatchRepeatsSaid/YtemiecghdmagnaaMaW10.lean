/- The bytes of a row have a place for themselves, by a walk. -/
import Derived.Test.YtemiecghdmagnaaMaWF
import Derived.Test.YtemiecghdmagnaaMaPl4
import Derived.Test.YtemiecghdmagnaaMemU
import Derived.Test.YtemiecghdmagnaaGP
import Derived.Test.YtemiecghdmagnaaHashLawsB
namespace Go.Proofs.Ytemiecghdmagnaa.maW
set_option maxRecDepth 100000
open Go.RowKit Go.Proofs.Ytemiecghdmagnaa.base Go.Proofs.Ytemiecghdmagnaa.rgP Go.Proofs.Ytemiecghdmagnaa.fdP Go.Proofs.Ytemiecghdmagnaa.maP Go.Proofs.Ytemiecghdmagnaa.rgW Go.Proofs.Ytemiecghdmagnaa.rgL Go.Proofs.Ytemiecghdmagnaa.hashP Go.Proofs.Ytemiecghdmagnaa.hashW Go.Proofs.Ytemiecghdmagnaa.cxP Go.Proofs.Ytemiecghdmagnaa.fdW Go.Proofs.Ytemiecghdmagnaa.nibP Go.Proofs.Ytemiecghdmagnaa.nibW
set_option linter.unusedVariables false
set_option linter.unusedSimpArgs false
/-- The places of the first ones. -/
def pls (b : List Int) (k : Nat) : List Int := (List.range k).map fun j => (plL b j : Int)
theorem pls_len (b : List Int) (k : Nat) : (pls b k).length = k := by simp [pls]
theorem pls_snoc (b : List Int) (k : Nat) : pls b (k + 1) = pls b k ++ [(plL b k : Int)] := by simp [pls, List.range_succ]
theorem pls_at (b : List Int) (k j : Nat) (h : j < k) : (pls b k).getD j 0 = plL b j := by
  unfold pls
  rw [List.getD_eq_getElem?_getD, List.getElem?_map, List.getElem?_range h]
  rfl
/-- Alone among the first ones. -/
def alK (b : List Int) (i : Nat) : Nat → Bool
  | 0 => true
  | k + 1 => alK b i k && (decide (k = i) || decide (plL b k ≠ plL b i))
theorem alK_all {b : List Int} {i : Nat} : ∀ {n : Nat}, alK b i n = true → ∀ k, k < n → k ≠ i → plL b k ≠ plL b i
  | n + 1, h, k, hk, hne => by
    simp only [alK, Bool.and_eq_true, Bool.or_eq_true, decide_eq_true_eq] at h
    rcases Nat.lt_or_ge k n with h1 | h1
    · exact alK_all h.1 k h1 hne
    · have : k = n := by omega
      subst this
      exact h.2.resolve_left hne
theorem own_alW {w : World} {B : Nat} {e : TypeId} {k : IntKind} {v : Value} {zs : List Int} (h : OwnI w B e k v zs) (o : Obj) : OwnI (w.alloc o) B e k v zs := h.below ((Below.refl _ _).alloc (Nat.le_refl _) _) (Nat.le_refl _)
theorem own_drW {w : World} {B : Nat} {e : TypeId} {k : IntKind} {v : Value} {zs : List Int} (h : OwnI w B e k v zs) (n : Nat) : OwnI (w.drewN n) B e k v zs := h
theorem gd_bd {zs : List Int} (h : ∀ z ∈ zs, 0 ≤ z ∧ z ≤ 255) (k : Nat) : 0 ≤ zs.getD k 0 ∧ zs.getD k 0 ≤ 255 := by
  rcases Nat.lt_or_ge k zs.length with h1 | h1
  · rw [List.getD_eq_getElem?_getD, List.getElem?_eq_getElem h1]
    exact h _ (List.getElem_mem h1)
  · rw [List.getD_eq_getElem?_getD, List.getElem?_eq_none h1]
    exact ⟨Int.le_refl _, by decide⟩
theorem tm {k n d : Nat} (hn : 0 < n) (hd : d ≤ n) : Int.tmod ((k : Int) + n - d) n = ((k + n - d) % n : Nat) := by
  rw [show (k : Int) + n - d = ((k + n - d : Nat) : Int) by omega]
  rfl
theorem pl_eq {b : List Int} {n k : Nat} (hl : b.length = n) (v : Int) (hv : hSteps (kStart 6) [b.getD ((k + n - 3) % n) 0, b.getD ((k + n - 2) % n) 0, b.getD ((k + n - 1) % n) 0, b.getD k 0] = v) (h0 : 0 ≤ v) : Int.tmod v 128 = (plL b k : Int) := by
  subst hl
  unfold plL
  rw [hv, Int.tmod_eq_emod_of_nonneg h0]
  have := Int.emod_nonneg v (show (128 : Int) ≠ 0 by decide)
  omega
set_option maxHeartbeats 2000000 in
theorem lone_any (b : List Int) (A : Option Addr) (n c : Nat) (w : World) (hA : Has .u8 w A b) (hl : b.length = n) (h4 : 4 ≤ n) (h20 : n ≤ 20) (hb : ∀ z ∈ b, 0 ≤ z ∧ z ≤ 255) :
    Calls Try.prog 31 #[.slice A n c] w fun e w' => (∃ v : Bool, e = .returned (.bool v) ∧ (v = true → ∃ i, 3 ≤ i ∧ i < n ∧ aloneL b i)) ∧ Below w.heap.size w w' := by
  obtain ⟨B, off, rfl, hB, hc⟩ := has_some hA (by omega)
  have HC : Hid (∀ W : World, Below w.heap.size w W → ∀ j, j < n → W.cell? ⟨B, off + j, none⟩ = some (.int .u8 (b.getD j 0))) := Lib.hid (fun W hW j hj => (hW.cell (p := ⟨B, _, none⟩) hB).trans (hc j (by omega)))
  have HL := Lib.hid hl
  have HN := Lib.hid (And.intro h4 h20)
  have HBD := Lib.hid (fun k => gd_bd hb k)
  have HZZ := Lib.hid hb
  have n20 : (n : Int) ≤ 20 := by omega
  have n4 : 4 ≤ (n : Int) := by omega
  have n0 : ¬ (n : Int) = 0 := by omega
  have nz : ¬ n = 0 := by omega
  clear hA hl h4 h20 hb hc
  go_enter Try.func31, Try.ntmps31
  go_wp2_with fail
  go_loopw [4, 5] (fun v i wr => ∃ (k : Nat) (A : Option Addr) (c : Nat), k ≤ n ∧ i = .int .i64 k ∧ v = .slice A k c ∧ OwnI wr w.heap.size 85 .u32 (.slice A k c) (pls b k) ∧ Below w.heap.size w wr) (fun _ i _ => n - (intOf i).toNat)
  case atStart => exact ⟨0, none, 0, by omega, rfl, rfl, OwnI.nil _ _ _ _, by (repeat' (first | (with_reducible exact Below.refl _ _) | (with_reducible assumption) | (with_reducible refine below_drewN ?_ _) | (with_reducible refine below_new ?_ _) | (with_reducible refine Below.alloc ?_ ?_ _) | (with_reducible refine Below.drew ?_) | (with_reducible refine Below.setCell ?_ ?_ _) | (with_reducible apply below_at; (case k => (with_reducible assumption)); (case hB => omega)) | (with_reducible apply below_on; (with_reducible assumption)) | (go_size; done) | (with_reducible apply size_of)))⟩
  case round =>
    obtain ⟨k, A, c1, hk, rfl, rfl, own, acc⟩ := hrel
    have HO := Lib.hid own
    have HACC := Lib.hid acc
    by_cases hlt : k < n
    · have HLT := Lib.hid hlt
      have k1 : (k : Int) < n := by omega
      have k0 : 0 ≤ (k : Int) := by omega
      have HJ : Hid (((k + n - 3) % n < n) ∧ ((k + n - 2) % n < n) ∧ ((k + n - 1) % n < n)) := Lib.hid (by have := HN.out; exact ⟨Nat.mod_lt _ (by omega), Nat.mod_lt _ (by omega), Nat.mod_lt _ (by omega)⟩)
      have m1 : IntKind.i64.wrap ((k : Int) + n) = (k : Int) + n := IntWalk.i64_in _ (by omega)
      have m2 : IntKind.i64.wrap ((k : Int) + n - 3) = (k : Int) + n - 3 := IntWalk.i64_in _ (by omega)
      have m3 : IntKind.i64.wrap ((k : Int) + n - 2) = (k : Int) + n - 2 := IntWalk.i64_in _ (by omega)
      have m4 : IntKind.i64.wrap ((k : Int) + n - 1) = (k : Int) + n - 1 := IntWalk.i64_in _ (by omega)
      have HPE : Hid (∀ v, hSteps (kStart 6) [b.getD ((k + n - 3) % n) 0, b.getD ((k + n - 2) % n) 0, b.getD ((k + n - 1) % n) 0, b.getD k 0] = v → 0 ≤ v → Int.tmod v 128 = (plL b k : Int)) := Lib.hid (fun v => pl_eq HL.out v)
      have t3 : Int.tmod ((k : Int) + n - 3) n = ((k + n - 3) % n : Nat) := tm (d := 3) (by have := HN.out; omega) (by have := HN.out; omega)
      have t2 : Int.tmod ((k : Int) + n - 2) n = ((k + n - 2) % n : Nat) := tm (d := 2) (by have := HN.out; omega) (by have := HN.out; omega)
      have t1 : Int.tmod ((k : Int) + n - 1) n = ((k + n - 1) % n : Nat) := tm (d := 1) (by have := HN.out; omega) (by have := HN.out; omega)
      generalize (k + n - 3) % n = j3 at *
      generalize (k + n - 2) % n = j2 at *
      generalize (k + n - 1) % n = j1 at *
      have HB3 := Lib.hid (And.intro (HBD.out j3) (And.intro (HBD.out j2) (And.intro (HBD.out j1) (HBD.out k))))
      have HCC : Hid (∀ W : World, Below w.heap.size w W → W.cell? ⟨B, off + j3, none⟩ = some (.int .u8 (b.getD j3 0)) ∧ W.cell? ⟨B, off + j2, none⟩ = some (.int .u8 (b.getD j2 0)) ∧ W.cell? ⟨B, off + j1, none⟩ = some (.int .u8 (b.getD j1 0)) ∧ W.cell? ⟨B, off + k, none⟩ = some (.int .u8 (b.getD k 0))) := Lib.hid (fun W hW => ⟨HC.out W hW _ HJ.out.1, HC.out W hW _ HJ.out.2.1, HC.out W hW _ HJ.out.2.2, HC.out W hW _ HLT.out⟩)
      generalize b.getD j3 0 = y3 at *
      generalize b.getD j2 0 = y2 at *
      generalize b.getD j1 0 = y1 at *
      generalize b.getD k 0 = y0 at *
      have i3 : (j3 : Int) < n := by have := HJ.out; omega
      have i2 : (j2 : Int) < n := by have := HJ.out; omega
      have i1 : (j1 : Int) < n := by have := HJ.out; omega
      have o3 : 0 ≤ (j3 : Int) := by omega
      have o2 : 0 ≤ (j2 : Int) := by omega
      have o1 : 0 ≤ (j1 : Int) := by omega
      clear own acc hk hlt
      go_upto_region 6 with fail
      (have RD := grows_roads (S := fun x' => Below wr.heap.size wr x') (fun a b h1 h2 => h2.trans (h1.mono h2.size))); refine region_ord _ Grows RD (Below.drew (Below.refl _ _)) (by kernel_rfl) ?_; intro ops Q' hops hPQ hN; (have HNS : Hid (Region.noSelect ops = true) := Lib.hid (by rw [hops]; kernel_rfl)); (have hsz : ops.size = 34 := (by rw [hops]; rfl)); have HOP := Lib.hid hops; have HPQ := Lib.hid hPQ; have HN := Lib.hid hN; rw [hsz]; clear hops hsz hPQ hN
      refine ord_take RD 0 (at_list (by rw [HOP.out]; rfl)) HNS.out HPQ.out (by rw [HOP.out]; kernel_rfl) (by rw [HOP.out]; kernel_rfl) (by rw [HOP.out]; rfl) (fun K hK => ?_); apply Exists.intro; refine ⟨fun W hSW => ?_, hK _ ?_⟩; (focus ((try dsimp only at hSW); go_simp; try with_reducible rfl)); clear hK K; (try simp only [Act.put, List.setIfInBounds_toArray, List.set_cons_zero, List.set_cons_succ])
      refine ord_take RD 1 (at_list (by rw [HOP.out]; rfl)) HNS.out HPQ.out (by rw [HOP.out]; kernel_rfl) (by rw [HOP.out]; kernel_rfl) (by rw [HOP.out]; rfl) (fun K hK => ?_); apply Exists.intro; refine ⟨fun W hSW => ?_, hK _ ?_⟩; (focus ((try dsimp only at hSW); go_simp; try with_reducible rfl)); clear hK K; (try simp only [Act.put, List.setIfInBounds_toArray, List.set_cons_zero, List.set_cons_succ])
      refine ord_take RD 2 (at_list (by rw [HOP.out]; rfl)) HNS.out HPQ.out (by rw [HOP.out]; kernel_rfl) (by rw [HOP.out]; kernel_rfl) (by rw [HOP.out]; rfl) (fun K hK => ?_); apply Exists.intro; refine ⟨fun W hSW => ?_, hK _ ?_⟩; (focus ((try dsimp only at hSW); go_simp; try with_reducible rfl)); clear hK K; (try simp only [Act.put, List.setIfInBounds_toArray, List.set_cons_zero, List.set_cons_succ])
      refine ord_take RD 3 (at_list (by rw [HOP.out]; rfl)) HNS.out HPQ.out (by rw [HOP.out]; kernel_rfl) (by rw [HOP.out]; kernel_rfl) (by rw [HOP.out]; rfl) (fun K hK => ?_); apply Exists.intro; refine ⟨fun W hSW => ?_, hK _ ?_⟩; (focus ((try dsimp only at hSW); go_simp; try with_reducible rfl)); clear hK K; (try simp only [Act.put, List.setIfInBounds_toArray, List.set_cons_zero, List.set_cons_succ])
      refine ord_take RD 4 (at_list (by rw [HOP.out]; rfl)) HNS.out HPQ.out (by rw [HOP.out]; kernel_rfl) (by rw [HOP.out]; kernel_rfl) (by rw [HOP.out]; rfl) (fun K hK => ?_); apply Exists.intro; refine ⟨fun W hSW => ?_, hK _ ?_⟩; (focus ((try dsimp only at hSW); go_simp; try with_reducible rfl)); clear hK K; (try simp only [Act.put, List.setIfInBounds_toArray, List.set_cons_zero, List.set_cons_succ])
      refine ord_take RD 5 (at_list (by rw [HOP.out]; rfl)) HNS.out HPQ.out (by rw [HOP.out]; kernel_rfl) (by rw [HOP.out]; kernel_rfl) (by rw [HOP.out]; rfl) (fun K hK => ?_); apply Exists.intro; refine ⟨fun W hSW => ?_, hK _ ?_⟩; (focus ((try dsimp only at hSW); go_simp; try with_reducible rfl)); clear hK K; (try simp only [Act.put, List.setIfInBounds_toArray, List.set_cons_zero, List.set_cons_succ])
      refine ord_take RD 6 (at_list (by rw [HOP.out]; rfl)) HNS.out HPQ.out (by rw [HOP.out]; kernel_rfl) (by rw [HOP.out]; kernel_rfl) (by rw [HOP.out]; rfl) (fun K hK => ?_); apply Exists.intro; refine ⟨fun W hSW => ?_, hK _ ?_⟩; (focus ((try dsimp only at hSW); go_simp; try with_reducible rfl)); clear hK K; (try simp only [Act.put, List.setIfInBounds_toArray, List.set_cons_zero, List.set_cons_succ])
      refine ord_take RD 7 (at_list (by rw [HOP.out]; rfl)) HNS.out HPQ.out (by rw [HOP.out]; kernel_rfl) (by rw [HOP.out]; kernel_rfl) (by rw [HOP.out]; rfl) (fun K hK => ?_); apply Exists.intro; refine ⟨fun W hSW => ?_, hK _ ?_⟩; (focus ((try dsimp only at hSW); go_simp; try with_reducible rfl)); clear hK K; (try simp only [Act.put, List.setIfInBounds_toArray, List.set_cons_zero, List.set_cons_succ])
      refine ord_take RD 8 (at_list (by rw [HOP.out]; rfl)) HNS.out HPQ.out (by rw [HOP.out]; kernel_rfl) (by rw [HOP.out]; kernel_rfl) (by rw [HOP.out]; rfl) (fun K hK => ?_); apply Exists.intro; refine ⟨fun W hSW => ?_, hK _ ?_⟩; (focus ((try dsimp only at hSW); (obtain ⟨z3, z2, z1, z0⟩ := HCC.out W (HACC.out.trans (hSW.mono HACC.out.size))); go_simp; try with_reducible rfl)); clear hK K; (try simp only [Act.put, List.setIfInBounds_toArray, List.set_cons_zero, List.set_cons_succ])
      refine ord_take RD 9 (at_list (by rw [HOP.out]; rfl)) HNS.out HPQ.out (by rw [HOP.out]; kernel_rfl) (by rw [HOP.out]; kernel_rfl) (by rw [HOP.out]; rfl) (fun K hK => ?_); apply Exists.intro; refine ⟨fun W hSW => ?_, hK _ ?_⟩; (focus ((try dsimp only at hSW); go_simp; try with_reducible rfl)); clear hK K; (try simp only [Act.put, List.setIfInBounds_toArray, List.set_cons_zero, List.set_cons_succ])
      refine ord_take RD 10 (at_list (by rw [HOP.out]; rfl)) HNS.out HPQ.out (by rw [HOP.out]; kernel_rfl) (by rw [HOP.out]; kernel_rfl) (by rw [HOP.out]; rfl) (fun K hK => ?_); apply Exists.intro; refine ⟨fun W hSW => ?_, hK _ ?_⟩; (focus ((try dsimp only at hSW); go_simp; try with_reducible rfl)); clear hK K; (try simp only [Act.put, List.setIfInBounds_toArray, List.set_cons_zero, List.set_cons_succ])
      refine ord_take RD 11 (at_list (by rw [HOP.out]; rfl)) HNS.out HPQ.out (by rw [HOP.out]; kernel_rfl) (by rw [HOP.out]; kernel_rfl) (by rw [HOP.out]; rfl) (fun K hK => ?_); apply Exists.intro; refine ⟨fun W hSW => ?_, hK _ ?_⟩; (focus ((try dsimp only at hSW); go_simp; try with_reducible rfl)); clear hK K; (try simp only [Act.put, List.setIfInBounds_toArray, List.set_cons_zero, List.set_cons_succ])
      refine ord_take RD 12 (at_list (by rw [HOP.out]; rfl)) HNS.out HPQ.out (by rw [HOP.out]; kernel_rfl) (by rw [HOP.out]; kernel_rfl) (by rw [HOP.out]; rfl) (fun K hK => ?_); apply Exists.intro; refine ⟨fun W hSW => ?_, hK _ ?_⟩; (focus ((try dsimp only at hSW); go_simp; try with_reducible rfl)); clear hK K; (try simp only [Act.put, List.setIfInBounds_toArray, List.set_cons_zero, List.set_cons_succ])
      refine ord_take RD 13 (at_list (by rw [HOP.out]; rfl)) HNS.out HPQ.out (by rw [HOP.out]; kernel_rfl) (by rw [HOP.out]; kernel_rfl) (by rw [HOP.out]; rfl) (fun K hK => ?_); apply Exists.intro; refine ⟨fun W hSW => ?_, hK _ ?_⟩; (focus ((try dsimp only at hSW); go_simp; try with_reducible rfl)); clear hK K; (try simp only [Act.put, List.setIfInBounds_toArray, List.set_cons_zero, List.set_cons_succ])
      refine ord_take RD 14 (at_list (by rw [HOP.out]; rfl)) HNS.out HPQ.out (by rw [HOP.out]; kernel_rfl) (by rw [HOP.out]; kernel_rfl) (by rw [HOP.out]; rfl) (fun K hK => ?_); apply Exists.intro; refine ⟨fun W hSW => ?_, hK _ ?_⟩; (focus ((try dsimp only at hSW); go_simp; try with_reducible rfl)); clear hK K; (try simp only [Act.put, List.setIfInBounds_toArray, List.set_cons_zero, List.set_cons_succ])
      refine ord_take RD 15 (at_list (by rw [HOP.out]; rfl)) HNS.out HPQ.out (by rw [HOP.out]; kernel_rfl) (by rw [HOP.out]; kernel_rfl) (by rw [HOP.out]; rfl) (fun K hK => ?_); apply Exists.intro; refine ⟨fun W hSW => ?_, hK _ ?_⟩; (focus ((try dsimp only at hSW); go_simp; try with_reducible rfl)); clear hK K; (try simp only [Act.put, List.setIfInBounds_toArray, List.set_cons_zero, List.set_cons_succ])
      refine ord_take RD 16 (at_list (by rw [HOP.out]; rfl)) HNS.out HPQ.out (by rw [HOP.out]; kernel_rfl) (by rw [HOP.out]; kernel_rfl) (by rw [HOP.out]; rfl) (fun K hK => ?_); apply Exists.intro; refine ⟨fun W hSW => ?_, hK _ ?_⟩; (focus ((try dsimp only at hSW); go_simp; try with_reducible rfl)); clear hK K; (try simp only [Act.put, List.setIfInBounds_toArray, List.set_cons_zero, List.set_cons_succ])
      refine ord_take RD 17 (at_list (by rw [HOP.out]; rfl)) HNS.out HPQ.out (by rw [HOP.out]; kernel_rfl) (by rw [HOP.out]; kernel_rfl) (by rw [HOP.out]; rfl) (fun K hK => ?_); apply Exists.intro; refine ⟨fun W hSW => ?_, hK _ ?_⟩; (focus ((try dsimp only at hSW); (obtain ⟨z3, z2, z1, z0⟩ := HCC.out W (HACC.out.trans (hSW.mono HACC.out.size))); go_simp; try with_reducible rfl)); clear hK K; (try simp only [Act.put, List.setIfInBounds_toArray, List.set_cons_zero, List.set_cons_succ])
      refine ord_take RD 18 (at_list (by rw [HOP.out]; rfl)) HNS.out HPQ.out (by rw [HOP.out]; kernel_rfl) (by rw [HOP.out]; kernel_rfl) (by rw [HOP.out]; rfl) (fun K hK => ?_); apply Exists.intro; refine ⟨fun W hSW => ?_, hK _ ?_⟩; (focus ((try dsimp only at hSW); go_simp; try with_reducible rfl)); clear hK K; (try simp only [Act.put, List.setIfInBounds_toArray, List.set_cons_zero, List.set_cons_succ])
      refine ord_take RD 19 (at_list (by rw [HOP.out]; rfl)) HNS.out HPQ.out (by rw [HOP.out]; kernel_rfl) (by rw [HOP.out]; kernel_rfl) (by rw [HOP.out]; rfl) (fun K hK => ?_); apply Exists.intro; refine ⟨fun W hSW => ?_, hK _ ?_⟩; (focus ((try dsimp only at hSW); go_simp; try with_reducible rfl)); clear hK K; (try simp only [Act.put, List.setIfInBounds_toArray, List.set_cons_zero, List.set_cons_succ])
      refine ord_take RD 20 (at_list (by rw [HOP.out]; rfl)) HNS.out HPQ.out (by rw [HOP.out]; kernel_rfl) (by rw [HOP.out]; kernel_rfl) (by rw [HOP.out]; rfl) (fun K hK => ?_); apply Exists.intro; refine ⟨fun W hSW => ?_, hK _ ?_⟩; (focus ((try dsimp only at hSW); go_simp; try with_reducible rfl)); clear hK K; (try simp only [Act.put, List.setIfInBounds_toArray, List.set_cons_zero, List.set_cons_succ])
      refine ord_take RD 21 (at_list (by rw [HOP.out]; rfl)) HNS.out HPQ.out (by rw [HOP.out]; kernel_rfl) (by rw [HOP.out]; kernel_rfl) (by rw [HOP.out]; rfl) (fun K hK => ?_); apply Exists.intro; refine ⟨fun W hSW => ?_, hK _ ?_⟩; (focus ((try dsimp only at hSW); go_simp; try with_reducible rfl)); clear hK K; (try simp only [Act.put, List.setIfInBounds_toArray, List.set_cons_zero, List.set_cons_succ])
      refine ord_take RD 22 (at_list (by rw [HOP.out]; rfl)) HNS.out HPQ.out (by rw [HOP.out]; kernel_rfl) (by rw [HOP.out]; kernel_rfl) (by rw [HOP.out]; rfl) (fun K hK => ?_); apply Exists.intro; refine ⟨fun W hSW => ?_, hK _ ?_⟩; (focus ((try dsimp only at hSW); go_simp; try with_reducible rfl)); clear hK K; (try simp only [Act.put, List.setIfInBounds_toArray, List.set_cons_zero, List.set_cons_succ])
      refine ord_take RD 23 (at_list (by rw [HOP.out]; rfl)) HNS.out HPQ.out (by rw [HOP.out]; kernel_rfl) (by rw [HOP.out]; kernel_rfl) (by rw [HOP.out]; rfl) (fun K hK => ?_); apply Exists.intro; refine ⟨fun W hSW => ?_, hK _ ?_⟩; (focus ((try dsimp only at hSW); go_simp; try with_reducible rfl)); clear hK K; (try simp only [Act.put, List.setIfInBounds_toArray, List.set_cons_zero, List.set_cons_succ])
      refine ord_take RD 24 (at_list (by rw [HOP.out]; rfl)) HNS.out HPQ.out (by rw [HOP.out]; kernel_rfl) (by rw [HOP.out]; kernel_rfl) (by rw [HOP.out]; rfl) (fun K hK => ?_); apply Exists.intro; refine ⟨fun W hSW => ?_, hK _ ?_⟩; (focus ((try dsimp only at hSW); go_simp; try with_reducible rfl)); clear hK K; (try simp only [Act.put, List.setIfInBounds_toArray, List.set_cons_zero, List.set_cons_succ])
      refine ord_take RD 25 (at_list (by rw [HOP.out]; rfl)) HNS.out HPQ.out (by rw [HOP.out]; kernel_rfl) (by rw [HOP.out]; kernel_rfl) (by rw [HOP.out]; rfl) (fun K hK => ?_); apply Exists.intro; refine ⟨fun W hSW => ?_, hK _ ?_⟩; (focus ((try dsimp only at hSW); go_simp; try with_reducible rfl)); clear hK K; (try simp only [Act.put, List.setIfInBounds_toArray, List.set_cons_zero, List.set_cons_succ])
      refine ord_take RD 26 (at_list (by rw [HOP.out]; rfl)) HNS.out HPQ.out (by rw [HOP.out]; kernel_rfl) (by rw [HOP.out]; kernel_rfl) (by rw [HOP.out]; rfl) (fun K hK => ?_); apply Exists.intro; refine ⟨fun W hSW => ?_, hK _ ?_⟩; (focus ((try dsimp only at hSW); (obtain ⟨z3, z2, z1, z0⟩ := HCC.out W (HACC.out.trans (hSW.mono HACC.out.size))); go_simp; try with_reducible rfl)); clear hK K; (try simp only [Act.put, List.setIfInBounds_toArray, List.set_cons_zero, List.set_cons_succ])
      refine ord_take RD 27 (at_list (by rw [HOP.out]; rfl)) HNS.out HPQ.out (by rw [HOP.out]; kernel_rfl) (by rw [HOP.out]; kernel_rfl) (by rw [HOP.out]; rfl) (fun K hK => ?_); apply Exists.intro; refine ⟨fun W hSW => ?_, hK _ ?_⟩; (focus ((try dsimp only at hSW); go_simp; try with_reducible rfl)); clear hK K; (try simp only [Act.put, List.setIfInBounds_toArray, List.set_cons_zero, List.set_cons_succ])
      refine ord_take RD 28 (at_list (by rw [HOP.out]; rfl)) HNS.out HPQ.out (by rw [HOP.out]; kernel_rfl) (by rw [HOP.out]; kernel_rfl) (by rw [HOP.out]; rfl) (fun K hK => ?_); apply Exists.intro; refine ⟨fun W hSW => ?_, hK _ ?_⟩; (focus ((try dsimp only at hSW); go_simp; try with_reducible rfl)); clear hK K; (try simp only [Act.put, List.setIfInBounds_toArray, List.set_cons_zero, List.set_cons_succ])
      refine ord_take RD 29 (at_list (by rw [HOP.out]; rfl)) HNS.out HPQ.out (by rw [HOP.out]; kernel_rfl) (by rw [HOP.out]; kernel_rfl) (by rw [HOP.out]; rfl) (fun K hK => ?_); apply Exists.intro; refine ⟨fun W hSW => ?_, hK _ ?_⟩; (focus ((try dsimp only at hSW); go_simp; try with_reducible rfl)); clear hK K; (try simp only [Act.put, List.setIfInBounds_toArray, List.set_cons_zero, List.set_cons_succ])
      refine ord_take RD 30 (at_list (by rw [HOP.out]; rfl)) HNS.out HPQ.out (by rw [HOP.out]; kernel_rfl) (by rw [HOP.out]; kernel_rfl) (by rw [HOP.out]; rfl) (fun K hK => ?_); apply Exists.intro; refine ⟨fun W hSW => ?_, hK _ ?_⟩; (focus ((try dsimp only at hSW); (obtain ⟨z3, z2, z1, z0⟩ := HCC.out W (HACC.out.trans (hSW.mono HACC.out.size))); go_simp; try with_reducible rfl)); clear hK K; (try simp only [Act.put, List.setIfInBounds_toArray, List.set_cons_zero, List.set_cons_succ])
      refine ord_one RD 31 (by rw [HOP.out]; kernel_rfl) (at_list (by rw [HOP.out]; rfl)) (by rw [HOP.out]; rfl) (fun W1 hWW hSW K hK => ?_); (try dsimp only at hSW)
      have HS1 := Lib.hid hSW
      clear hSW hWW
      go_simp
      refine hK _ _ (HS1.out.trans ((grows_alloc W1 _).mono HS1.out.size)) ?_
      clear hK K; (try simp only [Act.put, List.setIfInBounds_toArray, List.set_cons_zero, List.set_cons_succ])
      have HR1 : Hid (Has .u8 (W1.alloc (.cells #[.int .u8 y3, .int .u8 y2, .int .u8 y1, .int .u8 y0] 5)) (some ⟨W1.heap.size, 0, none⟩) [y3, y2, y1, y0]) := Lib.hid (has_lit (zs := [y3, y2, y1, y0]) (by simp) (by simp [maxLen]))
      refine ord_one RD 32 (by rw [HOP.out]; kernel_rfl) (at_list (by rw [HOP.out]; rfl)) (by rw [HOP.out]; rfl) (fun W2 hWW hSW K hK => ?_); (try dsimp only at hSW)
      have HS2 := Lib.hid hSW
      have HR2 := Lib.hid (HR1.out.below hWW (Nat.le_refl _))
      clear hSW hWW HR1
      go_simp
      refine (hashL.rhash_any 6 _ 4 4 [y3, y2, y1, y0] _ (by omega) (by omega) (by have := HB3.out; intro z hz; simp at hz; rcases hz with rfl | rfl | rfl | rfl <;> omega) HR2.out rfl (by omega)).mono ?_
      rintro e W3 ⟨rfl, rfl⟩
      refine hK _ _ HS2.out ?_
      clear hK K; (try simp only [Act.put, List.setIfInBounds_toArray, List.set_cons_zero, List.set_cons_succ])
      refine ord_take RD 33 (at_list (by rw [HOP.out]; rfl)) HNS.out HPQ.out (by rw [HOP.out]; kernel_rfl) (by rw [HOP.out]; kernel_rfl) (by rw [HOP.out]; rfl) (fun K hK => ?_); apply Exists.intro; refine ⟨fun W hSW => ?_, hK _ ?_⟩; (focus ((try dsimp only at hSW); go_simp; try with_reducible rfl)); clear hK K; (try simp only [Act.put, List.setIfInBounds_toArray, List.set_cons_zero, List.set_cons_succ])
      refine ord_done (by rw [HOP.out]; kernel_rfl) (fun W4 hWW hSW => HN.out _ _ ?_); clear HOP HNS HPQ HN RD; (try dsimp only at hSW)
      have HV : Hid (0 ≤ hSteps (kStart 6) [y3, y2, y1, y0] ∧ hSteps (kStart 6) [y3, y2, y1, y0] ≤ 4294967295) := Lib.hid (hSteps_bd _ (by decide +kernel) (by decide +kernel) (by have := HB3.out; intro z hz; simp at hz; rcases hz with rfl | rfl | rfl | rfl <;> omega))
      have HP := Lib.hid (HPE.out _ rfl HV.out.1)
      have HS4 := Lib.hid (HACC.out.trans (hSW.mono HACC.out.size))
      have HO4 : Hid (OwnI W4 w.heap.size 85 .u32 (.slice A k c1) (pls b k)) := Lib.hid (HO.out.below hSW (Nat.le_refl _))
      clear hSW hWW HR2 HS1 HS2 HCC HPE m1 m2 m3 m4 t1 t2 t3 i1 i2 i3 o1 o2 o3 HB3 HJ HO HACC
      generalize hSteps (kStart 6) [y3, y2, y1, y0] = v at *
      have v0 := HV.out.1
      have v1 := HV.out.2
      have tv := HP.out
      clear HP HV
      go_wp2_with ((at_builtin; refine appU rfl _ _ rfl (w.heap.size) _ (pls b k) rfl (show OwnI _ _ _ _ _ _ from own_alW HO4.out _) (some ⟨_, 0, none⟩) 1 1 [(plL b k : Int)] rfl rfl (show Has _ _ _ _ from has_lit (zs := [_]) (by simp) (by simp [maxLen])) (k + 1) (by rw [pls_len]) (by have := HLT.out; have := HN.out; omega) (by have := HS4.out.size; simp; omega) ?_); intro A2 c2 w2 own2 gr2 bel2; have HO2 := Lib.hid own2; clear own2 gr2)
      refine ⟨⟨k + 1, A2, c2, by have := HLT.out; omega, by go_num, rfl, by rw [pls_snoc]; exact HO2.out, ?_⟩, by simp [intOf]; have := HLT.out; omega⟩
      have := HS4.out
      (repeat' (first | (with_reducible exact Below.refl _ _) | (with_reducible assumption) | (with_reducible refine below_drewN ?_ _) | (with_reducible refine below_new ?_ _) | (with_reducible refine Below.alloc ?_ ?_ _) | (with_reducible refine Below.drew ?_) | (with_reducible refine Below.setCell ?_ ?_ _) | (with_reducible apply below_at; (case k => (with_reducible assumption)); (case hB => omega)) | (with_reducible apply below_on; (with_reducible assumption)) | (go_size; done) | (with_reducible apply size_of)))
    · obtain rfl : k = n := by omega
      have HH := Lib.hid (OwnI.has own)
      have k16 : ¬ (k : Int) < k := by omega
      clear own hk hlt HO
      go_wp2_with fail
      obtain ⟨g, s, rfl, hg, hcell⟩ := has_some HH.out (by rw [pls_len]; have := HN.out; omega)
      have HP : Hid (g < wr.heap.size ∧ ∀ W : World, Below wr.heap.size wr W → ∀ j, j < k → W.cell? ⟨g, s + j, none⟩ = some (.int .u32 (plL b j))) := Lib.hid ⟨hg, fun W hW j hj => by rw [hW.cell (p := ⟨g, _, none⟩) hg, hcell j (by rw [pls_len]; exact hj), pls_at b k j hj]⟩
      clear hg hcell HH acc
      generalize wr = wo at *
      go_loopw [7] (fun i wy => ∃ (j : Nat), 3 ≤ j ∧ j ≤ k ∧ i = .int .i64 j ∧ Below wo.heap.size wo wy) (fun i _ => k - (intOf i).toNat)
      case atStart => exact ⟨3, by omega, by have := HN.out; omega, rfl, by (repeat' (first | (with_reducible exact Below.refl _ _) | (with_reducible assumption) | (with_reducible refine below_drewN ?_ _) | (with_reducible refine below_new ?_ _) | (with_reducible refine Below.alloc ?_ ?_ _) | (with_reducible refine Below.drew ?_) | (with_reducible refine Below.setCell ?_ ?_ _) | (with_reducible apply below_at; (case k => (with_reducible assumption)); (case hB => omega)) | (with_reducible apply below_on; (with_reducible assumption)) | (go_size; done) | (with_reducible apply size_of)))⟩
      case round =>
        obtain ⟨i, hi3, hik, rfl, acc⟩ := hrel
        have HA := Lib.hid acc
        have HI := Lib.hid (And.intro hi3 hik)
        by_cases hlt : i < k
        · have HLT := Lib.hid hlt
          have k1 : (i : Int) < k := by omega
          clear acc hi3 hik hlt
          go_wp2_with fail
          go_loopw [8, 9] (fun al iv wz => ∃ (j : Nat), j ≤ k ∧ iv = .int .i64 j ∧ al = .bool (alK b i j) ∧ Below wo.heap.size wo wz) (fun _ iv _ => k - (intOf iv).toNat)
          case atStart => exact ⟨0, by omega, rfl, rfl, by have := HA.out; (repeat' (first | (with_reducible exact Below.refl _ _) | (with_reducible assumption) | (with_reducible refine below_drewN ?_ _) | (with_reducible refine below_new ?_ _) | (with_reducible refine Below.alloc ?_ ?_ _) | (with_reducible refine Below.drew ?_) | (with_reducible refine Below.setCell ?_ ?_ _) | (with_reducible apply below_at; (case k => (with_reducible assumption)); (case hB => omega)) | (with_reducible apply below_on; (with_reducible assumption)) | (go_size; done) | (with_reducible apply size_of)))⟩
          case round =>
            obtain ⟨j, hj, rfl, rfl, acc⟩ := hrel
            by_cases hjk : j < k
            · have j1 : (j : Int) < k := by omega
              have j0 : 0 ≤ (j : Int) := by omega
              have i0 : 0 ≤ (i : Int) := by omega
              have z1 := HP.out.2 _ acc j hjk
              have z2 := HP.out.2 _ acc i HLT.out
              have HJ := Lib.hid hjk
              have HZ := Lib.hid acc
              have HK : Hid (alK b i (j + 1) = (alK b i j && (decide (j = i) || decide (plL b j ≠ plL b i)))) := Lib.hid rfl
              clear acc hj hjk
              generalize alK b i j = q at *
              cases q
              · go_wp2_with (go_quiet (fail))
                exact ⟨⟨j + 1, by have := HJ.out; omega, by go_num, by rw [HK.out]; rfl, by have := HZ.out; (repeat' (first | (with_reducible exact Below.refl _ _) | (with_reducible assumption) | (with_reducible refine below_drewN ?_ _) | (with_reducible refine below_new ?_ _) | (with_reducible refine Below.alloc ?_ ?_ _) | (with_reducible refine Below.drew ?_) | (with_reducible refine Below.setCell ?_ ?_ _) | (with_reducible apply below_at; (case k => (with_reducible assumption)); (case hB => omega)) | (with_reducible apply below_on; (with_reducible assumption)) | (go_size; done) | (with_reducible apply size_of)))⟩, by simp [intOf]; have := HJ.out; omega⟩
              · by_cases hji : j = i
                · subst hji
                  go_wp2_with (go_quiet (fail))
                  exact ⟨⟨j + 1, by have := HJ.out; omega, by go_num, by rw [HK.out]; simp, by have := HZ.out; (repeat' (first | (with_reducible exact Below.refl _ _) | (with_reducible assumption) | (with_reducible refine below_drewN ?_ _) | (with_reducible refine below_new ?_ _) | (with_reducible refine Below.alloc ?_ ?_ _) | (with_reducible refine Below.drew ?_) | (with_reducible refine Below.setCell ?_ ?_ _) | (with_reducible apply below_at; (case k => (with_reducible assumption)); (case hB => omega)) | (with_reducible apply below_on; (with_reducible assumption)) | (go_size; done) | (with_reducible apply size_of)))⟩, by simp [intOf]; have := HJ.out; omega⟩
                · have hji' : ¬ (j : Int) = i := by omega
                  go_wp2_with (go_quiet (fail))
                  exact ⟨⟨j + 1, by have := HJ.out; omega, by go_num, by rw [HK.out]; congr 1; rw [Bool.eq_iff_iff]; simp; omega, by have := HZ.out; (repeat' (first | (with_reducible exact Below.refl _ _) | (with_reducible assumption) | (with_reducible refine below_drewN ?_ _) | (with_reducible refine below_new ?_ _) | (with_reducible refine Below.alloc ?_ ?_ _) | (with_reducible refine Below.drew ?_) | (with_reducible refine Below.setCell ?_ ?_ _) | (with_reducible apply below_at; (case k => (with_reducible assumption)); (case hB => omega)) | (with_reducible apply below_on; (with_reducible assumption)) | (go_size; done) | (with_reducible apply size_of)))⟩, by simp [intOf]; have := HJ.out; omega⟩
            · obtain rfl : j = k := by omega
              have j1 : ¬ (j : Int) < j := by omega
              have HZ := Lib.hid acc
              clear acc hj hjk
              obtain ⟨q, hq⟩ : ∃ q, alK b i j = q := ⟨_, rfl⟩
              rw [hq]
              have HQ := Lib.hid hq
              clear hq
              cases q
              · go_wp2_with fail
                exact ⟨⟨i + 1, by have := HI.out; omega, by have := HLT.out; omega, by go_num, HZ.out⟩, by simp [intOf]; have := HLT.out; omega⟩
              · go_wp2_with fail
                refine bodyPost_ret (by simp [results, Try.results31, go_sem, ]; try rfl) rfl ?_
                exact ⟨.inr ⟨rfl, i, HI.out.1, HLT.out, fun x hx hne => alK_all HQ.out x (by rw [← HL.out]; exact hx) hne⟩, HACC.out.trans (HZ.out.mono HACC.out.size)⟩
        · have k1 : ¬ (i : Int) < k := by omega
          clear acc hi3 hik hlt
          go_wp2_with fail
          refine bodyPost_ret (by simp [results, Try.results31, go_sem, ]; try rfl) rfl ?_
          exact ⟨.inl rfl, HACC.out.trans (HA.out.mono HACC.out.size)⟩
end Go.Proofs.Ytemiecghdmagnaa.maW
