/- FixedNames, by a walk. -/
import Derived.Test.YtjlmhlagpihehaaFixLaws
import Derived.Test.YtjlmhlagpihehaaOrd
import Derived.Test.YtjlmhlagpihehaaZero32
import Derived.Test.YtjlmhlagpihehaaReg
import Derived.Handy
import Derived.IntWalk
namespace Go.Proofs.Ytjlmhlagpihehaa.fixL
open Go.RowKit Go.Proofs.Ytjlmhlagpihehaa.base Go.Proofs.Ytjlmhlagpihehaa.fixP Go.Proofs.Ytjlmhlagpihehaa.fixW
set_option linter.unusedVariables false
set_option linter.unusedSimpArgs false
def lowK (k : Nat) : List Int := List.replicate k (-2147483648) ++ List.replicate (16 - k) 0
def halfK (k : Nat) : List Int := List.replicate 8 (-2147483648) ++ List.replicate (k - 8) 2147483647 ++ List.replicate (16 - k) 0
theorem lowK_set : ∀ k, k < 16 → (lowK k).set k (-2147483648) = lowK (k + 1) ∧ (lowK k).length = 16 := by decide
theorem halfK_set : ∀ k, k < 16 → 8 ≤ k → (halfK k).set k 2147483647 = halfK (k + 1) ∧ (halfK k).length = 16 := by decide
theorem has_heap {k : IntKind} {w : World} {x : Nat} {zs : List Int} {e : TypeId} (h : w.heap[x]? = some (.cells (zs.map (Value.int k)).toArray e)) : Has k w (some ⟨x, 0, none⟩) zs := by
  by_cases hz : zs = []
  · exact .inl hz
  · refine .inr ⟨x, 0, rfl, lt_of_block h, fun i hi => ?_⟩
    have := cell_of_row w x (0 + i) _ _ _ h
    rw [this]
    simp [List.getD_eq_getElem?_getD, List.getElem?_eq_getElem hi]
theorem dotsG {A B : Option Addr} {n c1 c2 : Nat} {want : Int} {w : World} (xs ys : List Int) (h16 : n ≤ 16) (lx : xs.length = n) (ly : ys.length = n) (hA : Has .i32 w A xs) (hB : Has .i32 w B ys) (hx : In32 xs) (hy : In32 ys) (hb : decide (sat (prods xs ys).sum = want) = true) :
    Calls Try.prog 17 #[.slice A n c1, .slice B n c2, .int .i32 want] w fun e w' => e = .returned (.bool true) ∧ Grows w w' :=
  (dots_any A B n c1 c2 want xs ys w h16 lx ly hA hB hx hy true hb).mono fun _ _ ⟨h1, h2⟩ => ⟨h1, h2 ▸ Below.refl _ _⟩
theorem own_set32 {w : World} {B : Nat} {e : TypeId} {k : IntKind} {v : Value} {zs : List Int} {p : Addr} (h : OwnI w B e k v zs) (hne : v.ownBlock ≠ some p.block) (x : Value) : OwnI (w.setCell p x) B e k v zs := by
  refine ⟨h.1, ?_⟩
  rcases h.2 with h2 | ⟨g, cap, cur, hv, hB, hg, r⟩
  · exact .inl h2
  · exact .inr ⟨g, cap, cur, hv, hB, by rw [Below.heap_setCell w p x g (fun e => hne (by rw [hv, e]; rfl))]; exact hg, r⟩
set_option maxRecDepth 100000 in
set_option maxHeartbeats 4000000 in
theorem names (w : World) : Calls Try.prog 3 #[] w fun e w' => e = .returned (.bool true) ∧ Below w.heap.size w w' := by
  have s0 : sat (9223372036854775807) = 2147483647 := by decide
  have s1 : sat (-9223372036854775808) = -2147483648 := by decide
  have s2 : sat (2147483648) = 2147483647 := by decide
  have s3 : sat (-2147483649) = -2147483648 := by decide
  have s4 : sat (-2147483648) = -2147483648 := by decide
  have s5 : sat (7) = 7 := by decide
  have s6 : sat (-1) = -1 := by decide
  have s7 : sat (4611686018427387904) = 2147483647 := by decide
  have s8 : sat (-4611686016279904256) = -2147483648 := by decide
  have acc := Below.refl w.heap.size w
  go_enter Try.func3, Try.ntmps3
  go_wp2_with (first | (go_at_call 10; refine (sat_any _ _).mono ?_; rintro e w' ⟨rfl, rfl⟩) | (go_at_call 11; refine (add_any _ _ _ (by omega) (by omega) (by omega) (by omega)).mono ?_; rintro e w' ⟨rfl, rfl⟩) | (go_at_call 12; refine (sub_any _ _ _ (by omega) (by omega) (by omega) (by omega)).mono ?_; rintro e w' ⟨rfl, rfl⟩) | (go_at_call 13; refine (mul_any _ _ _ (by omega) (by omega) (by omega) (by omega)).mono ?_; rintro e w' ⟨rfl, rfl⟩))
  refine (rounds_any 9223372036854775807 1 4611686018427387904 _ (by omega) (by omega) true (by decide)).mono ?_
  rintro e x0 ⟨rfl, hb⟩
  replace acc := acc.trans (hb.mono acc.size)
  clear hb
  go_wp2_with fail
  refine (rounds_any (-9223372036854775808) 62 (-2) _ (by omega) (by omega) true (by decide)).mono ?_
  rintro e x1 ⟨rfl, hb⟩
  replace acc := acc.trans (hb.mono acc.size)
  clear hb
  go_wp2_with fail
  refine (rounds_any 9223372036854775807 62 2 _ (by omega) (by omega) true (by decide)).mono ?_
  rintro e x2 ⟨rfl, hb⟩
  replace acc := acc.trans (hb.mono acc.size)
  clear hb
  go_wp2_with fail
  refine (rounds_any (-1) 1 0 _ (by omega) (by omega) true (by decide)).mono ?_
  rintro e x3 ⟨rfl, hb⟩
  replace acc := acc.trans (hb.mono acc.size)
  clear hb
  go_wp2_with fail
  refine (rounds_any 1 1 1 _ (by omega) (by omega) true (by decide)).mono ?_
  rintro e x4 ⟨rfl, hb⟩
  replace acc := acc.trans (hb.mono acc.size)
  clear hb
  go_wp2_with fail
  refine (rounds_any (-3) 2 (-1) _ (by omega) (by omega) true (by decide)).mono ?_
  rintro e x5 ⟨rfl, hb⟩
  replace acc := acc.trans (hb.mono acc.size)
  clear hb
  go_wp2_with fail
  refine (rounds_any (-2) 2 0 _ (by omega) (by omega) true (by decide)).mono ?_
  rintro e x6 ⟨rfl, hb⟩
  replace acc := acc.trans (hb.mono acc.size)
  clear hb
  go_wp2_with fail
  refine (rounds_any 6 2 2 _ (by omega) (by omega) true (by decide)).mono ?_
  rintro e x7 ⟨rfl, hb⟩
  replace acc := acc.trans (hb.mono acc.size)
  clear hb
  go_wp2_with fail
  refine (rounds_any 5 2 1 _ (by omega) (by omega) true (by decide)).mono ?_
  rintro e x8 ⟨rfl, hb⟩
  replace acc := acc.trans (hb.mono acc.size)
  clear hb
  go_wp2_with fail
  refine (rounds_any (-9) 0 (-9) _ (by omega) (by omega) true (by decide)).mono ?_
  rintro e x9 ⟨rfl, hb⟩
  replace acc := acc.trans (hb.mono acc.size)
  clear hb
  go_wp2_with fail
  refine (round_any 1 (-1) _ (by omega) (by omega)).mono ?_
  rintro e y0 ⟨rfl, hb⟩
  rw [show rndE (-1) = 2 by decide, show rndV 1 (-1) = 0 by decide]
  replace acc := acc.trans (hb.mono acc.size)
  clear hb
  go_wp2_with fail
  refine (round_any 1 63 _ (by omega) (by omega)).mono ?_
  rintro e y1 ⟨rfl, hb⟩
  rw [show rndE 63 = 2 by decide, show rndV 1 63 = 0 by decide]
  have HA1 := Lib.hid (acc.trans (hb.mono acc.size))
  clear hb acc
  go_wp2_with (refine make32 (by rfl) _ _ rfl .i64 .i64 17 rfl rfl (by omega) w.heap.size HA1.out.size ?_; intro y2 own2 hb2; have HA2 := Lib.hid (HA1.out.trans (hb2.mono HA1.out.size)); clear own2 hb2)
  refine (dot_many _ none 17 0 _ _ _ (.inl (by omega))).mono ?_
  rintro e y3 ⟨rfl, rfl⟩
  go_wp2_with (refine make32 (by rfl) _ _ rfl .i64 .i64 17 rfl rfl (by omega) w.heap.size HA2.out.size ?_; intro y3 own3 hb3; have HA3 := Lib.hid (HA2.out.trans (hb3.mono HA2.out.size)); clear own3 hb3)
  refine (dot_many none _ 0 17 _ _ _ (.inr ⟨by omega, by omega⟩)).mono ?_
  rintro e y4 ⟨rfl, rfl⟩
  go_wp2_with (refine make32 (by rfl) _ _ rfl .i64 .i64 1 rfl rfl (by omega) w.heap.size HA3.out.size ?_; intro y4 own4 hb4; have HA4 := Lib.hid (HA3.out.trans (hb4.mono HA3.out.size)); clear own4 hb4)
  refine (dot_arg _ none 1 0 _ _ _ (by omega) (by omega) (by decide)).mono ?_
  rintro e y5 ⟨rfl, rfl⟩
  go_wp2_with (refine make32 (by rfl) _ _ rfl .i64 .i64 16 rfl rfl (by omega) y4.heap.size (Nat.le_refl _) ?_; intro y5 own5 hb5; have HO5 := Lib.hid own5; have HA5 := Lib.hid (HA4.out.trans (hb5.mono HA4.out.size)); clear own5 hb5)
  go_loopw [15] (fun i wr => ∃ k : Nat, k ≤ 16 ∧ i = .int .i64 k ∧ OwnI wr y4.heap.size 21 .i32 (.slice (some ⟨y4.heap.size, 0, none⟩) 16 16) (lowK k) ∧ Below w.heap.size w wr) (fun i _ => 16 - (intOf i).toNat)
  case atStart => exact ⟨0, by omega, rfl, HO5.out, HA5.out⟩
  case round =>
    clear HO5 HA5
    obtain ⟨k, hk, rfl, own, acc⟩ := hrel
    by_cases hlt : k < 16
    · have k1 : (k : Int) < 16 := by omega
      have k0 : 0 ≤ (k : Int) := by omega
      have HLT := Lib.hid hlt
      have f0 := own.frozen k
      have c0 := own.cell k (by rw [(lowK_set k hlt).2]; exact hlt)
      have HS : Hid (OwnI (wr.setCell ⟨y4.heap.size, k, none⟩ (.int .i32 (-2147483648))) y4.heap.size 21 .i32 (.slice (some ⟨y4.heap.size, 0, none⟩) 16 16) (lowK (k + 1))) := Lib.hid (by rw [← (lowK_set k hlt).1]; exact own.store k _)
      have HACC := Lib.hid acc
      have HLT4 : Hid (w.heap.size ≤ y4.heap.size) := Lib.hid HA4.out.size
      clear hk own acc hlt
      go_wp2_with fail
      refine ⟨⟨k + 1, by have := HLT.out; omega, by go_num, HS.out, by have := HACC.out; have := HLT4.out; (repeat' (first | (with_reducible exact Below.refl _ _) | (with_reducible assumption) | (with_reducible refine below_drewN ?_ _) | (with_reducible refine below_new ?_ _) | (with_reducible refine Below.alloc ?_ ?_ _) | (with_reducible refine Below.drew ?_) | (with_reducible refine Below.setCell ?_ ?_ _) | (with_reducible apply below_at; (case k => (with_reducible assumption)); (case hB => omega)) | (with_reducible apply below_on; (with_reducible assumption)) | (go_size; done) | (with_reducible apply size_of)))⟩, by simp [intOf]; have := HLT.out; omega⟩
    · have e16 : k = 16 := by omega
      subst e16
      have HO6 : Hid (OwnI wr y4.heap.size 21 .i32 (.slice (some ⟨y4.heap.size, 0, none⟩) 16 16) (List.replicate 16 (-2147483648))) := Lib.hid own
      have HA6 := Lib.hid acc
      have HFF : Hid (Has .i32 wr (some ⟨y4.heap.size, 0, none⟩) (List.replicate 8 (-2147483648))) := Lib.hid (own.has.front 8)
      clear hk own acc hlt
      go_wp2_with (first | (at_builtin; refine app32 rfl (.tmp 134) (.tmp 136) rfl wr.heap.size _ [] rfl (OwnI.lit wr 21 .i32 [] wr.heap.size (Nat.le_refl _) (by decide)) (some ⟨y4.heap.size, 0, none⟩) 8 16 (List.replicate 8 (-2147483648)) rfl rfl (HFF.out.below ((Below.refl _ _).alloc (Nat.le_refl _) _) (Nat.le_refl _)) 8 rfl (by omega) (by simp) ?_; intro A7 c7 w7 own7 hg7 hb7; have HO7 := Lib.hid own7; have HB7 : Hid (Below wr.heap.size wr w7) := Lib.hid (((Below.refl _ _).alloc (Nat.le_refl _) _).trans hb7); clear own7 hg7 hb7) | (at_builtin; refine zeros32 rfl (.tmp 137) _ rfl wr.heap.size _ _ rfl HO7.out (by simp) 8 rfl (by omega) 16 (by simp) (by omega) HB7.out.size ?_; intro A8 c8 w8 own8 hb8; have HO8 := Lib.hid own8; have HB8 := Lib.hid (HB7.out.trans hb8); clear own8 hb8))
      obtain ⟨g2, e2, -, -, -⟩ := HO8.out.form (by simp)
      subst e2
      have HG2 : Hid (wr.heap.size ≤ g2 ∧ y4.heap.size < wr.heap.size ∧ w.heap.size ≤ y4.heap.size) := Lib.hid ⟨HO8.out.base_le.1, HO6.out.base_le.2, HA4.out.size⟩
      have HO9 : Hid (OwnI w8 wr.heap.size 21 .i32 (.slice (some ⟨g2, 0, none⟩) 16 c8) (halfK 8)) := Lib.hid HO8.out
      have HF8 := Lib.hid (HO6.out.below HB8.out (Nat.le_refl _))
      have HA8 : Hid (Below w.heap.size w w8) := Lib.hid (HA6.out.trans (HB8.out.mono HA6.out.size))
      clear HO8 HFF HO6
      go_loopw [17] (fun i wz => ∃ k : Nat, 8 ≤ k ∧ k ≤ 16 ∧ i = .int .i64 k ∧ OwnI wz wr.heap.size 21 .i32 (.slice (some ⟨g2, 0, none⟩) 16 c8) (halfK k) ∧ OwnI wz y4.heap.size 21 .i32 (.slice (some ⟨y4.heap.size, 0, none⟩) 16 16) (List.replicate 16 (-2147483648)) ∧ Below w.heap.size w wz) (fun i _ => 16 - (intOf i).toNat)
      case atStart => exact ⟨8, by omega, by omega, rfl, HO9.out, HF8.out, HA8.out⟩
      case round =>
        have HBX := HG2
        clear HO9 HF8 HA8
        rename World => wq
        obtain ⟨k, hk8, hk, rfl, own, ful, acc⟩ := hrel
        by_cases hlt : k < 16
        · have k1 : (k : Int) < 16 := by omega
          have k0 : 0 ≤ (k : Int) := by omega
          have HLT := Lib.hid (And.intro hlt hk8)
          have f0 := own.frozen k
          have c0 := own.cell k (by rw [(halfK_set k hlt hk8).2]; exact hlt)
          have HS := Lib.hid (show OwnI (World.setCell _ ⟨g2, k, none⟩ (.int .i32 2147483647)) _ 21 .i32 (.slice (some ⟨g2, 0, none⟩) 16 c8) (halfK (k + 1)) by rw [← (halfK_set k hlt hk8).1]; exact own.store k _)
          have HU := Lib.hid (own_set32 (p := ⟨g2, k, none⟩) ful (by have := HBX.out; simp [Value.ownBlock]; omega) (.int .i32 2147483647))
          have HACC := Lib.hid acc
          clear hk8 hk own ful acc hlt
          go_wp2_with fail
          refine ⟨⟨k + 1, by have := HLT.out; omega, by have := HLT.out; omega, by go_num, HS.out, HU.out, by have := HACC.out; have : w.heap.size ≤ g2 := (by have := HBX.out; omega); (repeat' (first | (with_reducible exact Below.refl _ _) | (with_reducible assumption) | (with_reducible refine below_drewN ?_ _) | (with_reducible refine below_new ?_ _) | (with_reducible refine Below.alloc ?_ ?_ _) | (with_reducible refine Below.drew ?_) | (with_reducible refine Below.setCell ?_ ?_ _) | (with_reducible apply below_at; (case k => (with_reducible assumption)); (case hB => omega)) | (with_reducible apply below_on; (with_reducible assumption)) | (go_size; done) | (with_reducible apply size_of)))⟩, by simp [intOf]; have := HLT.out; omega⟩
        · have e16 : k = 16 := by omega
          subst e16
          have HH : Hid (Has .i32 wq (some ⟨g2, 0, none⟩) (List.replicate 8 (-2147483648) ++ List.replicate 8 2147483647)) := Lib.hid own.has
          have HFu : Hid (Has .i32 wq (some ⟨y4.heap.size, 0, none⟩) (List.replicate 16 (-2147483648))) := Lib.hid ful.has
          have HCC : Hid (16 ≤ c8) := Lib.hid (by obtain ⟨A', cap, e, h1, h2, h3⟩ := own.val; injection e with e1 e2 e3; subst e3; simpa [halfK] using h2)
          have HACC := Lib.hid acc
          have q1 : (13 : Int) ≤ c8 := by have := HCC.out; omega
          have q2 : ¬ c8 = 8 := by have := HCC.out; omega
          clear hk8 hk own ful acc hlt HA6 HB7 HB8 HO7
          go_wp2_with fail
          (have RD := grows_roads (S := fun x' => Below wq.heap.size wq x') (fun a b h1 h2 => h2.trans (h1.mono h2.size))); refine region_ord _ Grows RD (Below.drew (Below.refl _ _)) (by kernel_rfl) ?_; intro ops Q' hops hPQ hN; (have HNS : Hid (Region.noSelect ops = true) := Lib.hid (by rw [hops]; kernel_rfl)); (have hsz : ops.size = 39 := (by rw [hops]; rfl)); have HOP := Lib.hid hops; have HPQ := Lib.hid hPQ; have HN := Lib.hid hN; rw [hsz]; clear hops hsz hPQ hN
          refine ord_take RD 0 (at_list (by rw [HOP.out]; rfl)) HNS.out HPQ.out (by rw [HOP.out]; kernel_rfl) (by rw [HOP.out]; kernel_rfl) (by rw [HOP.out]; rfl) (fun K hK => ?_); apply Exists.intro; refine ⟨fun W hSW => ?_, hK _ ?_⟩; (focus ((try dsimp only at hSW); go_simp; exact (dotsG (([] : List Int)) (([] : List Int)) (by omega) (by decide) (by decide) (.inl rfl) (.inl rfl) (by unfold In32; decide) (by unfold In32; decide) (by decide)))); clear hK K; (try simp only [Act.put, List.setIfInBounds_toArray, List.set_cons_zero, List.set_cons_succ])
          refine ord_take RD 1 (at_list (by rw [HOP.out]; rfl)) HNS.out HPQ.out (by rw [HOP.out]; kernel_rfl) (by rw [HOP.out]; kernel_rfl) (by rw [HOP.out]; rfl) (fun K hK => ?_); apply Exists.intro; refine ⟨fun W hSW => ?_, hK _ ?_⟩; (focus ((try dsimp only at hSW); go_simp; try with_reducible rfl)); clear hK K; (try simp only [Act.put, List.setIfInBounds_toArray, List.set_cons_zero, List.set_cons_succ])
          refine ord_take RD 2 (at_list (by rw [HOP.out]; rfl)) HNS.out HPQ.out (by rw [HOP.out]; kernel_rfl) (by rw [HOP.out]; kernel_rfl) (by rw [HOP.out]; rfl) (fun K hK => ?_); apply Exists.intro; refine ⟨fun W hSW => ?_, hK _ ?_⟩; (focus ((try dsimp only at hSW); go_simp; try with_reducible rfl)); clear hK K; (try simp only [Act.put, List.setIfInBounds_toArray, List.set_cons_zero, List.set_cons_succ])
          refine ord_take RD 3 (at_list (by rw [HOP.out]; rfl)) HNS.out HPQ.out (by rw [HOP.out]; kernel_rfl) (by rw [HOP.out]; kernel_rfl) (by rw [HOP.out]; rfl) (fun K hK => ?_); apply Exists.intro; refine ⟨fun W hSW => ?_, hK _ ?_⟩; (focus ((try dsimp only at hSW); go_simp; try with_reducible rfl)); clear hK K; (try simp only [Act.put, List.setIfInBounds_toArray, List.set_cons_zero, List.set_cons_succ])
          refine ord_take RD 4 (at_list (by rw [HOP.out]; rfl)) HNS.out HPQ.out (by rw [HOP.out]; kernel_rfl) (by rw [HOP.out]; kernel_rfl) (by rw [HOP.out]; rfl) (fun K hK => ?_); apply Exists.intro; refine ⟨fun W hSW => ?_, hK _ ?_⟩; (focus ((try dsimp only at hSW); go_simp; exact (dotsG (List.replicate 16 (-2147483648)) (List.replicate 16 (-2147483648)) (by omega) (by decide) (by decide) (HFu.out.below (hSW) (Nat.le_refl _)) (HFu.out.below (hSW) (Nat.le_refl _)) (by unfold In32; decide) (by unfold In32; decide) (by decide)))); clear hK K; (try simp only [Act.put, List.setIfInBounds_toArray, List.set_cons_zero, List.set_cons_succ])
          refine ord_take RD 5 (at_list (by rw [HOP.out]; rfl)) HNS.out HPQ.out (by rw [HOP.out]; kernel_rfl) (by rw [HOP.out]; kernel_rfl) (by rw [HOP.out]; rfl) (fun K hK => ?_); apply Exists.intro; refine ⟨fun W hSW => ?_, hK _ ?_⟩; (focus ((try dsimp only at hSW); go_simp; try with_reducible rfl)); clear hK K; (try simp only [Act.put, List.setIfInBounds_toArray, List.set_cons_zero, List.set_cons_succ])
          refine ord_take RD 6 (at_list (by rw [HOP.out]; rfl)) HNS.out HPQ.out (by rw [HOP.out]; kernel_rfl) (by rw [HOP.out]; kernel_rfl) (by rw [HOP.out]; rfl) (fun K hK => ?_); apply Exists.intro; refine ⟨fun W hSW => ?_, hK _ ?_⟩; (focus ((try dsimp only at hSW); go_simp; try with_reducible rfl)); clear hK K; (try simp only [Act.put, List.setIfInBounds_toArray, List.set_cons_zero, List.set_cons_succ])
          refine ord_take RD 7 (at_list (by rw [HOP.out]; rfl)) HNS.out HPQ.out (by rw [HOP.out]; kernel_rfl) (by rw [HOP.out]; kernel_rfl) (by rw [HOP.out]; rfl) (fun K hK => ?_); apply Exists.intro; refine ⟨fun W hSW => ?_, hK _ ?_⟩; (focus ((try dsimp only at hSW); go_simp; try with_reducible rfl)); clear hK K; (try simp only [Act.put, List.setIfInBounds_toArray, List.set_cons_zero, List.set_cons_succ])
          refine ord_take RD 8 (at_list (by rw [HOP.out]; rfl)) HNS.out HPQ.out (by rw [HOP.out]; kernel_rfl) (by rw [HOP.out]; kernel_rfl) (by rw [HOP.out]; rfl) (fun K hK => ?_); apply Exists.intro; refine ⟨fun W hSW => ?_, hK _ ?_⟩; (focus ((try dsimp only at hSW); go_simp; try with_reducible rfl)); clear hK K; (try simp only [Act.put, List.setIfInBounds_toArray, List.set_cons_zero, List.set_cons_succ])
          refine ord_take RD 9 (at_list (by rw [HOP.out]; rfl)) HNS.out HPQ.out (by rw [HOP.out]; kernel_rfl) (by rw [HOP.out]; kernel_rfl) (by rw [HOP.out]; rfl) (fun K hK => ?_); apply Exists.intro; refine ⟨fun W hSW => ?_, hK _ ?_⟩; (focus ((try dsimp only at hSW); go_simp; exact (dotsG (List.replicate 16 (-2147483648)) (List.replicate 8 (-2147483648) ++ List.replicate 8 2147483647) (by omega) (by decide) (by decide) (HFu.out.below (hSW) (Nat.le_refl _)) (HH.out.below (hSW) (Nat.le_refl _)) (by unfold In32; decide) (by unfold In32; decide) (by decide)))); clear hK K; (try simp only [Act.put, List.setIfInBounds_toArray, List.set_cons_zero, List.set_cons_succ])
          refine ord_take RD 10 (at_list (by rw [HOP.out]; rfl)) HNS.out HPQ.out (by rw [HOP.out]; kernel_rfl) (by rw [HOP.out]; kernel_rfl) (by rw [HOP.out]; rfl) (fun K hK => ?_); apply Exists.intro; refine ⟨fun W hSW => ?_, hK _ ?_⟩; (focus ((try dsimp only at hSW); go_simp; try with_reducible rfl)); clear hK K; (try simp only [Act.put, List.setIfInBounds_toArray, List.set_cons_zero, List.set_cons_succ])
          refine ord_take RD 11 (at_list (by rw [HOP.out]; rfl)) HNS.out HPQ.out (by rw [HOP.out]; kernel_rfl) (by rw [HOP.out]; kernel_rfl) (by rw [HOP.out]; rfl) (fun K hK => ?_); apply Exists.intro; refine ⟨fun W hSW => ?_, hK _ ?_⟩; (focus ((try dsimp only at hSW); go_simp; try with_reducible rfl)); clear hK K; (try simp only [Act.put, List.setIfInBounds_toArray, List.set_cons_zero, List.set_cons_succ])
          refine ord_new2 RD 12 13 (fun g => .slice (some ⟨g, 0, none⟩) 3 3) (fun g => .slice (some ⟨g, 0, none⟩) 3 3) (.cells (([-2147483648, -2147483648, 1] : List Int).map (Value.int .i32)).toArray 21) (.cells (([-2147483648, 2147483647, 5] : List Int).map (Value.int .i32)).toArray 21) (by rw [HOP.out]; kernel_rfl) (by rw [HOP.out]; kernel_rfl) (by rw [HOP.out]; kernel_rfl) (at_list (by rw [HOP.out]; rfl)) (at_list (by rw [HOP.out]; rfl)) (by rw [HOP.out]; kernel_rfl) HNS.out (by rw [HOP.out]; rfl) (by rw [HOP.out]; rfl) (fun W => by go_simp) (fun W => by go_simp) ?_
          intro x1 y1 V1 hG1 hS1 hx1 hy1
          have HX1 := Lib.hid (And.intro (has_heap hx1) (has_heap hy1))
          have HS1 : Hid (Below wq.heap.size wq V1) := Lib.hid hS1
          clear hG1 hx1 hy1 RD
          have RD := grows_roads (S := fun x' => Below V1.heap.size V1 x') (fun a b h1 h2 => h2.trans (h1.mono h2.size))
          refine ord_more RD (fun X h => HS1.out.trans (h.mono HS1.out.size)) (fun X hX _ => hX) ?_
          clear hS1
          try simp only [Act.put, List.setIfInBounds_toArray, List.set_cons_zero, List.set_cons_succ]
          refine ord_take RD 14 (at_list (by rw [HOP.out]; rfl)) HNS.out HPQ.out (by rw [HOP.out]; kernel_rfl) (by rw [HOP.out]; kernel_rfl) (by rw [HOP.out]; rfl) (fun K hK => ?_); apply Exists.intro; refine ⟨fun W hSW => ?_, hK _ ?_⟩; (focus ((try dsimp only at hSW); go_simp; exact (dotsG ([-2147483648, -2147483648, 1]) ([-2147483648, 2147483647, 5]) (by omega) (by decide) (by decide) (HX1.out.1.below hSW (Nat.le_refl _)) (HX1.out.2.below hSW (Nat.le_refl _)) (by unfold In32; decide) (by unfold In32; decide) (by decide)))); clear hK K; (try simp only [Act.put, List.setIfInBounds_toArray, List.set_cons_zero, List.set_cons_succ])
          refine ord_take RD 15 (at_list (by rw [HOP.out]; rfl)) HNS.out HPQ.out (by rw [HOP.out]; kernel_rfl) (by rw [HOP.out]; kernel_rfl) (by rw [HOP.out]; rfl) (fun K hK => ?_); apply Exists.intro; refine ⟨fun W hSW => ?_, hK _ ?_⟩; (focus ((try dsimp only at hSW); go_simp; try with_reducible rfl)); clear hK K; (try simp only [Act.put, List.setIfInBounds_toArray, List.set_cons_zero, List.set_cons_succ])
          refine ord_take RD 16 (at_list (by rw [HOP.out]; rfl)) HNS.out HPQ.out (by rw [HOP.out]; kernel_rfl) (by rw [HOP.out]; kernel_rfl) (by rw [HOP.out]; rfl) (fun K hK => ?_); apply Exists.intro; refine ⟨fun W hSW => ?_, hK _ ?_⟩; (focus ((try dsimp only at hSW); go_simp; try with_reducible rfl)); clear hK K; (try simp only [Act.put, List.setIfInBounds_toArray, List.set_cons_zero, List.set_cons_succ])
          refine ord_new2 RD 17 18 (fun g => .slice (some ⟨g, 0, none⟩) 3 3) (fun g => .slice (some ⟨g, 0, none⟩) 3 3) (.cells (([-2147483648, 2147483647, 1] : List Int).map (Value.int .i32)).toArray 21) (.cells (([2147483647, 2147483647, 5] : List Int).map (Value.int .i32)).toArray 21) (by rw [HOP.out]; kernel_rfl) (by rw [HOP.out]; kernel_rfl) (by rw [HOP.out]; kernel_rfl) (at_list (by rw [HOP.out]; rfl)) (at_list (by rw [HOP.out]; rfl)) (by rw [HOP.out]; kernel_rfl) HNS.out (by rw [HOP.out]; rfl) (by rw [HOP.out]; rfl) (fun W => by go_simp) (fun W => by go_simp) ?_
          intro x2 y2 V2 hG2 hS2 hx2 hy2
          have HX2 := Lib.hid (And.intro (has_heap hx2) (has_heap hy2))
          have HS2 : Hid (Below V1.heap.size V1 V2) := Lib.hid hS2
          clear hG2 hx2 hy2 RD
          have RD := grows_roads (S := fun x' => Below V2.heap.size V2 x') (fun a b h1 h2 => h2.trans (h1.mono h2.size))
          refine ord_more RD (fun X h => HS2.out.trans (h.mono HS2.out.size)) (fun X hX _ => hX) ?_
          clear hS2
          try simp only [Act.put, List.setIfInBounds_toArray, List.set_cons_zero, List.set_cons_succ]
          refine ord_take RD 19 (at_list (by rw [HOP.out]; rfl)) HNS.out HPQ.out (by rw [HOP.out]; kernel_rfl) (by rw [HOP.out]; kernel_rfl) (by rw [HOP.out]; rfl) (fun K hK => ?_); apply Exists.intro; refine ⟨fun W hSW => ?_, hK _ ?_⟩; (focus ((try dsimp only at hSW); go_simp; exact (dotsG ([-2147483648, 2147483647, 1]) ([2147483647, 2147483647, 5]) (by omega) (by decide) (by decide) (HX2.out.1.below hSW (Nat.le_refl _)) (HX2.out.2.below hSW (Nat.le_refl _)) (by unfold In32; decide) (by unfold In32; decide) (by decide)))); clear hK K; (try simp only [Act.put, List.setIfInBounds_toArray, List.set_cons_zero, List.set_cons_succ])
          refine ord_take RD 20 (at_list (by rw [HOP.out]; rfl)) HNS.out HPQ.out (by rw [HOP.out]; kernel_rfl) (by rw [HOP.out]; kernel_rfl) (by rw [HOP.out]; rfl) (fun K hK => ?_); apply Exists.intro; refine ⟨fun W hSW => ?_, hK _ ?_⟩; (focus ((try dsimp only at hSW); go_simp; try with_reducible rfl)); clear hK K; (try simp only [Act.put, List.setIfInBounds_toArray, List.set_cons_zero, List.set_cons_succ])
          refine ord_take RD 21 (at_list (by rw [HOP.out]; rfl)) HNS.out HPQ.out (by rw [HOP.out]; kernel_rfl) (by rw [HOP.out]; kernel_rfl) (by rw [HOP.out]; rfl) (fun K hK => ?_); apply Exists.intro; refine ⟨fun W hSW => ?_, hK _ ?_⟩; (focus ((try dsimp only at hSW); go_simp; try with_reducible rfl)); clear hK K; (try simp only [Act.put, List.setIfInBounds_toArray, List.set_cons_zero, List.set_cons_succ])
          refine ord_new2 RD 22 23 (fun g => .slice (some ⟨g, 0, none⟩) 2 2) (fun g => .slice (some ⟨g, 0, none⟩) 2 2) (.cells (([2147483647, -2147483648] : List Int).map (Value.int .i32)).toArray 21) (.cells (([-2147483648, -2147483648] : List Int).map (Value.int .i32)).toArray 21) (by rw [HOP.out]; kernel_rfl) (by rw [HOP.out]; kernel_rfl) (by rw [HOP.out]; kernel_rfl) (at_list (by rw [HOP.out]; rfl)) (at_list (by rw [HOP.out]; rfl)) (by rw [HOP.out]; kernel_rfl) HNS.out (by rw [HOP.out]; rfl) (by rw [HOP.out]; rfl) (fun W => by go_simp) (fun W => by go_simp) ?_
          intro x3 y3 V3 hG3 hS3 hx3 hy3
          have HX3 := Lib.hid (And.intro (has_heap hx3) (has_heap hy3))
          have HS3 : Hid (Below V2.heap.size V2 V3) := Lib.hid hS3
          clear hG3 hx3 hy3 RD
          have RD := grows_roads (S := fun x' => Below V3.heap.size V3 x') (fun a b h1 h2 => h2.trans (h1.mono h2.size))
          refine ord_more RD (fun X h => HS3.out.trans (h.mono HS3.out.size)) (fun X hX _ => hX) ?_
          clear hS3
          try simp only [Act.put, List.setIfInBounds_toArray, List.set_cons_zero, List.set_cons_succ]
          refine ord_take RD 24 (at_list (by rw [HOP.out]; rfl)) HNS.out HPQ.out (by rw [HOP.out]; kernel_rfl) (by rw [HOP.out]; kernel_rfl) (by rw [HOP.out]; rfl) (fun K hK => ?_); apply Exists.intro; refine ⟨fun W hSW => ?_, hK _ ?_⟩; (focus ((try dsimp only at hSW); go_simp; exact (dotsG ([2147483647, -2147483648]) ([-2147483648, -2147483648]) (by omega) (by decide) (by decide) (HX3.out.1.below hSW (Nat.le_refl _)) (HX3.out.2.below hSW (Nat.le_refl _)) (by unfold In32; decide) (by unfold In32; decide) (by decide)))); clear hK K; (try simp only [Act.put, List.setIfInBounds_toArray, List.set_cons_zero, List.set_cons_succ])
          refine ord_take RD 25 (at_list (by rw [HOP.out]; rfl)) HNS.out HPQ.out (by rw [HOP.out]; kernel_rfl) (by rw [HOP.out]; kernel_rfl) (by rw [HOP.out]; rfl) (fun K hK => ?_); apply Exists.intro; refine ⟨fun W hSW => ?_, hK _ ?_⟩; (focus ((try dsimp only at hSW); go_simp; try with_reducible rfl)); clear hK K; (try simp only [Act.put, List.setIfInBounds_toArray, List.set_cons_zero, List.set_cons_succ])
          refine ord_take RD 26 (at_list (by rw [HOP.out]; rfl)) HNS.out HPQ.out (by rw [HOP.out]; kernel_rfl) (by rw [HOP.out]; kernel_rfl) (by rw [HOP.out]; rfl) (fun K hK => ?_); apply Exists.intro; refine ⟨fun W hSW => ?_, hK _ ?_⟩; (focus ((try dsimp only at hSW); go_simp; try with_reducible rfl)); clear hK K; (try simp only [Act.put, List.setIfInBounds_toArray, List.set_cons_zero, List.set_cons_succ])
          refine ord_new2 RD 27 28 (fun g => .slice (some ⟨g, 0, none⟩) 1 1) (fun g => .slice (some ⟨g, 0, none⟩) 1 1) (.cells (([-2147483648] : List Int).map (Value.int .i32)).toArray 21) (.cells (([2147483647] : List Int).map (Value.int .i32)).toArray 21) (by rw [HOP.out]; kernel_rfl) (by rw [HOP.out]; kernel_rfl) (by rw [HOP.out]; kernel_rfl) (at_list (by rw [HOP.out]; rfl)) (at_list (by rw [HOP.out]; rfl)) (by rw [HOP.out]; kernel_rfl) HNS.out (by rw [HOP.out]; rfl) (by rw [HOP.out]; rfl) (fun W => by go_simp) (fun W => by go_simp) ?_
          intro x4 y4 V4 hG4 hS4 hx4 hy4
          have HX4 := Lib.hid (And.intro (has_heap hx4) (has_heap hy4))
          have HS4 : Hid (Below V3.heap.size V3 V4) := Lib.hid hS4
          clear hG4 hx4 hy4 RD
          have RD := grows_roads (S := fun x' => Below V4.heap.size V4 x') (fun a b h1 h2 => h2.trans (h1.mono h2.size))
          refine ord_more RD (fun X h => HS4.out.trans (h.mono HS4.out.size)) (fun X hX _ => hX) ?_
          clear hS4
          try simp only [Act.put, List.setIfInBounds_toArray, List.set_cons_zero, List.set_cons_succ]
          refine ord_take RD 29 (at_list (by rw [HOP.out]; rfl)) HNS.out HPQ.out (by rw [HOP.out]; kernel_rfl) (by rw [HOP.out]; kernel_rfl) (by rw [HOP.out]; rfl) (fun K hK => ?_); apply Exists.intro; refine ⟨fun W hSW => ?_, hK _ ?_⟩; (focus ((try dsimp only at hSW); go_simp; exact (dotsG ([-2147483648]) ([2147483647]) (by omega) (by decide) (by decide) (HX4.out.1.below hSW (Nat.le_refl _)) (HX4.out.2.below hSW (Nat.le_refl _)) (by unfold In32; decide) (by unfold In32; decide) (by decide)))); clear hK K; (try simp only [Act.put, List.setIfInBounds_toArray, List.set_cons_zero, List.set_cons_succ])
          refine ord_take RD 30 (at_list (by rw [HOP.out]; rfl)) HNS.out HPQ.out (by rw [HOP.out]; kernel_rfl) (by rw [HOP.out]; kernel_rfl) (by rw [HOP.out]; rfl) (fun K hK => ?_); apply Exists.intro; refine ⟨fun W hSW => ?_, hK _ ?_⟩; (focus ((try dsimp only at hSW); go_simp; try with_reducible rfl)); clear hK K; (try simp only [Act.put, List.setIfInBounds_toArray, List.set_cons_zero, List.set_cons_succ])
          refine ord_take RD 31 (at_list (by rw [HOP.out]; rfl)) HNS.out HPQ.out (by rw [HOP.out]; kernel_rfl) (by rw [HOP.out]; kernel_rfl) (by rw [HOP.out]; rfl) (fun K hK => ?_); apply Exists.intro; refine ⟨fun W hSW => ?_, hK _ ?_⟩; (focus ((try dsimp only at hSW); go_simp; try with_reducible rfl)); clear hK K; (try simp only [Act.put, List.setIfInBounds_toArray, List.set_cons_zero, List.set_cons_succ])
          have HS5 : Hid (∀ X, Below V4.heap.size V4 X → Below wq.heap.size wq X) := Lib.hid (fun X h => HS1.out.trans ((HS2.out.trans ((HS3.out.trans ((HS4.out.trans (h.mono HS4.out.size)).mono HS3.out.size)).mono HS2.out.size)).mono HS1.out.size))
          refine ord_take RD 32 (at_list (by rw [HOP.out]; rfl)) HNS.out HPQ.out (by rw [HOP.out]; kernel_rfl) (by rw [HOP.out]; kernel_rfl) (by rw [HOP.out]; rfl) (fun K hK => ?_); apply Exists.intro; refine ⟨fun W hSW => ?_, hK _ ?_⟩; (focus ((try dsimp only at hSW); go_simp; try with_reducible rfl)); clear hK K; (try simp only [Act.put, List.setIfInBounds_toArray, List.set_cons_zero, List.set_cons_succ])
          refine ord_take RD 33 (at_list (by rw [HOP.out]; rfl)) HNS.out HPQ.out (by rw [HOP.out]; kernel_rfl) (by rw [HOP.out]; kernel_rfl) (by rw [HOP.out]; rfl) (fun K hK => ?_); apply Exists.intro; refine ⟨fun W hSW => ?_, hK _ ?_⟩; (focus ((try dsimp only at hSW); go_simp; try with_reducible rfl)); clear hK K; (try simp only [Act.put, List.setIfInBounds_toArray, List.set_cons_zero, List.set_cons_succ])
          refine ord_take RD 34 (at_list (by rw [HOP.out]; rfl)) HNS.out HPQ.out (by rw [HOP.out]; kernel_rfl) (by rw [HOP.out]; kernel_rfl) (by rw [HOP.out]; rfl) (fun K hK => ?_); apply Exists.intro; refine ⟨fun W hSW => ?_, hK _ ?_⟩; (focus ((try dsimp only at hSW); go_simp; try with_reducible rfl)); clear hK K; (try simp only [Act.put, List.setIfInBounds_toArray, List.set_cons_zero, List.set_cons_succ])
          refine ord_take RD 35 (at_list (by rw [HOP.out]; rfl)) HNS.out HPQ.out (by rw [HOP.out]; kernel_rfl) (by rw [HOP.out]; kernel_rfl) (by rw [HOP.out]; rfl) (fun K hK => ?_); apply Exists.intro; refine ⟨fun W hSW => ?_, hK _ ?_⟩; (focus ((try dsimp only at hSW); go_simp; try with_reducible rfl)); clear hK K; (try simp only [Act.put, List.setIfInBounds_toArray, List.set_cons_zero, List.set_cons_succ])
          refine ord_take RD 36 (at_list (by rw [HOP.out]; rfl)) HNS.out HPQ.out (by rw [HOP.out]; kernel_rfl) (by rw [HOP.out]; kernel_rfl) (by rw [HOP.out]; rfl) (fun K hK => ?_); apply Exists.intro; refine ⟨fun W hSW => ?_, hK _ ?_⟩; (focus ((try dsimp only at hSW); go_simp; exact (dotsG (List.replicate 5 (-2147483648)) (List.replicate 5 2147483647) (by omega) (by decide) (by decide) ((HFu.out.below (HS5.out _ hSW) (Nat.le_refl _)).front 5) (((HH.out.below (HS5.out _ hSW) (Nat.le_refl _)).dropAt 8).front 5) (by unfold In32; decide) (by unfold In32; decide) (by decide)))); clear hK K; (try simp only [Act.put, List.setIfInBounds_toArray, List.set_cons_zero, List.set_cons_succ])
          refine ord_take RD 37 (at_list (by rw [HOP.out]; rfl)) HNS.out HPQ.out (by rw [HOP.out]; kernel_rfl) (by rw [HOP.out]; kernel_rfl) (by rw [HOP.out]; rfl) (fun K hK => ?_); apply Exists.intro; refine ⟨fun W hSW => ?_, hK _ ?_⟩; (focus ((try dsimp only at hSW); go_simp; try with_reducible rfl)); clear hK K; (try simp only [Act.put, List.setIfInBounds_toArray, List.set_cons_zero, List.set_cons_succ])
          refine ord_take RD 38 (at_list (by rw [HOP.out]; rfl)) HNS.out HPQ.out (by rw [HOP.out]; kernel_rfl) (by rw [HOP.out]; kernel_rfl) (by rw [HOP.out]; rfl) (fun K hK => ?_); apply Exists.intro; refine ⟨fun W hSW => ?_, hK _ ?_⟩; (focus ((try dsimp only at hSW); go_simp; try with_reducible rfl)); clear hK K; (try simp only [Act.put, List.setIfInBounds_toArray, List.set_cons_zero, List.set_cons_succ])
          refine ord_done (by rw [HOP.out]; kernel_rfl) (fun W9 hWW hSW => HN.out _ _ ?_); clear HOP HNS HPQ HN RD; (try dsimp only at hSW)
          have HB9 := Lib.hid (HACC.out.trans ((HS5.out _ hSW).mono HACC.out.size))
          clear hWW hSW
          go_wp2_with fail
          refine (alive _).mono ?_
          rintro e w9 ⟨rfl, hb9⟩
          go_wp2_with fail
          go_ret
          exact ⟨rfl, HB9.out.trans (hb9.mono HB9.out.size)⟩
end Go.Proofs.Ytjlmhlagpihehaa.fixL
