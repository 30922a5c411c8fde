/- FilterChains. -/
import Derived.Test.YtbfodmckgjeoaaaFiA
import Derived.Test.YtbfodmckgjeoaaaFiU3
namespace Go.Proofs.Ytbfodmckgjeoaaa.fiL
set_option maxRecDepth 100000
open Go.RowKit Go.Proofs.Ytbfodmckgjeoaaa.base Go.Proofs.Ytbfodmckgjeoaaa.fiP Go.Proofs.Ytbfodmckgjeoaaa.fiW Go.Proofs.Ytbfodmckgjeoaaa.fiU
set_option linter.unusedVariables false
set_option linter.unusedSimpArgs false
set_option maxRecDepth 100000
theorem has_past {k : IntKind} {w w' : World} {A : Option Addr} {zs : List Int} (h : Has k w A zs) (hb : Below w.heap.size w w') : Has k w' A zs := h.below hb (Nat.le_refl _)
theorem ownz_set {w : World} {B g i : Nat} {v : Value} {zs : List Int} (h : OwnZ w B v zs) (hg : g < B) (x : Value) : OwnZ (w.setCell ⟨g, i, none⟩ x) B v zs := by
  rcases h with h | h
  · refine .inl (own_set h ?_ x)
    intro e
    have := (World.ownsRow.lt h g e).1
    omega
  · exact .inr h
theorem appO_len (fs : List (Int × Int)) (b : List Int) : ((appO fs b).getD []).length ≤ 20000 := by
  unfold appO
  split
  · rename_i h
    have := appF_short (b := b) (chE_zero h.1).1 h.2
    simp; omega
  · simp
theorem undO_len (fs : List (Int × Int)) (b : List Int) : ((undO fs b).getD []).length ≤ 20000 := by
  unfold undO
  split
  · cases e : undF fs b with
    | none => simp
    | some s =>
      simp only [Option.bind_some]
      split
      · simp; omega
      · simp
  · simp
theorem ib_get {w : World} {B : Nat} {A : Option Addr} {m c1 : Nat} {b : List Int} (h : OwnZ w B (.slice A m c1) b) (e : b.length = m) (bd : Byt b) : Ib w A m c1 b := ib_ownz h e bd
set_option maxHeartbeats 4000000 in
theorem chains (A : Option Addr) (n c : Nat) (fs : List (Int × Int)) (a : Option Addr) (len cap : Nat) (z : List Int) (w : World) (hf : InF w A n c fs) (hz : IsRow .u8 w a len cap z) :
    Calls Try.prog 4 #[.slice A n c, .slice a len cap] w fun e w' => e = .returned (.bool true) ∧ Below w.heap.size w w' := by
  have hin := ib_of hz
  obtain ⟨b, hb⟩ : ∃ b, z.take len = b := ⟨_, rfl⟩
  rw [hb] at hin
  have l9 : len ≤ 9223372036854775807 := Nat.le_trans hin.c1 hin.c2
  have n9 : (n : Int) ≤ 9223372036854775807 := by have := hf.c1; have := hf.c2; omega
  have HIN := Lib.hid hin
  have HF := Lib.hid hf
  have HL := Lib.hid hin.e
  clear hz hb hin hf
  by_cases h10 : 10 < n
  · have i1 : (10 : Int) < n := by omega
    clear h10
    go_enter Try.func4, Try.ntmps4
    go_wp2_with fail
    go_ret
    exact ⟨rfl, Below.refl _ _⟩
  have i1 : ¬ (10 : Int) < n := by omega
  clear h10
  by_cases hlg : lgB len = true
  · have HLG := Lib.hid hlg
    clear hlg
    go_enter Try.func4, Try.ntmps4
    go_wp2_with (go_at_call 9; refine (Long_any a len cap _ l9).mono ?_; rintro e w2 ⟨rfl, rfl⟩; rw [HLG.out])
    go_ret
    exact ⟨rfl, Below.refl _ _⟩
  have HLG : Hid (lgB len = false) := Lib.hid (by simpa using hlg)
  have ln : len ≤ 10200 := by unfold lgB at hlg; simp at hlg; omega
  have HLN := Lib.hid ln
  have l8 : (len : Int) ≤ 10200 := by omega
  clear hlg ln
  go_enter Try.func4, Try.ntmps4
  go_upto_region 4 with (first | (go_at_call 9; refine (Long_any a len cap _ l9).mono ?_; rintro e w2 ⟨rfl, rfl⟩; rw [HLG.out]) | (at_builtin; refine clone8 rfl _ _ rfl (some ⟨_, 0, none⟩) rfl a len cap b rfl HL.out (HIN.out.h.below ((Below.refl _ _).alloc (Nat.le_refl _) _) (Nat.le_refl _)) (by have := HLN.out; omega) ?_; intro A1 c1 w1 h1 b1 o1; have HB1 := Lib.hid (((Below.refl _ _).alloc (Nat.le_refl _) _).trans (b1.mono (by simp))); have HO1 := Lib.hid o1; clear h1 b1 o1))
  have HOWN : Hid (OwnZ w1 w2.heap.size (.slice A1 len c1) b) := Lib.hid (by
    rcases HO1.out with ⟨e1, e2, e3, e4⟩ | o
    · right
      have hm0 : len = 0 := by rw [← HL.out, e1]; rfl
      exact ⟨e1, A1, by rw [hm0, e3]⟩
    · exact .inl (o.mono (by simp)))
  have HG : Hid (∀ g, (Value.slice A1 len c1).ownBlock = some g → b ≠ [] → g < w1.heap.size) := Lib.hid (fun g hg hne => by
    rcases HOWN.out with o | ⟨e, _⟩
    · exact (World.ownsRow.lt o g hg).2
    · exact absurd e hne)
  have HW := Lib.hid HB1.out
  have HIN := Lib.hid (HIN.out.below HB1.out)
  have HF := Lib.hid (HF.out.below HB1.out)
  have HOI := Lib.hid (ib_get HOWN.out HL.out HIN.out.bd)
  clear HO1 HB1
  go_wp2_with fail; refine (any_of (Apply_any fs A A1 n c len c1 b _ HF.out HOI.out)).mono ?_; rintro e w3 ⟨A2, c2, rfl, o2, b2⟩; have HIN := Lib.hid (HIN.out.below b2); have HF := Lib.hid (HF.out.below b2); have HW := Lib.hid (HW.out.trans ((b2).mono HW.out.size)); have HOWN := Lib.hid (OwnZ.past HOWN.out b2); have HOI := Lib.hid (ib_get HOWN.out HL.out HIN.out.bd); have HO2 := Lib.hid o2; have HB2 := Lib.hid b2; clear o2 b2
  go_wp2_with fail; refine (any_of (rApply fs A a n c len cap b _ HF.out HIN.out)).mono ?_; rintro e w4 ⟨A3, c3, rfl, o2, b2⟩; have HIN := Lib.hid (HIN.out.below b2); have HF := Lib.hid (HF.out.below b2); have HW := Lib.hid (HW.out.trans ((b2).mono HW.out.size)); have HOWN := Lib.hid (OwnZ.past HOWN.out b2); have HOI := Lib.hid (ib_get HOWN.out HL.out HIN.out.bd); have HO3 := Lib.hid o2; have HB3 := Lib.hid b2; clear o2 b2
  have HO2 := Lib.hid (OwnZ.past HO2.out HB3.out)
  go_wp2_with fail; refine (any_of (Undo_any fs A A1 n c len c1 b _ HF.out HOI.out)).mono ?_; rintro e w5 ⟨A4, c4, rfl, o2, b2⟩; have HIN := Lib.hid (HIN.out.below b2); have HF := Lib.hid (HF.out.below b2); have HW := Lib.hid (HW.out.trans ((b2).mono HW.out.size)); have HOWN := Lib.hid (OwnZ.past HOWN.out b2); have HOI := Lib.hid (ib_get HOWN.out HL.out HIN.out.bd); have HO4 := Lib.hid o2; have HB4 := Lib.hid b2; clear o2 b2
  have HO2 := Lib.hid (OwnZ.past HO2.out HB4.out)
  have HO3 := Lib.hid (OwnZ.past HO3.out HB4.out)
  go_wp2_with fail; refine (any_of (rUndo fs A a n c len cap b _ HF.out HIN.out)).mono ?_; rintro e w6 ⟨A5, c5, rfl, o2, b2⟩; have HIN := Lib.hid (HIN.out.below b2); have HF := Lib.hid (HF.out.below b2); have HW := Lib.hid (HW.out.trans ((b2).mono HW.out.size)); have HOWN := Lib.hid (OwnZ.past HOWN.out b2); have HOI := Lib.hid (ib_get HOWN.out HL.out HIN.out.bd); have HO5 := Lib.hid o2; have HB5 := Lib.hid b2; clear o2 b2
  have HO2 := Lib.hid (OwnZ.past HO2.out HB5.out)
  have HO3 := Lib.hid (OwnZ.le (OwnZ.past HO3.out HB5.out) HB2.out.size)
  have HO4 := Lib.hid (OwnZ.le (OwnZ.past HO4.out HB5.out) (Nat.le_trans HB2.out.size HB3.out.size))
  have HO5 := Lib.hid (OwnZ.le HO5.out (Nat.le_trans HB2.out.size (Nat.le_trans HB3.out.size HB4.out.size)))
  have L1 := Lib.hid (appO_len fs b)
  have L2 := Lib.hid (undO_len fs b)
  generalize (appO fs b).getD [] = s1 at *
  generalize (undO fs b).getD [] = s2 at *
  generalize rE (appO fs b) (appE fs) = r1 at *
  generalize rE (undO fs b) (undE fs b) = r2 at *
  clear HB2 HB3 HB4 HB5
  generalize w1.heap.size = G at *
  go_wp2_with fail
  rcases Nat.eq_zero_or_pos len with h0 | hp
  · have k1 : ¬ (0 : Int) < len := by omega
    have k2 : (len : Int) ≤ 0 := by omega
    clear h0
    go_loopw [14] (fun u wr => u = .int .i64 0 ∧ wr = w6) (fun _ _ => 0)
    case atStart => exact ⟨rfl, rfl⟩
    case round =>
      obtain ⟨rfl, hwr⟩ := hrel
      subst hwr
      go_wp2_with fail; refine (same_yes A2 A3 _ c2 c3 s1 _ (ownz_has HO2.out) (ownz_has HO3.out) rfl (by have := L1.out; omega)).mono ?_; rintro e wa ⟨rfl, ba⟩; have HO4 := Lib.hid (OwnZ.past HO4.out ba); have HO5 := Lib.hid (OwnZ.past HO5.out ba); have HW := Lib.hid (HW.out.trans (ba.mono HW.out.size)); clear ba; go_wp2_with fail; refine (same_yes A4 A5 _ c4 c5 s2 _ (ownz_has HO4.out) (ownz_has HO5.out) rfl (by have := L2.out; omega)).mono ?_; rintro e wb ⟨rfl, bb⟩; have HW := Lib.hid (HW.out.trans (bb.mono HW.out.size)); clear bb; go_wp2_with fail; go_ret; exact ⟨rfl, HW.out⟩
  · have HP := Lib.hid hp
    have hne : b ≠ [] := by intro e; have := HL.out; rw [e] at this; simp at this; omega
    obtain ⟨g, rfl, hg1, ho⟩ : ∃ g, A1 = some ⟨g, 0, none⟩ ∧ w2.heap.size ≤ g ∧ OwnI w6 w2.heap.size 5 .u8 (.slice (some ⟨g, 0, none⟩) len c1) b := by
      rcases HOWN.out with o | ⟨e, _⟩
      · obtain ⟨g, rfl, h1, h2, -⟩ := o.form hne
        exact ⟨g, rfl, h1, o⟩
      · exact absurd e hne
    have hg2 := HG.out g rfl hne
    have HGG := Lib.hid (And.intro hg1 hg2)
    have HOB := Lib.hid ho
    clear hp hne hg1 hg2 ho
    go_loopw [14] (fun u wr => ∃ (k : Nat) (zs : List Int), k ≤ len ∧ u = .int .i64 k ∧ zs.length = len ∧ OwnI wr w2.heap.size 5 .u8 (.slice (some ⟨g, 0, none⟩) len c1) zs ∧ OwnZ wr G (.slice A2 s1.length c2) s1 ∧ OwnZ wr G (.slice A3 s1.length c3) s1 ∧ OwnZ wr G (.slice A4 s2.length c4) s2 ∧ OwnZ wr G (.slice A5 s2.length c5) s2 ∧ Below w2.heap.size w2 wr) (fun u _ => len - (intOf u).toNat)
    case atStart => exact ⟨0, b, Nat.zero_le _, rfl, HL.out, HOB.out, HO2.out, HO3.out, HO4.out, HO5.out, HW.out⟩
    case round =>
      obtain ⟨k, zs, hk, rfl, hzl, hz, z2, z3, z4, z5, hb⟩ := hrel
      have HZ := Lib.hid hz
      have HZL := Lib.hid hzl
      have HO2 := Lib.hid z2
      have HO3 := Lib.hid z3
      have HO4 := Lib.hid z4
      have HO5 := Lib.hid z5
      have HW := Lib.hid hb
      by_cases hlt : k < len
      · have k1 : (k : Int) < len := by omega
        have k2 : k < len := hlt
        have p1 := hz.cell k (by rw [hzl]; exact hlt)
        have p2 := hz.frozen k
        have HLT := Lib.hid hlt
        generalize zs.getD k 0 = x at *
        clear hk hzl hz z2 z3 z4 z5 hb hlt
        go_wp2_with fail
        go_roundw
        case rel => exact ⟨k + 1, zs.set k (IntKind.u8.wrap (x + 1)), HLT.out, by go_num, by rw [List.length_set]; exact HZL.out, HZ.out.store k _, ownz_set HO2.out HGG.out.2 _, ownz_set HO3.out HGG.out.2 _, ownz_set HO4.out HGG.out.2 _, ownz_set HO5.out HGG.out.2 _, Below.setCell HW.out HGG.out.1 _⟩
        case measure => simp [intOf]; have := HLT.out; omega
      · obtain rfl : k = len := by omega
        have k1 : ¬ (k : Int) < k := by omega
        clear hk hzl hz z2 z3 z4 z5 hb hlt
        go_wp2_with fail; refine (same_yes A2 A3 _ c2 c3 s1 _ (ownz_has HO2.out) (ownz_has HO3.out) rfl (by have := L1.out; omega)).mono ?_; rintro e wa ⟨rfl, ba⟩; have HO4 := Lib.hid (OwnZ.past HO4.out ba); have HO5 := Lib.hid (OwnZ.past HO5.out ba); have HW := Lib.hid (HW.out.trans (ba.mono HW.out.size)); clear ba; go_wp2_with fail; refine (same_yes A4 A5 _ c4 c5 s2 _ (ownz_has HO4.out) (ownz_has HO5.out) rfl (by have := L2.out; omega)).mono ?_; rintro e wb ⟨rfl, bb⟩; have HW := Lib.hid (HW.out.trans (bb.mono HW.out.size)); clear bb; go_wp2_with fail; go_ret; exact ⟨rfl, HW.out⟩
end Go.Proofs.Ytbfodmckgjeoaaa.fiL
