/- The examples of the chapter; what fits. -/
import Derived.Test.YtacllaeccdgnmaaPaW6
import Derived.Test.YtacllaeccdgnmaaPaR3
import Derived.Test.YtacllaeccdgnmaaRowsV2
import Derived.Lib.SmallJoins
import Derived.Lib.SlBytesConst
namespace Go.Proofs.Ytacllaeccdgnmaa.paL
set_option maxRecDepth 100000
open Go.RowKit Go.Proofs.Ytacllaeccdgnmaa.base Go.Proofs.Ytacllaeccdgnmaa.paP Go.Proofs.Ytacllaeccdgnmaa.paW
set_option linter.unusedVariables false
set_option linter.unusedSimpArgs false
set_option maxRecDepth 100000
def FP (rs : List R8) (e : Ending) : Prop := ∃ b : Bool, e = .returned (.bool b) ∧ (b = true → gE (bs rs) = 0)
set_option maxHeartbeats 1000000 in
theorem fit_any (P : Option Addr) (m d : Nat) (rs : List R8) (w : World) (hr : RowsB w P m d rs) : Calls Try.prog 18 #[.slice P m d] w fun e w' => FP rs e ∧ Below w.heap.size w w' := by
  have HR := Lib.hid hr
  clear hr
  have HG := Lib.hid (gE_cases (bs rs))
  obtain ⟨er, her⟩ : ∃ er, gE (bs rs) = er := ⟨_, rfl⟩
  have HER := Lib.hid her
  go_enter Try.func18, Try.ntmps18
  go_wp2_with (first
    | (go_at_call 33; refine (rOf_any P m d rs _ HR.out).mono ?_; rw [HER.out]; rintro e w2 ⟨A2, c2, rfl, ho2, hb2⟩; have HB2 := Lib.hid hb2; clear ho2 hb2))
  refine (great_any P m d rs w2 (HR.out.below HB2.out (Nat.le_refl _))).mono ?_
  rintro e w3 ⟨⟨b, rfl, hb⟩, rfl⟩
  rcases b with _ | _
  · by_cases h0 : er = 0
    · have h1 : (er == 0) = true := by simpa using h0
      go_wp2_with fail
      go_ret
      exact ⟨⟨_, rfl, fun _ => by rw [HER.out]; exact h0⟩, HB2.out⟩
    · have h1 : (er == 0) = false := by simpa using h0
      go_wp2_with fail
      go_ret
      exact ⟨⟨_, rfl, fun h => by simp at h⟩, HB2.out⟩
  · go_wp2_with fail
    go_ret
    exact ⟨⟨_, rfl, fun h => by simp at h⟩, HB2.out⟩
theorem byt_dec {zs : List Int} (h : zs.all (fun z => decide (0 ≤ z) && decide (z ≤ 255)) = true) : Byt zs := by
  intro z hz
  have := List.all_eq_true.1 h z hz
  simp at this; exact this
theorem inr_lit (w : World) (zs : List Int) (hl : zs.length ≤ 10000) (hb : Byt zs) {g n : Nat} (hg : w.heap.size = g) (hn : zs.length = n) : InR (w.alloc (.cells (zs.map (Value.int .u8)).toArray 5)) ⟨some ⟨g, 0, none⟩, n, n, zs⟩ :=
  ⟨has_lit hg (by unfold maxLen; omega), hn, Nat.le_refl _, by show n ≤ 9223372036854775807; omega, hb⟩
theorem has_mark {w : World} {e : TypeId} {zs : List Int} {g : Nat} {fr : Nat × Nat} (hg : w.heap.size = g) : Has .u8 (w.alloc (.cells (zs.map (Value.int .u8)).toArray e fr)) (some ⟨g, 0, none⟩) zs := by
  refine .inr ⟨g, 0, rfl, by rw [← hg]; simp, fun i hi => ?_⟩
  rw [Joins.cell_alloc_mark_at w _ e fr g _ hg.symm, Nat.zero_add]
  simp [List.getD_eq_getElem?_getD, List.getElem?_eq_getElem hi]
theorem inr_mark (w : World) (zs : List Int) (fr : Nat × Nat) (hl : zs.length ≤ 10000) (hb : Byt zs) {g n : Nat} (hg : w.heap.size = g) (hn : zs.length = n) : InR (w.alloc (.cells (zs.map (Value.int .u8)).toArray 5 fr)) ⟨some ⟨g, 0, none⟩, n, n, zs⟩ :=
  ⟨has_mark hg, hn, Nat.le_refl _, by show n ≤ 9223372036854775807; omega, hb⟩
theorem inr_nil (w : World) : InR w r80 := ⟨.inl rfl, rfl, Nat.le_refl _, by show 0 ≤ 9223372036854775807; omega, by simp [r80]⟩
theorem al_1 : ofV [[97, 98], [99]] = [0, 3, 2, 98] ∧ gE [[97, 98], [99]] = 0 := by decide +kernel
theorem al_2 : repE [[], [99]] 0 [0, 3, 2, 98] = 0 ∧ repV [[], [99]] 0 [0, 3, 2, 98] = [97, 98] := by decide +kernel
theorem al_3 : repE [[97, 98], [97, 98]] 1 [0, 3, 2, 98] = 0 ∧ repV [[97, 98], [97, 98]] 1 [0, 3, 2, 98] = [99] := by decide +kernel
theorem al_4 : repE [[122, 122], []] 1 [0, 3, 2, 98] = 12 ∧ repV [[122, 122], []] 1 [0, 3, 2, 98] = [] := by decide +kernel
theorem two_in {w : World} {a b : R8} (ha : InR w a) (hb : InR w b) : ∀ r ∈ [a, b], InR w r := by
  intro r hr
  simp only [List.mem_cons, List.mem_nil_iff, or_false] at hr
  rcases hr with rfl | rfl
  · exact ha
  · exact hb
set_option maxHeartbeats 4000000 in
theorem alive_yes (w : World) : Calls Try.prog 17 #[] w fun e w' => e = .returned (.bool true) ∧ Below w.heap.size w w' := by
  have kc := fun (w : World) (C : Array Value) (n c g : Nat) (hg : g = w.heap.size) => Joins.run_convert_bytes_const_at (P := Try.prog) w 36 5 C n c g hg Try.underlying36 Try.underlying5
  go_enter Try.func17, Try.ntmps17
  go_upto_region 2 with fail
  have i1 := inr_mark w [97, 98] (2, 3) (by simp) (byt_dec rfl) rfl rfl
  have i1' := i1.below ((Below.refl _ _).alloc (Nat.le_refl _) (.cells #[.int .u8 99] 5 (1, 2))) (Nat.le_refl _)
  have i2 := inr_mark (w.alloc (.cells #[.int .u8 97, .int .u8 98] 5 (2, 3))) [99] (1, 2) (by simp) (byt_dec rfl) (g := w.heap.size + 1) (by simp) rfl
  have HW : Hid (Below w.heap.size w ((w.alloc (.cells #[.int .u8 97, .int .u8 98] 5 (2, 3))).alloc (.cells #[.int .u8 99] 5 (1, 2)))) := Lib.hid (((Below.refl _ _).alloc (Nat.le_refl _) _).alloc (by simp) _)
  have HA : Hid (InR ((w.alloc (.cells #[.int .u8 97, .int .u8 98] 5 (2, 3))).alloc (.cells #[.int .u8 99] 5 (1, 2))) ⟨some ⟨w.heap.size, 0, none⟩, 2, 2, [97, 98]⟩) := Lib.hid i1'
  have HB : Hid (InR ((w.alloc (.cells #[.int .u8 97, .int .u8 98] 5 (2, 3))).alloc (.cells #[.int .u8 99] 5 (1, 2))) ⟨some ⟨w.heap.size + 1, 0, none⟩, 1, 1, [99]⟩) := Lib.hid i2
  clear i1 i1' i2
  generalize hw1 : (w.alloc (.cells #[.int .u8 97, .int .u8 98] 5 (2, 3))).alloc (.cells #[.int .u8 99] 5 (1, 2)) = w1 at *
  clear hw1
  obtain ⟨pa, hpa⟩ : ∃ pa : Option Addr, some ⟨w.heap.size, 0, none⟩ = pa := ⟨_, rfl⟩
  obtain ⟨pb, hpb⟩ : ∃ pb : Option Addr, some ⟨w.heap.size + 1, 0, none⟩ = pb := ⟨_, rfl⟩
  rw [hpa] at HA
  rw [hpb] at HB
  (try rw [hpa, hpb])
  clear hpa hpb
  have H1 : Hid (RowsB (w1.alloc (.cells #[.slice pa 2 2, .slice pb 1 1] 36)) (some ⟨w1.heap.size, 0, none⟩) 2 2 [⟨pa, 2, 2, [97, 98]⟩, ⟨pb, 1, 1, [99]⟩]) := Lib.hid (rows_lit w1 [⟨pa, 2, 2, [97, 98]⟩, ⟨pb, 1, 1, [99]⟩] (two_in HA.out HB.out) (by simp) rfl rfl)
  have HW1 : Hid (Below w1.heap.size w1 (w1.alloc (.cells #[.slice pa 2 2, .slice pb 1 1] 36))) := Lib.hid ((Below.refl _ _).alloc (Nat.le_refl _) _)
  go_wp2_with fail
  refine (Of_any _ 2 2 _ _ H1.out).mono ?_
  rw [show bs [⟨pa, 2, 2, [97, 98]⟩, ⟨pb, 1, 1, [99]⟩] = [[97, 98], [99]] from rfl, al_1.1, al_1.2]
  rintro e w2 ⟨A2, c2, rfl, ho2, hb2⟩
  have b2 : Below w1.heap.size w1 w2 := HW1.out.trans (hb2.mono HW1.out.size)
  have HO := Lib.hid (ho2.has)
  have HC : Hid (4 ≤ c2 ∧ c2 ≤ 9223372036854775807) := Lib.hid (by
    have := OwnZ.bounds ho2
    exact ⟨this.2.1, this.2.2⟩)
  have HA := Lib.hid (HA.out.below b2 (Nat.le_refl _))
  have HB := Lib.hid (HB.out.below b2 (Nat.le_refl _))
  have HW := Lib.hid (HW.out.trans (b2.mono HW.out.size))
  clear ho2 hb2 b2 H1 HW1
  have H1 : Hid (RowsB (w2.alloc (.cells #[.slice none 0 0, .slice pb 1 1] 36)) (some ⟨w2.heap.size, 0, none⟩) 2 2 [r80, ⟨pb, 1, 1, [99]⟩]) := Lib.hid (rows_lit w2 [r80, ⟨pb, 1, 1, [99]⟩] (two_in (inr_nil _) HB.out) (by simp) rfl rfl)
  have HW1 : Hid (Below w2.heap.size w2 (w2.alloc (.cells #[.slice none 0 0, .slice pb 1 1] 36))) := Lib.hid ((Below.refl _ _).alloc (Nat.le_refl _) _)
  go_wp2_with fail
  refine (Repair_any _ A2 2 2 4 c2 0 _ [0, 3, 2, 98] _ H1.out (by omega) (by omega) (HO.out.below HW1.out (Nat.le_refl _)) rfl HC.out.1 HC.out.2 (byt_dec rfl)).mono ?_
  rw [show bs [r80, ⟨pb, 1, 1, [99]⟩] = [[], [99]] from rfl, al_2.1, al_2.2]
  rintro e w3 ⟨A3, c3, rfl, ho3, hb3⟩
  have b3 : Below w2.heap.size w2 w3 := HW1.out.trans (hb3.mono HW1.out.size)
  have HO := Lib.hid (HO.out.below b3 (Nat.le_refl _))
  have HO3 := Lib.hid (ho3.has)
  have HA := Lib.hid (HA.out.below b3 (Nat.le_refl _))
  have HB := Lib.hid (HB.out.below b3 (Nat.le_refl _))
  have HW := Lib.hid (HW.out.trans (b3.mono HW.out.size))
  clear ho3 hb3 b3 H1 HW1
  have H1 : Hid (RowsB (w3.alloc (.cells #[.slice pa 2 2, .slice pa 2 2] 36)) (some ⟨w3.heap.size, 0, none⟩) 2 2 [⟨pa, 2, 2, [97, 98]⟩, ⟨pa, 2, 2, [97, 98]⟩]) := Lib.hid (rows_lit w3 [⟨pa, 2, 2, [97, 98]⟩, ⟨pa, 2, 2, [97, 98]⟩] (two_in HA.out HA.out) (by simp) rfl rfl)
  have HW1 : Hid (Below w3.heap.size w3 (w3.alloc (.cells #[.slice pa 2 2, .slice pa 2 2] 36))) := Lib.hid ((Below.refl _ _).alloc (Nat.le_refl _) _)
  go_wp2_with fail
  refine (Repair_any _ A2 2 2 4 c2 1 _ [0, 3, 2, 98] _ H1.out (by omega) (by omega) (HO.out.below HW1.out (Nat.le_refl _)) rfl HC.out.1 HC.out.2 (byt_dec rfl)).mono ?_
  rw [show bs [⟨pa, 2, 2, [97, 98]⟩, ⟨pa, 2, 2, [97, 98]⟩] = [[97, 98], [97, 98]] from rfl, al_3.1, al_3.2]
  rintro e w4 ⟨A4, c4, rfl, ho4, hb4⟩
  have b4 : Below w3.heap.size w3 w4 := HW1.out.trans (hb4.mono HW1.out.size)
  have HO := Lib.hid (HO.out.below b4 (Nat.le_refl _))
  have HO3 := Lib.hid (HO3.out.below b4 (Nat.le_refl _))
  have HO4 := Lib.hid (ho4.has)
  have HW := Lib.hid (HW.out.trans (b4.mono HW.out.size))
  clear ho4 hb4 b4 H1 HW1 HA HB
  obtain ⟨g5, hg5⟩ : ∃ g, w4.heap.size = g := ⟨_, rfl⟩
  have i5 := inr_mark w4 [122, 122] (2, 3) (by simp) (byt_dec rfl) hg5 rfl
  have H1 : Hid (RowsB ((w4.alloc (.cells #[.int .u8 122, .int .u8 122] 5 (2, 3))).alloc (.cells #[.slice (some ⟨g5, 0, none⟩) 2 2, .slice none 0 0] 36)) (some ⟨g5 + 1, 0, none⟩) 2 2 [⟨some ⟨g5, 0, none⟩, 2, 2, [122, 122]⟩, r80]) := Lib.hid (rows_lit _ [⟨some ⟨g5, 0, none⟩, 2, 2, [122, 122]⟩, r80] (two_in i5 (inr_nil _)) (by simp) (by rw [← hg5]; simp) rfl)
  have HW1 : Hid (Below w4.heap.size w4 ((w4.alloc (.cells #[.int .u8 122, .int .u8 122] 5 (2, 3))).alloc (.cells #[.slice (some ⟨g5, 0, none⟩) 2 2, .slice none 0 0] 36))) := Lib.hid (((Below.refl _ _).alloc (Nat.le_refl _) _).alloc (by simp) _)
  subst hg5
  clear i5
  go_wp2_with fail
  refine (Repair_any _ A2 2 2 4 c2 1 _ [0, 3, 2, 98] _ H1.out (by omega) (by omega) (HO.out.below HW1.out (Nat.le_refl _)) rfl HC.out.1 HC.out.2 (byt_dec rfl)).mono ?_
  rw [show bs [⟨some ⟨w4.heap.size, 0, none⟩, 2, 2, [122, 122]⟩, r80] = [[122, 122], []] from rfl, al_4.1, al_4.2]
  rintro e w5 ⟨A5, c5, rfl, ho5, hb5⟩
  have b5 : Below w4.heap.size w4 w5 := HW1.out.trans (hb5.mono HW1.out.size)
  have k1 := conv8 (n := 4) (c := c2) (HO.out.below b5 (Nat.le_refl _)) rfl
  have k2 := conv8 (n := 2) (c := c3) (HO3.out.below b5 (Nat.le_refl _)) rfl
  have k3 := conv8 (n := 1) (c := c4) (HO4.out.below b5 (Nat.le_refl _)) rfl
  rw [show bstr [0, 3, 2, 98] = ⟨#[0, 3, 2, 98]⟩ from rfl] at k1
  rw [show bstr [97, 98] = ⟨#[97, 98]⟩ from rfl] at k2
  rw [show bstr [99] = ⟨#[99]⟩ from rfl] at k3
  have HW := Lib.hid (HW.out.trans (b5.mono HW.out.size))
  clear ho5 hb5 b5 H1 HW1 HO HO3 HO4
  go_wp2_with fail
  go_ret
  exact ⟨rfl, HW.out⟩
end Go.Proofs.Ytacllaeccdgnmaa.paL
