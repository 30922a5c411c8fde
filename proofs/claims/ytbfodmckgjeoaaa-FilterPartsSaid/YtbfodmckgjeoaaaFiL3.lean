/- FilterParts. -/
import Derived.Test.YtbfodmckgjeoaaaFiL2
namespace Go.Proofs.Ytbfodmckgjeoaaa.fiL
set_option maxRecDepth 100000
open Go.RowKit Go.Proofs.Ytbfodmckgjeoaaa.base Go.Proofs.Ytbfodmckgjeoaaa.fiP Go.Proofs.Ytbfodmckgjeoaaa.fiW Go.Proofs.Ytbfodmckgjeoaaa.fiU
set_option linter.unusedVariables false
set_option linter.unusedSimpArgs false
set_option maxRecDepth 100000
theorem InF.front {w : World} {A : Option Addr} {n c : Nat} {fs : List (Int × Int)} (h : InF w A n c fs) {k : Nat} (hk : k ≤ n) : InF w A k c (fs.take k) := by
  refine ⟨?_, by rw [List.length_take, h.e]; omega, Nat.le_trans hk h.c1, h.c2, fun f hf => h.bd f (List.mem_of_mem_take hf)⟩
  rcases h.h with h0 | ⟨b, off, h1, h2, h3⟩
  · exact .inl (by rw [h0]; simp)
  · refine .inr ⟨b, off, h1, h2, fun i hi => ?_⟩
    have hi' : i < k ∧ i < fs.length := by rw [List.length_take] at hi; omega
    have e : (fs.take k).getD i (0, 0) = fs.getD i (0, 0) := by simp only [List.getD_eq_getElem?_getD, List.getElem?_take]; rw [if_pos hi'.1]
    rw [e]; exact h3 i hi'.2
/-- 'l[k:]' as the walk spells it. -/
theorem InF.cut {w : World} {A : Option Addr} {n c : Nat} {fs : List (Int × Int)} (h : InF w A n c fs) {k : Nat} (hk : k ≤ n) : InF w (if c = k then A else A.map (·.add (k * 2))) (n - k) (c - k) (fs.drop k) := by
  have h1 := h.c1
  have h2 := h.c2
  refine ⟨?_, by rw [List.length_drop, h.e], by omega, by omega, fun f hf => h.bd f (List.mem_of_mem_drop hf)⟩
  rcases Nat.lt_or_ge k n with hlt | hge
  · rw [if_neg (by omega)]
    rcases h.h with h0 | ⟨b, off, rfl, hb, h3⟩
    · have := h.e; rw [h0] at this; simp at this; omega
    · refine .inr ⟨b, off + k * 2, by simp [addr_add], hb, fun i hi => ?_⟩
      have hi' : k + i < fs.length := by have : i < fs.length - k := by simpa using hi
                                         omega
      have e : (fs.drop k).getD i (0, 0) = fs.getD (k + i) (0, 0) := by simp only [List.getD_eq_getElem?_getD, List.getElem?_drop]
      have := h3 (k + i) hi'
      rw [e, show off + k * 2 + i * 2 = off + (k + i) * 2 by omega]
      exact this
  · exact .inl (by rw [List.drop_eq_nil_of_le (by rw [h.e]; omega)])
theorem okC_front {fs : List (Int × Int)} (h : okC fs = true) (k : Nat) : okC (fs.take k) = true ∧ okC (fs.drop k) = true := by
  unfold okC at *
  rw [List.all_eq_true] at h
  exact ⟨List.all_eq_true.2 (fun f hf => h f (List.mem_of_mem_take hf)), List.all_eq_true.2 (fun f hf => h f (List.mem_of_mem_drop hf))⟩
theorem chE_ok {fs : List (Int × Int)} (h : fs.length ≤ 4) (hok : okC fs = true) : chE fs = 0 := by
  unfold chE; rw [if_neg (by omega), if_pos hok]
/-- What the law asks, plainly. -/
theorem parts_plain {fs : List (Int × Int)} {b : List Int} {k : Nat} (h0 : chE fs = 0) (hb : Byt b) (hl : b.length ≤ 300) (hk : k ≤ fs.length) :
    appO [] b = some b ∧ appO fs b = some (appF fs b) ∧ appO (fs.take k) b = some (appF (fs.take k) b) ∧ ((appF (fs.take k) b).length ≤ 2000 → appO (fs.drop k) (appF (fs.take k) b) = some (appF fs b) ∧ undO (fs.drop k) (appF fs b) = some (appF (fs.take k) b)) ∧ (appF (fs.take k) b).length ≤ 2000 := by
  obtain ⟨h4, hok⟩ := chE_zero h0
  have ht : (fs.take k).length ≤ 4 := by rw [List.length_take]; omega
  have hd : (fs.drop k).length ≤ 4 := by rw [List.length_drop]; omega
  have e1 := chE_ok ht (okC_front hok k).1
  have e2 := chE_ok hd (okC_front hok k).2
  have hs : (appF (fs.take k) b).length ≤ 2000 := by
    have h := appF_len (l := fs.take k) (b := b)
    have hc : (fs.take k).length = 0 ∨ (fs.take k).length = 1 ∨ (fs.take k).length = 2 ∨ (fs.take k).length = 3 ∨ (fs.take k).length = 4 := by omega
    rcases hc with e | e | e | e | e <;> rw [e] at h <;> simp at h <;> omega
  have hw : appF fs b = appF (fs.drop k) (appF (fs.take k) b) := by rw [← appF_append, List.take_append_drop]
  refine ⟨by unfold appO; rw [if_pos ⟨by decide, by omega⟩]; rfl, by unfold appO; rw [if_pos ⟨h0, by omega⟩], by unfold appO; rw [if_pos ⟨e1, by omega⟩], fun _ => ⟨?_, ?_⟩, hs⟩
  · unfold appO; rw [if_pos ⟨e2, hs⟩, hw]
  · have hu := und_app (okC_front hok k).2 (appF_bd (l := fs.take k) hb) hd hs
    rw [hw]
    rw [und_get hu e2 (appF_short hd hs), if_pos hs]
set_option maxHeartbeats 1000000 in
theorem parts (A : Option Addr) (n c : Nat) (fs : List (Int × Int)) (at_ : Int) (a : Option Addr) (len cap : Nat) (z : List Int) (w : World) (hf : InF w A n c fs) (ha1 : -9223372036854775808 ≤ at_) (ha2 : at_ ≤ 9223372036854775807) (hz : IsRow .u8 w a len cap z) :
    Calls Try.prog 8 #[.slice A n c, .int .i64 at_, .slice a len cap] w fun e w' => e = .returned (.bool true) ∧ Below w.heap.size w w' := by
  have hin := ib_of hz
  obtain ⟨b, hb⟩ : ∃ b, z.take len = b := ⟨_, rfl⟩
  rw [hb] at hin
  have l9 : (len : Int) ≤ 9223372036854775807 := by have := hin.c1; have := hin.c2; omega
  have n9 : (n : Int) ≤ 9223372036854775807 := by have := hf.c1; have := hf.c2; omega
  have HIN := Lib.hid hin
  have HF := Lib.hid hf
  have HL := Lib.hid hin.e
  have HFL := Lib.hid hf.e
  clear hz hb hin hf
  go_enter Try.func8, Try.ntmps8
  go_wp2_with fail
  refine (alive_yes w).mono ?_
  rintro e w1 ⟨rfl, b1⟩
  have HIN := Lib.hid (HIN.out.below b1)
  have HF := Lib.hid (HF.out.below b1)
  have HW := Lib.hid b1
  clear b1
  go_wp2_with fail
  refine (rChain fs A n c _ HF.out).mono ?_
  rintro e w2 ⟨rfl, b2⟩
  have HIN := Lib.hid (HIN.out.below b2); have HF := Lib.hid (HF.out.below b2); have HW := Lib.hid (HW.out.trans ((b2).mono HW.out.size))
  clear b2
  obtain ⟨v, hv⟩ : ∃ v, chE fs = v := ⟨_, rfl⟩
  rw [hv]
  by_cases h0 : v = 0
  · subst h0
    by_cases c1 : at_ < 0
    · clear hv
      go_wp2_with fail
      go_ret
      exact ⟨rfl, HW.out⟩
    obtain ⟨k, rfl⟩ := Int.eq_ofNat_of_zero_le (show 0 ≤ at_ by omega)
    by_cases c2 : k ≤ n
    · have i2 : ¬ (n : Int) < k := by omega
      by_cases c3 : 300 < len
      · have i3 : (300 : Int) < len := by omega
        clear hv c2 c3
        go_wp2_with fail
        go_ret
        exact ⟨rfl, HW.out⟩
      have i3 : ¬ (300 : Int) < len := by omega
      have HP := Lib.hid (parts_plain (k := k) hv HIN.out.bd (by rw [HL.out]; omega) (by rw [HFL.out]; exact c2))
      have HT := Lib.hid (fun W (hh : InF W A n c fs) => InF.front hh c2)
      have HC := Lib.hid (fun W (hh : InF W A n c fs) => InF.cut hh c2)
      have HCC := Lib.hid HF.out.c1
      have i4 : (k : Int) ≤ c := by have := HCC.out; omega
      have i5 : k ≤ c := by have := HCC.out; omega
      have i6 : (k : Int) ≤ n := by omega
      have i7 : k ≤ n := c2
      clear hv c2 c3 c1
      have HN0 : ∀ W : World, InF W none 0 0 [] := fun W => ⟨.inl rfl, rfl, Nat.le_refl _, by omega, by simp⟩
      have hp2 := HP.out.2.2.2.1 HP.out.2.2.2.2
      have HP1 := Lib.hid HP.out.1
      have HP2 := Lib.hid HP.out.2.1
      have HP3 := Lib.hid HP.out.2.2.1
      have HP4 := Lib.hid hp2.1
      have HP5 := Lib.hid hp2.2
      have HPL := Lib.hid HP.out.2.2.2.2
      have HBA := Lib.hid (appF_bd (l := fs) HIN.out.bd)
      have HBT := Lib.hid (appF_bd (l := fs.take k) HIN.out.bd)
      have HAL := Lib.hid (appO_len fs b)
      rw [HP2.out, Option.getD_some] at HAL
      clear HP hp2
      have HBB := Lib.hid HIN.out.bd
      generalize appF (fs.take k) b = s1 at *
      generalize appF fs b = s2 at *
      generalize fs.take k = f1 at *
      generalize hf2 : fs.drop k = f2 at *
      go_wp2_with fail; refine (Apply_any [] none a 0 0 len cap b _ (HN0 _) HIN.out).mono ?_; rintro e w3 ⟨hres, b2⟩; obtain ⟨A1, c1', rfl, o2⟩ := Res.get hres HP1.out; have HIN := Lib.hid (HIN.out.below b2); have HF := Lib.hid (HF.out.below b2); have HW := Lib.hid (HW.out.trans ((b2).mono HW.out.size)); have HO1 := Lib.hid (ib_ownz o2 rfl HBB.out); have HBN := Lib.hid b2; clear o2 b2 hres
      rw [HL.out] at HO1 ⊢
      go_wp2_with fail; refine (Apply_any fs A a n c len cap b _ HF.out HIN.out).mono ?_; rintro e w4 ⟨hres, b2⟩; obtain ⟨A2, c2', rfl, o2⟩ := Res.get hres HP2.out; have HIN := Lib.hid (HIN.out.below b2); have HF := Lib.hid (HF.out.below b2); have HW := Lib.hid (HW.out.trans ((b2).mono HW.out.size)); have HO2 := Lib.hid (ib_ownz o2 rfl HBA.out); have HBN := Lib.hid b2; clear o2 b2 hres
      have HO1 := Lib.hid (HO1.out.below HBN.out)
      go_wp2_with fail; refine (Apply_any f1 A a k c len cap b _ (HT.out _ HF.out) HIN.out).mono ?_; rintro e w5 ⟨hres, b2⟩; obtain ⟨A3, c3', rfl, o2⟩ := Res.get hres HP3.out; have HIN := Lib.hid (HIN.out.below b2); have HF := Lib.hid (HF.out.below b2); have HW := Lib.hid (HW.out.trans ((b2).mono HW.out.size)); have HO3 := Lib.hid (ib_ownz o2 rfl HBT.out); have HBN := Lib.hid b2; clear o2 b2 hres
      have HO1 := Lib.hid (HO1.out.below HBN.out)
      have HO2 := Lib.hid (HO2.out.below HBN.out)
      by_cases hck : c = k
      · have hnk : n = k := by have := HCC.out; omega
        have HCU : Hid (∀ W, InF W A n c fs → InF W A 0 0 f2) := Lib.hid (fun W hh => by
          have := HC.out W hh
          rw [if_pos hck, hck, Nat.sub_self, hnk, Nat.sub_self] at this; exact this)
        subst hnk
        subst hck
        clear i4 i5 i6 i7 HC HT HCC
        go_wp2_with fail; refine (Apply_any f2 A A3 0 0 s1.length c3' s1 _ (HCU.out _ HF.out) HO3.out).mono ?_; rintro e w6 ⟨hres, b2⟩; obtain ⟨A4, c4', rfl, o2⟩ := Res.get hres HP4.out; have HIN := Lib.hid (HIN.out.below b2); have HF := Lib.hid (HF.out.below b2); have HW := Lib.hid (HW.out.trans ((b2).mono HW.out.size)); have HO4 := Lib.hid (ib_ownz o2 rfl HBA.out); have HBN := Lib.hid b2; clear o2 b2 hres; have HO1 := Lib.hid (HO1.out.below HBN.out); have HO2 := Lib.hid (HO2.out.below HBN.out); have HO3 := Lib.hid (HO3.out.below HBN.out); go_wp2_with fail; refine (Undo_any f2 A A2 0 0 s2.length c2' s2 _ (HCU.out _ HF.out) HO2.out).mono ?_; rintro e w7 ⟨hres, b2⟩; obtain ⟨A5, c5', rfl, o2⟩ := Res.get hres HP5.out; have HIN := Lib.hid (HIN.out.below b2); have HF := Lib.hid (HF.out.below b2); have HW := Lib.hid (HW.out.trans ((b2).mono HW.out.size)); have HO5 := Lib.hid (ib_ownz o2 rfl HBT.out); have HBN := Lib.hid b2; clear o2 b2 hres; have HO1 := Lib.hid (HO1.out.below HBN.out); have HO2 := Lib.hid (HO2.out.below HBN.out); have HO3 := Lib.hid (HO3.out.below HBN.out); have HO4 := Lib.hid (HO4.out.below HBN.out); go_wp2_with fail; refine (same_yes A1 a len c1' cap b _ HO1.out.h HIN.out.h HL.out (by omega)).mono ?_; rintro e wa ⟨rfl, ba⟩; have HIN := Lib.hid (HIN.out.below ba); have HF := Lib.hid (HF.out.below ba); have HW := Lib.hid (HW.out.trans ((ba).mono HW.out.size)); have HO2 := Lib.hid (HO2.out.below ba); have HO3 := Lib.hid (HO3.out.below ba); have HO4 := Lib.hid (HO4.out.below ba); have HO5 := Lib.hid (HO5.out.below ba); clear ba; go_wp2_with fail; refine (same_yes A4 A2 _ c4' c2' s2 _ HO4.out.h HO2.out.h rfl (by have := HAL.out; omega)).mono ?_; rintro e wb ⟨rfl, bb⟩; have HIN := Lib.hid (HIN.out.below bb); have HF := Lib.hid (HF.out.below bb); have HW := Lib.hid (HW.out.trans ((bb).mono HW.out.size)); have HO3 := Lib.hid (HO3.out.below bb); have HO5 := Lib.hid (HO5.out.below bb); clear bb; go_wp2_with fail; refine (same_yes A5 A3 _ c5' c3' s1 _ HO5.out.h HO3.out.h rfl (by have := HPL.out; omega)).mono ?_; rintro e wc ⟨rfl, bc⟩; have HIN := Lib.hid (HIN.out.below bc); have HF := Lib.hid (HF.out.below bc); have HW := Lib.hid (HW.out.trans ((bc).mono HW.out.size)); clear bc; go_wp2_with fail; go_ret; exact ⟨rfl, HW.out⟩
      · have HCU : Hid (∀ W, InF W A n c fs → InF W (A.map (·.add (k * 2))) (n - k) (c - k) f2) := Lib.hid (fun W hh => by
          have := HC.out W hh
          rw [if_neg hck] at this; exact this)
        go_wp2_with fail; refine (Apply_any f2 (A.map (·.add (k * 2))) A3 (n - k) (c - k) s1.length c3' s1 _ (HCU.out _ HF.out) HO3.out).mono ?_; rintro e w6 ⟨hres, b2⟩; obtain ⟨A4, c4', rfl, o2⟩ := Res.get hres HP4.out; have HIN := Lib.hid (HIN.out.below b2); have HF := Lib.hid (HF.out.below b2); have HW := Lib.hid (HW.out.trans ((b2).mono HW.out.size)); have HO4 := Lib.hid (ib_ownz o2 rfl HBA.out); have HBN := Lib.hid b2; clear o2 b2 hres; have HO1 := Lib.hid (HO1.out.below HBN.out); have HO2 := Lib.hid (HO2.out.below HBN.out); have HO3 := Lib.hid (HO3.out.below HBN.out); go_wp2_with fail; refine (Undo_any f2 (A.map (·.add (k * 2))) A2 (n - k) (c - k) s2.length c2' s2 _ (HCU.out _ HF.out) HO2.out).mono ?_; rintro e w7 ⟨hres, b2⟩; obtain ⟨A5, c5', rfl, o2⟩ := Res.get hres HP5.out; have HIN := Lib.hid (HIN.out.below b2); have HF := Lib.hid (HF.out.below b2); have HW := Lib.hid (HW.out.trans ((b2).mono HW.out.size)); have HO5 := Lib.hid (ib_ownz o2 rfl HBT.out); have HBN := Lib.hid b2; clear o2 b2 hres; have HO1 := Lib.hid (HO1.out.below HBN.out); have HO2 := Lib.hid (HO2.out.below HBN.out); have HO3 := Lib.hid (HO3.out.below HBN.out); have HO4 := Lib.hid (HO4.out.below HBN.out); go_wp2_with fail; refine (same_yes A1 a len c1' cap b _ HO1.out.h HIN.out.h HL.out (by omega)).mono ?_; rintro e wa ⟨rfl, ba⟩; have HIN := Lib.hid (HIN.out.below ba); have HF := Lib.hid (HF.out.below ba); have HW := Lib.hid (HW.out.trans ((ba).mono HW.out.size)); have HO2 := Lib.hid (HO2.out.below ba); have HO3 := Lib.hid (HO3.out.below ba); have HO4 := Lib.hid (HO4.out.below ba); have HO5 := Lib.hid (HO5.out.below ba); clear ba; go_wp2_with fail; refine (same_yes A4 A2 _ c4' c2' s2 _ HO4.out.h HO2.out.h rfl (by have := HAL.out; omega)).mono ?_; rintro e wb ⟨rfl, bb⟩; have HIN := Lib.hid (HIN.out.below bb); have HF := Lib.hid (HF.out.below bb); have HW := Lib.hid (HW.out.trans ((bb).mono HW.out.size)); have HO3 := Lib.hid (HO3.out.below bb); have HO5 := Lib.hid (HO5.out.below bb); clear bb; go_wp2_with fail; refine (same_yes A5 A3 _ c5' c3' s1 _ HO5.out.h HO3.out.h rfl (by have := HPL.out; omega)).mono ?_; rintro e wc ⟨rfl, bc⟩; have HIN := Lib.hid (HIN.out.below bc); have HF := Lib.hid (HF.out.below bc); have HW := Lib.hid (HW.out.trans ((bc).mono HW.out.size)); clear bc; go_wp2_with fail; go_ret; exact ⟨rfl, HW.out⟩
    · have i2 : (n : Int) < k := by omega
      clear hv c2
      go_wp2_with fail
      go_ret
      exact ⟨rfl, HW.out⟩
  · have hne : (v != 0) = true := by simpa using h0
    clear hv
    go_wp2_with fail
    go_ret
    exact ⟨rfl, HW.out⟩
end Go.Proofs.Ytbfodmckgjeoaaa.fiL
