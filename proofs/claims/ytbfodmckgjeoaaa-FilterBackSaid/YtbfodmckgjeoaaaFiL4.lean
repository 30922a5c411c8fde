/- FilterBack. -/
import Derived.Test.YtbfodmckgjeoaaaFiL2
namespace Go.Proofs.Ytbfodmckgjeoaaa.fiL
set_option maxRecDepth 100000
open Go.RowKit Go.Proofs.Ytbfodmckgjeoaaa.base Go.Proofs.Ytbfodmckgjeoaaa.fiP Go.Proofs.Ytbfodmckgjeoaaa.fiW Go.Proofs.Ytbfodmckgjeoaaa.fiU
set_option linter.unusedVariables false
set_option linter.unusedSimpArgs false
set_option maxRecDepth 100000
theorem oneF_300 {f : Int × Int} {b : List Int} (hl : b.length ≤ 300) : (oneF f b).length ≤ 450 := by
  have := oneF_len (f := f) (b := b); omega
theorem back_plain {f : Int × Int} {b : List Int} (hf : okF f = true) (hb : Byt b) (hl : b.length ≤ 300) :
    oneO f b = some (oneF f b) ∧ backO f (oneF f b) = some b ∧ (∀ s, backO f b = some s → oneO f s = some b) ∧ (backO f b = none → f.1 = 3) ∧ backE f b = 12 := by
  have h3 := oneF_300 (f := f) hl
  refine ⟨if_pos ⟨hf, by omega⟩, ?_, ?_, ?_, ?_⟩
  · unfold backO; rw [if_pos ⟨hf, by omega⟩, back_one hf hb (by omega)]
  · intro s hs
    unfold backO at hs
    rw [if_pos ⟨hf, by omega⟩] at hs
    unfold oneO
    rw [if_pos ⟨hf, backF_len (by omega) hs⟩, one_back hf hb hs]
  · intro hn
    unfold backO at hn
    rw [if_pos ⟨hf, by omega⟩] at hn
    unfold backF at hn
    rcases okF_cases hf with h | h | h
    · rw [if_pos h.1] at hn; cases hn
    · rw [if_neg (by omega), if_pos h.1] at hn; cases hn
    · exact h.1
  · unfold backE; rw [if_pos hf, if_pos (by omega)]
theorem chain_plain {fs : List (Int × Int)} {b : List Int} (h0 : chE fs = 0) (hb : Byt b) (hl : b.length ≤ 300) :
    appO fs b = some (appF fs b) ∧ undO fs (appF fs b) = some b ∧ (appF fs b).length ≤ 10125 ∧ (∀ s, undO fs b = some s → appO fs s = some b) ∧ undE fs b = 12 := by
  obtain ⟨h4, hok⟩ := chE_zero h0
  have hs := appF_short (b := b) h4 (by omega)
  refine ⟨if_pos ⟨h0, by omega⟩, ?_, hs, ?_, ?_⟩
  · rw [und_get (und_app hok hb h4 (by omega)) h0 hs, if_pos (by omega)]
  · intro s hu
    cases e : undF fs b with
    | none => rw [und_nil e] at hu; cases hu
    | some t =>
      rw [und_get e h0 (by omega)] at hu
      split at hu
      · injection hu with hu
        subst hu
        unfold appO
        rw [if_pos ⟨h0, by assumption⟩, app_und hok hb e]
      · cases hu
  · unfold undE; rw [if_pos h0, if_pos (by omega)]
theorem undO_byt {fs : List (Int × Int)} {b s : List Int} (hb : Byt b) (h : undO fs b = some s) : Byt s := by
  unfold undO at h
  split at h
  · obtain ⟨t, h1, h2⟩ := Option.bind_eq_some_iff.1 h
    split at h2
    · injection h2 with h2; subst h2; exact undF_bd hb h1
    · cases h2
  · cases h
theorem backO_byt {f : Int × Int} {b s : List Int} (hb : Byt b) (h : backO f b = some s) : Byt s := by
  unfold backO at h
  split at h
  · exact backF_bd hb h
  · cases h
set_option maxHeartbeats 4000000 in
theorem backs (k n : Int) (A : Option Addr) (m c : Nat) (fs : List (Int × Int)) (a : Option Addr) (len cap : Nat) (z : List Int) (w : World) (hk : (0 ≤ k ∧ k ≤ 255) ∧ (-9223372036854775808 ≤ n ∧ n ≤ 9223372036854775807)) (hf : InF w A m c fs) (hz : IsRow .u8 w a len cap z) :
    Calls Try.prog 6 #[.agg #[.int .u8 k, .int .i64 n], .slice A m c, .slice a len cap] w fun e w' => e = .returned (.bool true) ∧ Below w.heap.size w w' := by
  have hin := ib_of hz
  obtain ⟨b, hb⟩ : ∃ b, z.take len = b := ⟨_, rfl⟩
  rw [hb] at hin
  have l9 : (len : Int) ≤ 9223372036854775807 := by have := hin.c1; have := hin.c2; omega
  have n9 : (m : Int) ≤ 9223372036854775807 := by have := hf.c1; have := hf.c2; omega
  have HIN := Lib.hid hin
  have HF := Lib.hid hf
  have HL := Lib.hid hin.e
  have HFL := Lib.hid hf.e
  clear hz hb hin hf hk
  have K0 := fi_new w k n
  have B0 := fi_box w k n
  go_enter Try.func6, Try.ntmps6
  go_upto_region 1 with fail
  generalize hw0 : (w.alloc (.cells #[.int .u8 k, .int .i64 n] 23)) = w0 at *
  have HK := Lib.hid K0
  have p0 := K0.c0
  have p1 := K0.c1
  have HW := Lib.hid B0
  have HIN := Lib.hid (HIN.out.below B0)
  have HF := Lib.hid (HF.out.below B0)
  clear K0 B0 hw0
  go_wp2_with fail; refine (alive_yes _).mono ?_; rintro e w1 ⟨rfl, b2⟩; have HIN := Lib.hid (HIN.out.below b2); have HF := Lib.hid (HF.out.below b2); have HW := Lib.hid (HW.out.trans ((b2).mono HW.out.size)); have HK := Lib.hid (HK.out.past b2); clear p0 p1; have p0 := HK.out.c0; have p1 := HK.out.c1; clear b2
  by_cases c1 : 300 < len
  · have i1 : (300 : Int) < len := by omega
    clear c1
    go_wp2_with fail
    go_ret
    exact ⟨rfl, HW.out⟩
  have i1 : ¬ (300 : Int) < len := by omega
  by_cases c2 : 10 < m
  · have i2 : (10 : Int) < m := by omega
    clear c1 c2
    go_wp2_with fail
    go_ret
    exact ⟨rfl, HW.out⟩
  have i2 : ¬ (10 : Int) < m := by omega
  have HL3 : Hid (b.length ≤ 300) := Lib.hid (by rw [HL.out]; omega)
  have HLL : Hid (len ≤ 9223372036854775807) := Lib.hid (by omega)
  clear c1 c2
  go_wp2_with fail
  refine (rCheck k n _).mono ?_
  rintro e w2 ⟨rfl, b2⟩
  have HIN := Lib.hid (HIN.out.below b2); have HF := Lib.hid (HF.out.below b2); have HW := Lib.hid (HW.out.trans ((b2).mono HW.out.size)); have HK := Lib.hid (HK.out.past b2); clear p0 p1; have p0 := HK.out.c0; have p1 := HK.out.c1
  clear b2
  by_cases hok : okF (k, n) = true
  · have HCK : Hid (ckF (k, n) = 0) := Lib.hid (if_pos hok)
    have HP := Lib.hid (back_plain hok HIN.out.bd HL3.out)
    have HR1 := Lib.hid HP.out.1
    have HR2 := Lib.hid HP.out.2.1
    have HR3 := Lib.hid HP.out.2.2.1
    have HR4 := Lib.hid HP.out.2.2.2.1
    have HR5 := Lib.hid HP.out.2.2.2.2
    have HB1 := Lib.hid (oneF_bd (f := (k, n)) HIN.out.bd)
    have HBB := Lib.hid HIN.out.bd
    generalize oneF (k, n) b = s1 at *
    rw [HCK.out]
    clear HP hok
    go_wp2_with fail; refine (One_any k n b a len cap _ HIN.out).mono ?_; rintro e w3 ⟨hres, b2⟩; obtain ⟨A1, c1, rfl, o2⟩ := Res.get hres HR1.out; have HIN := Lib.hid (HIN.out.below b2); have HF := Lib.hid (HF.out.below b2); have HW := Lib.hid (HW.out.trans ((b2).mono HW.out.size)); have HK := Lib.hid (HK.out.past b2); clear p0 p1; have p0 := HK.out.c0; have p1 := HK.out.c1; have HO1 := Lib.hid (ib_ownz o2 rfl HB1.out); have HBN := Lib.hid b2; clear o2 b2 hres
    go_wp2_with fail; refine (Back_any k n s1 A1 s1.length c1 _ HO1.out).mono ?_; rintro e w4 ⟨hres, b2⟩; obtain ⟨A2, c2, rfl, o2⟩ := Res.get hres HR2.out; have HIN := Lib.hid (HIN.out.below b2); have HF := Lib.hid (HF.out.below b2); have HW := Lib.hid (HW.out.trans ((b2).mono HW.out.size)); have HK := Lib.hid (HK.out.past b2); clear p0 p1; have p0 := HK.out.c0; have p1 := HK.out.c1; have HO2 := Lib.hid (ib_ownz o2 rfl HBB.out); have HBN := Lib.hid b2; clear o2 b2 hres
    rw [HL.out] at HO2 ⊢
    go_wp2_with fail; refine (same_yes A2 a len c2 cap b _ HO2.out.h HIN.out.h HL.out HLL.out).mono ?_; rintro e w5 ⟨rfl, b2⟩; have HIN := Lib.hid (HIN.out.below b2); have HF := Lib.hid (HF.out.below b2); have HW := Lib.hid (HW.out.trans ((b2).mono HW.out.size)); have HK := Lib.hid (HK.out.past b2); clear p0 p1; have p0 := HK.out.c0; have p1 := HK.out.c1; clear b2
    go_wp2_with fail
    refine (Back_any k n b a len cap _ HIN.out).mono ?_
    rintro e w6 ⟨hres, b2⟩
    have HIN := Lib.hid (HIN.out.below b2); have HF := Lib.hid (HF.out.below b2); have HW := Lib.hid (HW.out.trans ((b2).mono HW.out.size)); have HK := Lib.hid (HK.out.past b2); clear p0 p1; have p0 := HK.out.c0; have p1 := HK.out.c1
    rcases hres with ⟨s, A3, c3, hs, rfl, o2⟩ | ⟨hs, rfl⟩
    · have HO3 := Lib.hid (ib_ownz o2 rfl (backO_byt HBB.out hs))
      have HR6 := Lib.hid (HR3.out s hs)
      clear o2 b2 hs
      go_wp2_with fail; refine (One_any k n s A3 s.length c3 _ HO3.out).mono ?_; rintro e w7 ⟨hres, b2⟩; obtain ⟨A4, c4, rfl, o2⟩ := Res.get hres HR6.out; have HIN := Lib.hid (HIN.out.below b2); have HF := Lib.hid (HF.out.below b2); have HW := Lib.hid (HW.out.trans ((b2).mono HW.out.size)); have HK := Lib.hid (HK.out.past b2); clear p0 p1; have p0 := HK.out.c0; have p1 := HK.out.c1; have HO4 := Lib.hid (ib_ownz o2 rfl HBB.out); have HBN := Lib.hid b2; clear o2 b2 hres
      rw [HL.out] at HO4 ⊢
      go_wp2_with fail; refine (same_yes A4 a len c4 cap b _ HO4.out.h HIN.out.h HL.out HLL.out).mono ?_; rintro e w8 ⟨rfl, b2⟩; have HIN := Lib.hid (HIN.out.below b2); have HF := Lib.hid (HF.out.below b2); have HW := Lib.hid (HW.out.trans ((b2).mono HW.out.size)); have HK := Lib.hid (HK.out.past b2); clear p0 p1; have p0 := HK.out.c0; have p1 := HK.out.c1; clear b2
      go_wp2_with fail; refine (rChain fs A m c _ HF.out).mono ?_; rintro e v1 ⟨rfl, b2⟩; have HIN := Lib.hid (HIN.out.below b2); have HF := Lib.hid (HF.out.below b2); have HW := Lib.hid (HW.out.trans ((b2).mono HW.out.size)); have HK := Lib.hid (HK.out.past b2); clear p0 p1; have p0 := HK.out.c0; have p1 := HK.out.c1; clear b2; by_cases hc : chE fs = 0; (case neg => (obtain ⟨v, hv⟩ : ∃ v, chE fs = v := ⟨_, rfl⟩; rw [hv] at hc ⊢; (have hne : (v != 0) = true := by simpa using hc); clear hv hc; go_wp2_with fail; go_ret; exact ⟨rfl, HW.out⟩)); (case pos => ((have HC := Lib.hid hc); (have HCP := Lib.hid (chain_plain hc HIN.out.bd HL3.out)); (have HQ1 := Lib.hid HCP.out.1); (have HQ2 := Lib.hid HCP.out.2.1); (have HQ3 := Lib.hid HCP.out.2.2.1); (have HQ4 := Lib.hid HCP.out.2.2.2.1); (have HQ5 := Lib.hid HCP.out.2.2.2.2); (have HBA := Lib.hid (appF_bd (l := fs) HIN.out.bd)); (have HBB := Lib.hid HIN.out.bd); rw [HC.out]; generalize appF fs b = s6 at *; clear HCP hc; go_wp2_with fail; refine (Apply_any fs A a m c len cap b _ HF.out HIN.out).mono ?_; rintro e v2 ⟨hres, b2⟩; obtain ⟨A6, c6, rfl, o2⟩ := Res.get hres HQ1.out; have HIN := Lib.hid (HIN.out.below b2); have HF := Lib.hid (HF.out.below b2); have HW := Lib.hid (HW.out.trans ((b2).mono HW.out.size)); have HK := Lib.hid (HK.out.past b2); clear p0 p1; have p0 := HK.out.c0; have p1 := HK.out.c1; have HO6 := Lib.hid (ib_ownz o2 rfl HBA.out); have HBN := Lib.hid b2; clear o2 b2 hres; go_wp2_with fail; refine (Undo_any fs A A6 m c s6.length c6 s6 _ HF.out HO6.out).mono ?_; rintro e v3 ⟨hres, b2⟩; obtain ⟨A7, c7, rfl, o2⟩ := Res.get hres HQ2.out; have HIN := Lib.hid (HIN.out.below b2); have HF := Lib.hid (HF.out.below b2); have HW := Lib.hid (HW.out.trans ((b2).mono HW.out.size)); have HK := Lib.hid (HK.out.past b2); clear p0 p1; have p0 := HK.out.c0; have p1 := HK.out.c1; have HO7 := Lib.hid (ib_ownz o2 rfl HBB.out); have HBN := Lib.hid b2; clear o2 b2 hres; (have HO6 := Lib.hid (HO6.out.below HBN.out)); rw [HL.out] at HO7 ⊢; (have q1 : ¬ (10125 : Int) < (s6.length : Int) := by have := HQ3.out; omega); go_wp2_with fail; refine (same_yes A7 a len c7 cap b _ HO7.out.h HIN.out.h HL.out HLL.out).mono ?_; rintro e v4 ⟨rfl, b2⟩; have HIN := Lib.hid (HIN.out.below b2); have HF := Lib.hid (HF.out.below b2); have HW := Lib.hid (HW.out.trans ((b2).mono HW.out.size)); have HK := Lib.hid (HK.out.past b2); clear p0 p1; have p0 := HK.out.c0; have p1 := HK.out.c1; clear b2; go_wp2_with fail; refine (Undo_any fs A a m c len cap b _ HF.out HIN.out).mono ?_; rintro e v5 ⟨hres, b2⟩; have HIN := Lib.hid (HIN.out.below b2); have HF := Lib.hid (HF.out.below b2); have HW := Lib.hid (HW.out.trans ((b2).mono HW.out.size)); have HK := Lib.hid (HK.out.past b2); clear p0 p1; have p0 := HK.out.c0; have p1 := HK.out.c1; rcases hres with ⟨s, A8, c8, hs, rfl, o2⟩ | ⟨hs, rfl⟩; (case inr => (rw [HQ5.out]; clear b2 hs; go_wp2_with fail; go_ret; exact ⟨rfl, HW.out⟩)); (case inl => ((have HO8 := Lib.hid (ib_ownz o2 rfl (undO_byt HBB.out hs))); (have HQ6 := Lib.hid (HQ4.out s hs)); clear o2 b2 hs; go_wp2_with fail; refine (Apply_any fs A A8 m c s.length c8 s _ HF.out HO8.out).mono ?_; rintro e v6 ⟨hres, b2⟩; obtain ⟨A9, c9, rfl, o2⟩ := Res.get hres HQ6.out; have HIN := Lib.hid (HIN.out.below b2); have HF := Lib.hid (HF.out.below b2); have HW := Lib.hid (HW.out.trans ((b2).mono HW.out.size)); have HK := Lib.hid (HK.out.past b2); clear p0 p1; have p0 := HK.out.c0; have p1 := HK.out.c1; have HO9 := Lib.hid (ib_ownz o2 rfl HBB.out); have HBN := Lib.hid b2; clear o2 b2 hres; rw [HL.out] at HO9 ⊢; go_wp2_with fail; refine (same_yes A9 a len c9 cap b _ HO9.out.h HIN.out.h HL.out HLL.out).mono ?_; rintro e v7 ⟨rfl, b2⟩; have HIN := Lib.hid (HIN.out.below b2); have HF := Lib.hid (HF.out.below b2); have HW := Lib.hid (HW.out.trans ((b2).mono HW.out.size)); have HK := Lib.hid (HK.out.past b2); clear p0 p1; have p0 := HK.out.c0; have p1 := HK.out.c1; clear b2; go_wp2_with fail; go_ret; exact ⟨rfl, HW.out⟩))))
    · have hk3 : k = 3 := HR4.out hs
      subst hk3
      rw [HR5.out]
      clear b2 hs
      go_wp2_with fail; refine (rChain fs A m c _ HF.out).mono ?_; rintro e v1 ⟨rfl, b2⟩; have HIN := Lib.hid (HIN.out.below b2); have HF := Lib.hid (HF.out.below b2); have HW := Lib.hid (HW.out.trans ((b2).mono HW.out.size)); have HK := Lib.hid (HK.out.past b2); clear p0 p1; have p0 := HK.out.c0; have p1 := HK.out.c1; clear b2; by_cases hc : chE fs = 0; (case neg => (obtain ⟨v, hv⟩ : ∃ v, chE fs = v := ⟨_, rfl⟩; rw [hv] at hc ⊢; (have hne : (v != 0) = true := by simpa using hc); clear hv hc; go_wp2_with fail; go_ret; exact ⟨rfl, HW.out⟩)); (case pos => ((have HC := Lib.hid hc); (have HCP := Lib.hid (chain_plain hc HIN.out.bd HL3.out)); (have HQ1 := Lib.hid HCP.out.1); (have HQ2 := Lib.hid HCP.out.2.1); (have HQ3 := Lib.hid HCP.out.2.2.1); (have HQ4 := Lib.hid HCP.out.2.2.2.1); (have HQ5 := Lib.hid HCP.out.2.2.2.2); (have HBA := Lib.hid (appF_bd (l := fs) HIN.out.bd)); (have HBB := Lib.hid HIN.out.bd); rw [HC.out]; generalize appF fs b = s6 at *; clear HCP hc; go_wp2_with fail; refine (Apply_any fs A a m c len cap b _ HF.out HIN.out).mono ?_; rintro e v2 ⟨hres, b2⟩; obtain ⟨A6, c6, rfl, o2⟩ := Res.get hres HQ1.out; have HIN := Lib.hid (HIN.out.below b2); have HF := Lib.hid (HF.out.below b2); have HW := Lib.hid (HW.out.trans ((b2).mono HW.out.size)); have HK := Lib.hid (HK.out.past b2); clear p0 p1; have p0 := HK.out.c0; have p1 := HK.out.c1; have HO6 := Lib.hid (ib_ownz o2 rfl HBA.out); have HBN := Lib.hid b2; clear o2 b2 hres; go_wp2_with fail; refine (Undo_any fs A A6 m c s6.length c6 s6 _ HF.out HO6.out).mono ?_; rintro e v3 ⟨hres, b2⟩; obtain ⟨A7, c7, rfl, o2⟩ := Res.get hres HQ2.out; have HIN := Lib.hid (HIN.out.below b2); have HF := Lib.hid (HF.out.below b2); have HW := Lib.hid (HW.out.trans ((b2).mono HW.out.size)); have HK := Lib.hid (HK.out.past b2); clear p0 p1; have p0 := HK.out.c0; have p1 := HK.out.c1; have HO7 := Lib.hid (ib_ownz o2 rfl HBB.out); have HBN := Lib.hid b2; clear o2 b2 hres; (have HO6 := Lib.hid (HO6.out.below HBN.out)); rw [HL.out] at HO7 ⊢; (have q1 : ¬ (10125 : Int) < (s6.length : Int) := by have := HQ3.out; omega); go_wp2_with fail; refine (same_yes A7 a len c7 cap b _ HO7.out.h HIN.out.h HL.out HLL.out).mono ?_; rintro e v4 ⟨rfl, b2⟩; have HIN := Lib.hid (HIN.out.below b2); have HF := Lib.hid (HF.out.below b2); have HW := Lib.hid (HW.out.trans ((b2).mono HW.out.size)); have HK := Lib.hid (HK.out.past b2); clear p0 p1; have p0 := HK.out.c0; have p1 := HK.out.c1; clear b2; go_wp2_with fail; refine (Undo_any fs A a m c len cap b _ HF.out HIN.out).mono ?_; rintro e v5 ⟨hres, b2⟩; have HIN := Lib.hid (HIN.out.below b2); have HF := Lib.hid (HF.out.below b2); have HW := Lib.hid (HW.out.trans ((b2).mono HW.out.size)); have HK := Lib.hid (HK.out.past b2); clear p0 p1; have p0 := HK.out.c0; have p1 := HK.out.c1; rcases hres with ⟨s, A8, c8, hs, rfl, o2⟩ | ⟨hs, rfl⟩; (case inr => (rw [HQ5.out]; clear b2 hs; go_wp2_with fail; go_ret; exact ⟨rfl, HW.out⟩)); (case inl => ((have HO8 := Lib.hid (ib_ownz o2 rfl (undO_byt HBB.out hs))); (have HQ6 := Lib.hid (HQ4.out s hs)); clear o2 b2 hs; go_wp2_with fail; refine (Apply_any fs A A8 m c s.length c8 s _ HF.out HO8.out).mono ?_; rintro e v6 ⟨hres, b2⟩; obtain ⟨A9, c9, rfl, o2⟩ := Res.get hres HQ6.out; have HIN := Lib.hid (HIN.out.below b2); have HF := Lib.hid (HF.out.below b2); have HW := Lib.hid (HW.out.trans ((b2).mono HW.out.size)); have HK := Lib.hid (HK.out.past b2); clear p0 p1; have p0 := HK.out.c0; have p1 := HK.out.c1; have HO9 := Lib.hid (ib_ownz o2 rfl HBB.out); have HBN := Lib.hid b2; clear o2 b2 hres; rw [HL.out] at HO9 ⊢; go_wp2_with fail; refine (same_yes A9 a len c9 cap b _ HO9.out.h HIN.out.h HL.out HLL.out).mono ?_; rintro e v7 ⟨rfl, b2⟩; have HIN := Lib.hid (HIN.out.below b2); have HF := Lib.hid (HF.out.below b2); have HW := Lib.hid (HW.out.trans ((b2).mono HW.out.size)); have HK := Lib.hid (HK.out.past b2); clear p0 p1; have p0 := HK.out.c0; have p1 := HK.out.c1; clear b2; go_wp2_with fail; go_ret; exact ⟨rfl, HW.out⟩))))
  · have HCK : Hid (ckF (k, n) = 8) := Lib.hid (if_neg hok)
    rw [HCK.out]
    clear hok
    go_wp2_with fail; refine (rChain fs A m c _ HF.out).mono ?_; rintro e v1 ⟨rfl, b2⟩; have HIN := Lib.hid (HIN.out.below b2); have HF := Lib.hid (HF.out.below b2); have HW := Lib.hid (HW.out.trans ((b2).mono HW.out.size)); have HK := Lib.hid (HK.out.past b2); clear p0 p1; have p0 := HK.out.c0; have p1 := HK.out.c1; clear b2; by_cases hc : chE fs = 0; (case neg => (obtain ⟨v, hv⟩ : ∃ v, chE fs = v := ⟨_, rfl⟩; rw [hv] at hc ⊢; (have hne : (v != 0) = true := by simpa using hc); clear hv hc; go_wp2_with fail; go_ret; exact ⟨rfl, HW.out⟩)); (case pos => ((have HC := Lib.hid hc); (have HCP := Lib.hid (chain_plain hc HIN.out.bd HL3.out)); (have HQ1 := Lib.hid HCP.out.1); (have HQ2 := Lib.hid HCP.out.2.1); (have HQ3 := Lib.hid HCP.out.2.2.1); (have HQ4 := Lib.hid HCP.out.2.2.2.1); (have HQ5 := Lib.hid HCP.out.2.2.2.2); (have HBA := Lib.hid (appF_bd (l := fs) HIN.out.bd)); (have HBB := Lib.hid HIN.out.bd); rw [HC.out]; generalize appF fs b = s6 at *; clear HCP hc; go_wp2_with fail; refine (Apply_any fs A a m c len cap b _ HF.out HIN.out).mono ?_; rintro e v2 ⟨hres, b2⟩; obtain ⟨A6, c6, rfl, o2⟩ := Res.get hres HQ1.out; have HIN := Lib.hid (HIN.out.below b2); have HF := Lib.hid (HF.out.below b2); have HW := Lib.hid (HW.out.trans ((b2).mono HW.out.size)); have HK := Lib.hid (HK.out.past b2); clear p0 p1; have p0 := HK.out.c0; have p1 := HK.out.c1; have HO6 := Lib.hid (ib_ownz o2 rfl HBA.out); have HBN := Lib.hid b2; clear o2 b2 hres; go_wp2_with fail; refine (Undo_any fs A A6 m c s6.length c6 s6 _ HF.out HO6.out).mono ?_; rintro e v3 ⟨hres, b2⟩; obtain ⟨A7, c7, rfl, o2⟩ := Res.get hres HQ2.out; have HIN := Lib.hid (HIN.out.below b2); have HF := Lib.hid (HF.out.below b2); have HW := Lib.hid (HW.out.trans ((b2).mono HW.out.size)); have HK := Lib.hid (HK.out.past b2); clear p0 p1; have p0 := HK.out.c0; have p1 := HK.out.c1; have HO7 := Lib.hid (ib_ownz o2 rfl HBB.out); have HBN := Lib.hid b2; clear o2 b2 hres; (have HO6 := Lib.hid (HO6.out.below HBN.out)); rw [HL.out] at HO7 ⊢; (have q1 : ¬ (10125 : Int) < (s6.length : Int) := by have := HQ3.out; omega); go_wp2_with fail; refine (same_yes A7 a len c7 cap b _ HO7.out.h HIN.out.h HL.out HLL.out).mono ?_; rintro e v4 ⟨rfl, b2⟩; have HIN := Lib.hid (HIN.out.below b2); have HF := Lib.hid (HF.out.below b2); have HW := Lib.hid (HW.out.trans ((b2).mono HW.out.size)); have HK := Lib.hid (HK.out.past b2); clear p0 p1; have p0 := HK.out.c0; have p1 := HK.out.c1; clear b2; go_wp2_with fail; refine (Undo_any fs A a m c len cap b _ HF.out HIN.out).mono ?_; rintro e v5 ⟨hres, b2⟩; have HIN := Lib.hid (HIN.out.below b2); have HF := Lib.hid (HF.out.below b2); have HW := Lib.hid (HW.out.trans ((b2).mono HW.out.size)); have HK := Lib.hid (HK.out.past b2); clear p0 p1; have p0 := HK.out.c0; have p1 := HK.out.c1; rcases hres with ⟨s, A8, c8, hs, rfl, o2⟩ | ⟨hs, rfl⟩; (case inr => (rw [HQ5.out]; clear b2 hs; go_wp2_with fail; go_ret; exact ⟨rfl, HW.out⟩)); (case inl => ((have HO8 := Lib.hid (ib_ownz o2 rfl (undO_byt HBB.out hs))); (have HQ6 := Lib.hid (HQ4.out s hs)); clear o2 b2 hs; go_wp2_with fail; refine (Apply_any fs A A8 m c s.length c8 s _ HF.out HO8.out).mono ?_; rintro e v6 ⟨hres, b2⟩; obtain ⟨A9, c9, rfl, o2⟩ := Res.get hres HQ6.out; have HIN := Lib.hid (HIN.out.below b2); have HF := Lib.hid (HF.out.below b2); have HW := Lib.hid (HW.out.trans ((b2).mono HW.out.size)); have HK := Lib.hid (HK.out.past b2); clear p0 p1; have p0 := HK.out.c0; have p1 := HK.out.c1; have HO9 := Lib.hid (ib_ownz o2 rfl HBB.out); have HBN := Lib.hid b2; clear o2 b2 hres; rw [HL.out] at HO9 ⊢; go_wp2_with fail; refine (same_yes A9 a len c9 cap b _ HO9.out.h HIN.out.h HL.out HLL.out).mono ?_; rintro e v7 ⟨rfl, b2⟩; have HIN := Lib.hid (HIN.out.below b2); have HF := Lib.hid (HF.out.below b2); have HW := Lib.hid (HW.out.trans ((b2).mono HW.out.size)); have HK := Lib.hid (HK.out.past b2); clear p0 p1; have p0 := HK.out.c0; have p1 := HK.out.c1; clear b2; go_wp2_with fail; go_ret; exact ⟨rfl, HW.out⟩))))
end Go.Proofs.Ytbfodmckgjeoaaa.fiL
