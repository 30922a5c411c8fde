/- MemberMakes, by a walk. -/
import Derived.Test.YtphakelncjogpaaDoorMbW8
import Derived.Test.YtphakelncjogpaaDoorMbRd
namespace Go.Proofs.YtphakelncjogpaaDoor.mbW
set_option maxRecDepth 100000
open Go.RowKit Go.Proofs.YtphakelncjogpaaDoor.base Go.Proofs.YtphakelncjogpaaDoor.shP Go.Proofs.YtphakelncjogpaaDoor.shW
open Go.Proofs.YtphakelncjogpaaDoor.trW (IsD sv zd_isD digest_isD z20_at)
set_option linter.unusedVariables false
set_option linter.unusedSimpArgs false
set_option maxRecDepth 100000
theorem AsM.map {ms ts : List Mb} (h : AsM ms ts) (hl : ts.length = ms.length) {β : Type} (f : Mb → β) (hf : ∀ x y : Mb, x.nm = y.nm → x.r.b = y.r.b → x.r.n = y.r.n → f x = f y) : ts.map f = ms.map f := by
  apply List.ext_getElem?
  intro i
  rw [List.getElem?_map, List.getElem?_map]
  rcases Nat.lt_or_ge i ts.length with hi | hi
  · obtain ⟨h1, h2, h3⟩ := h i hi
    have e1 : ts.getD i mb0 = ts[i] := by rw [List.getD_eq_getElem?_getD, List.getElem?_eq_getElem hi]; rfl
    have e2 : ms.getD i mb0 = ms[i]'(by omega) := by rw [List.getD_eq_getElem?_getD, List.getElem?_eq_getElem (by omega)]; rfl
    rw [e1, e2] at h1 h2 h3
    rw [List.getElem?_eq_getElem hi, List.getElem?_eq_getElem (by omega : i < ms.length)]
    simp only [Option.map_some]
    rw [hf _ _ h1 h2 h3]
  · rw [List.getElem?_eq_none hi, List.getElem?_eq_none (by omega)]
theorem sumD_map : ∀ ms : List Mb, sumD ms = (ms.map (fun m => m.r.n)).sum
  | [] => rfl
  | m :: l => by rw [sumD, sumD_map l]; rfl
theorem AsM.same {ms ts : List Mb} (h : AsM ms ts) (hl : ts.length = ms.length) : ckE ts = ckE ms ∧ ofL ts = ofL ms := by
  have e1 : nms ts = nms ms := h.map hl _ (fun x y a b c => a)
  have e2 : sumD ts = sumD ms := by rw [sumD_map, sumD_map, h.map hl _ (fun x y a b c => c)]
  refine ⟨by unfold ckE; rw [hl, e1, e2], h.map hl _ (fun x y a b c => by unfold recOf; rw [a, b, c])⟩
theorem nm_of_ck {ms : List Mb} (h : ckE ms = 0) : ∀ s ∈ nms ms, nmB s = true := by
  unfold ckE at h
  split at h
  · omega
  · split at h
    · omega
    · split at h
      · rename_i hb
        exact fun s hs => List.all_eq_true.1 hb s hs
      · omega
theorem ofL_ok {ms : List Mb} (h : ckE ms = 0) : ∀ r ∈ ofL ms, RcOk r := by
  intro r hr
  obtain ⟨m, hm, rfl⟩ := List.mem_map.1 hr
  have h1 := nm_size (nm_of_ck h m.nm (List.mem_map.2 ⟨m, hm, rfl⟩))
  obtain ⟨i, hi, rfl⟩ := List.mem_iff_getElem.1 hm
  have h2 := sumD_get ms i hi
  have h3 := (ck_zero h).2
  rw [List.getD_eq_getElem?_getD, List.getElem?_eq_getElem hi] at h2
  simp only [Option.getD_some] at h2
  refine ⟨by unfold maxLen; dsimp only [recOf]; omega, by dsimp only [recOf]; omega, digest_isD _⟩
open Classical in
set_option maxHeartbeats 6400000 in
theorem makes (P : Option Addr) (m d : Nat) (ms : List Mb) (w : World) (hR : MemB w P m d ms) (hT : Tab w) :
    Calls Tryd.prog 3 #[.slice P m d] w fun e w' => e = .returned (.bool true) ∧ Below w.heap.size w w' := by
  have HR := Lib.hid hR
  have HT := Lib.hid hT
  have m1 : (m : Int) ≤ 9223372036854775807 := by have := hR.c1; have := hR.c2; omega
  clear hR hT
  go_enter Tryd.func3, Tryd.ntmps3
  go_wp2_with fail
  refine (Great_any ms P m d w HR.out).mono ?_
  rintro e _ ⟨⟨b, rfl, hb⟩, rfl⟩
  rename World => w
  cases b
  case true =>
    go_wp2_with fail
    go_ret
    exact ⟨rfl, Below.refl _ _⟩
  have HG := Lib.hid (hb rfl)
  clear hb
  go_wp2_with fail
  refine (Twin_any ms P m d w HR.out HG.out.1 (fun k hk => (HG.out.2 k hk).2)).mono ?_
  rintro e w1 ⟨A, c, ts, rfl, hl, hc1, hc2, hh, has, b1⟩
  have HL := Lib.hid (HR.out.l)
  have HSM := Lib.hid (has.same (by rw [hl, HL.out]))
  have HAS := Lib.hid has
  have HTB : Hid (MemB w1 A m c ts) := Lib.hid ⟨hl, hc1, by unfold maxLen at hc2; omega, hh⟩
  have HNT : Hid (∀ k, k < m → (ts.getD k mb0).r.n ≤ 10000) := Lib.hid (fun k hk => by
    rw [(has k (by rw [hl]; exact hk)).2.2]; exact (HG.out.2 k hk).2)
  have B1 := Lib.hid b1
  clear hl hc1 hc2 hh has b1
  go_wp2_with fail
  refine (Of_any ms P m d w1 (HT.out.below B1.out (Nat.le_refl _)) (HR.out.below B1.out (Nat.le_refl _))).mono ?_
  rintro e w2 ⟨hO, b2⟩
  have HOF := Lib.hid hO
  have B2 := Lib.hid (mb_bb B1.out b2)
  have HTB2 := Lib.hid (HTB.out.below b2 (Nat.le_refl _))
  clear hO b2 HTB
  have H16 : Hid (m ≤ 30) := Lib.hid HG.out.1
  rcases HOF.out with ⟨hz, X, xc, rfl, ho⟩ | ⟨hz, rfl⟩
  · have HX := Lib.hid ho
    have HZ := Lib.hid hz
    clear hz ho HOF
    go_wp2_with fail
    refine (rOf28_any ts A m c w2 HTB2.out HNT.out).mono ?_
    rintro e w3 ⟨hO, b3⟩
    rcases hO with ⟨hz, Y, yc, rfl, ho⟩ | ⟨hz, -⟩
    case inr => exact absurd (HSM.out.1.trans HZ.out) hz
    have HY := Lib.hid ho
    have HX3 := Lib.hid (HX.out.below b3 (Nat.le_refl _))
    have HTB3 := Lib.hid (HTB2.out.below b3 (Nat.le_refl _))
    have B3 := Lib.hid (mb_bb B2.out b3)
    clear hz ho b3 HX HTB2
    go_wp2_with fail
    refine (Check_any ms P m d w3 (HR.out.below B3.out (Nat.le_refl _))).mono ?_
    rintro e w4 ⟨rfl, b4⟩
    have HY4 := Lib.hid (HY.out.below b4 (Nat.le_refl _))
    have HX4 := Lib.hid (HX3.out.below b4 (Nat.le_refl _))
    have HTB4 := Lib.hid (HTB3.out.below b4 (Nat.le_refl _))
    have B4 := Lib.hid (mb_bb B3.out b4)
    clear b4 HX3 HTB3 HY
    go_wp2_with fail
    refine (rCheck_any ts A m c w4 HTB4.out HNT.out).mono ?_
    rintro e w5 ⟨rfl, b5⟩
    have HY5 := Lib.hid (HY4.out.below b5 (Nat.le_refl _))
    have HX5 := Lib.hid (HX4.out.below b5 (Nat.le_refl _))
    have HTB5 := Lib.hid (HTB4.out.below b5 (Nat.le_refl _))
    have B5 := Lib.hid (mb_bb B4.out b5)
    clear b5 HX4 HTB4 HY4
    rw [HSM.out.1]
    go_wp2_with fail
    refine (Same_any (ofL ms) (ofL ts) X Y m m xc yc w5 HX5.out.has HY5.out.has HX5.out.len.1.symm HY5.out.len.1.symm (by have := H16.out; omega) (by have := H16.out; omega) (ofL_ok HZ.out) (by rw [HSM.out.2]; exact ofL_ok HZ.out)).mono ?_
    rintro e w6 ⟨rfl, b6⟩
    have HTB6 := Lib.hid (HTB5.out.below b6 (Nat.le_refl _))
    have B6 := Lib.hid (mb_bb B5.out b6)
    clear b6 HTB5
    rw [decide_eq_true HSM.out.2.symm]
    go_wp2_with fail
    refine (SameMembers_any ms ts P A m d c w6 (HR.out.below B6.out (Nat.le_refl _)) HTB6.out HAS.out H16.out).mono ?_
    rintro e w7 ⟨rfl, b7⟩
    have B7 := Lib.hid (mb_bb B6.out b7)
    clear b7
    go_wp2_with fail
    go_ret
    exact ⟨rfl, B7.out⟩
  · have HZ := Lib.hid hz
    clear hz HOF
    go_wp2_with fail
    refine (rOf28_any ts A m c w2 HTB2.out HNT.out).mono ?_
    rintro e w3 ⟨hO, b3⟩
    rcases hO with ⟨hz, -⟩ | ⟨hz, rfl⟩
    case inl => exact absurd (HSM.out.1.symm.trans hz) HZ.out
    have HTB3 := Lib.hid (HTB2.out.below b3 (Nat.le_refl _))
    have B3 := Lib.hid (mb_bb B2.out b3)
    clear hz b3 HTB2
    rw [HSM.out.1]
    go_wp2_with fail
    refine (Check_any ms P m d w3 (HR.out.below B3.out (Nat.le_refl _))).mono ?_
    rintro e w4 ⟨rfl, b4⟩
    have HTB4 := Lib.hid (HTB3.out.below b4 (Nat.le_refl _))
    have B4 := Lib.hid (mb_bb B3.out b4)
    clear b4 HTB3
    go_wp2_with fail
    refine (rCheck_any ts A m c w4 HTB4.out HNT.out).mono ?_
    rintro e w5 ⟨rfl, b5⟩
    have HTB5 := Lib.hid (HTB4.out.below b5 (Nat.le_refl _))
    have B5 := Lib.hid (mb_bb B4.out b5)
    clear b5 HTB4
    rw [HSM.out.1]
    go_wp2_with fail
    refine (Same_any [] [] none none 0 0 0 0 w5 (.inl rfl) (.inl rfl) rfl rfl (by omega) (by omega) (by intro r hr; cases hr) (by intro r hr; cases hr)).mono ?_
    rintro e w6 ⟨rfl, b6⟩
    have HTB6 := Lib.hid (HTB5.out.below b6 (Nat.le_refl _))
    have B6 := Lib.hid (mb_bb B5.out b6)
    clear b6 HTB5
    rw [show decide (([] : List Rc) = []) = true from decide_eq_true rfl]
    go_wp2_with fail
    refine (SameMembers_any ms ts P A m d c w6 (HR.out.below B6.out (Nat.le_refl _)) HTB6.out HAS.out H16.out).mono ?_
    rintro e w7 ⟨rfl, b7⟩
    have B7 := Lib.hid (mb_bb B6.out b7)
    clear b7
    go_wp2_with fail
    go_ret
    exact ⟨rfl, B7.out⟩
theorem makesIn (P : Option Addr) (m d : Nat) (ms : List Mb) (w : World) (hR : MemsIn w P m d ms) (hT : Tab w) :
    Calls Tryd.prog 3 #[.slice P m d] w fun e w' => e = .returned (.bool true) ∧ Below w.heap.size w w' := makes P m d ms w hR.b hT
end Go.Proofs.YtphakelncjogpaaDoor.mbW
