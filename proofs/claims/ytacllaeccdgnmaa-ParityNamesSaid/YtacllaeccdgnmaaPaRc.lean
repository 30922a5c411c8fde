/- Recover, by walks. -/
import Derived.Test.YtacllaeccdgnmaaPaLo
import Derived.Test.YtacllaeccdgnmaaPaRt
import Derived.Test.YtacllaeccdgnmaaPaPlain7
import Derived.Test.YtacllaeccdgnmaaRowsP2
import Derived.StillTailTactics
namespace Go.Proofs.Ytacllaeccdgnmaa.paW
set_option maxRecDepth 100000
open Go.RowKit Go.Proofs.Ytacllaeccdgnmaa.base Go.Proofs.Ytacllaeccdgnmaa.paP
set_option linter.unusedVariables false
set_option linter.unusedSimpArgs false
set_option maxRecDepth 100000
def RR (w' : World) (e : Ending) (l : List (List Int)) (lost : List Bool) (g : Int) (p : List (List Int)) : Prop := ∃ A c qs, e = .returned (.tuple #[.slice A qs.length c, .int .i64 (recE l lost g p)]) ∧ RowsB w' A qs.length c qs ∧ bs qs = recV l lost g p
theorem rr_no {w : World} {l : List (List Int)} {lost : List Bool} {g x : Int} {p : List (List Int)} (h : recE l lost g p = x) (hx : x ≠ 0) : RR w (.returned (.tuple #[.slice none 0 0, .int .i64 x])) l lost g p := by
  subst h
  exact ⟨none, 0, [], rfl, ⟨rfl, Nat.le_refl _, by omega, ⟨.inl rfl, by simp⟩⟩, by unfold recV; rw [if_neg hx]; rfl⟩
theorem bs_get' (rs : List R8) (i : Nat) : (bs rs).getD i [] = (rs.getD i r80).b := by
  unfold bs
  simp only [List.getD_eq_getElem?_getD, List.getElem?_map]
  rcases rs[i]? with _ | r <;> rfl
theorem getD_setR (l : List R8) (i j : Nat) (x : R8) (hi : i < l.length) : (l.set i x).getD j r80 = if i = j then x else l.getD j r80 := by
  rw [List.getD_eq_getElem?_getD, List.getElem?_set]
  by_cases h : i = j
  · subst h; rw [if_pos rfl, if_pos rfl, if_pos hi]; rfl
  · rw [if_neg h, if_neg h, List.getD_eq_getElem?_getD]
/-- What the list holds behind the groups before q. -/
def Held (rs us : List R8) (lost : List Bool) (g K : Nat) (p : List (List Int)) : Prop := ∀ i, i < rs.length → (us.getD i r80).b = if lost.getD i false = true then (if i < K then rvi (bs rs) lost g p i else []) else (rs.getD i r80).b
theorem Held.more {rs us : List R8} {lost : List Bool} {g q : Nat} {p : List (List Int)} (h : Held rs us lost g (q * g) p) (hg : 0 < g) (hno : ∀ i, i < rs.length → i / g = q → lost.getD i false = false) : Held rs us lost g ((q + 1) * g) p := by
  intro i hi
  rw [h i hi]
  cases e : lost.getD i false
  · simp
  · have : ¬ (q * g ≤ i ∧ i < q * g + g) := fun hh => by
      have := hno i hi ((in_group hg).2 hh)
      rw [e] at this; cases this
    rw [Nat.succ_mul]
    by_cases h1 : i < q * g
    · rw [if_pos h1, if_pos (show i < q * g + g by omega)]
    · rw [if_neg h1, if_neg (show ¬ i < q * g + g by omega)]
theorem Held.put {rs us : List R8} {lost : List Bool} {g q i0 : Nat} {p : List (List Int)} (r : R8) (h : Held rs us lost g (q * g) p) (hl : us.length = rs.length) (hg : 0 < g) (hi : i0 < rs.length) (hq : i0 / g = q) (h0 : lost.getD i0 false = true)
    (hr : r.b = rvi (bs rs) lost g p i0) (hno : ∀ i, i < rs.length → i / g = q → lost.getD i false = true → i = i0) : Held rs (us.set i0 r) lost g ((q + 1) * g) p := by
  intro i hi2
  rw [getD_setR _ _ _ _ (by omega), Nat.succ_mul]
  have hI := (in_group hg).1 hq
  by_cases e : i0 = i
  · subst e
    rw [if_pos rfl, if_pos h0, if_pos (by omega), hr]
  · rw [if_neg e, h i hi2]
    cases e2 : lost.getD i false
    · simp
    · have : ¬ (q * g ≤ i ∧ i < q * g + g) := fun hh => e (hno i hi2 ((in_group hg).2 hh) e2).symm
      by_cases h1 : i < q * g
      · rw [if_pos h1, if_pos (show i < q * g + g by omega)]
      · rw [if_neg h1, if_neg (show ¬ i < q * g + g by omega)]
theorem Held.all {rs us : List R8} {lost : List Bool} {g K : Nat} {p : List (List Int)} (h : Held rs us lost g K p) (hl : us.length = rs.length) (hK : rs.length ≤ K) : bs us = (List.range (bs rs).length).map (rvi (bs rs) lost g p) := by
  have hb : (bs rs).length = rs.length := by unfold bs; simp
  apply List.ext_getElem
  · unfold bs; simp [hl]
  · intro i h1 h2
    have hi : i < rs.length := by unfold bs at h1; simp at h1; omega
    rw [bs_at (by omega), h i hi]
    simp only [List.getElem_map, List.getElem_range]
    cases e : lost.getD i false
    · rw [rvi_kept e, bs_get']; simp
    · rw [if_pos rfl, if_pos (by omega)]
theorem Held.group {rs us : List R8} {lost : List Bool} {g q i0 : Nat} {p : List (List Int)} (h : Held rs us lost g (q * g) p) (hl : us.length = rs.length) (hg : 0 < g) (hi : i0 < rs.length) (hq : i0 / g = q) (h0 : lost.getD i0 false = true)
    (hno : ∀ i, i < rs.length → i / g = q → lost.getD i false = true → i = i0) : chunk (bs us) g q = (chunk (bs rs) g q).set (i0 - q * g) [] := by
  have hI := (in_group hg).1 hq
  have hb : (bs rs).length = rs.length := by unfold bs; simp
  have hb2 : (bs us).length = us.length := by unfold bs; simp
  refine chunk_set hg (by rw [hb, hb2, hl]) (by rw [hb]; exact hi) hq ?_ fun i h1 h2 h3 => ?_
  · rw [bs_get', h i0 hi, if_pos h0, if_neg (by omega)]
  · rw [hb] at h1
    rw [bs_get', bs_get', h i h1]
    cases e : lost.getD i false
    · simp
    · exact absurd (hno i h1 h2 e) h3
/-- What the list holds before z: what is not lost. -/
def Part (rs us : List R8) (lost : List Bool) (z : Nat) : Prop := ∀ i, i < rs.length → (us.getD i r80).b = if i < z ∧ lost.getD i false = false then (rs.getD i r80).b else []
theorem Part.skip {rs us : List R8} {lost : List Bool} {z : Nat} (h : Part rs us lost z) (hz : lost.getD z false = true) : Part rs us lost (z + 1) := by
  intro i hi
  rw [h i hi]
  by_cases hx : lost.getD i false = false
  · by_cases a : i < z
    · rw [if_pos ⟨a, hx⟩, if_pos ⟨by omega, hx⟩]
    · have : i ≠ z := by rintro rfl; rw [hz] at hx; cases hx
      rw [if_neg (fun h => a h.1), if_neg (fun h => by omega)]
  · rw [if_neg (fun h => hx h.2), if_neg (fun h => hx h.2)]
theorem Part.put {rs us : List R8} {lost : List Bool} {z : Nat} (r : R8) (h : Part rs us lost z) (hl : us.length = rs.length) (hzl : z < rs.length) (hz : lost.getD z false = false) (hr : r.b = (rs.getD z r80).b) : Part rs (us.set z r) lost (z + 1) := by
  intro i hi
  rw [getD_setR _ _ _ _ (by omega)]
  by_cases e : z = i
  · subst e
    rw [if_pos rfl, if_pos ⟨by omega, hz⟩, hr]
  · rw [if_neg e, h i hi]
    by_cases hx : lost.getD i false = false
    · by_cases a : i < z
      · rw [if_pos ⟨a, hx⟩, if_pos ⟨by omega, hx⟩]
      · rw [if_neg (fun h => a h.1), if_neg (fun h => by omega)]
    · rw [if_neg (fun h => hx h.2), if_neg (fun h => hx h.2)]
theorem Part.held {rs us : List R8} {lost : List Bool} {z g : Nat} {p : List (List Int)} (h : Part rs us lost z) (hz : rs.length ≤ z) : Held rs us lost g (0 * g) p := by
  intro i hi
  rw [h i hi, Nat.zero_mul]
  cases e : lost.getD i false
  · rw [if_pos ⟨by omega, rfl⟩]; simp
  · simp
/-- A replaced string is as good as the one that was there. -/
theorem Held.rep {rs us : List R8} {lost : List Bool} {g q i0 : Nat} {p : List (List Int)} (h : Held rs us lost g (q * g) p) (hl : us.length = rs.length) (hg : 0 < g) (hi : i0 < rs.length) (hq : i0 / g = q) (h0 : lost.getD i0 false = true)
    (hno : ∀ i, i < rs.length → i / g = q → lost.getD i false = true → i = i0) : repE (chunk (bs us) g q) ((i0 - q * g : Nat) : Int) (p.getD q []) = gi (bs rs) lost g p i0 ∧ repV (chunk (bs us) g q) ((i0 - q * g : Nat) : Int) (p.getD q []) = rvi (bs rs) lost g p i0 := by
  have hI := (in_group hg).1 hq
  rw [h.group hl hg hi hq h0 hno, (rep_set _ _ _ _).1, (rep_set _ _ _ _).2, gi_lost hq h0, rvi_lost hq h0, show ((i0 - q * g : Nat) : Int) = (i0 : Int) - ((q * g : Nat) : Int) by omega]
  exact ⟨rfl, rfl⟩
theorem gi_before {l : List (List Int)} {lost : List Bool} {g q n i0 : Nat} {p : List (List Int)} (h : ∀ i, i < n → i < q * g → gi l lost g p i = 0) (hg : 0 < g) (hi : i0 < n) (hq : i0 / g = q)
    (hno : ∀ i, i < n → i / g = q → lost.getD i false = true → i = i0) : ∀ j, j < i0 → gi l lost g p j = 0 := by
  intro j hj
  have hI := (in_group hg).1 hq
  by_cases h1 : j < q * g
  · exact h j (by omega) h1
  · cases e : lost.getD j false
    · exact gi_kept e
    · have := hno j (by omega) ((in_group hg).2 (by omega)) e
      omega
set_option maxHeartbeats 8000000 in
theorem Recover_any (P A Q : Option Addr) (m d n c x y : Nat) (rs ps : List R8) (lost : List Bool) (g : Int) (w : World) (hr : RowsB w P m d rs) (hl : HasB w A lost) (hn : lost.length = n) (hn2 : n ≤ 9223372036854775807) (hg1 : -9223372036854775808 ≤ g) (hg2 : g ≤ 9223372036854775807) (hq : RowsB w Q x y ps) :
    Calls Try.prog 11 #[.slice P m d, .slice A n c, .int .i64 g, .slice Q x y] w fun e w' => RR w' e (bs rs) lost g (bs ps) ∧ Below w.heap.size w w' := by
  have HR := Lib.hid hr
  have HP := Lib.hid hq
  have HL := Lib.hid hl
  have HN := Lib.hid hn
  have HBL := Lib.hid (bs_len hr)
  have HPL := Lib.hid (bs_len hq)
  have m1 : (m : Int) ≤ 9223372036854775807 := by have := hr.c1; have := hr.c2; omega
  have x1 : (x : Int) ≤ 9223372036854775807 := by have := hq.c1; have := hq.c2; omega
  have n1 : (n : Int) ≤ 9223372036854775807 := by omega
  clear hr hl hn hq hn2
  by_cases hg : g < 1 ∨ 16 < g
  · have HE : Hid (recE (bs rs) lost g (bs ps) = 2) := Lib.hid (by unfold recE; rw [if_pos (.inl hg)])
    have HI : Hid ((decide (1 ≤ g) && decide (g ≤ 16)) = false) := Lib.hid (by
      rcases hg with h | h
      · rw [decide_eq_false (by omega)]; rfl
      · rw [decide_eq_false (p := g ≤ 16) (by omega)]; simp)
    clear hg
    go_enter Try.func11, Try.ntmps11
    go_wp2_with (go_at_call 22; refine (isGroup_any _ _).mono ?_; rw [HI.out]; rintro e w2 ⟨rfl, rfl⟩)
    go_ret2
    exact ⟨rr_no HE.out (by omega), Below.refl _ _⟩
  have HI : Hid ((decide (1 ≤ g) && decide (g ≤ 16)) = true) := Lib.hid (by rw [decide_eq_true (by omega), decide_eq_true (by omega)]; rfl)
  by_cases hnm : n ≠ m
  · have HE : Hid (recE (bs rs) lost g (bs ps) = 2) := Lib.hid (by unfold recE; rw [if_pos (.inr (by rw [HN.out, HBL.out]; exact hnm))])
    have e1 : ((n : Int) == m) = false := by simp; omega
    clear hg hnm
    go_enter Try.func11, Try.ntmps11
    go_wp2_with (go_at_call 22; refine (isGroup_any _ _).mono ?_; rw [HI.out]; rintro e w2 ⟨rfl, rfl⟩)
    go_ret2
    exact ⟨rr_no HE.out (by omega), Below.refl _ _⟩
  obtain rfl : n = m := by omega
  by_cases h100 : 100 < n
  · have HE : Hid (recE (bs rs) lost g (bs ps) = 4) := Lib.hid (by unfold recE; rw [if_neg (by rw [HN.out, HBL.out]; omega), if_pos (by rw [HBL.out]; exact h100)])
    have c1 : (100 : Int) < n := by omega
    clear hg hnm h100
    go_enter Try.func11, Try.ntmps11
    go_wp2_with (go_at_call 22; refine (isGroup_any _ _).mono ?_; rw [HI.out]; rintro e w2 ⟨rfl, rfl⟩)
    go_ret2
    exact ⟨rr_no HE.out (by omega), Below.refl _ _⟩
  have c1 : ¬ (100 : Int) < n := by omega
  obtain ⟨G, rfl⟩ := Int.eq_ofNat_of_zero_le (by omega : 0 ≤ g)
  have HG : Hid (1 ≤ G ∧ G ≤ 16 ∧ n ≤ 100) := Lib.hid (by omega)
  have HE1 : Hid (∀ z, (if badB (bs rs) lost = true then (4 : Int) else if x ≠ groups n G ∨ twoB lost G n = true then 40 else fE (bs rs) lost G (bs ps) n) = z → recE (bs rs) lost (G : Int) (bs ps) = z) := Lib.hid (fun z h => by
    unfold recE
    rw [if_neg (by rw [HN.out, HBL.out]; omega), if_neg (by rw [HBL.out]; omega), Int.toNat_natCast, HBL.out, HPL.out]
    exact h)
  have g1 : (G : Int) ≤ 16 := by omega
  have g0 : (1 : Int) ≤ G := by omega
  clear hg hnm h100
  go_enter Try.func11, Try.ntmps11
  go_wp2_with (go_at_call 22; refine (isGroup_any _ _).mono ?_; rw [HI.out]; rintro e w2 ⟨rfl, rfl⟩)
  go_loopw [10, 34] (fun _ i wr => ∃ q : Nat, q ≤ n ∧ i = .int .i64 (q : Int) ∧ (∀ i, i < q → lost.getD i false = false → ((bs rs).getD i []).length ≤ 5000) ∧ wr = w2) (fun _ i _ => n - (intOf i).toNat)
  case atStart => exact ⟨0, Nat.zero_le _, rfl, fun i hi => by omega, rfl⟩
  case round =>
    obtain ⟨q, hq, rfl, hall, rfl⟩ := hrel
    have HAL := Lib.hid hall
    by_cases hlt : q < n
    · have q1 : (q : Int) < n := by omega
      have q0 : 0 ≤ (q : Int) := by omega
      have HQ := Lib.hid hlt
      obtain ⟨b, off, rfl, hb, hc⟩ : ∃ b off, A = some ⟨b, off, none⟩ ∧ b < wr.heap.size ∧ ∀ i, i < lost.length → wr.cell? ⟨b, off + i, none⟩ = some (.bool (lost.getD i false)) := by
        rcases HL.out with h | h
        · have := HN.out; rw [h] at this; simp at this; omega
        · exact h
      have d1 := hc q (by rw [HN.out]; exact hlt)
      obtain ⟨b2, off2, rfl, hb2, hc2⟩ := rb_cell HR.out hlt
      have d2 := hc2 q hlt
      have hbn := rb_n HR.out hlt
      have hbg := bs_get' rs q
      obtain ⟨r, hrr⟩ : ∃ r, rs.getD q r80 = r := ⟨_, rfl⟩
      rw [hrr] at d2 hbn hbg
      obtain ⟨rA, rn, rc, rb⟩ := r
      dsimp only at d2 hbn hbg
      obtain ⟨t, ht⟩ : ∃ t, lost.getD q false = t := ⟨_, rfl⟩
      rw [ht] at d1
      have HT := Lib.hid (And.intro ht (And.intro hbg hbn))
      clear hlt hq hall hb hc hb2 hc2 hrr ht hbn hbg
      cases t
      · by_cases h5 : 5000 < rn
        · have e5 : (5000 : Int) < rn := by omega
          have HE := Lib.hid (HE1.out 4 (by rw [if_pos (badB_yes (by rw [HBL.out]; exact HQ.out) HT.out.1 (by rw [HT.out.2.1, HT.out.2.2]; exact h5))]))
          clear h5
          go_wp2_with fail
          go_ret2
          exact ⟨rr_no HE.out (by omega), Below.refl _ _⟩
        · have e5 : ¬ (5000 : Int) < rn := by omega
          have HT5 : Hid (rn ≤ 5000) := Lib.hid (by omega)
          clear h5
          go_wp2_with fail
          go_roundw
          case rel => exact ⟨q + 1, HQ.out, by go_num, fun i h1 h2 => by
            rcases Nat.lt_or_ge i q with a | a
            · exact HAL.out i a h2
            · obtain rfl : i = q := by omega
              rw [HT.out.2.1, HT.out.2.2]; exact HT5.out, by trivial⟩
          case measure => simp [intOf]; have := HQ.out; omega
      · go_wp2_with fail
        go_roundw
        case rel => exact ⟨q + 1, HQ.out, by go_num, fun i h1 h2 => by
          rcases Nat.lt_or_ge i q with a | a
          · exact HAL.out i a h2
          · obtain rfl : i = q := by omega
            rw [HT.out.1] at h2; exact Bool.noConfusion h2, by trivial⟩
        case measure => simp [intOf]; have := HQ.out; omega
    · obtain rfl : q = n := by omega
      have q1 : ¬ (q : Int) < q := by omega
      have hbad : badB (bs rs) lost = false := badB_no.2 fun i hi h => hall i (by rw [HBL.out] at hi; exact hi) h
      have HE2 : Hid (∀ z, (if x ≠ groups q G ∨ twoB lost G q = true then (40 : Int) else fE (bs rs) lost G (bs ps) q) = z → recE (bs rs) lost (G : Int) (bs ps) = z) := Lib.hid (fun z h => HE1.out z (by rw [if_neg (by rw [hbad]; simp)]; exact h))
      have HALL := Lib.hid hall
      clear hlt hq hall hbad HE1
      go_wp2_with fail
      refine (lostOnes_any A q c G lost wr HL.out HN.out HG.out.2.2 HG.out.1 HG.out.2.1).mono ?_
      rintro e w3 ⟨hlo, hb3⟩
      have HB3 := Lib.hid hb3
      clear hb3
      rcases hlo with ⟨htw, rfl⟩ | ⟨htw, gb, os, rfl, own3, hones⟩
      · have HE := Lib.hid (HE2.out 40 (by rw [if_pos (.inr htw)]))
        clear htw
        go_wp2_with fail
        go_ret2
        exact ⟨rr_no HE.out (by omega), HB3.out⟩
      obtain ⟨K, hK⟩ : ∃ K, groups q G = K := ⟨_, rfl⟩
      have hKq := groups_le (n := q) (g := G) HG.out.1
      rw [hK] at own3 hones hKq HE2 ⊢
      have HKK : Hid (groups q G = K ∧ K ≤ q) := Lib.hid ⟨hK, hKq⟩
      have HON := Lib.hid hones
      have HTW := Lib.hid htw
      have K1 : (K : Int) ≤ 100 := by have := HG.out; omega
      by_cases hxK : x ≠ K
      · have e1 : ((x : Int) == K) = false := by simp; omega
        have HE := Lib.hid (HE2.out 40 (by rw [if_pos (.inl hxK)]))
        clear htw hxK hK hKq hones own3
        go_wp2_with fail
        go_ret2
        exact ⟨rr_no HE.out (by omega), HB3.out⟩
      obtain rfl : x = K := by omega
      have HE3 : Hid (∀ z, fE (bs rs) lost G (bs ps) q = z → recE (bs rs) lost (G : Int) (bs ps) = z) := Lib.hid (fun z h => HE2.out z (by rw [if_neg (by rw [htw]; simp)]; exact h))
      have HO3 := Lib.hid own3
      clear htw hxK hK hKq hones own3 HE2
      go_wp2_with (at_make; go_loud (refine makeP rfl _ _ rfl _ _ q rfl rfl (by have := HG.out; omega) wr.heap.size HB3.out.size ?_); intro w4 own4 hb4)
      have HP4 := Lib.hid own4
      have HO4 := Lib.hid (HO3.out.below hb4 (Nat.le_refl _))
      have HB4 := Lib.hid (HB3.out.trans (hb4.mono HB3.out.size))
      obtain ⟨gl, hgl⟩ : ∃ gl, w3.heap.size = gl := ⟨_, rfl⟩
      have HNE : Hid (gb ≠ gl ∧ wr.heap.size ≤ gl) := Lib.hid ⟨by have := HO3.out.base_le; omega, by have := HB3.out.size; omega⟩
      rw [hgl] at HP4 ⊢
      clear own4 hb4 hgl
      go_loopw [14, 71] (fun _ i w5 => ∃ (z : Nat) (us : List R8), z ≤ q ∧ i = .int .i64 (z : Int) ∧ us.length = rs.length ∧ Part rs us lost z ∧ OwnP w5 wr.heap.size (.slice (some ⟨gl, 0, none⟩) q q) us ∧ OwnI w5 wr.heap.size 3 .i64 (.slice (some ⟨gb, 0, none⟩) x x) os ∧ Below wr.heap.size wr w5) (fun _ i _ => q - (intOf i).toNat)
      case atStart => exact ⟨0, _, Nat.zero_le _, rfl, by rw [List.length_replicate, HR.out.l], fun i hi => by rw [if_neg (by omega)]; rw [HR.out.l] at hi; simp [List.getD_eq_getElem?_getD, hi, r80], HP4.out, HO4.out, HB4.out⟩
      case round =>
        rename World => w5
        obtain ⟨z, us, hz, rfl, hus, hval, ownp, owni, acc⟩ := hrel
        have HUS := Lib.hid (And.intro hus hval)
        have HOP := Lib.hid ownp
        have HOI := Lib.hid owni
        have HA := Lib.hid acc
        by_cases hlt : z < q
        · have z1 : (z : Int) < q := by omega
          have z0 : 0 ≤ (z : Int) := by omega
          have HZ := Lib.hid hlt
          obtain ⟨b, off, rfl, hb, hc⟩ : ∃ b off, A = some ⟨b, off, none⟩ ∧ b < wr.heap.size ∧ ∀ i, i < lost.length → wr.cell? ⟨b, off + i, none⟩ = some (.bool (lost.getD i false)) := by
            rcases HL.out with h | h
            · have := HN.out; rw [h] at this; simp at this; omega
            · exact h
          have d1 : w5.cell? ⟨b, off + z, none⟩ = some (.bool (lost.getD z false)) := by rw [acc.cell (p := ⟨b, off + z, none⟩) hb]; exact hc z (by rw [HN.out]; exact hlt)
          obtain ⟨t, ht⟩ : ∃ t, lost.getD z false = t := ⟨_, rfl⟩
          rw [ht] at d1
          have HT := Lib.hid ht
          cases t
          · obtain ⟨b2, off2, rfl, hb2, hc2⟩ := rb_cell HR.out hlt
            have d2 : w5.cell? ⟨b2, off2 + z, none⟩ = some (.slice (rs.getD z r80).A (rs.getD z r80).n (rs.getD z r80).c) := by rw [acc.cell (p := ⟨b2, off2 + z, none⟩) hb2]; exact hc2 z hlt
            have hin := (HR.out.h.get z (by rw [HR.out.l]; exact hlt)).below acc (Nat.le_refl _)
            obtain ⟨r, hrr⟩ : ∃ r, rs.getD z r80 = r := ⟨_, rfl⟩
            rw [hrr] at d2 hin
            obtain ⟨rA, rn, rc, rb⟩ := r
            dsimp only at d2
            have HIN := Lib.hid hin
            have HRR := Lib.hid hrr
            have HR5 : Hid (rn ≤ 5000) := Lib.hid (by
              have h1 : rb.length ≤ 5000 := by
                have h1 := HALL.out z hlt ht
                rw [bs_get', hrr] at h1
                exact h1
              have h2 : rb.length = rn := hin.e
              omega)
            clear hlt hz hus hval ownp owni acc hb hc hb2 hc2 hrr hin ht
            go_wp2_with (go_at_call 24; go_loud (refine (Clone8 (n := rn) (zs := rb) HIN.out.h HIN.out.e HIN.out.c1 (by have := HR5.out; omega)).mono ?_); rintro e w9 ⟨A9, c9, rfl, hh9, ho9, hb9⟩; have HB9 := Lib.hid hb9; have HO9 := Lib.hid ho9; have HOP9 := Lib.hid (HOP.out.past hb9); have HOI9 := Lib.hid (HOI.out.below hb9 (Nat.le_refl _)); have p1 := (HOP9.out.cell z (by rw [HUS.out.1, HR.out.l]; exact HZ.out)).1; have p2 := (HOP9.out.cell z (by rw [HUS.out.1, HR.out.l]; exact HZ.out)).2; clear hh9 ho9 hb9)
            go_roundw
            case rel =>
              refine ⟨z + 1, us.set z ⟨A9, rn, c9, rb⟩, HZ.out, by go_num, by rw [List.length_set]; exact HUS.out.1, HUS.out.2.put _ HUS.out.1 (by rw [HR.out.l]; exact HZ.out) HT.out (by rw [HRR.out]), ?_, ?_, ?_⟩
              · exact HOP9.out.put z ⟨A9, rn, c9, rb⟩ (HO9.out.mono HA.out.size) HIN.out.b
              · exact own_set HOI9.out (by have := HNE.out.1; simp [Value.ownBlock]; exact this) _
              · exact Below.setCell (HA.out.trans (HB9.out.mono HA.out.size)) HNE.out.2 _
            case measure => simp [intOf]; have := HZ.out; omega
          · clear hlt hz hus hval ownp owni acc hb hc ht
            go_wp2_with fail
            go_roundw
            case rel => exact ⟨z + 1, us, HZ.out, by go_num, HUS.out.1, HUS.out.2.skip HT.out, HOP.out, HOI.out, HA.out⟩
            case measure => simp [intOf]; have := HZ.out; omega
        · obtain rfl : z = q := by omega
          have z1 : ¬ (z : Int) < z := by omega
          have HH := Lib.hid (hval.held (g := G) (p := bs ps) (by rw [HR.out.l]; exact Nat.le_refl _))
          have HUL := Lib.hid hus
          clear hlt hz hus hval ownp owni acc
          go_wp2_with fail
          go_loopw [15, 16, 17, 18, 90] (fun _ _ _ _ i w6 => ∃ (k : Nat) (vs : List R8), k ≤ x ∧ i = .int .i64 (k : Int) ∧ vs.length = rs.length ∧ Held rs vs lost G (k * G) (bs ps) ∧ (∀ i, i < z → i < k * G → gi (bs rs) lost G (bs ps) i = 0) ∧ OwnP w6 wr.heap.size (.slice (some ⟨gl, 0, none⟩) z z) vs ∧ OwnI w6 wr.heap.size 3 .i64 (.slice (some ⟨gb, 0, none⟩) x x) os ∧ Below wr.heap.size wr w6) (fun _ _ _ _ i _ => x - (intOf i).toNat)
          case atStart => exact ⟨0, us, Nat.zero_le _, rfl, HUL.out, HH.out, fun i h1 h2 => by omega, HOP.out, HOI.out, HA.out⟩
          case round =>
            rename World => w6
            obtain ⟨k, vs, hk, rfl, hvl, hheld, hgi, ownp, owni, acc⟩ := hrel
            have HV := Lib.hid (And.intro hvl (And.intro hheld hgi))
            have HOP6 := Lib.hid ownp
            have HOI6 := Lib.hid owni
            have HA6 := Lib.hid acc
            by_cases hlt : k < x
            · have k1 : (k : Int) < x := by omega
              have k0 : 0 ≤ (k : Int) := by omega
              have HK := Lib.hid hlt
              have p1 := owni.cell k (by rw [HON.out.l]; exact hlt)
              rcases HON.out.h k hlt with ⟨hm1, hno⟩ | ⟨i0, hi0, hq0, hl0, hos⟩
              · rw [hm1] at p1
                have HNO := Lib.hid hno
                have HG1 := HG.out.1
                have HMORE := Lib.hid (hheld.more HG1 fun i h1 h2 => hno i (by rw [← HR.out.l]; exact h1) h2)
                have HGI : Hid (∀ i, i < z → i < (k + 1) * G → gi (bs rs) lost G (bs ps) i = 0) := Lib.hid fun i h1 h2 => by
                  by_cases h3 : i < k * G
                  · exact hgi i h1 h3
                  · rw [Nat.succ_mul] at h2
                    exact gi_kept (hno i h1 ((in_group HG1).2 (by omega)))
                clear hlt hk hvl hheld hgi ownp owni acc hm1 hno HG1
                go_wp2_with fail
                go_roundw
                case rel => exact ⟨k + 1, vs, HK.out, by go_num, HV.out.1, HMORE.out, HGI.out, HOP6.out, HOI6.out, HA6.out⟩
                case measure => simp [intOf]; have := HK.out; omega
              · rw [hos] at p1
                have HG1 := HG.out.1
                have hI := (in_group HG1).1 hq0
                obtain ⟨J, hJ⟩ : ∃ J, k * G = J := ⟨_, rfl⟩
                rw [hJ] at hI
                have huni : ∀ i, i < rs.length → i / G = k → lost.getD i false = true → i = i0 := fun i h1 h2 h3 => HON.out.u i i0 (by rw [← HR.out.l]; exact h1) hi0 (by rw [h2, hq0]) h3 hl0
                have hi0r : i0 < rs.length := by rw [HR.out.l]; exact hi0
                have hrep := hheld.rep hvl HG1 hi0r hq0 hl0 huni
                have hbef := gi_before (n := z) hgi HG1 hi0 hq0 (fun i h1 h2 h3 => huni i (by rw [HR.out.l]; exact h1) h2 h3)
                rw [hJ] at hrep
                have HI0 := Lib.hid (And.intro hi0 (And.intro hq0 (And.intro hl0 huni)))
                have HREP := Lib.hid hrep
                have HBEF := Lib.hid hbef
                have HJJ := Lib.hid (And.intro hJ hI)
                have jm : (k : Int) * (G : Int) = (J : Int) := by rw [← hJ]; simp
                have J1 : (J : Int) ≤ 100 := by have := HG.out; omega
                have J0 : 0 ≤ (J : Int) := by omega
                have jw : IntKind.i64.wrap ((k : Int) * (G : Int)) = (J : Int) := by rw [jm]; exact IntWalk.i64_in _ (by omega)
                have jw2 : IntKind.i64.wrap (J : Int) = (J : Int) := IntWalk.i64_in _ (by omega)
                have jg : IntKind.i64.wrap ((J : Int) + G) = (J : Int) + G := IntWalk.i64_in _ (by omega)
                obtain ⟨E, hE⟩ : ∃ E, min (J + G) z = E := ⟨_, rfl⟩
                have mn : min ((J : Int) + G) (z : Int) = (E : Int) := by omega
                obtain ⟨e, he⟩ : ∃ e, E - J = e := ⟨_, rfl⟩
                obtain ⟨o, ho⟩ : ∃ o, i0 - J = o := ⟨_, rfl⟩
                rw [ho] at HREP
                have ow : IntKind.i64.wrap ((i0 : Int) - (J : Int)) = (o : Int) := by rw [show (i0 : Int) - J = o by omega]; exact IntWalk.i64_in _ (by omega)
                have i1 : (i0 : Int) < z := by omega
                have i2 : 0 ≤ (i0 : Int) := by omega
                have i3 : ¬ (i0 : Int) < 0 := by omega
                have nz : ¬ z = J := by omega
                have F1 : (E : Int) ≤ z := by omega
                have F2 : (J : Int) ≤ E := by omega
                have F3 : E ≤ z := by omega
                have F4 : J ≤ E := by omega
                have HEE : Hid (e ≤ 16 ∧ e = min G (z - J)) := Lib.hid (by have := HG.out; omega)
                obtain ⟨b3, off3, rfl, hb3, hc3⟩ := rb_cell HP.out hlt
                have d3 : w6.cell? ⟨b3, off3 + k, none⟩ = some (.slice (ps.getD k r80).A (ps.getD k r80).n (ps.getD k r80).c) := by rw [acc.cell (p := ⟨b3, off3 + k, none⟩) hb3]; exact hc3 k hlt
                have hinp := HP.out.h.get k (by rw [HP.out.l]; exact hlt)
                have hpk := bs_get' ps k
                obtain ⟨r, hrr⟩ : ∃ r, ps.getD k r80 = r := ⟨_, rfl⟩
                rw [hrr] at d3 hinp hpk
                obtain ⟨pA, pn, pc, pb⟩ := r
                dsimp only at d3 hpk
                rw [hpk] at HREP
                have HIP := Lib.hid hinp
                have hsub : ∀ w7, Below w6.heap.size w6 w7 → RowsB w7 (some ⟨gl, J, none⟩) e (z - J) (chunk vs G k) := fun w7 hw7 => by
                  have h1 := (HOP6.out.past hw7).rows
                  have hlt7 : gl < w7.heap.size := by
                    obtain ⟨g', e', _, h3⟩ := (HOP6.out.past hw7).form (by rw [hvl]; omega)
                    injection e' with e'
                    injection e' with e'
                    omega
                  have h2 := rows_sub (J := J) (k := e) h1 (by omega) hlt7 fun i hi => by
                    rw [Nat.zero_add]
                    exact ((HOP6.out.past hw7).cell i (by rw [hvl, HR.out.l]; exact hi)).1
                  rw [Nat.zero_add] at h2
                  rw [chunk_cut (k := e) vs hJ.symm (by rw [hvl, HR.out.l]; omega)]
                  exact h2
                have HSUB := Lib.hid hsub
                obtain ⟨er, her⟩ : ∃ er, gi (bs rs) lost G (bs ps) i0 = er := ⟨_, rfl⟩
                obtain ⟨rv, hrv⟩ : ∃ rv, rvi (bs rs) lost G (bs ps) i0 = rv := ⟨_, rfl⟩
                rw [her, hrv] at HREP
                have HER := Lib.hid (And.intro her hrv)
                have HBC : Hid (bs (chunk vs G k) = chunk (bs vs) G k) := Lib.hid (bs_chunk vs G k)
                have HOW : Hid (0 ≤ (o : Int) ∧ (o : Int) ≤ 100) := Lib.hid (by omega)
                obtain ⟨rl, hrl⟩ : ∃ rl, rv.length = rl := ⟨_, rfl⟩
                have HRL := Lib.hid hrl
                clear hlt hk hvl hheld hgi ownp owni acc hos hi0 hq0 hl0 HG1 hI hJ huni hi0r hrep hbef hE ho hb3 hc3 hinp hpk hrr hsub her hrv hrl
                go_upto_region 26 with fail
                have hlb : gb < w6.heap.size := HOI6.out.base_le.2
                have HLB := Lib.hid (And.intro hlb (And.intro p1 (And.intro (lt_of_cell d3) d3)))
                clear p1 d3 hlb
                (have RD := grows_roads (S := fun x' => Below w6.heap.size w6 x') (fun a b h1 h2 => h2.trans (h1.mono h2.size))); refine region_ord _ Grows RD (Below.drew (Below.refl w6.heap.size w6)) (by kernel_rfl) ?_; intro ops Q' hops hPQ hN; (have HNS : Hid (Region.noSelect ops = true) := Lib.hid (by rw [hops]; kernel_rfl)); (have hsz : ops.size = 25 := (by rw [hops]; rfl)); have HOP := Lib.hid hops; have HPQ := Lib.hid hPQ; have HN := Lib.hid hN; rw [hsz]; clear hops hsz hPQ hN
                refine ord_take RD 0 (at_list (by rw [HOP.out]; rfl)) HNS.out HPQ.out (by rw [HOP.out]; kernel_rfl) (by rw [HOP.out]; kernel_rfl) (by rw [HOP.out]; rfl) (fun K hK => ?_); apply Exists.intro; refine ⟨fun W hSW => ?_, hK _ ?_⟩; (focus ((try dsimp only at hSW); go_simp; try with_reducible rfl)); clear hK K; (try simp only [Act.put, List.setIfInBounds_toArray, List.set_cons_zero, List.set_cons_succ])
                refine ord_take RD 1 (at_list (by rw [HOP.out]; rfl)) HNS.out HPQ.out (by rw [HOP.out]; kernel_rfl) (by rw [HOP.out]; kernel_rfl) (by rw [HOP.out]; rfl) (fun K hK => ?_); apply Exists.intro; refine ⟨fun W hSW => ?_, hK _ ?_⟩; (focus ((try dsimp only at hSW); go_simp; try with_reducible rfl)); clear hK K; (try simp only [Act.put, List.setIfInBounds_toArray, List.set_cons_zero, List.set_cons_succ])
                refine ord_take RD 2 (at_list (by rw [HOP.out]; rfl)) HNS.out HPQ.out (by rw [HOP.out]; kernel_rfl) (by rw [HOP.out]; kernel_rfl) (by rw [HOP.out]; rfl) (fun K hK => ?_); apply Exists.intro; refine ⟨fun W hSW => ?_, hK _ ?_⟩; (focus ((try dsimp only at hSW); go_simp; try with_reducible rfl)); clear hK K; (try simp only [Act.put, List.setIfInBounds_toArray, List.set_cons_zero, List.set_cons_succ])
                refine ord_take RD 3 (at_list (by rw [HOP.out]; rfl)) HNS.out HPQ.out (by rw [HOP.out]; kernel_rfl) (by rw [HOP.out]; kernel_rfl) (by rw [HOP.out]; rfl) (fun K hK => ?_); apply Exists.intro; refine ⟨fun W hSW => ?_, hK _ ?_⟩; (focus ((try dsimp only at hSW); go_simp; try with_reducible rfl)); clear hK K; (try simp only [Act.put, List.setIfInBounds_toArray, List.set_cons_zero, List.set_cons_succ])
                refine ord_take RD 4 (at_list (by rw [HOP.out]; rfl)) HNS.out HPQ.out (by rw [HOP.out]; kernel_rfl) (by rw [HOP.out]; kernel_rfl) (by rw [HOP.out]; rfl) (fun K hK => ?_); apply Exists.intro; refine ⟨fun W hSW => ?_, hK _ ?_⟩; (focus ((try dsimp only at hSW); go_simp; try with_reducible rfl)); clear hK K; (try simp only [Act.put, List.setIfInBounds_toArray, List.set_cons_zero, List.set_cons_succ])
                refine ord_take RD 5 (at_list (by rw [HOP.out]; rfl)) HNS.out HPQ.out (by rw [HOP.out]; kernel_rfl) (by rw [HOP.out]; kernel_rfl) (by rw [HOP.out]; rfl) (fun K hK => ?_); apply Exists.intro; refine ⟨fun W hSW => ?_, hK _ ?_⟩; (focus ((try dsimp only at hSW); go_simp; try with_reducible rfl)); clear hK K; (try simp only [Act.put, List.setIfInBounds_toArray, List.set_cons_zero, List.set_cons_succ])
                refine ord_take RD 6 (at_list (by rw [HOP.out]; rfl)) HNS.out HPQ.out (by rw [HOP.out]; kernel_rfl) (by rw [HOP.out]; kernel_rfl) (by rw [HOP.out]; rfl) (fun K hK => ?_); apply Exists.intro; refine ⟨fun W hSW => ?_, hK _ ?_⟩; (focus ((try dsimp only at hSW); go_simp; try with_reducible rfl)); clear hK K; (try simp only [Act.put, List.setIfInBounds_toArray, List.set_cons_zero, List.set_cons_succ])
                refine ord_take RD 7 (at_list (by rw [HOP.out]; rfl)) HNS.out HPQ.out (by rw [HOP.out]; kernel_rfl) (by rw [HOP.out]; kernel_rfl) (by rw [HOP.out]; rfl) (fun K hK => ?_); apply Exists.intro; refine ⟨fun W hSW => ?_, hK _ ?_⟩; (focus ((try dsimp only at hSW); go_simp; try with_reducible rfl)); clear hK K; (try simp only [Act.put, List.setIfInBounds_toArray, List.set_cons_zero, List.set_cons_succ])
                refine ord_take RD 8 (at_list (by rw [HOP.out]; rfl)) HNS.out HPQ.out (by rw [HOP.out]; kernel_rfl) (by rw [HOP.out]; kernel_rfl) (by rw [HOP.out]; rfl) (fun K hK => ?_); apply Exists.intro; refine ⟨fun W hSW => ?_, hK _ ?_⟩; (focus ((try dsimp only at hSW); go_simp; try with_reducible rfl)); clear hK K; (try simp only [Act.put, List.setIfInBounds_toArray, List.set_cons_zero, List.set_cons_succ])
                refine ord_take RD 9 (at_list (by rw [HOP.out]; rfl)) HNS.out HPQ.out (by rw [HOP.out]; kernel_rfl) (by rw [HOP.out]; kernel_rfl) (by rw [HOP.out]; rfl) (fun K hK => ?_); apply Exists.intro; refine ⟨fun W hSW => ?_, hK _ ?_⟩; (focus ((try dsimp only at hSW); go_simp; try with_reducible rfl)); clear hK K; (try simp only [Act.put, List.setIfInBounds_toArray, List.set_cons_zero, List.set_cons_succ])
                refine ord_take RD 10 (at_list (by rw [HOP.out]; rfl)) HNS.out HPQ.out (by rw [HOP.out]; kernel_rfl) (by rw [HOP.out]; kernel_rfl) (by rw [HOP.out]; rfl) (fun K hK => ?_); apply Exists.intro; refine ⟨fun W hSW => ?_, hK _ ?_⟩; (focus ((try dsimp only at hSW); go_simp; try with_reducible rfl)); clear hK K; (try simp only [Act.put, List.setIfInBounds_toArray, List.set_cons_zero, List.set_cons_succ])
                refine ord_take RD 11 (at_list (by rw [HOP.out]; rfl)) HNS.out HPQ.out (by rw [HOP.out]; kernel_rfl) (by rw [HOP.out]; kernel_rfl) (by rw [HOP.out]; rfl) (fun K hK => ?_); apply Exists.intro; refine ⟨fun W hSW => ?_, hK _ ?_⟩; (focus ((try dsimp only at hSW); go_simp; try with_reducible rfl)); clear hK K; (try simp only [Act.put, List.setIfInBounds_toArray, List.set_cons_zero, List.set_cons_succ])
                refine ord_take RD 12 (at_list (by rw [HOP.out]; rfl)) HNS.out HPQ.out (by rw [HOP.out]; kernel_rfl) (by rw [HOP.out]; kernel_rfl) (by rw [HOP.out]; rfl) (fun K hK => ?_); apply Exists.intro; refine ⟨fun W hSW => ?_, hK _ ?_⟩; (focus ((try dsimp only at hSW); (have z9 := (hSW.cell (p := ⟨gb, k, none⟩) HLB.out.1).trans HLB.out.2.1); go_simp; try with_reducible rfl)); clear hK K; (try simp only [Act.put, List.setIfInBounds_toArray, List.set_cons_zero, List.set_cons_succ])
                refine ord_take RD 13 (at_list (by rw [HOP.out]; rfl)) HNS.out HPQ.out (by rw [HOP.out]; kernel_rfl) (by rw [HOP.out]; kernel_rfl) (by rw [HOP.out]; rfl) (fun K hK => ?_); apply Exists.intro; refine ⟨fun W hSW => ?_, hK _ ?_⟩; (focus ((try dsimp only at hSW); go_simp; try with_reducible rfl)); clear hK K; (try simp only [Act.put, List.setIfInBounds_toArray, List.set_cons_zero, List.set_cons_succ])
                refine ord_take RD 14 (at_list (by rw [HOP.out]; rfl)) HNS.out HPQ.out (by rw [HOP.out]; kernel_rfl) (by rw [HOP.out]; kernel_rfl) (by rw [HOP.out]; rfl) (fun K hK => ?_); apply Exists.intro; refine ⟨fun W hSW => ?_, hK _ ?_⟩; (focus ((try dsimp only at hSW); go_simp; try with_reducible rfl)); clear hK K; (try simp only [Act.put, List.setIfInBounds_toArray, List.set_cons_zero, List.set_cons_succ])
                refine ord_take RD 15 (at_list (by rw [HOP.out]; rfl)) HNS.out HPQ.out (by rw [HOP.out]; kernel_rfl) (by rw [HOP.out]; kernel_rfl) (by rw [HOP.out]; rfl) (fun K hK => ?_); apply Exists.intro; refine ⟨fun W hSW => ?_, hK _ ?_⟩; (focus ((try dsimp only at hSW); go_simp; try with_reducible rfl)); clear hK K; (try simp only [Act.put, List.setIfInBounds_toArray, List.set_cons_zero, List.set_cons_succ])
                refine ord_take RD 16 (at_list (by rw [HOP.out]; rfl)) HNS.out HPQ.out (by rw [HOP.out]; kernel_rfl) (by rw [HOP.out]; kernel_rfl) (by rw [HOP.out]; rfl) (fun K hK => ?_); apply Exists.intro; refine ⟨fun W hSW => ?_, hK _ ?_⟩; (focus ((try dsimp only at hSW); go_simp; try with_reducible rfl)); clear hK K; (try simp only [Act.put, List.setIfInBounds_toArray, List.set_cons_zero, List.set_cons_succ])
                refine ord_take RD 17 (at_list (by rw [HOP.out]; rfl)) HNS.out HPQ.out (by rw [HOP.out]; kernel_rfl) (by rw [HOP.out]; kernel_rfl) (by rw [HOP.out]; rfl) (fun K hK => ?_); apply Exists.intro; refine ⟨fun W hSW => ?_, hK _ ?_⟩; (focus ((try dsimp only at hSW); go_simp; try with_reducible rfl)); clear hK K; (try simp only [Act.put, List.setIfInBounds_toArray, List.set_cons_zero, List.set_cons_succ])
                refine ord_take RD 18 (at_list (by rw [HOP.out]; rfl)) HNS.out HPQ.out (by rw [HOP.out]; kernel_rfl) (by rw [HOP.out]; kernel_rfl) (by rw [HOP.out]; rfl) (fun K hK => ?_); apply Exists.intro; refine ⟨fun W hSW => ?_, hK _ ?_⟩; (focus ((try dsimp only at hSW); (have z9 := (hSW.cell (p := ⟨b3, off3 + k, none⟩) HLB.out.2.2.1).trans HLB.out.2.2.2); go_simp; try with_reducible rfl)); clear hK K; (try simp only [Act.put, List.setIfInBounds_toArray, List.set_cons_zero, List.set_cons_succ])
                refine ord_one RD 19 (by rw [HOP.out]; kernel_rfl) (at_list (by rw [HOP.out]; rfl)) (by rw [HOP.out]; rfl) (fun W7 hWW hSW K hK => ?_); (try dsimp only at hSW)
                go_simp
                refine (Repair_any (some ⟨gl, J, none⟩) pA e (z - J) pn pc (o : Int) (chunk vs G k) pb W7 (HSUB.out _ hSW) (by have := HEE.out; omega) (by have := HOW.out; omega) ((HIP.out.h.below HA6.out (Nat.le_refl _)).below hSW (Nat.le_refl _)) HIP.out.e HIP.out.c1 HIP.out.c2 HIP.out.b).mono ?_
                rw [HBC.out, HREP.out.1, HREP.out.2, HRL.out]
                rintro e w7 ⟨A7, c7, rfl, ho7, hb7⟩
                refine hK _ _ (RD.keep hb7 hSW) ?_
                have H7 : Hid (OwnZ w7 w6.heap.size (.slice A7 rl c7) rv ∧ Below w6.heap.size w6 w7) := Lib.hid ⟨ho7.mono hSW.size, hSW.trans (hb7.mono hSW.size)⟩
                clear ho7 hb7 hSW hWW
                clear hK K; (try simp only [Act.put, List.setIfInBounds_toArray, List.set_cons_zero, List.set_cons_succ])
                refine ord_take RD 20 (at_list (by rw [HOP.out]; rfl)) HNS.out HPQ.out (by rw [HOP.out]; kernel_rfl) (by rw [HOP.out]; kernel_rfl) (by rw [HOP.out]; rfl) (fun K hK => ?_); apply Exists.intro; refine ⟨fun W hSW => ?_, hK _ ?_⟩; (focus ((try dsimp only at hSW); go_simp; try with_reducible rfl)); clear hK K; (try simp only [Act.put, List.setIfInBounds_toArray, List.set_cons_zero, List.set_cons_succ])
                refine ord_take RD 21 (at_list (by rw [HOP.out]; rfl)) HNS.out HPQ.out (by rw [HOP.out]; kernel_rfl) (by rw [HOP.out]; kernel_rfl) (by rw [HOP.out]; rfl) (fun K hK => ?_); apply Exists.intro; refine ⟨fun W hSW => ?_, hK _ ?_⟩; (focus ((try dsimp only at hSW); go_simp; try with_reducible rfl)); clear hK K; (try simp only [Act.put, List.setIfInBounds_toArray, List.set_cons_zero, List.set_cons_succ])
                refine ord_take RD 22 (at_list (by rw [HOP.out]; rfl)) HNS.out HPQ.out (by rw [HOP.out]; kernel_rfl) (by rw [HOP.out]; kernel_rfl) (by rw [HOP.out]; rfl) (fun K hK => ?_); apply Exists.intro; refine ⟨fun W hSW => ?_, hK _ ?_⟩; (focus ((try dsimp only at hSW); go_simp; try with_reducible rfl)); clear hK K; (try simp only [Act.put, List.setIfInBounds_toArray, List.set_cons_zero, List.set_cons_succ])
                refine ord_take RD 23 (at_list (by rw [HOP.out]; rfl)) HNS.out HPQ.out (by rw [HOP.out]; kernel_rfl) (by rw [HOP.out]; kernel_rfl) (by rw [HOP.out]; rfl) (fun K hK => ?_); apply Exists.intro; refine ⟨fun W hSW => ?_, hK _ ?_⟩; (focus ((try dsimp only at hSW); go_simp; try with_reducible rfl)); clear hK K; (try simp only [Act.put, List.setIfInBounds_toArray, List.set_cons_zero, List.set_cons_succ])
                refine ord_take RD 24 (at_list (by rw [HOP.out]; rfl)) HNS.out HPQ.out (by rw [HOP.out]; kernel_rfl) (by rw [HOP.out]; kernel_rfl) (by rw [HOP.out]; rfl) (fun K hK => ?_); apply Exists.intro; refine ⟨fun W hSW => ?_, hK _ ?_⟩; (focus ((try dsimp only at hSW); go_simp; try with_reducible rfl)); clear hK K; (try simp only [Act.put, List.setIfInBounds_toArray, List.set_cons_zero, List.set_cons_succ])
                refine ord_done (by rw [HOP.out]; kernel_rfl) (fun W8 hWW hSW => HN.out _ _ ?_); clear HOP HNS HPQ HN RD; (try dsimp only at hSW)
                have H8 : Hid (OwnZ W8 w6.heap.size (.slice A7 rl c7) rv ∧ Below w6.heap.size w6 W8) := Lib.hid ⟨H7.out.1.past hWW, hSW⟩
                clear hWW hSW
                have HOP8 := Lib.hid (HOP6.out.past H8.out.2)
                have HOI8 := Lib.hid (HOI6.out.below H8.out.2 (Nat.le_refl _))
                have HA8 := Lib.hid (HA6.out.trans (H8.out.2.mono HA6.out.size))
                by_cases her : er = 0
                · subst her
                  have p1 := (H8.out.2.cell (p := ⟨gb, k, none⟩) HLB.out.1).trans HLB.out.2.1
                  have p2 := HOP8.out.cell i0 (by rw [HV.out.1]; rw [HR.out.l]; exact HI0.out.1)
                  obtain ⟨p3, p4⟩ := p2
                  have HG1 := HG.out.1
                  have HPUT := Lib.hid (HV.out.2.1.put ⟨A7, rl, c7, rv⟩ HV.out.1 HG1 (by rw [HR.out.l]; exact HI0.out.1) HI0.out.2.1 HI0.out.2.2.1 HER.out.2.symm HI0.out.2.2.2)
                  have HGI : Hid (∀ i, i < z → i < (k + 1) * G → gi (bs rs) lost G (bs ps) i = 0) := Lib.hid fun i h1 h2 => by
                    by_cases h3 : i < k * G
                    · exact HV.out.2.2 i h1 h3
                    · rw [Nat.succ_mul] at h2
                      cases e3 : lost.getD i false
                      · exact gi_kept e3
                      · have h4 := HI0.out.2.2.2 i (by rw [HR.out.l]; exact h1) ((in_group HG1).2 (by omega)) e3
                        rw [h4]; exact HER.out.1
                  have HRB : Hid (∀ z ∈ rv, 0 ≤ z ∧ z ≤ 255) := Lib.hid (by
                    rw [← HREP.out.2]
                    exact repV_byt HIP.out.b fun s hs => bs_byt HOP6.out.rows s (chunk_mem hs))
                  clear HG1
                  go_wp2_with fail
                  go_roundw
                  case rel =>
                    refine ⟨k + 1, vs.set i0 ⟨A7, rl, c7, rv⟩, HK.out, by go_num, by rw [List.length_set]; exact HV.out.1, HPUT.out, HGI.out, ?_, ?_, ?_⟩
                    · exact HOP8.out.put i0 ⟨A7, rl, c7, rv⟩ (H8.out.1.mono HA6.out.size) HRB.out
                    · exact own_set HOI8.out (by have := HNE.out.1; simp [Value.ownBlock]; exact this) _
                    · exact Below.setCell HA8.out HNE.out.2 _
                  case measure => simp [intOf]; have := HK.out; omega
                · have e1 : (er == 0) = false := by simpa using her
                  have e2 : (er != 0) = true := by simp [bne, e1]
                  have HX := Lib.hid (HE3.out er (by rw [fE_first HBEF.out (by rw [HER.out.1]; exact her) HI0.out.1]; exact HER.out.1))
                  have HNZ := Lib.hid her
                  clear her
                  go_wp2_with fail
                  go_ret2
                  exact ⟨rr_no HX.out HNZ.out, HA8.out⟩
            · obtain rfl : k = x := by omega
              have k1 : ¬ (k : Int) < k := by omega
              have hge : z ≤ k * G := by
                have h1 := groups_iff (n := z) (g := G) (j := k) HG.out.1
                rw [HKK.out.1] at h1
                rcases Nat.lt_or_ge (k * G) z with h | h
                · have := h1.2 h; omega
                · exact h
              have HX := Lib.hid (HE3.out 0 (fE_zero fun i hi => hgi i hi (by omega)))
              have HALLV := Lib.hid (hheld.all hvl (by rw [HR.out.l]; exact hge))
              have HRV : Hid (recV (bs rs) lost (G : Int) (bs ps) = bs vs) := Lib.hid (by unfold recV; rw [if_pos HX.out, HALLV.out, Int.toNat_natCast])
              have HVL : Hid (vs.length = z) := Lib.hid (by rw [hvl, HR.out.l])
              clear hlt hk hvl hheld hgi ownp owni acc hge
              go_wp2_with fail
              go_ret2
              exact ⟨⟨some ⟨gl, 0, none⟩, z, vs, by rw [HX.out, HVL.out]; rfl, by rw [HVL.out]; exact HOP6.out.rows, HRV.out.symm⟩, HA6.out⟩
end Go.Proofs.Ytacllaeccdgnmaa.paW
