/- Several texts as one: MaPl2, MaPl3. -/
import Derived.Test.YtemiecghdmagnaaMaPlain
import Derived.Test.YtemiecghdmagnaaGL
namespace Go.Proofs.Ytemiecghdmagnaa.maP
set_option maxRecDepth 100000
open Go.RowKit Go.Proofs.Ytemiecghdmagnaa.rgP Go.Proofs.Ytemiecghdmagnaa.fdP Go.Proofs.Ytemiecghdmagnaa.cxP Go.Proofs.Ytemiecghdmagnaa.hashP Go.Proofs.Ytemiecghdmagnaa.hashW Go.Proofs.Ytemiecghdmagnaa.nibP
set_option linter.unusedVariables false

/-- All three after some bytes came. -/
structure St3 where
  m : Mt
  r : Rg
  f : Fnd
def step3 (s : St3) (c : Int) : St3 := ⟨nextM s.m s.r s.f c, putR s.r [c], fput s.f (keyH (putR s.r [c])) (s.r.n + 1)⟩
def came3 (l : Int) (bs : List Int) : St3 := bs.foldl step3 ⟨noM, newR l, newF l⟩
theorem came_nil (l : Int) : came3 l [] = ⟨noM, newR l, newF l⟩ := rfl
theorem came_snoc (l : Int) (bs : List Int) (c : Int) : came3 l (bs ++ [c]) = step3 (came3 l bs) c := by simp [came3]
theorem ago_at {l : Int} (hl : lvB l = true) (bs : List Int) (p : Int) (h0 : 0 ≤ p) (h1 : p < bs.length) (h2 : bs.length - p ≤ szOf l) : ago (putR (newR l) bs) (bs.length - p) = bs.getD p.toNat 0 := by
  have := ago_put hl bs (bs.length - p.toNat) (by omega) (by omega) (by omega)
  rw [show ((bs.length - p.toNat : Nat) : Int) = bs.length - p by omega] at this
  rw [this]
  congr 1
  omega
/-- The match is a true one. -/
def Ok3 (bs : List Int) (m : Mt) : Prop := mtB m = true ∧ (m.a < bs.length ∨ m.a < 0) ∧ (0 ≤ m.a → m.k ≤ m.a ∧ 3 ≤ m.k) ∧ (0 ≤ m.a → ∀ j : Nat, 1 ≤ j → (j : Int) ≤ m.k → bs.getD (m.a - j).toNat 0 = bs.getD (bs.length - j) 0)
theorem ok_no (bs : List Int) : Ok3 bs noM := ⟨by decide, .inr (by decide), fun h => absurd h (by decide), fun h => absurd h (by decide)⟩
structure True3 (l : Int) (bs : List Int) (s : St3) : Prop where
  r : s.r = putR (newR l) bs
  f : fdOk s.f = true
  fl : s.f.s.length = szOf l
  fn : ∀ p, s.f.s.getD p 0 ≤ bs.length
  m : Ok3 bs s.m
theorem getD_snoc (bs : List Int) (c : Int) (i : Nat) : (bs ++ [c]).getD i 0 = if i < bs.length then bs.getD i 0 else if i = bs.length then c else 0 := by
  simp only [List.getD_eq_getElem?_getD]
  by_cases h : i < bs.length
  · rw [if_pos h, List.getElem?_append_left h]
  · rw [if_neg h, List.getElem?_append_right (by omega)]
    by_cases h2 : i = bs.length
    · rw [if_pos h2, h2]; simp
    · rw [if_neg h2, List.getElem?_eq_none (by simp; omega)]; rfl
theorem true_nil {l : Int} (hl : lvB l = true) : True3 l [] (came3 l []) := by
  refine ⟨rfl, newF_ok hl, ?_, ?_, ok_no _⟩
  · show (newF l).s.length = _
    rw [newF, if_pos hl]; simp
  · intro p
    show (newF l).s.getD p 0 ≤ _
    rw [newF, if_pos hl]
    show (List.replicate (szOf l) (-1 : Int)).getD p 0 ≤ _
    rw [List.getD_eq_getElem?_getD, List.getElem?_replicate]
    split <;> simp
theorem key_bd {r : Rg} (h : ∀ z ∈ r.b, 0 ≤ z ∧ z ≤ 255) : 0 ≤ keyH r ∧ keyH r ≤ 4294967295 := by
  refine hSteps_bd _ (by decide +kernel) (by decide +kernel) ?_
  intro z hz
  simp only [lastL, List.mem_map] at hz
  obtain ⟨i, _, rfl⟩ := hz
  exact ago_bd h _
theorem find_ok {f : Fnd} (h : fdOk f = true) (x : Int) : findV f x = f.s.getD (plc f x) 0 := by rw [findV, if_pos h]
theorem on_ok {l : Int} (hl : lvB l = true) (bs : List Int) (c : Int) (hm : bs.length < 700) {s : St3} (h : True3 l bs s) : Ok3 (bs ++ [c]) (onM s.m s.r c) := by
  obtain ⟨-, -, o3, o4, o5⟩ := put_new hl bs (by omega)
  obtain ⟨h1, h2, h3, h4⟩ := h.m
  have hmm := (mtB_iff s.m).1 h1
  unfold onM
  by_cases hc : exB s.m s.r = true ∧ exV s.m s.r = c
  · rw [if_pos hc]
    obtain ⟨c1, c2⟩ := hc
    have e0 : exE s.m s.r = 0 := exE_yes h1 (by rw [h.r]; exact o3)
    have c3 := c1
    rw [exB, if_pos e0] at c3
    rw [Bool.and_eq_true] at c3
    have a0 : 0 ≤ s.m.a := of_decide_eq_true c3.1
    have c4 := c3.2
    unfold isB at c4
    rw [Bool.and_eq_true] at c4
    have i1 := of_decide_eq_true c4.1
    have i2 := of_decide_eq_true c4.2
    rw [h.r, o4] at i1
    rw [h.r, o4, o5] at i2
    rw [exV, if_pos c1, h.r, o4, ago_at hl bs s.m.a a0 i1 i2] at c2
    obtain ⟨k1, k2⟩ := h3 a0
    refine ⟨(mtB_iff _).2 (.inr ⟨?_, ?_, ?_, ?_⟩), .inl ?_, fun _ => ⟨?_, ?_⟩, fun _ j j1 j2 => ?_⟩
    · show 0 ≤ s.m.a + 1; omega
    · show s.m.a + 1 ≤ _; omega
    · show 1 ≤ min (s.m.k + 1) 40; omega
    · show min (s.m.k + 1) 40 ≤ 40; omega
    · show s.m.a + 1 < _; rw [List.length_append, List.length_singleton]; omega
    · show min (s.m.k + 1) 40 ≤ s.m.a + 1; omega
    · show 3 ≤ min (s.m.k + 1) 40; omega
    · have j3 : (j : Int) ≤ min (s.m.k + 1) 40 := j2
      show (bs ++ [c]).getD (s.m.a + 1 - j).toNat 0 = _
      rw [List.length_append, List.length_singleton, getD_snoc, getD_snoc, if_pos (by omega)]
      by_cases e1 : j = 1
      · subst e1
        rw [if_neg (by omega), if_pos (by omega), ← c2]
        congr 1
        omega
      · rw [if_pos (by omega)]
        have := h4 a0 (j - 1) (by omega) (by omega)
        rw [show (s.m.a + 1 - (j : Int)).toNat = (s.m.a - ((j - 1 : Nat) : Int)).toNat by omega, this]
        congr 1
        omega
  · rw [if_neg hc]; exact ok_no _
theorem look_ok {l : Int} (hl : lvB l = true) (bs : List Int) (c : Int) (hm : bs.length < 700) {s : St3} (h : True3 l bs s) : Ok3 (bs ++ [c]) (lookM (putR s.r [c]) s.f) := by
  have hput : putR s.r [c] = putR (newR l) (bs ++ [c]) := by rw [h.r, ← putR_app]
  rw [hput]
  obtain ⟨-, -, o3, o4, o5⟩ := put_new hl (bs ++ [c]) (by simp; omega)
  have hlen : (bs ++ [c]).length = bs.length + 1 := by simp
  unfold lookM
  rw [find_ok h.f, o4]
  have hq := h.fn (plc s.f (keyH (putR (newR l) (bs ++ [c]))))
  generalize s.f.s.getD (plc s.f (keyH (putR (newR l) (bs ++ [c])))) 0 = q at *
  split
  · exact ok_no _
  rename_i hn
  split
  · exact ok_no _
  rename_i hk
  have q0 : 0 ≤ q := by omega
  have key : ∀ j : Nat, 1 ≤ j → (j : Int) ≤ (full (putR (newR l) (bs ++ [c])) q : Int) → 0 ≤ q - j ∧ (bs ++ [c]).getD (q - j).toNat 0 = (bs ++ [c]).getD ((bs ++ [c]).length - j) 0 := by
    intro j j1 j2
    have e := full_eq (r := putR (newR l) (bs ++ [c])) (n := q) (i := j - 1) (by omega)
    rw [show ((j - 1 : Nat) : Int) + 1 = j by omega] at e
    unfold eqB thB at e
    simp only [Bool.and_eq_true, decide_eq_true_eq, o4, o5] at e
    obtain ⟨⟨e1, e2, e3⟩, ⟨e4, e5, e6⟩, e7⟩ := e
    refine ⟨e1, ?_⟩
    rw [ago_at hl (bs ++ [c]) (q - j) e1 e2 (by omega)] at e7
    rw [e7]
    have := ago_at hl (bs ++ [c]) ((bs ++ [c]).length - (j : Int)) e4 e5 (by omega)
    rw [show ((bs ++ [c]).length : Int) - (((bs ++ [c]).length : Int) - (j : Int)) = j by omega] at this
    rw [this]
    congr 1
    omega
  have hf := Int.min_le_left (full (putR (newR l) (bs ++ [c])) q : Int) 40
  have hf2 := Int.min_le_right (full (putR (newR l) (bs ++ [c])) q : Int) 40
  refine ⟨(mtB_iff _).2 (.inr ⟨q0, ?_, ?_, hf2⟩), .inl ?_, fun _ => ⟨?_, ?_⟩, fun _ j j1 j2 => ?_⟩
  · show q ≤ _; omega
  · show 1 ≤ min _ _; omega
  · show q < _; omega
  · show min _ _ ≤ q
    have := (key (min (full (putR (newR l) (bs ++ [c])) q : Int) 40).toNat (by omega) (by omega)).1
    omega
  · show 3 ≤ min _ _; omega
  · have j3 : (j : Int) ≤ min (full (putR (newR l) (bs ++ [c])) q : Int) 40 := j2
    exact (key j j1 (by omega)).2
theorem step_true {l : Int} (hl : lvB l = true) (bs : List Int) (c : Int) (hm : bs.length < 700) {s : St3} (h : True3 l bs s) : True3 l (bs ++ [c]) (step3 s c) := by
  have hput : putR s.r [c] = putR (newR l) (bs ++ [c]) := by rw [h.r, ← putR_app]
  obtain ⟨-, -, o3, o4, o5⟩ := put_new hl bs (by omega)
  have hlen : (bs ++ [c]).length = bs.length + 1 := by simp
  have hn : s.r.n = bs.length := by rw [h.r, o4]
  refine ⟨hput, fput_ok h.f (by rw [hn]; omega) (by rw [hn]; omega), ?_, ?_, ?_⟩
  · show (s.f.s.set _ _).length = _
    rw [List.length_set, h.fl]
  · intro p
    show (s.f.s.set (plc s.f (keyH (putR s.r [c]))) (s.r.n + 1)).getD p 0 ≤ _
    rw [getD_set_row _ _ _ _ (plc_lt h.f _), hlen]
    split
    · rw [hn]; omega
    · have := h.fn p; omega
  · show Ok3 (bs ++ [c]) (nextM s.m s.r s.f c)
    unfold nextM
    split
    · exact look_ok hl bs c hm h
    · exact on_ok hl bs c hm h
theorem came_true {l : Int} (hl : lvB l = true) : ∀ (n : Nat) (bs : List Int), bs.length = n → n ≤ 700 → True3 l bs (came3 l bs)
  | 0, bs, h, _ => by rw [List.eq_nil_of_length_eq_zero h]; exact true_nil hl
  | n + 1, bs, h, hn => by
    rcases List.eq_nil_or_concat bs with rfl | ⟨k, c, rfl⟩
    · simp at h
    rw [List.concat_eq_append] at h ⊢
    rw [List.length_append, List.length_singleton] at h
    rw [came_snoc]
    exact step_true hl k c (by omega) (came_true hl n k (by omega) (by omega))
/-- What comes of a step, all at once. -/
theorem step_all {l : Int} (hl : lvB l = true) (bs : List Int) (c : Int) (hm : bs.length < 700) {s : St3} (h : True3 l bs s) : byE s.m s.r s.f = 0 ∧ byM s.m s.r s.f c = (step3 s c).m ∧ byR s.m s.r s.f c = (step3 s c).r ∧ byF s.m s.r s.f c = (step3 s c).f := by
  obtain ⟨-, -, o3, o4, o5⟩ := put_new hl bs (by omega)
  have e : byE s.m s.r s.f = 0 := by
    unfold byE
    rw [if_pos ⟨exE_yes h.m.1 (by rw [h.r]; exact o3), fdE_yes h.f⟩, if_neg (by rw [h.r, o4]; omega)]
  exact ⟨e, by rw [byM, if_pos e]; rfl, by rw [byR, if_pos e]; rfl, by rw [byF, if_pos e]; rfl⟩
end Go.Proofs.Ytemiecghdmagnaa.maP

namespace Go.Proofs.Ytemiecghdmagnaa.maP
set_option maxRecDepth 100000
open Go.RowKit Go.Proofs.Ytemiecghdmagnaa.base Go.Proofs.Ytemiecghdmagnaa.rgP Go.Proofs.Ytemiecghdmagnaa.fdP Go.Proofs.Ytemiecghdmagnaa.cxP Go.Proofs.Ytemiecghdmagnaa.hashP Go.Proofs.Ytemiecghdmagnaa.hashW Go.Proofs.Ytemiecghdmagnaa.nibP
set_option linter.unusedVariables false
theorem last4 {l : Int} (hl : lvB l = true) (bs : List Int) (hm : bs.length ≤ 700) : lastL (putR (newR l) bs) 4 = (List.replicate 4 0 ++ bs).drop bs.length := by
  obtain ⟨-, -, h3, h4, h5⟩ := put_new hl bs hm
  have hs := sz_bd hl
  refine getD_ext (by simp [last_len]; omega) fun i hi => ?_
  have hi : i < 4 := by simpa [last_len] using hi
  rw [last_at _ 4 i hi, List.getD_eq_getElem?_getD, List.getElem?_drop]
  by_cases c : bs.length < 4 - i
  · rw [ago, if_pos (by rw [h4]; omega), List.getElem?_append_left (by simp; omega), List.getElem?_replicate, if_pos (by omega)]
    rfl
  · have := ago_put hl bs (4 - i) (by omega) (by omega) (by omega)
    rw [show ((4 - i : Nat) : Int) = ((4 : Nat) : Int) - i by omega] at this
    rw [this, List.getElem?_append_right (by simp; omega), List.getD_eq_getElem?_getD]
    congr 2
    simp
    omega
/-- The hash of the last four of the first k bytes; its place. -/
def keyL (bs : List Int) (k : Nat) : Int := hSteps (kStart 6) ((List.replicate 4 0 ++ bs.take k).drop k)
def plk (sz : Nat) (bs : List Int) (k : Nat) : Nat := (keyL bs k % (sz : Int)).toNat
/-- Which of the first k prefixes was put last at a place. -/
def lastAt (sz : Nat) (bs : List Int) (p : Nat) : Nat → Int
  | 0 => -1
  | k + 1 => if plk sz bs (k + 1) = p then ((k + 1 : Nat) : Int) else lastAt sz bs p k
theorem key_eq {l : Int} (hl : lvB l = true) (bs : List Int) (k : Nat) (hk : k ≤ bs.length) (hm : bs.length ≤ 700) : keyH (putR (newR l) (bs.take k)) = keyL bs k := by
  unfold keyH keyL
  rw [last4 hl (bs.take k) (by rw [List.length_take]; omega), List.length_take, Nat.min_eq_left hk]
theorem came_take {l : Int} (bs : List Int) (k : Nat) (hk : k < bs.length) : came3 l (bs.take (k + 1)) = step3 (came3 l (bs.take k)) (bs.getD k 0) := by
  rw [take_snoc 0 bs k hk, came_snoc]
theorem true_at {l : Int} (hl : lvB l = true) (bs : List Int) (k : Nat) (hk : k ≤ bs.length) (hm : bs.length ≤ 600) : True3 l (bs.take k) (came3 l (bs.take k)) :=
  came_true hl k (bs.take k) (by rw [List.length_take]; omega) (by omega)
theorem put_take {l : Int} (hl : lvB l = true) (bs : List Int) (k : Nat) (hk : k < bs.length) (hm : bs.length ≤ 600) : putR (came3 l (bs.take k)).r [bs.getD k 0] = putR (newR l) (bs.take (k + 1)) := by
  rw [(true_at hl bs k (by omega) hm).r, ← putR_app, ← take_snoc 0 bs k hk]
theorem find_at {l : Int} (hl : lvB l = true) (bs : List Int) (hm : bs.length ≤ 600) (p : Nat) (hp : p < szOf l) : ∀ k, k ≤ bs.length → (came3 l (bs.take k)).f.s.getD p 0 = lastAt (szOf l) bs p k
  | 0, _ => by
    show (newF l).s.getD p 0 = -1
    rw [newF, if_pos hl]
    show (List.replicate (szOf l) (-1 : Int)).getD p 0 = -1
    rw [List.getD_eq_getElem?_getD, List.getElem?_replicate, if_pos hp]
    rfl
  | k + 1, hk => by
    have ih := find_at hl bs hm p hp k (by omega)
    have ht := true_at hl bs k (by omega) hm
    rw [came_take bs k (by omega)]
    show ((came3 l (bs.take k)).f.s.set (plc (came3 l (bs.take k)).f (keyH (putR (came3 l (bs.take k)).r [bs.getD k 0]))) ((came3 l (bs.take k)).r.n + 1)).getD p 0 = _
    have e1 : plc (came3 l (bs.take k)).f (keyH (putR (came3 l (bs.take k)).r [bs.getD k 0])) = plk (szOf l) bs (k + 1) := by
      rw [put_take hl bs k (by omega) hm, key_eq hl bs (k + 1) hk (by omega), plc, ht.fl]
      rfl
    have e2 : (came3 l (bs.take k)).r.n = k := by
      rw [ht.r, (put_new hl (bs.take k) (by rw [List.length_take]; omega)).2.2.2.1, List.length_take]
      omega
    rw [getD_set_row _ _ _ _ (plc_lt ht.f _), e1, e2, ih]
    show _ = if _ then _ else _
    by_cases c : plk (szOf l) bs (k + 1) = p
    · rw [if_pos c, if_pos c]; omega
    · rw [if_neg c, if_neg c]
/-- What a finder tells of the next byte. -/
theorem told_at {l : Int} (hl : lvB l = true) (bs : List Int) (hm : bs.length ≤ 600) (k : Nat) (hk : k < bs.length) : findV (came3 l (bs.take k)).f (keyH (putR (came3 l (bs.take k)).r [bs.getD k 0])) = lastAt (szOf l) bs (plk (szOf l) bs (k + 1)) k := by
  have ht := true_at hl bs k (by omega) hm
  have e1 : plc (came3 l (bs.take k)).f (keyH (putR (came3 l (bs.take k)).r [bs.getD k 0])) = plk (szOf l) bs (k + 1) := by
    rw [put_take hl bs k (by omega) hm, key_eq hl bs (k + 1) hk (by omega), plc, ht.fl]
    rfl
  rw [find_ok ht.f, e1]
  refine find_at hl bs hm _ ?_ k (by omega)
  rw [← e1, ← ht.fl]
  exact plc_lt ht.f _
theorem on_no (r : Rg) (c : Int) : onM noM r c = noM := by
  have h : exB noM r = false := by unfold exB; split <;> rfl
  unfold onM
  rw [if_neg (by rw [h]; simp)]
theorem none_next {l : Int} (hl : lvB l = true) (bs : List Int) (hm : bs.length ≤ 600) (k : Nat) (hk : k < bs.length) (h0 : (came3 l (bs.take k)).m = noM) (h1 : lastAt (szOf l) bs (plk (szOf l) bs (k + 1)) k = -1) : (came3 l (bs.take (k + 1))).m = noM := by
  rw [came_take bs k hk]
  show nextM _ _ _ _ = noM
  unfold nextM
  rw [h0, on_no, if_pos (by rfl)]
  unfold lookM
  rw [told_at hl bs hm k hk, h1, if_pos (.inl (by decide))]
theorem none_all {l : Int} (hl : lvB l = true) (bs : List Int) (hm : bs.length ≤ 600) : ∀ k, k ≤ bs.length → (∀ j, j < k → lastAt (szOf l) bs (plk (szOf l) bs (j + 1)) j = -1) → (came3 l (bs.take k)).m = noM
  | 0, _, _ => rfl
  | k + 1, hk, h => none_next hl bs hm k (by omega) (none_all hl bs hm k (by omega) (fun j hj => h j (by omega))) (h k (by omega))
/-- Equal bytes, by the list. -/
theorem eqB_list {l : Int} (hl : lvB l = true) (bs : List Int) (hm : bs.length ≤ 64) (q j : Nat) (j1 : 1 ≤ j) (hj : j ≤ q) (hq : q ≤ bs.length) (h : bs.getD (q - j) 0 = bs.getD (bs.length - j) 0) : eqB (putR (newR l) bs) q j = true := by
  obtain ⟨-, -, h3, h4, h5⟩ := put_new hl bs (by omega)
  have hs := sz_bd hl
  unfold eqB thB
  rw [h4, h5]
  have e1 := ago_at hl bs ((q : Int) - j) (by omega) (by omega) (by omega)
  have e2 := ago_at hl bs ((bs.length : Int) - j) (by omega) (by omega) (by omega)
  rw [show ((bs.length : Int) - ((bs.length : Int) - (j : Int))) = j by omega] at e2
  rw [e1, e2, show ((q : Int) - j).toNat = q - j by omega, show ((bs.length : Int) - j).toNat = bs.length - j by omega, h]
  simp only [Bool.and_eq_true, decide_eq_true_eq]
  refine ⟨⟨?_, ?_, ?_⟩, ⟨?_, ?_, ?_⟩, ?_⟩
  all_goals first | trivial | omega
theorem full_least {l : Int} (hl : lvB l = true) (bs : List Int) (hm : bs.length ≤ 64) (q i : Nat) (hi : i ≤ q) (hq : q ≤ bs.length) (h : ∀ j, 1 ≤ j → j ≤ i → bs.getD (q - j) 0 = bs.getD (bs.length - j) 0) : i ≤ full (putR (newR l) bs) q := by
  obtain ⟨-, -, h3, h4, h5⟩ := put_new hl bs (by omega)
  refine full_at h3 (by rw [h4]; omega) fun t ht => ?_
  have := eqB_list hl bs hm q (t + 1) (by omega) (by omega) hq (h (t + 1) (by omega) (by omega))
  rw [show ((t + 1 : Nat) : Int) = (t : Int) + 1 by omega] at this
  exact this
/-- No match is longer than what stands before it. -/
theorem full_most {l : Int} (hl : lvB l = true) (bs : List Int) (hm : bs.length ≤ 600) (q : Nat) (hq : q ≤ bs.length) : full (putR (newR l) bs) q ≤ q := by
  obtain ⟨-, -, h3, h4, h5⟩ := put_new hl bs (by omega)
  rcases Nat.lt_or_ge q (full (putR (newR l) bs) q) with h | h
  · have := full_eq h
    unfold eqB thB at this
    simp only [Bool.and_eq_true, decide_eq_true_eq] at this
    omega
  · exact h
theorem step3_m (s : St3) (c : Int) : (step3 s c).m = nextM s.m s.r s.f c := rfl
def ex9 : List Int := [97, 98, 99, 100, 101, 97, 98, 99, 100]
def ex8 : List Int := [97, 98, 99, 100, 101, 97, 98, 99]
theorem sz7 : szOf 7 = 8192 := by decide +kernel
theorem ex_places : (∀ j, j < 8 → lastAt 8192 ex9 (plk 8192 ex9 (j + 1)) j = -1) ∧ lastAt 8192 ex9 (plk 8192 ex9 9) 8 = 4 := by decide +kernel
theorem ex8_none : (came3 7 ex8).m = noM := by
  have h := none_all (l := 7) (by decide) ex9 (by decide) 8 (by decide) (by rw [sz7]; exact ex_places.1)
  exact h
theorem ex9_match : (came3 7 ex9).m = ⟨4, 4⟩ := by
  have h0 : (came3 7 (ex9.take 8)).m = noM := none_all (l := 7) (by decide) ex9 (by decide) 8 (by decide) (by rw [sz7]; exact ex_places.1)
  have e : ex9 = ex9.take (8 + 1) := rfl
  have hf : full (putR (newR 7) ex9) 4 = 4 := by
    have a := full_least (l := 7) (by decide) ex9 (by decide) 4 4 (by decide) (by decide) (by intro j h1 h2; rcases (show j = 1 ∨ j = 2 ∨ j = 3 ∨ j = 4 by omega) with rfl | rfl | rfl | rfl <;> rfl)
    have b := full_most (l := 7) (by decide) ex9 (by decide) 4 (by decide)
    have a' : 4 ≤ full (putR (newR 7) ex9) 4 := a
    have b' : full (putR (newR 7) ex9) 4 ≤ 4 := b
    omega
  rw [e, came_take ex9 8 (by decide), step3_m]
  unfold nextM
  rw [h0, on_no, if_pos (by rfl)]
  unfold lookM
  have e2 := told_at (l := 7) (by decide) ex9 (by decide) 8 (by decide)
  rw [sz7, ex_places.2] at e2
  have e3 := put_take (l := 7) (by decide) ex9 8 (by decide) (by decide)
  rw [← e] at e3
  have e4 : (putR (newR 7) ex9).n = 9 := (put_new (l := 7) (by decide) ex9 (by decide)).2.2.2.1
  rw [e2, e3, e4, hf, if_neg (by decide), if_neg (by decide)]
  rfl
theorem ex_ring (bs : List Int) (h : bs.length ≤ 600) : (came3 7 bs).r = putR (newR 7) bs := (came_true (l := 7) (by decide) bs.length bs rfl (by omega)).r
theorem ex_facts : exE (came3 7 ex9).m (came3 7 ex9).r = 0 ∧ exB (came3 7 ex9).m (came3 7 ex9).r = true ∧ exV (came3 7 ex9).m (came3 7 ex9).r = 101 ∧ inE (came3 7 ex9).m (came3 7 ex9).r 1 = 0 ∧ inV (came3 7 ex9).m (came3 7 ex9).r 1 = -200 := by
  have hr := ex_ring ex9 (by decide)
  obtain ⟨-, -, h3, h4, h5⟩ := put_new (l := 7) (by decide) ex9 (by decide)
  rw [hr, ex9_match]
  have e0 : exE ⟨4, 4⟩ (putR (newR 7) ex9) = 0 := exE_yes (by decide) h3
  have e1 : exB ⟨4, 4⟩ (putR (newR 7) ex9) = true := by
    rw [exB, if_pos e0]
    unfold isB
    rw [h4, h5, sz7]
    rfl
  have e2 : exV ⟨4, 4⟩ (putR (newR 7) ex9) = 101 := by
    have := ago_at (l := 7) (by decide) ex9 4 (by decide) (by decide) (by rw [sz7]; decide)
    rw [exV, if_pos e1, h4, this]
    rfl
  have e3 : inE ⟨4, 4⟩ (putR (newR 7) ex9) 1 = 0 := by rw [inE, if_pos e0]; rfl
  refine ⟨e0, e1, e2, e3, ?_⟩
  rw [inV, if_pos e3, if_pos e1, e2]
  decide +kernel
theorem ex8_facts : exE (came3 7 ex8).m (came3 7 ex8).r = 0 ∧ exB (came3 7 ex8).m (came3 7 ex8).r = false := by
  have hr := ex_ring ex8 (by decide)
  obtain ⟨-, -, h3, h4, h5⟩ := put_new (l := 7) (by decide) ex8 (by decide)
  rw [hr, ex8_none]
  have e0 : exE noM (putR (newR 7) ex8) = 0 := exE_yes (by decide) h3
  exact ⟨e0, by rw [exB, if_pos e0]; rfl⟩
end Go.Proofs.Ytemiecghdmagnaa.maP
