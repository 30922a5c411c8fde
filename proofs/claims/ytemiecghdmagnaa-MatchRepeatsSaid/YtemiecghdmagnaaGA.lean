/- Several texts as one: RgPlain, FdPlain, FdMt, NibPlain. -/
import Derived.RowKit
namespace Go.Proofs.Ytemiecghdmagnaa.rgP
set_option maxRecDepth 100000
open Go.RowKit

/-- A ring: its level, its bytes, how many were put. -/
structure Rg where
  l : Int
  b : List Int
  n : Int
def lvB (l : Int) : Bool := decide (0 ≤ l) && decide (l ≤ 7)
def szOf (l : Int) : Nat := 64 * 2 ^ l.toNat
def restB (b : List Int) (n : Nat) : Bool := (b.drop n).all (· == 0)
def rgShape (r : Rg) : Bool := lvB r.l && (decide (r.b.length = szOf r.l) && (decide (0 ≤ r.n) && decide (r.n ≤ 1073741824)))
def rgOk (r : Rg) : Bool := rgShape r && restB r.b r.n.toNat
def rgE (r : Rg) : Int := if rgOk r then 0 else 8
def zeroR : Rg := ⟨0, [], 0⟩
def newE (l : Int) : Int := if lvB l then 0 else 2
def newR (l : Int) : Rg := if lvB l then ⟨l, List.replicate (szOf l) 0, 0⟩ else zeroR
def put1 (r : Rg) (c : Int) : Rg := ⟨r.l, r.b.set (r.n.toNat % r.b.length) c, r.n + 1⟩
def putR (r : Rg) (l : List Int) : Rg := l.foldl put1 r
def putE (r : Rg) (l : List Int) : Int := if rgOk r then (if 20000 < l.length then 4 else if 1073741824 - r.n < l.length then 16 else 0) else 8
def putV (r : Rg) (l : List Int) : Rg := if putE r l = 0 then putR r l else zeroR
def ago (r : Rg) (k : Int) : Int := if r.n < k then 0 else r.b.getD ((r.n - k).toNat % r.b.length) 0
def backE (r : Rg) (k : Int) : Int := if rgOk r then (if 1 ≤ k ∧ k ≤ r.b.length then 0 else 2) else 8
def backV (r : Rg) (k : Int) : Int := if backE r k = 0 then ago r k else 0
def isB (r : Rg) (n : Int) : Bool := decide (n < r.n) && decide (r.n - n ≤ r.b.length)
def atE (r : Rg) (n : Int) : Int := if rgOk r then (if 0 ≤ n then 0 else 2) else 8
def atB (r : Rg) (n : Int) : Bool := if atE r n = 0 then isB r n else false
def atV (r : Rg) (n : Int) : Int := if atE r n = 0 then (if isB r n then ago r (r.n - n) else 0) else 0
def lastE (r : Rg) (k : Int) : Int := if rgOk r then (if 0 ≤ k ∧ k ≤ r.b.length then (if r.n < k then 18 else 0) else 2) else 8
def lastL (r : Rg) (k : Nat) : List Int := (List.range k).map fun (i : Nat) => ago r ((k : Int) - (i : Int))
def lastV (r : Rg) (k : Int) : List Int := if lastE r k = 0 then lastL r k.toNat else []

theorem lvB_iff (l : Int) : lvB l = true ↔ 0 ≤ l ∧ l ≤ 7 := by simp [lvB]
theorem lv_cases {l : Int} (h : lvB l = true) : l = 0 ∨ l = 1 ∨ l = 2 ∨ l = 3 ∨ l = 4 ∨ l = 5 ∨ l = 6 ∨ l = 7 := by rw [lvB_iff] at h; omega
theorem sz_bd {l : Int} (h : lvB l = true) : 64 ≤ szOf l ∧ szOf l ≤ 8192 := by
  rcases lv_cases h with rfl | rfl | rfl | rfl | rfl | rfl | rfl | rfl <;> decide +kernel
theorem restB_iff (b : List Int) (n : Nat) : restB b n = true ↔ ∀ i, n ≤ i → b.getD i 0 = 0 := by
  unfold restB
  rw [List.all_eq_true]
  constructor
  · intro h i hi
    rw [List.getD_eq_getElem?_getD]
    rcases hx : b[i]? with _ | x
    · rfl
    · have hm : x ∈ b.drop n := by
        rw [List.mem_iff_getElem?]
        exact ⟨i - n, by rw [List.getElem?_drop, show n + (i - n) = i by omega]; exact hx⟩
      have := h x hm
      simpa using this
  · intro h x hx
    obtain ⟨i, hi⟩ := List.mem_iff_getElem?.1 hx
    rw [List.getElem?_drop] at hi
    have := h (n + i) (by omega)
    rw [List.getD_eq_getElem?_getD, hi] at this
    simpa using this
theorem rgShape_iff (r : Rg) : rgShape r = true ↔ lvB r.l = true ∧ r.b.length = szOf r.l ∧ 0 ≤ r.n ∧ r.n ≤ 1073741824 := by simp [rgShape]
theorem rgOk_iff (r : Rg) : rgOk r = true ↔ (lvB r.l = true ∧ r.b.length = szOf r.l ∧ 0 ≤ r.n ∧ r.n ≤ 1073741824) ∧ ∀ i, r.n.toNat ≤ i → r.b.getD i 0 = 0 := by
  rw [rgOk, Bool.and_eq_true, rgShape_iff, restB_iff]
theorem putR_snoc (r : Rg) (l : List Int) (c : Int) : putR r (l ++ [c]) = put1 (putR r l) c := by simp [putR]
theorem putR_app (r : Rg) (k l : List Int) : putR r (k ++ l) = putR (putR r k) l := by simp [putR, List.foldl_append]
theorem put1_len (r : Rg) (c : Int) : (put1 r c).b.length = r.b.length := by simp [put1]
theorem putR_len : ∀ (l : List Int) (r : Rg), (putR r l).b.length = r.b.length
  | [], _ => rfl
  | c :: l, r => by show (putR (put1 r c) l).b.length = _; rw [putR_len l, put1_len]
theorem putR_n : ∀ (l : List Int) (r : Rg), (putR r l).n = r.n + l.length
  | [], r => by simp [putR]
  | c :: l, r => by
    show (putR (put1 r c) l).n = _
    rw [putR_n l]; simp [put1]; omega
theorem putR_l : ∀ (l : List Int) (r : Rg), (putR r l).l = r.l
  | [], _ => rfl
  | c :: l, r => by show (putR (put1 r c) l).l = _; rw [putR_l l]; rfl
theorem getD_set_row (l : List Int) (i j : Nat) (x : Int) (hi : i < l.length) : (l.set i x).getD j 0 = if i = j then x else l.getD j 0 := by
  simp only [List.getD_eq_getElem?_getD, List.getElem?_set]
  by_cases c : i = j
  · subst c; simp [hi]
  · simp [c]
theorem put1_ok {r : Rg} {c : Int} (h : rgOk r = true) (hn : r.n < 1073741824) : rgOk (put1 r c) = true := by
  rw [rgOk_iff] at *
  obtain ⟨⟨h1, h2, h3, h4⟩, h5⟩ := h
  have hs := sz_bd h1
  refine ⟨⟨h1, by rw [put1_len, h2]; rfl, by show 0 ≤ r.n + 1; omega, by show r.n + 1 ≤ 1073741824; omega⟩, fun i hi => ?_⟩
  have hi' : (r.n + 1).toNat ≤ i := hi
  show (r.b.set (r.n.toNat % r.b.length) c).getD i 0 = 0
  have hm : r.n.toNat % r.b.length < r.b.length := Nat.mod_lt _ (by omega)
  rw [getD_set_row _ _ _ _ hm, if_neg]
  · exact h5 i (by omega)
  · intro e
    have : r.n.toNat % r.b.length ≤ r.n.toNat := Nat.mod_le _ _
    omega
theorem putR_ok : ∀ (l : List Int) {r : Rg}, rgOk r = true → r.n + l.length ≤ 1073741824 → rgOk (putR r l) = true
  | [], _, h, _ => h
  | c :: l, r, h, hn => by
    have hn' : r.n + (l.length + 1 : Nat) ≤ 1073741824 := by simpa using hn
    exact putR_ok l (put1_ok h (by omega)) (by show r.n + 1 + (l.length : Int) ≤ 1073741824; omega)
theorem newR_ok {l : Int} (h : lvB l = true) : rgOk (newR l) = true := by
  rw [newR, if_pos h, rgOk_iff]
  refine ⟨⟨h, List.length_replicate, Int.le_refl 0, (by omega : (0 : Int) ≤ 1073741824)⟩, fun i _ => ?_⟩
  rw [List.getD_eq_getElem?_getD, List.getElem?_replicate]
  split <;> rfl
theorem mod_ne {a b m : Nat} (h : a < b) (hm : b - a < m) : a % m ≠ b % m := by
  intro e
  have h1 : (b - a) % m = 0 := (Nat.sub_mod_eq_zero_of_mod_eq e.symm)
  rw [Nat.mod_eq_of_lt hm] at h1
  omega
/-- What was put at an index is there as long as fewer bytes than there are places were put behind it. -/
theorem putR_get_aux : ∀ (n : Nat) (l : List Int), l.length = n → ∀ (r : Rg) (j : Nat), 0 ≤ r.n → 0 < r.b.length → j < l.length → l.length - j ≤ r.b.length → (putR r l).b.getD ((r.n.toNat + j) % r.b.length) 0 = l.getD j 0
  | 0, l, hl, r, j, _, _, h, _ => by omega
  | n + 1, l, hl, r, j, hn, hp, hj, hk => by
    rcases List.eq_nil_or_concat l with h0 | ⟨k, c, hc⟩
    · rw [h0] at hl; simp at hl
    · rw [List.concat_eq_append] at hc
      subst hc
      rw [List.length_append, List.length_singleton] at hj hk hl
      rw [putR_snoc]
      show ((putR r k).b.set ((putR r k).n.toNat % (putR r k).b.length) c).getD _ 0 = _
      have hm : (putR r k).n.toNat % (putR r k).b.length < (putR r k).b.length := Nat.mod_lt _ (by rw [putR_len]; exact hp)
      rw [getD_set_row _ _ _ _ hm, putR_len, putR_n, show (r.n + (k.length : Int)).toNat = r.n.toNat + k.length by omega]
      by_cases e : j = k.length
      · subst e
        rw [if_pos rfl, List.getD_eq_getElem?_getD]; simp
      · rw [if_neg (fun e' => mod_ne (a := r.n.toNat + j) (b := r.n.toNat + k.length) (by omega) (by omega) e'.symm), putR_get_aux n k (by omega) r j hn hp (by omega) (by omega), List.getD_eq_getElem?_getD, List.getD_eq_getElem?_getD, List.getElem?_append_left (by omega)]
theorem putR_get (l : List Int) (r : Rg) (j : Nat) (hn : 0 ≤ r.n) (hp : 0 < r.b.length) (hj : j < l.length) (hk : l.length - j ≤ r.b.length) : (putR r l).b.getD ((r.n.toNat + j) % r.b.length) 0 = l.getD j 0 := putR_get_aux l.length l rfl r j hn hp hj hk
end Go.Proofs.Ytemiecghdmagnaa.rgP

namespace Go.Proofs.Ytemiecghdmagnaa.fdP
set_option maxRecDepth 100000
open Go.RowKit Go.Proofs.Ytemiecghdmagnaa.rgP

/-- A finder: its level, the numbers at its places. -/
structure Fnd where
  l : Int
  s : List Int
def numB (x : Int) : Bool := decide (-1 ≤ x) && decide (x ≤ 1073741824)
def fdShape (f : Fnd) : Bool := lvB f.l && decide (f.s.length = szOf f.l)
def fdOk (f : Fnd) : Bool := fdShape f && f.s.all numB
def fdE (f : Fnd) : Int := if fdOk f then 0 else 8
def zeroF : Fnd := ⟨0, []⟩
def newF (l : Int) : Fnd := if lvB l then ⟨l, List.replicate (szOf l) (-1)⟩ else zeroF
def plc (f : Fnd) (h : Int) : Nat := (h % (f.s.length : Int)).toNat
def findV (f : Fnd) (h : Int) : Int := if fdOk f then f.s.getD (plc f h) 0 else 0
def placeFV (f : Fnd) (h : Int) : Int := if fdOk f then h % (f.s.length : Int) else 0
def fputE (f : Fnd) (n : Int) : Int := if fdOk f then (if 0 ≤ n ∧ n ≤ 1073741824 then 0 else 2) else 8
def fput (f : Fnd) (h n : Int) : Fnd := ⟨f.l, f.s.set (plc f h) n⟩
def fputV (f : Fnd) (h n : Int) : Fnd := if fputE f n = 0 then fput f h n else zeroF

theorem numB_iff (x : Int) : numB x = true ↔ -1 ≤ x ∧ x ≤ 1073741824 := by simp [numB]
theorem fdShape_iff (f : Fnd) : fdShape f = true ↔ lvB f.l = true ∧ f.s.length = szOf f.l := by simp [fdShape]
theorem fdOk_iff (f : Fnd) : fdOk f = true ↔ (lvB f.l = true ∧ f.s.length = szOf f.l) ∧ ∀ x ∈ f.s, -1 ≤ x ∧ x ≤ 1073741824 := by
  rw [fdOk, Bool.and_eq_true, fdShape_iff, List.all_eq_true]
  simp only [numB_iff]
theorem fdE_yes {f : Fnd} (h : fdOk f = true) : fdE f = 0 := by rw [fdE, if_pos h]
theorem fdE_no {f : Fnd} (h : fdOk f = false) : fdE f = 8 := by rw [fdE, if_neg (by rw [h]; decide)]
theorem fd_len {f : Fnd} (h : fdOk f = true) : 64 ≤ f.s.length ∧ f.s.length ≤ 8192 := by
  have h1 := (fdOk_iff f).1 h
  have := sz_bd h1.1.1
  omega
theorem plc_lt {f : Fnd} (h : fdOk f = true) (x : Int) : plc f x < f.s.length := by
  have h1 := fd_len h
  unfold plc
  have := Int.emod_lt_of_pos x (show (0 : Int) < f.s.length by omega)
  have := Int.emod_nonneg x (show (f.s.length : Int) ≠ 0 by omega)
  omega
theorem plc_int {f : Fnd} (h : fdOk f = true) (x : Int) : (plc f x : Int) = x % (f.s.length : Int) := by
  have h1 := fd_len h
  unfold plc
  have := Int.emod_nonneg x (show (f.s.length : Int) ≠ 0 by omega)
  omega
theorem fput_ok {f : Fnd} {h n : Int} (hf : fdOk f = true) (h1 : 0 ≤ n) (h2 : n ≤ 1073741824) : fdOk (fput f h n) = true := by
  rw [fdOk_iff] at *
  refine ⟨⟨hf.1.1, by show (f.s.set _ _).length = _; rw [List.length_set]; exact hf.1.2⟩, ?_⟩
  intro x hx
  rcases List.mem_or_eq_of_mem_set hx with h3 | h3
  · exact hf.2 x h3
  · rw [h3]; omega
theorem newF_ok {l : Int} (h : lvB l = true) : fdOk (newF l) = true := by
  rw [newF, if_pos h, fdOk_iff]
  refine ⟨⟨h, List.length_replicate⟩, fun x hx => ?_⟩
  have := List.eq_of_mem_replicate hx
  omega
/-- The numbers of places are powers of two. -/
theorem szOf_pow {l : Int} (h : lvB l = true) : ∃ k : Nat, k ≤ 20 ∧ ((szOf l : Nat) : Int) = 2 ^ k := by
  rcases lv_cases h with rfl | rfl | rfl | rfl | rfl | rfl | rfl | rfl
  · exact ⟨6, by decide, by decide +kernel⟩
  · exact ⟨7, by decide, by decide +kernel⟩
  · exact ⟨8, by decide, by decide +kernel⟩
  · exact ⟨9, by decide, by decide +kernel⟩
  · exact ⟨10, by decide, by decide +kernel⟩
  · exact ⟨11, by decide, by decide +kernel⟩
  · exact ⟨12, by decide, by decide +kernel⟩
  · exact ⟨13, by decide, by decide +kernel⟩
end Go.Proofs.Ytemiecghdmagnaa.fdP

namespace Go.Proofs.Ytemiecghdmagnaa.fdP
set_option maxRecDepth 100000
open Go.RowKit Go.Proofs.Ytemiecghdmagnaa.rgP
set_option linter.unusedVariables false

def thB (r : Rg) (n : Int) : Bool := decide (0 ≤ n) && (decide (n < r.n) && decide (r.n - n ≤ r.b.length))
/-- Are the bytes that are i before n and before the end both there, and the same? -/
def eqB (r : Rg) (n i : Int) : Bool := thB r (n - i) && (thB r (r.n - i) && decide (ago r (r.n - (n - i)) = ago r i))
/-- How many at most: the first i (from 1 on, below m) at which they differ, less one. -/
def mlen (r : Rg) (n : Int) : Nat → Nat
  | 0 => 0
  | m + 1 => if mlen r n m = m then (if eqB r n (m + 1) then m + 1 else m) else mlen r n m
def lenE (r : Rg) (n m : Int) : Int := if rgOk r then (if 0 ≤ n ∧ n ≤ r.n ∧ 0 ≤ m then 0 else 2) else 8
/-- No match is longer than 8,192 bytes. -/
def full (r : Rg) (n : Int) : Nat := mlen r n 8193
def lenV (r : Rg) (n m : Int) : Int := if lenE r n m = 0 then min (full r n : Int) m else 0

theorem mlen_le (r : Rg) (n : Int) : ∀ m, mlen r n m ≤ m
  | 0 => Nat.le_refl _
  | m + 1 => by
    have := mlen_le r n m
    rw [mlen]
    split
    · split <;> omega
    · omega
theorem mlen_all {r : Rg} {n : Int} : ∀ {m : Nat}, (∀ i : Nat, i < m → eqB r n ((i : Int) + 1) = true) → mlen r n m = m
  | 0, _ => rfl
  | m + 1, h => by
    have h1 := mlen_all (m := m) (fun i hi => h i (by omega))
    have h2 := h m (by omega)
    rw [mlen, if_pos h1, if_pos (by simpa using h2)]
theorem mlen_at {r : Rg} {n : Int} {k : Nat} (h : ∀ i : Nat, i < k → eqB r n ((i : Int) + 1) = true) (hk : eqB r n ((k : Int) + 1) = false) : ∀ m, k < m → mlen r n m = k
  | 0, h' => by omega
  | m + 1, h' => by
    rcases Nat.lt_or_ge k m with h1 | h1
    · have h2 := mlen_at h hk m h1
      rw [mlen, if_neg (by omega), h2]
    · have e : m = k := by omega
      subst e
      rw [mlen, if_pos (mlen_all h), if_neg (by rw [show ((m : Int) + 1) = ((m : Int) + 1) from rfl, hk]; decide)]
theorem mlen_eq {r : Rg} {n : Int} : ∀ (m : Nat) (i : Nat), i < mlen r n m → eqB r n ((i : Int) + 1) = true
  | 0, i, h => by simp [mlen] at h
  | m + 1, i, h => by
    rw [mlen] at h
    by_cases c : mlen r n m = m
    · rw [if_pos c] at h
      by_cases e : eqB r n (m + 1)
      · rw [if_pos e] at h
        rcases Nat.lt_or_ge i m with h1 | h1
        · exact mlen_eq m i (by omega)
        · rw [show i = m by omega]; exact e
      · rw [if_neg e] at h
        exact mlen_eq m i (by omega)
    · rw [if_neg c] at h
      exact mlen_eq m i h
theorem mlen_stop {r : Rg} {n : Int} : ∀ (m : Nat), mlen r n m < m → eqB r n ((mlen r n m : Int) + 1) = false
  | 0, h => by simp [mlen] at h
  | m + 1, h => by
    have hl := mlen_le r n m
    by_cases c : mlen r n m = m
    · rw [mlen, if_pos c] at h ⊢
      by_cases e : eqB r n (m + 1)
      · rw [if_pos e] at h; omega
      · rw [if_neg e]; simpa using e
    · rw [mlen, if_neg c]
      exact mlen_stop m (by omega)
/-- Beyond the places there is no byte. -/
theorem eqB_far {r : Rg} {n i : Int} (h1 : n ≤ r.n) (h2 : (r.b.length : Int) < i) : eqB r n i = false := by
  unfold eqB thB
  rw [decide_eq_false (p := r.n - (n - i) ≤ (r.b.length : Int)) (by omega)]
  simp
theorem full_le {r : Rg} {n : Int} (hok : rgOk r = true) (h1 : n ≤ r.n) : full r n ≤ r.b.length := by
  rcases Nat.lt_or_ge r.b.length (full r n) with h | h
  · have h3 := mlen_eq 8193 r.b.length h
    rw [eqB_far h1 (by omega)] at h3
    cases h3
  · exact h
theorem full_stop {r : Rg} {n : Int} (hok : rgOk r = true) (h1 : n ≤ r.n) : eqB r n ((full r n : Int) + 1) = false := by
  have h2 := full_le hok h1
  have h3 := sz_bd ((rgOk_iff r).1 hok).1.1
  have h4 := ((rgOk_iff r).1 hok).1.2.1
  exact mlen_stop 8193 (by unfold full at h2; omega)
theorem full_eq {r : Rg} {n : Int} {i : Nat} (h : i < full r n) : eqB r n ((i : Int) + 1) = true := mlen_eq 8193 i h
/-- What a walk finds that stops at k, or comes to m. -/
theorem full_at {r : Rg} {n : Int} {k : Nat} (hok : rgOk r = true) (h1 : n ≤ r.n) (h : ∀ i : Nat, i < k → eqB r n ((i : Int) + 1) = true) : k ≤ full r n := by
  rcases Nat.lt_or_ge (full r n) k with h2 | h2
  · have := h (full r n) h2
    rw [full_stop hok h1] at this
    cases this
  · exact h2
theorem lenE_parts {r : Rg} {n m : Int} (h : lenE r n m = 0) : rgOk r = true ∧ 0 ≤ n ∧ n ≤ r.n ∧ 0 ≤ m := by
  unfold lenE at h
  cases hok : rgOk r
  · rw [hok] at h; simp at h
  · rw [hok] at h
    simp only [if_true] at h
    by_cases c : 0 ≤ n ∧ n ≤ r.n ∧ 0 ≤ m
    · exact ⟨rfl, c⟩
    · rw [if_neg c] at h; simp at h
attribute [irreducible] full
end Go.Proofs.Ytemiecghdmagnaa.fdP

namespace Go.Proofs.Ytemiecghdmagnaa.nibP
set_option maxRecDepth 100000
open Go.RowKit

/-- The bits of a number behind its first 1. -/
def rdF : Nat → Nat → List Bool
  | 0, _ => []
  | f + 1, n => if n ≤ 1 then [] else rdF f (n / 2) ++ [n % 2 == 1]
def rd (n : Nat) : List Bool := rdF 20 n
/-- A 1 and behind it some bits. -/
def prt (l : List Bool) : Nat := l.foldl (fun n b => 2 * n + b.toNat) 1
/-- The node of a part. -/
def nd (n : Nat) : Nat := if n < 16 then n else prt ((rd n).drop 4)
def wOk (p : Int) : Bool := decide (1 ≤ p) && decide (p < 256)
def wE (p : Int) : Int := if wOk p then 0 else 8

theorem wOk_iff (p : Int) : wOk p = true ↔ 1 ≤ p ∧ p < 256 := by simp [wOk]
theorem rd_step : ∀ n, n < 512 → 2 ≤ n → rd n = rd (n / 2) ++ [n % 2 == 1] := by decide +kernel
theorem rd_one : ∀ n, n ≤ 1 → rd n = [] := by decide +kernel
theorem prt_rd : ∀ n, n < 512 → 1 ≤ n → prt (rd n) = n := by decide +kernel
theorem rd_len : ∀ n, n < 512 → (rd n).length ≤ 8 ∧ ((rd n).length < 4 ↔ n < 16) ∧ ((rd n).length = 8 ↔ 256 ≤ n) := by decide +kernel
theorem nd_bd : ∀ n, n < 256 → 1 ≤ n → 1 ≤ nd n ∧ nd n ≤ 15 := by decide +kernel
theorem prt_snoc (l : List Bool) (b : Bool) : prt (l ++ [b]) = 2 * prt l + b.toNat := by simp [prt]
theorem prt_bd (l : List Bool) : 2 ^ l.length ≤ prt l ∧ prt l < 2 ^ (l.length + 1) := by
  have gen : ∀ (l : List Bool) (n : Nat), n * 2 ^ l.length ≤ l.foldl (fun n b => 2 * n + b.toNat) n ∧ l.foldl (fun n b => 2 * n + b.toNat) n < (n + 1) * 2 ^ l.length := by
    intro l
    induction l with
    | nil => intro n; simp
    | cons b l ih =>
      intro n
      have := ih (2 * n + b.toNat)
      have hb : b.toNat ≤ 1 := by cases b <;> decide
      simp only [List.foldl_cons, List.length_cons, Nat.pow_succ]
      refine ⟨Nat.le_trans ?_ this.1, Nat.lt_of_lt_of_le this.2 ?_⟩
      · have : n * (2 ^ l.length * 2) = (2 * n) * 2 ^ l.length := by rw [Nat.mul_comm (2 ^ l.length) 2, ← Nat.mul_assoc, Nat.mul_comm n 2]
        rw [this]; exact Nat.mul_le_mul_right _ (by omega)
      · have : (n + 1) * (2 ^ l.length * 2) = (2 * n + 2) * 2 ^ l.length := by rw [Nat.mul_comm (2 ^ l.length) 2, ← Nat.mul_assoc, Nat.mul_comm (n + 1) 2, Nat.mul_add]
        rw [this]; exact Nat.mul_le_mul_right _ (by omega)
  have := gen l 1
  unfold prt
  rw [Nat.pow_succ]
  omega
theorem rd_prt_n : ∀ (n : Nat) (l : List Bool), l.length = n → n ≤ 8 → rd (prt l) = l
  | 0, l, h, _ => by rw [List.eq_nil_of_length_eq_zero h]; rfl
  | n + 1, l, h, hn => by
    rcases List.eq_nil_or_concat l with rfl | ⟨l, b, rfl⟩
    · simp at h
    have hl : l.length = n := by simpa using h
    have ih := rd_prt_n n l hl (by omega)
    have b1 := prt_bd l
    have p1 : 2 ^ l.length ≥ 1 := Nat.one_le_two_pow
    have p2 : 2 ^ (l.length + 1) ≤ 2 ^ 8 := Nat.pow_le_pow_right (by omega) (by omega)
    have hb : b.toNat ≤ 1 := by cases b <;> decide
    have e8 : 2 ^ 8 = 256 := rfl
    rw [List.concat_eq_append, prt_snoc, rd_step _ (by omega) (by omega)]
    have e1 : (2 * prt l + b.toNat) / 2 = prt l := by omega
    rw [e1, ih]
    congr 1
    cases b <;> simp <;> omega
theorem rd_prt (l : List Bool) (h : l.length ≤ 8) : rd (prt l) = l := rd_prt_n _ l rfl h
end Go.Proofs.Ytemiecghdmagnaa.nibP
