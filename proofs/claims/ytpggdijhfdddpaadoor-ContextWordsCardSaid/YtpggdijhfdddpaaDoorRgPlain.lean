/- Plain arithmetic of rings of bytes. No program. -/
import Derived.RowKit
namespace Go.Proofs.YtpggdijhfdddpaaDoor.rgP
open Go.RowKit

/-- A ring: its level, its bytes, how many were put. -/
structure Rg where
  l : Int
  b : List Int
  n : Int
def lvB (l : Int) : Bool := decide (0 ≤ l) && decide (l ≤ 7)
def szOf (l : Int) : Nat := 64 * 2 ^ l.toNat
def restB (b : List Int) (n : Nat) : Bool := (b.drop n).all (· == 0)
def rgShape (r : Rg) : Bool := lvB r.l && (decide (r.b.length = szOf r.l) && (decide (0 ≤ r.n) && decide (r.n ≤ 1073741824)))
def rgOk (r : Rg) : Bool := rgShape r && restB r.b r.n.toNat
def rgE (r : Rg) : Int := if rgOk r then 0 else 8
def zeroR : Rg := ⟨0, [], 0⟩
def newE (l : Int) : Int := if lvB l then 0 else 2
def newR (l : Int) : Rg := if lvB l then ⟨l, List.replicate (szOf l) 0, 0⟩ else zeroR
def put1 (r : Rg) (c : Int) : Rg := ⟨r.l, r.b.set (r.n.toNat % r.b.length) c, r.n + 1⟩
def putR (r : Rg) (l : List Int) : Rg := l.foldl put1 r
def putE (r : Rg) (l : List Int) : Int := if rgOk r then (if 20000 < l.length then 4 else if 1073741824 - r.n < l.length then 16 else 0) else 8
def putV (r : Rg) (l : List Int) : Rg := if putE r l = 0 then putR r l else zeroR
def ago (r : Rg) (k : Int) : Int := if r.n < k then 0 else r.b.getD ((r.n - k).toNat % r.b.length) 0
def backE (r : Rg) (k : Int) : Int := if rgOk r then (if 1 ≤ k ∧ k ≤ r.b.length then 0 else 2) else 8
def backV (r : Rg) (k : Int) : Int := if backE r k = 0 then ago r k else 0
def isB (r : Rg) (n : Int) : Bool := decide (n < r.n) && decide (r.n - n ≤ r.b.length)
def atE (r : Rg) (n : Int) : Int := if rgOk r then (if 0 ≤ n then 0 else 2) else 8
def atB (r : Rg) (n : Int) : Bool := if atE r n = 0 then isB r n else false
def atV (r : Rg) (n : Int) : Int := if atE r n = 0 then (if isB r n then ago r (r.n - n) else 0) else 0
def lastE (r : Rg) (k : Int) : Int := if rgOk r then (if 0 ≤ k ∧ k ≤ r.b.length then (if r.n < k then 18 else 0) else 2) else 8
def lastL (r : Rg) (k : Nat) : List Int := (List.range k).map fun (i : Nat) => ago r ((k : Int) - (i : Int))
def lastV (r : Rg) (k : Int) : List Int := if lastE r k = 0 then lastL r k.toNat else []

theorem lvB_iff (l : Int) : lvB l = true ↔ 0 ≤ l ∧ l ≤ 7 := by simp [lvB]
theorem lv_cases {l : Int} (h : lvB l = true) : l = 0 ∨ l = 1 ∨ l = 2 ∨ l = 3 ∨ l = 4 ∨ l = 5 ∨ l = 6 ∨ l = 7 := by rw [lvB_iff] at h; omega
theorem sz_bd {l : Int} (h : lvB l = true) : 64 ≤ szOf l ∧ szOf l ≤ 8192 := by
  rcases lv_cases h with rfl | rfl | rfl | rfl | rfl | rfl | rfl | rfl <;> decide +kernel
theorem restB_iff (b : List Int) (n : Nat) : restB b n = true ↔ ∀ i, n ≤ i → b.getD i 0 = 0 := by
  unfold restB
  rw [List.all_eq_true]
  constructor
  · intro h i hi
    rw [List.getD_eq_getElem?_getD]
    rcases hx : b[i]? with _ | x
    · rfl
    · have hm : x ∈ b.drop n := by
        rw [List.mem_iff_getElem?]
        exact ⟨i - n, by rw [List.getElem?_drop, show n + (i - n) = i by omega]; exact hx⟩
      have := h x hm
      simpa using this
  · intro h x hx
    obtain ⟨i, hi⟩ := List.mem_iff_getElem?.1 hx
    rw [List.getElem?_drop] at hi
    have := h (n + i) (by omega)
    rw [List.getD_eq_getElem?_getD, hi] at this
    simpa using this
theorem rgShape_iff (r : Rg) : rgShape r = true ↔ lvB r.l = true ∧ r.b.length = szOf r.l ∧ 0 ≤ r.n ∧ r.n ≤ 1073741824 := by simp [rgShape]
theorem rgOk_iff (r : Rg) : rgOk r = true ↔ (lvB r.l = true ∧ r.b.length = szOf r.l ∧ 0 ≤ r.n ∧ r.n ≤ 1073741824) ∧ ∀ i, r.n.toNat ≤ i → r.b.getD i 0 = 0 := by
  rw [rgOk, Bool.and_eq_true, rgShape_iff, restB_iff]
theorem putR_snoc (r : Rg) (l : List Int) (c : Int) : putR r (l ++ [c]) = put1 (putR r l) c := by simp [putR]
theorem putR_app (r : Rg) (k l : List Int) : putR r (k ++ l) = putR (putR r k) l := by simp [putR, List.foldl_append]
theorem put1_len (r : Rg) (c : Int) : (put1 r c).b.length = r.b.length := by simp [put1]
theorem putR_len : ∀ (l : List Int) (r : Rg), (putR r l).b.length = r.b.length
  | [], _ => rfl
  | c :: l, r => by show (putR (put1 r c) l).b.length = _; rw [putR_len l, put1_len]
theorem putR_n : ∀ (l : List Int) (r : Rg), (putR r l).n = r.n + l.length
  | [], r => by simp [putR]
  | c :: l, r => by
    show (putR (put1 r c) l).n = _
    rw [putR_n l]; simp [put1]; omega
theorem putR_l : ∀ (l : List Int) (r : Rg), (putR r l).l = r.l
  | [], _ => rfl
  | c :: l, r => by show (putR (put1 r c) l).l = _; rw [putR_l l]; rfl
theorem getD_set_row (l : List Int) (i j : Nat) (x : Int) (hi : i < l.length) : (l.set i x).getD j 0 = if i = j then x else l.getD j 0 := by
  simp only [List.getD_eq_getElem?_getD, List.getElem?_set]
  by_cases c : i = j
  · subst c; simp [hi]
  · simp [c]
theorem put1_ok {r : Rg} {c : Int} (h : rgOk r = true) (hn : r.n < 1073741824) : rgOk (put1 r c) = true := by
  rw [rgOk_iff] at *
  obtain ⟨⟨h1, h2, h3, h4⟩, h5⟩ := h
  have hs := sz_bd h1
  refine ⟨⟨h1, by rw [put1_len, h2]; rfl, by show 0 ≤ r.n + 1; omega, by show r.n + 1 ≤ 1073741824; omega⟩, fun i hi => ?_⟩
  have hi' : (r.n + 1).toNat ≤ i := hi
  show (r.b.set (r.n.toNat % r.b.length) c).getD i 0 = 0
  have hm : r.n.toNat % r.b.length < r.b.length := Nat.mod_lt _ (by omega)
  rw [getD_set_row _ _ _ _ hm, if_neg]
  · exact h5 i (by omega)
  · intro e
    have : r.n.toNat % r.b.length ≤ r.n.toNat := Nat.mod_le _ _
    omega
theorem putR_ok : ∀ (l : List Int) {r : Rg}, rgOk r = true → r.n + l.length ≤ 1073741824 → rgOk (putR r l) = true
  | [], _, h, _ => h
  | c :: l, r, h, hn => by
    have hn' : r.n + (l.length + 1 : Nat) ≤ 1073741824 := by simpa using hn
    exact putR_ok l (put1_ok h (by omega)) (by show r.n + 1 + (l.length : Int) ≤ 1073741824; omega)
theorem newR_ok {l : Int} (h : lvB l = true) : rgOk (newR l) = true := by
  rw [newR, if_pos h, rgOk_iff]
  refine ⟨⟨h, List.length_replicate, Int.le_refl 0, (by omega : (0 : Int) ≤ 1073741824)⟩, fun i _ => ?_⟩
  rw [List.getD_eq_getElem?_getD, List.getElem?_replicate]
  split <;> rfl
theorem mod_ne {a b m : Nat} (h : a < b) (hm : b - a < m) : a % m ≠ b % m := by
  intro e
  have h1 : (b - a) % m = 0 := (Nat.sub_mod_eq_zero_of_mod_eq e.symm)
  rw [Nat.mod_eq_of_lt hm] at h1
  omega
/-- What was put at an index is there as long as fewer bytes than there are places were put behind it. -/
theorem putR_get_aux : ∀ (n : Nat) (l : List Int), l.length = n → ∀ (r : Rg) (j : Nat), 0 ≤ r.n → 0 < r.b.length → j < l.length → l.length - j ≤ r.b.length → (putR r l).b.getD ((r.n.toNat + j) % r.b.length) 0 = l.getD j 0
  | 0, l, hl, r, j, _, _, h, _ => by omega
  | n + 1, l, hl, r, j, hn, hp, hj, hk => by
    rcases List.eq_nil_or_concat l with h0 | ⟨k, c, hc⟩
    · rw [h0] at hl; simp at hl
    · rw [List.concat_eq_append] at hc
      subst hc
      rw [List.length_append, List.length_singleton] at hj hk hl
      rw [putR_snoc]
      show ((putR r k).b.set ((putR r k).n.toNat % (putR r k).b.length) c).getD _ 0 = _
      have hm : (putR r k).n.toNat % (putR r k).b.length < (putR r k).b.length := Nat.mod_lt _ (by rw [putR_len]; exact hp)
      rw [getD_set_row _ _ _ _ hm, putR_len, putR_n, show (r.n + (k.length : Int)).toNat = r.n.toNat + k.length by omega]
      by_cases e : j = k.length
      · subst e
        rw [if_pos rfl, List.getD_eq_getElem?_getD]; simp
      · rw [if_neg (fun e' => mod_ne (a := r.n.toNat + j) (b := r.n.toNat + k.length) (by omega) (by omega) e'.symm), putR_get_aux n k (by omega) r j hn hp (by omega) (by omega), List.getD_eq_getElem?_getD, List.getD_eq_getElem?_getD, List.getElem?_append_left (by omega)]
theorem putR_get (l : List Int) (r : Rg) (j : Nat) (hn : 0 ≤ r.n) (hp : 0 < r.b.length) (hj : j < l.length) (hk : l.length - j ≤ r.b.length) : (putR r l).b.getD ((r.n.toNat + j) % r.b.length) 0 = l.getD j 0 := putR_get_aux l.length l rfl r j hn hp hj hk
end Go.Proofs.YtpggdijhfdddpaaDoor.rgP
