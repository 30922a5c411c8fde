/- Parity by plain lists: exclusive or of bytes, frames, and what a lost string is. -/
import Derived.Test.YtacllaeccdgnmaaBase
namespace Go.Proofs.Ytacllaeccdgnmaa.paP
set_option maxRecDepth 100000
open Go.RowKit
set_option linter.unusedVariables false

/-- Exclusive or of two bytes. -/
def xo (a b : Int) : Int := ((a.toNat ^^^ b.toNat : Nat) : Int)
theorem xo_nn (a b : Int) : 0 ≤ xo a b := by unfold xo; omega
theorem xo_bd {a b : Int} (h1 : 0 ≤ a ∧ a ≤ 255) (h2 : 0 ≤ b ∧ b ≤ 255) : 0 ≤ xo a b ∧ xo a b ≤ 255 := by
  unfold xo
  have := Nat.xor_lt_two_pow (n := 8) (x := a.toNat) (y := b.toNat) (by omega) (by omega)
  omega
theorem xo_bits {a b : Int} (h1 : 0 ≤ a ∧ a ≤ 255) (h2 : 0 ≤ b ∧ b ≤ 255) : bits .xor .u8 a b = xo a b := by
  have h3 := xo_bd h1 h2
  obtain ⟨x, rfl⟩ := Int.eq_ofNat_of_zero_le h1.1
  obtain ⟨y, rfl⟩ := Int.eq_ofNat_of_zero_le h2.1
  have hx : x < 2 ^ 8 := by omega
  have hy : y < 2 ^ 8 := by omega
  show IntKind.u8.wrap (((BitVec.ofInt 8 (x : Int)) ^^^ (BitVec.ofInt 8 (y : Int))).toNat : Int) = _
  rw [BitVec.toNat_xor, BitVec.ofInt_natCast, BitVec.ofInt_natCast, BitVec.toNat_ofNat, BitVec.toNat_ofNat, Nat.mod_eq_of_lt hx, Nat.mod_eq_of_lt hy]
  exact IntWalk.u8_in _ (by simpa [xo] using h3)
theorem xo_comm (a b : Int) : xo a b = xo b a := by unfold xo; rw [Nat.xor_comm]
theorem xo_assoc (a b c : Int) : xo (xo a b) c = xo a (xo b c) := by unfold xo; simp only [Int.toNat_natCast]; rw [Nat.xor_assoc]
theorem xo_zero {a : Int} (h : 0 ≤ a) : xo a 0 = a := by unfold xo; simp; omega
theorem zero_xo {a : Int} (h : 0 ≤ a) : xo 0 a = a := by rw [xo_comm, xo_zero h]
theorem xo_back {a : Int} (b : Int) (h : 0 ≤ a) : xo (xo a b) b = a := by
  rw [xo_assoc]
  have : xo b b = 0 := by unfold xo; simp
  rw [this, xo_zero h]

/-- Two rows, exclusive or. -/
def mx (a b : List Int) : List Int := List.zipWith xo a b
theorem mx_len (a b : List Int) : (mx a b).length = min a.length b.length := by simp [mx]
theorem mx_comm : ∀ (a b : List Int), mx a b = mx b a
  | [], [] => rfl
  | [], _ :: _ => rfl
  | _ :: _, [] => rfl
  | x :: a, y :: b => by unfold mx; simp only [List.zipWith_cons_cons]; rw [xo_comm]; exact congrArg _ (mx_comm a b)
theorem mx_assoc : ∀ (a b c : List Int), mx (mx a b) c = mx a (mx b c)
  | [], _, _ => by simp [mx]
  | _ :: _, [], _ => by simp [mx]
  | _ :: _, _ :: _, [] => by simp [mx]
  | x :: a, y :: b, z :: c => by have := mx_assoc a b c; unfold mx at *; simp only [List.zipWith_cons_cons]; rw [xo_assoc, this]
theorem mx_back : ∀ {a b : List Int}, a.length = b.length → (∀ z ∈ a, 0 ≤ z) → mx (mx a b) b = a
  | [], [], _, _ => rfl
  | [], _ :: _, h, _ => by simp at h
  | _ :: _, [], h, _ => by simp at h
  | x :: a, y :: b, h, hb => by
    have := mx_back (a := a) (b := b) (by simpa using h) (fun z hz => hb z (List.mem_cons_of_mem _ hz))
    unfold mx at *; simp only [List.zipWith_cons_cons]; rw [xo_back y (hb x (List.mem_cons_self ..)), this]
theorem mx_zeros : ∀ {a : List Int} {n : Nat}, a.length = n → (∀ z ∈ a, 0 ≤ z) → mx (List.replicate n 0) a = a
  | [], _, _, _ => by simp [mx]
  | x :: a, n, h, hb => by
    subst h
    have := mx_zeros (a := a) rfl (fun z hz => hb z (List.mem_cons_of_mem _ hz))
    unfold mx at *; simp only [List.length_cons, List.replicate_succ, List.zipWith_cons_cons]; rw [zero_xo (hb x (List.mem_cons_self ..)), this]
theorem mx_mem : ∀ {a b : List Int} {z : Int}, z ∈ mx a b → ∃ x ∈ a, ∃ y ∈ b, z = xo x y
  | [], b, z, h => by simp [mx] at h
  | x :: a, [], z, h => by simp [mx] at h
  | x :: a, y :: b, z, h => by
    have h' : z = xo x y ∨ z ∈ mx a b := by simpa [mx] using h
    rcases h' with rfl | h'
    · exact ⟨x, List.mem_cons_self .., y, List.mem_cons_self .., rfl⟩
    · obtain ⟨u, hu, v, hv, e⟩ := mx_mem h'
      exact ⟨u, List.mem_cons_of_mem _ hu, v, List.mem_cons_of_mem _ hv, e⟩
def Byt (l : List Int) : Prop := ∀ z ∈ l, 0 ≤ z ∧ z ≤ 255
theorem mx_byt {a b : List Int} (ha : Byt a) (hb : Byt b) : Byt (mx a b) := fun z hz => by
  obtain ⟨x, hx, y, hy, rfl⟩ := mx_mem hz
  exact xo_bd (ha x hx) (hb y hy)
theorem Byt.nn {a : List Int} (h : Byt a) : ∀ z ∈ a, 0 ≤ z := fun z hz => (h z hz).1

/-- The frame of w bytes of a string. -/
def fr (s : List Int) (w : Nat) : List Int := ((s.length / 256 : Nat) : Int) :: ((s.length % 256 : Nat) : Int) :: (s ++ List.replicate (w - s.length) 0)
theorem fr_len {s : List Int} {w : Nat} (h : s.length ≤ w) : (fr s w).length = w + 2 := by simp [fr]; omega
theorem zeros_byt (n : Nat) : Byt (List.replicate n 0) := fun z hz => by rw [(List.mem_replicate.1 hz).2]; omega
theorem fr_byt {s : List Int} {w : Nat} (h : Byt s) (hl : s.length ≤ 65535) : Byt (fr s w) := by
  intro z hz
  unfold fr at hz
  simp only [List.mem_cons, List.mem_append] at hz
  rcases hz with rfl | rfl | hz | hz
  · omega
  · omega
  · exact h z hz
  · exact zeros_byt _ z hz
theorem fr_nil (w : Nat) : fr [] w = List.replicate (w + 2) 0 := by simp [fr, List.replicate_succ]
theorem fr_more {s : List Int} {w v : Nat} (h : s.length ≤ v) (hv : v ≤ w) : fr s w = fr s v ++ List.replicate (w - v) 0 := by
  unfold fr
  simp only [List.cons_append, List.append_assoc]
  rw [List.replicate_append_replicate, show v - s.length + (w - v) = w - s.length by omega]

/-- Strings mixed into a row in frames of w bytes. -/
def mixL (w : Nat) (p : List Int) (l : List (List Int)) : List Int := l.foldl (fun a s => mx a (fr s w)) p
@[simp] theorem mixL_nil (w : Nat) (p : List Int) : mixL w p [] = p := rfl
theorem mixL_cons (w : Nat) (p s : List Int) (l : List (List Int)) : mixL w p (s :: l) = mixL w (mx p (fr s w)) l := rfl
theorem mixL_app (w : Nat) (p : List Int) (l m : List (List Int)) : mixL w p (l ++ m) = mixL w (mixL w p l) m := by simp [mixL, List.foldl_append]
theorem mixL_snoc (w : Nat) (p s : List Int) (l : List (List Int)) : mixL w p (l ++ [s]) = mx (mixL w p l) (fr s w) := by simp [mixL, List.foldl_append]
theorem mixL_out (w : Nat) (f : List Int) : ∀ (l : List (List Int)) (p : List Int), mixL w (mx p f) l = mx (mixL w p l) f
  | [], p => rfl
  | s :: l, p => by
    rw [mixL_cons, mixL_cons, ← mixL_out w f l]
    rw [mx_assoc, mx_comm f, ← mx_assoc]
theorem mixL_mid (w : Nat) (p s : List Int) (l m : List (List Int)) : mixL w p (l ++ s :: m) = mx (mixL w p (l ++ m)) (fr s w) := by
  rw [mixL_app, mixL_cons, mixL_out, ← mixL_app]
theorem mixL_rev (w : Nat) : ∀ (l : List (List Int)) (p : List Int), mixL w p l.reverse = mixL w p l
  | [], p => rfl
  | s :: l, p => by rw [List.reverse_cons, mixL_snoc, mixL_rev w l, mixL_cons, mixL_out]
theorem mixL_len {w : Nat} : ∀ {l : List (List Int)} {p : List Int}, p.length = w + 2 → (∀ s ∈ l, s.length ≤ w) → (mixL w p l).length = w + 2
  | [], p, h, _ => h
  | s :: l, p, h, hl => by
    rw [mixL_cons]
    refine mixL_len ?_ (fun s hs => hl s (List.mem_cons_of_mem _ hs))
    rw [mx_len, fr_len (hl s (List.mem_cons_self ..)), h]; omega
theorem mixL_byt {w : Nat} (hw : w ≤ 65535) : ∀ {l : List (List Int)} {p : List Int}, Byt p → (∀ s ∈ l, Byt s ∧ s.length ≤ w) → Byt (mixL w p l)
  | [], p, h, _ => h
  | s :: l, p, h, hl => by
    rw [mixL_cons]
    refine mixL_byt hw (mx_byt h (fr_byt (hl s (List.mem_cons_self ..)).1 ?_)) (fun s hs => hl s (List.mem_cons_of_mem _ hs))
    have := (hl s (List.mem_cons_self ..)).2; omega
theorem mixL_back {w : Nat} (hw : w ≤ 65535) : ∀ {l : List (List Int)} {p : List Int}, p.length = w + 2 → Byt p → (∀ s ∈ l, Byt s ∧ s.length ≤ w) → mixL w (mixL w p l) l = p
  | [], p, _, _, _ => rfl
  | s :: l, p, h, hp, hl => by
    have h1 := hl s (List.mem_cons_self ..)
    have hl2 : ∀ s ∈ l, Byt s ∧ s.length ≤ w := fun s hs => hl s (List.mem_cons_of_mem _ hs)
    rw [mixL_cons, mixL_cons, mixL_out, mixL_back hw (by rw [mx_len, fr_len h1.2, h]; omega) (mx_byt hp (fr_byt h1.1 (by omega))) hl2]
    exact mx_back (by rw [h, fr_len h1.2]) hp.nn
/-- A wider row gives the same, and zeros behind it. -/
theorem mixL_more {w v : Nat} (hv : v ≤ w) : ∀ {l : List (List Int)} {p : List Int}, p.length = v + 2 → (∀ s ∈ l, s.length ≤ v) → mixL w (p ++ List.replicate (w - v) 0) l = mixL v p l ++ List.replicate (w - v) 0
  | [], p, _, _ => rfl
  | s :: l, p, h, hl => by
    have h1 := hl s (List.mem_cons_self ..)
    rw [mixL_cons, mixL_cons, fr_more h1 hv]
    have e : mx (p ++ List.replicate (w - v) 0) (fr s v ++ List.replicate (w - v) 0) = mx p (fr s v) ++ List.replicate (w - v) 0 := by
      unfold mx
      rw [List.zipWith_append (by rw [h, fr_len h1])]
      congr 1
      exact mx_zeros (by simp) (zeros_byt _).nn
    rw [e]
    refine mixL_more hv ?_ (fun s hs => hl s (List.mem_cons_of_mem _ hs))
    rw [mx_len, fr_len h1, h]; omega

/-- The length of the longest string. -/
def wd (l : List (List Int)) : Nat := l.foldl (fun a s => max a s.length) 0
theorem wd_from : ∀ (l : List (List Int)) (a : Nat), l.foldl (fun a s => max a s.length) a = max a (wd l)
  | [], a => by simp [wd]
  | s :: l, a => by
    have h1 := wd_from l (max a s.length)
    have h2 := wd_from l (max 0 s.length)
    simp only [wd, List.foldl_cons] at *
    rw [h1, h2]; omega
theorem wd_cons (s : List Int) (l : List (List Int)) : wd (s :: l) = max s.length (wd l) := by
  have := wd_from l (max 0 s.length)
  simp only [wd, List.foldl_cons] at *
  rw [this]; omega
theorem wd_snoc (s : List Int) (l : List (List Int)) : wd (l ++ [s]) = max (wd l) s.length := by simp [wd, List.foldl_append]
theorem wd_le {l : List (List Int)} {s : List Int} (h : s ∈ l) : s.length ≤ wd l := by
  induction l with
  | nil => simp at h
  | cons t l ih =>
    rw [wd_cons]
    rcases List.mem_cons.1 h with rfl | h
    · omega
    · have := ih h; omega
theorem wd_most {l : List (List Int)} {n : Nat} (h : ∀ s ∈ l, s.length ≤ n) : wd l ≤ n := by
  induction l with
  | nil => simp [wd]
  | cons t l ih =>
    rw [wd_cons]
    have h1 := h t (List.mem_cons_self ..)
    have h2 := ih (fun s hs => h s (List.mem_cons_of_mem _ hs))
    omega
theorem wd_rev (l : List (List Int)) : wd l.reverse = wd l := Nat.le_antisymm (wd_most fun s hs => wd_le (List.mem_reverse.1 hs)) (wd_most fun s hs => wd_le (List.mem_reverse.2 hs))
/-- The parity of a group. -/
def parP (l : List (List Int)) : List Int := mixL (wd l) (List.replicate (wd l + 2) 0) l
theorem parP_len (l : List (List Int)) : (parP l).length = wd l + 2 := mixL_len (by simp) (fun s hs => wd_le hs)
theorem parP_rev (l : List (List Int)) : parP l.reverse = parP l := by unfold parP; rw [wd_rev, mixL_rev]
/-- Too great a group. -/
def gE (l : List (List Int)) : Int := if 16 < l.length ∨ 5000 < wd l then 4 else 0
/-- The group without the one that is lost. -/
def oth (l : List (List Int)) (k : Int) : List (List Int) := if 0 ≤ k then l.eraseIdx k.toNat else l
/-- The row that the others leave of a parity. -/
def madeP (l : List (List Int)) (k : Int) (p : List Int) : List Int := mixL (p.length - 2) p (oth l k)
def lenP (m : List Int) : Nat := 256 * (m.getD 0 0).toNat + (m.getD 1 0).toNat
def allz (l : List Int) : Bool := l.all (fun z => z == 0)
theorem allz_iff {l : List Int} : allz l = true ↔ ∀ z ∈ l, z = 0 := by simp [allz]
def repE (l : List (List Int)) (k : Int) (p : List Int) : Int :=
  if gE (oth l k) ≠ 0 then 4 else if k < 0 ∨ (l.length : Int) ≤ k then 2
  else if p.length < 2 ∨ 5002 < p.length ∨ p.length - 2 < wd (oth l k) then 12
  else if p.length - 2 < lenP (madeP l k p) then 12
  else if allz ((madeP l k p).drop (2 + lenP (madeP l k p))) = true then 0 else 12
def repV (l : List (List Int)) (k : Int) (p : List Int) : List Int := if repE l k p = 0 then ((madeP l k p).drop 2).take (lenP (madeP l k p)) else []

/-- What is repaired is what was there. -/
theorem eraseIdx_mid {α : Type} (l1 l2 : List α) (s : α) : (l1 ++ s :: l2).eraseIdx l1.length = l1 ++ l2 := by
  rw [List.eraseIdx_append_of_length_le (Nat.le_refl _)]; simp
theorem split_at {α : Type} (l : List α) (k : Nat) (hk : k < l.length) : l = l.take k ++ l[k] :: l.drop (k + 1) := by
  rw [List.getElem_cons_drop, List.take_append_drop]
theorem lenP_fr {s : List Int} {w : Nat} : lenP (fr s w) = s.length := by
  simp [lenP, fr]; omega
theorem rep_of {l1 l2 : List (List Int)} {s p : List Int} {W : Nat} (hp : p.length = W + 2) (hW : W ≤ 5000) (hs : s.length ≤ W) (hn : (l1 ++ l2).length ≤ 16) (hw : ∀ t ∈ l1 ++ l2, Byt t ∧ t.length ≤ W) (t : List Int)
    (hm : mixL W p (l1 ++ l2) = fr s W) : repE (l1 ++ t :: l2) (l1.length : Int) p = 0 ∧ repV (l1 ++ t :: l2) (l1.length : Int) p = s := by
  have ho : oth (l1 ++ t :: l2) (l1.length : Int) = l1 ++ l2 := by
    unfold oth; rw [if_pos (by omega), Int.toNat_natCast, eraseIdx_mid]
  have hwd : wd (l1 ++ l2) ≤ W := wd_most fun t ht => (hw t ht).2
  have hmd : madeP (l1 ++ t :: l2) (l1.length : Int) p = fr s W := by unfold madeP; rw [ho, hp, Nat.add_sub_cancel, hm]
  have e : repE (l1 ++ t :: l2) (l1.length : Int) p = 0 := by
    unfold repE
    rw [ho, hmd, lenP_fr, hp]
    have g0 : gE (l1 ++ l2) = 0 := by unfold gE; rw [if_neg (by omega)]
    rw [if_neg (by simp [g0]), if_neg (by simp; omega), if_neg (by omega), if_neg (by omega), if_pos]
    refine allz_iff.2 fun z hz => ?_
    have : (fr s W).drop (2 + s.length) = List.replicate (W - s.length) 0 := by
      rw [Nat.add_comm]
      show List.drop s.length (s ++ List.replicate (W - s.length) 0) = _
      rw [List.drop_left]
    rw [this] at hz
    exact (List.mem_replicate.1 hz).2
  refine ⟨e, ?_⟩
  unfold repV
  rw [if_pos e, hmd, lenP_fr]
  show List.take s.length (s ++ List.replicate (W - s.length) 0) = s
  rw [List.take_left]
end Go.Proofs.Ytacllaeccdgnmaa.paP
