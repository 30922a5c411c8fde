/- Reading records, by plain facts. -/
import Derived.Test.YtiihafhnaiicoaaDoorMbWP
import Derived.Test.YtiihafhnaiicoaaDoorPk2
namespace Go.Proofs.YtiihafhnaiicoaaDoor.mbW
set_option maxRecDepth 100000
open Go.RowKit Go.Proofs.YtiihafhnaiicoaaDoor.base Go.Proofs.YtiihafhnaiicoaaDoor.shP Go.Proofs.YtiihafhnaiicoaaDoor.shW Go.Proofs.YtiihafhnaiicoaaDoor.ocP Go.Proofs.YtiihafhnaiicoaaDoor.ocW
open Go.Proofs.YtiihafhnaiicoaaDoor.trW (IsD sv zd_isD digest_isD z20_at)
set_option linter.unusedVariables false
set_option linter.unusedSimpArgs false
set_option maxRecDepth 100000
/-- How long the name at a place is; whether a record fits there; the place behind it; the record. -/
def nl (b : List Int) (p : Nat) : Nat := (b.getD p 0).toNat
def fits (b : List Int) (p : Nat) : Prop := p + nl b p + 23 ≤ b.length
instance (b : List Int) (p : Nat) : Decidable (fits b p) := inferInstanceAs (Decidable (_ ≤ _))
def nx (b : List Int) (p : Nat) : Nat := p + nl b p + 23
def rcAt (b : List Int) (p : Nat) : Rc := ⟨bstr ((b.drop (p + 1)).take (nl b p)), b.getD (p + 1 + nl b p) 0 * 256 + b.getD (p + 2 + nl b p) 0, (b.drop (p + 3 + nl b p)).take 20⟩
def rdS (b : List Int) : Nat → Option (List Rc × Nat)
  | 0 => some ([], 0)
  | k + 1 => match rdS b k with
    | none => none
    | some (l, p) => if fits b p then some (l ++ [rcAt b p], nx b p) else none
theorem rdS_none {b : List Int} {k : Nat} (h : rdS b k = none) : ∀ n, k ≤ n → rdS b n = none
  | 0, hn => by obtain rfl : k = 0 := by omega
                exact h
  | n + 1, hn => by
    rcases Nat.lt_or_ge n k with hk | hk
    · obtain rfl : k = n + 1 := by omega
      exact h
    · rw [rdS, rdS_none h n hk]
theorem rdS_step {b : List Int} {k p : Nat} {l : List Rc} (h : rdS b k = some (l, p)) (hf : fits b p) : rdS b (k + 1) = some (l ++ [rcAt b p], nx b p) := by
  rw [rdS, h]; simp only; rw [if_pos hf]
theorem rdS_stop {b : List Int} {k p : Nat} {l : List Rc} (h : rdS b k = some (l, p)) (hf : ¬ fits b p) : rdS b (k + 1) = none := by
  rw [rdS, h]; simp only; rw [if_neg hf]
def Byt8 (b : List Int) : Prop := ∀ z ∈ b, 0 ≤ z ∧ z ≤ 255
theorem Byt8.at {b : List Int} (h : Byt8 b) (p : Nat) : 0 ≤ b.getD p 0 ∧ b.getD p 0 ≤ 255 := by
  rw [List.getD_eq_getElem?_getD]
  rcases Nat.lt_or_ge p b.length with hp | hp
  · rw [List.getElem?_eq_getElem hp]; exact h _ (List.getElem_mem _)
  · rw [List.getElem?_eq_none hp]; simp
theorem nl_le {b : List Int} (h : Byt8 b) (p : Nat) : nl b p ≤ 255 := by have := h.at p; unfold nl; omega
theorem nl_int {b : List Int} (h : Byt8 b) (p : Nat) : ((nl b p : Nat) : Int) = b.getD p 0 := by have := h.at p; unfold nl; omega
theorem bstr_size (zs : List Int) : (bstr zs).size = zs.length := by
  have : ∀ (zs : List Int) (r : ByteArray), (zs.foldl (fun r n => r.push (UInt8.ofNat n.toNat)) r).size = r.size + zs.length := by
    intro zs
    induction zs with
    | nil => simp
    | cons z l ih => intro r; rw [List.foldl_cons, ih, ByteArray.size_push, List.length_cons]; omega
  have := this zs .empty
  unfold bstr
  rw [this]; simp
theorem rdS_le {b : List Int} (hb : Byt8 b) : ∀ {k p : Nat} {l : List Rc}, rdS b k = some (l, p) → p ≤ 278 * k ∧ p ≤ b.length ∧ l.length = k
  | 0, p, l, h => by
    simp only [rdS, Option.some.injEq, Prod.mk.injEq] at h
    obtain ⟨rfl, rfl⟩ := h
    simp
  | k + 1, p, l, h => by
    rw [rdS] at h
    rcases e : rdS b k with _ | ⟨l', p'⟩
    · rw [e] at h; cases h
    · rw [e] at h
      simp only at h
      by_cases hf : fits b p'
      · rw [if_pos hf] at h
        simp only [Option.some.injEq, Prod.mk.injEq] at h
        obtain ⟨rfl, rfl⟩ := h
        have ih := rdS_le hb e
        have := nl_le hb p'
        unfold fits at hf
        unfold nx
        refine ⟨by omega, by omega, ?_⟩
        rw [List.length_append, ih.2.2]; rfl
      · rw [if_neg hf] at h; cases h
/-- Only the first bytes matter. -/
theorem getD_take {b : List Int} {m i : Nat} (h : i < m) : (b.take m).getD i 0 = b.getD i 0 := by
  rw [List.getD_eq_getElem?_getD, List.getD_eq_getElem?_getD, List.getElem?_take, if_pos h]
theorem nl_take {b : List Int} {m p : Nat} (h : p < m) : nl (b.take m) p = nl b p := by unfold nl; rw [getD_take h]
theorem fits_take {b : List Int} {m p : Nat} (hb : Byt8 b) (h : p + 278 ≤ m) : fits (b.take m) p ↔ fits b p := by
  unfold fits
  rw [nl_take (by omega), List.length_take]
  have := nl_le hb p
  omega
theorem drop_take2 {b : List Int} {m i n : Nat} (h : i + n ≤ m) : ((b.take m).drop i).take n = (b.drop i).take n := by
  rw [List.drop_take, List.take_take, Nat.min_eq_left (by omega)]
theorem rcAt_take {b : List Int} {m p : Nat} (hb : Byt8 b) (h : p + 278 ≤ m) : rcAt (b.take m) p = rcAt b p := by
  have := nl_le hb p
  unfold rcAt
  rw [nl_take (by omega), drop_take2 (by omega), getD_take (by omega), getD_take (by omega), drop_take2 (by omega)]
theorem rdS_take {b : List Int} (hb : Byt8 b) (m : Nat) : ∀ k, 278 * k ≤ m → rdS (b.take m) k = rdS b k
  | 0, _ => rfl
  | k + 1, h => by
    rw [rdS, rdS, rdS_take hb m k (by omega)]
    rcases e : rdS b k with _ | ⟨l, p⟩
    · rfl
    · simp only
      have hp := (rdS_le hb e).1
      have h1 := fits_take (m := m) (p := p) hb (by omega)
      by_cases hf : fits b p
      · rw [if_pos hf, if_pos (h1.2 hf), rcAt_take hb (by omega)]
        unfold nx
        rw [nl_take (by omega)]
      · rw [if_neg hf, if_neg (fun e => hf (h1.1 e))]
/-! What octet answers. -/
theorem cuB_p {b : List Int} {p : Nat} (h : b.length ≤ 50000) (hp : p ≤ b.length) : cuB ⟨b, (p : Int)⟩ = true := (cuB_iff _).2 ⟨h, by show (0 : Int) ≤ p; omega, by show (p : Int) ≤ b.length; omega⟩
theorem rdV_1 {b : List Int} {p : Nat} (hp : p < b.length) : rdV ⟨b, (p : Int)⟩ 1 = b.getD p 0 := by
  unfold rdV
  show valB ((b.drop ((p : Int)).toNat).take 1) = _
  rw [Int.toNat_natCast, List.drop_eq_getElem_cons hp, List.take_succ_cons, List.take_zero, List.getD_eq_getElem?_getD, List.getElem?_eq_getElem hp]
  simp [valB]
theorem rdV_2 {b : List Int} {p : Nat} (hp : p + 1 < b.length) : rdV ⟨b, (p : Int)⟩ 2 = b.getD p 0 * 256 + b.getD (p + 1) 0 := by
  unfold rdV
  show valB ((b.drop ((p : Int)).toNat).take 2) = _
  rw [Int.toNat_natCast, List.drop_eq_getElem_cons (by omega : p < b.length), List.take_succ_cons, List.drop_eq_getElem_cons hp, List.take_succ_cons, List.take_zero, List.getD_eq_getElem?_getD, List.getElem?_eq_getElem (by omega : p < b.length), List.getD_eq_getElem?_getD, List.getElem?_eq_getElem hp]
  simp [valB]
theorem rs_yes {b : List Int} {p : Nat} (hb : Byt8 b) (h : b.length ≤ 50000) (hp : p + 1 + nl b p ≤ b.length) : rsE ⟨b, (p : Int)⟩ 1 255 = 0 ∧ rsC ⟨b, (p : Int)⟩ 1 255 = ⟨b, ((p + 1 + nl b p : Nat) : Int)⟩ ∧ rsV ⟨b, (p : Int)⟩ 1 255 = (b.drop (p + 1)).take (nl b p) := by
  have hv := rdV_1 (b := b) (p := p) (by omega)
  have hx := hb.at p
  have hk := nl_int hb p
  have e : rsE ⟨b, (p : Int)⟩ 1 255 = 0 := by
    unfold rsE pkE
    rw [if_pos (cuB_p h (by omega)), if_pos ⟨by decide, by decide⟩, if_pos (show (1 : Int) ≤ (b.length : Int) - (p : Int) by omega), hv, if_pos (by omega), if_pos (by show b.getD p 0 ≤ (b.length : Int) - (p : Int) - 1; omega)]
  refine ⟨e, ?_, ?_⟩
  · unfold rsC
    rw [if_pos e, hv]
    congr 1
    show (p : Int) + (1 + b.getD p 0) = _
    omega
  · unfold rsV
    rw [if_pos e, hv]
    show (b.drop ((p : Int) + 1).toNat).take (b.getD p 0).toNat = _
    rw [show ((p : Int) + 1).toNat = p + 1 by omega]; rfl
theorem rs_no {b : List Int} {p : Nat} (hb : Byt8 b) (h : b.length ≤ 50000) (hl : p ≤ b.length) (hp : ¬ p + 1 + nl b p ≤ b.length) : rsE ⟨b, (p : Int)⟩ 1 255 = 18 := by
  have hx := hb.at p
  have hk := nl_int hb p
  unfold rsE pkE
  rw [if_pos (cuB_p h (by omega)), if_pos ⟨by decide, by decide⟩]
  rcases Nat.lt_or_ge p b.length with h1 | h1
  · rw [rdV_1 h1, if_pos (show (1 : Int) ≤ (b.length : Int) - (p : Int) by omega), if_pos (by omega), if_neg (by show ¬ b.getD p 0 ≤ (b.length : Int) - (p : Int) - 1; omega)]
  · rw [if_neg (show ¬ (1 : Int) ≤ (b.length : Int) - (p : Int) by omega)]; rfl
theorem rd_yes {b : List Int} {p : Nat} (hb : Byt8 b) (h : b.length ≤ 50000) (hp : p + 2 ≤ b.length) : rdE ⟨b, (p : Int)⟩ 2 65535 = 0 ∧ rdC ⟨b, (p : Int)⟩ 2 65535 = ⟨b, ((p + 2 : Nat) : Int)⟩ ∧ rdN ⟨b, (p : Int)⟩ 2 65535 = b.getD p 0 * 256 + b.getD (p + 1) 0 := by
  have hv := rdV_2 (b := b) (p := p) (by omega)
  have hx := hb.at p
  have hy := hb.at (p + 1)
  have e : rdE ⟨b, (p : Int)⟩ 2 65535 = 0 := by
    unfold rdE pkE
    rw [if_pos (cuB_p h (by omega)), if_pos (by decide), if_pos (show (2 : Int) ≤ (b.length : Int) - (p : Int) by omega), hv, if_pos (by omega)]
  refine ⟨e, ?_, ?_⟩
  · unfold rdC
    rw [if_pos e]; rfl
  · unfold rdN
    rw [if_pos e, hv]
theorem rd_no {b : List Int} {p : Nat} (h : b.length ≤ 50000) (hl : p ≤ b.length) (hp : ¬ p + 2 ≤ b.length) : rdE ⟨b, (p : Int)⟩ 2 65535 = 18 := by
  unfold rdE pkE
  rw [if_pos (cuB_p h hl), if_pos (by decide), if_neg (show ¬ (2 : Int) ≤ (b.length : Int) - (p : Int) by omega)]
theorem tk_yes {b : List Int} {p : Nat} (h : b.length ≤ 50000) (hp : p + 20 ≤ b.length) : tkE ⟨b, (p : Int)⟩ 20 = 0 ∧ tkC ⟨b, (p : Int)⟩ 20 = ⟨b, ((p + 20 : Nat) : Int)⟩ ∧ tkV ⟨b, (p : Int)⟩ 20 = (b.drop p).take 20 := by
  have e : tkE ⟨b, (p : Int)⟩ 20 = 0 := by
    unfold tkE
    rw [if_pos (cuB_p h (by omega)), if_pos (by decide), if_pos (show (20 : Int) ≤ (b.length : Int) - (p : Int) by omega)]
  refine ⟨e, ?_, ?_⟩
  · unfold tkC
    rw [if_pos e]; rfl
  · unfold tkV
    rw [if_pos e]
    show (b.drop ((p : Int)).toNat).take ((20 : Int)).toNat = _
    rw [Int.toNat_natCast]; rfl
theorem tk_no {b : List Int} {p : Nat} (h : b.length ≤ 50000) (hl : p ≤ b.length) (hp : ¬ p + 20 ≤ b.length) : tkE ⟨b, (p : Int)⟩ 20 = 18 := by
  unfold tkE
  rw [if_pos (cuB_p h hl), if_pos (by decide), if_neg (show ¬ (20 : Int) ≤ (b.length : Int) - (p : Int) by omega)]
theorem sum_len {b : List Int} {p : Nat} (hp : p + 20 ≤ b.length) : ((b.drop p).take 20).length = 20 := by rw [List.length_take, List.length_drop]; omega
theorem sum_isD {b : List Int} {p : Nat} (hb : Byt8 b) (hp : p + 20 ≤ b.length) : IsD ((b.drop p).take 20) := by
  refine ⟨sum_len hp, fun z hz => ?_⟩
  exact hb z (List.mem_of_mem_drop (List.mem_of_mem_take hz))
theorem cu_of {w : World} {B n d : Nat} {A : Option Addr} {b : List Int} {p : Nat} (hb : Byt8 b) (o : OwnZ w B (.slice A n d) b) (e : n = b.length) (hp : p ≤ b.length) (h : b.length ≤ 50000) : CuIn w A n d ⟨b, (p : Int)⟩ := by
  have q := OwnZ.bounds o
  exact ⟨by show (-9223372036854775808 : Int) ≤ p; omega, by show (p : Int) ≤ 9223372036854775807; omega, o.has, e.symm, q.2.1, by omega, hb⟩
end Go.Proofs.YtiihafhnaiicoaaDoor.mbW
