/- Several texts as one: MbWP, MbPd, MbWr, MbWr2, MbL2, MbAl, MbA, MbRP. -/
import Derived.Test.YtiihafhnaiicoaaDoorPk0
import Derived.Test.YtiihafhnaiicoaaDoorAppK
import Derived.Test.YtiihafhnaiicoaaDoorPk3
import Derived.Laws.IdiomStrings
import Derived.Lib.SmallJoins
namespace Go.Proofs.YtiihafhnaiicoaaDoor.mbW
set_option maxRecDepth 100000
open Go.RowKit Go.Proofs.YtiihafhnaiicoaaDoor.base Go.Proofs.YtiihafhnaiicoaaDoor.shP Go.Proofs.YtiihafhnaiicoaaDoor.shW Go.Proofs.YtiihafhnaiicoaaDoor.ocP Go.Proofs.YtiihafhnaiicoaaDoor.ocW
open Go.Proofs.YtiihafhnaiicoaaDoor.trW (IsD sv zd_isD digest_isD z20_at)
set_option linter.unusedVariables false
set_option linter.unusedSimpArgs false
set_option maxRecDepth 100000
def bl (s : ByteArray) : List Int := s.data.toList.map fun b => (b.toNat : Int)
theorem bl_len (s : ByteArray) : (bl s).length = s.size := by simp [bl]
theorem bl_bd (s : ByteArray) : ∀ z ∈ bl s, 0 ≤ z ∧ z ≤ 255 := by
  intro z hz
  obtain ⟨b, _, rfl⟩ := List.mem_map.1 hz
  have := b.toNat_lt
  omega
theorem has_brow (w : World) (s : ByteArray) (c : Nat) (e : TypeId) (fr : Nat × Nat) {g : Nat} (hg : w.heap.size = g) : Has .u8 (w.alloc (.cells (bytesRow s c) e fr)) (some ⟨g, 0, none⟩) (bl s) := by
  refine .inr ⟨g, 0, rfl, by rw [← hg]; simp, fun i hi => ?_⟩
  rw [Joins.cell_alloc_mark_at w _ e fr g _ hg.symm, Nat.zero_add]
  have h1 : i < s.data.toList.length := by simpa [bl] using hi
  have h2 : i < s.data.size := by simpa using h1
  unfold bytesRow bl
  rw [Array.getElem?_append_left (by simpa using h2), Array.getElem?_map, Array.getElem?_eq_getElem h2, List.getD_eq_getElem?_getD, List.getElem?_map, List.getElem?_eq_getElem h1]
  simp
theorem conv_m (s : ByteArray) (w : World) (hs : s.size ≤ 1000) : ∃ c wB, (convert 9 35 (.string s)).run Tryd.prog w = .ok (.slice (some ⟨w.heap.size, 0, none⟩) s.size c) wB ∧ Has .u8 wB (some ⟨w.heap.size, 0, none⟩) (bl s) ∧ s.size ≤ c ∧ c ≤ 9223372036854775807 ∧ Below w.heap.size w wB ∧ w.heap.size < wB.heap.size := by
  have hr := run_bytes_of_string (P := Tryd.prog) w 9 35 5 s Tryd.underlying9 Tryd.underlying35 Tryd.underlying5
  refine ⟨_, _, hr, has_brow w.drew s _ _ _ rfl, grownCap_ge _ _ _ _, ?_, ((Below.refl _ _).drew).alloc (Nat.le_refl _) _, by simp⟩
  have := grownCap_le_maxLen w s.size 0 5 (by unfold maxLen; omega)
  unfold maxLen at this
  omega
/-- A record's bytes. -/
def rcB (r : Rc) : List Int := digs r.nm.size 1 ++ bl r.nm ++ digs r.sz 2 ++ r.sum
def tabB (rs : List Rc) : List Int := (rs.map rcB).flatten
theorem tabB_snoc (rs : List Rc) {k : Nat} (h : k < rs.length) : tabB (rs.take (k + 1)) = tabB (rs.take k) ++ rcB (rs.getD k rc0) := by
  unfold tabB
  rw [List.take_add_one, List.getElem?_eq_getElem h, List.getD_eq_getElem?_getD, List.getElem?_eq_getElem h]
  simp only [Option.toList_some, Option.getD_some, List.map_append, List.map_cons, List.map_nil, List.flatten_append, List.flatten_cons, List.flatten_nil, List.append_nil]
theorem rcB_len {r : Rc} (h : r.sum.length = 20) : (rcB r).length = r.nm.size + 23 := by
  unfold rcB
  rw [List.length_append, List.length_append, List.length_append, digs_len, digs_len, bl_len, h]; omega
theorem str_name {s : ByteArray} (h : s.size ≤ 40) : strE (bl s) 1 = 0 ∧ strV (bl s) 1 = digs s.size 1 ++ bl s := by
  have e : strE (bl s) 1 = 0 := by
    have e2 : numE (s.size : Int) 1 = 0 := by
      unfold numE
      rw [if_pos (by decide), if_pos (by show (s.size : Int) < 256; omega)]
    unfold strE
    rw [if_pos (by decide), if_pos (by rw [bl_len]; omega), bl_len]
    exact e2
  refine ⟨e, ?_⟩
  unfold strV
  rw [if_pos e, bl_len]; rfl
theorem num_size {z : Int} (h1 : 0 ≤ z) (h2 : z ≤ 8192) : numE z 2 = 0 ∧ numV z 2 = digs z 2 := by
  have e : numE z 2 = 0 := by
    unfold numE
    rw [if_pos (by decide), if_pos (by show z < 65536; omega)]
  exact ⟨e, by unfold numV; rw [if_pos e]; rfl⟩
noncomputable def wrV (rs : List Rc) : List Int := if vlE rs = 0 then tabB rs else []
theorem wr_ok {rs : List Rc} (h : vlE rs = 0) : wrV rs = tabB rs := by unfold wrV; rw [if_pos h]
theorem wr_no {rs : List Rc} (h : vlE rs ≠ 0) : wrV rs = [] := by unfold wrV; rw [if_neg h]
/-- The digest's cells within a record's. -/
theorem sum_cell {w : World} {g : Nat} {nm : ByteArray} {sz : Int} {sm : List Int} (h : Lies w g 54 (rcE ⟨nm, sz, sm⟩)) (hs : sm.length = 20) : ∀ i, i < 20 → w.cell? ⟨g, 2 + i, none⟩ = some (.int .u8 (sm.getD i 0)) := by
  intro i hi
  refine rec_sum h hs i _ ?_
  rw [sv, List.getElem?_map, List.getElem?_eq_getElem (by omega), List.getD_eq_getElem?_getD, List.getElem?_eq_getElem (by omega)]; rfl
theorem own_ne {w : World} {B : Nat} {v : Value} {zs : List Int} (h : OwnI w B 5 .u8 v zs) {g : Nat} (hg : w.heap.size ≤ g) : some g ≠ v.ownBlock := fun e => by
  have := (World.ownsRow.lt h g e.symm).2
  omega
theorem ownI_past {w w' : World} {B : Nat} {v : Value} {zs : List Int} (h : OwnI w B 5 .u8 v zs) (hb : Below w.heap.size w w') : OwnI w' B 5 .u8 v zs := h.below hb (Nat.le_refl _)
theorem ne_own {v v' : Value} {g s : Nat} (h : v'.ownBlock = v.ownBlock ∨ v'.ownBlock = some s) (h1 : some g ≠ v.ownBlock) (h2 : g < s) : some g ≠ v'.ownBlock := fun e => by
  rcases h with h | h
  · exact h1 (e.trans h)
  · rw [h] at e; injection e with e; omega
/-- What Write answers. -/
def WrP (rs : List Rc) (w : World) (e : Ending) (w' : World) : Prop := ∃ A n c, e = .returned (.tuple #[.slice A n c, .int .i64 (vlE rs)]) ∧ n = (wrV rs).length ∧ n ≤ c ∧ c ≤ 9223372036854775807 ∧ Has .u8 w' A (wrV rs) ∧ Below w.heap.size w w'
end Go.Proofs.YtiihafhnaiicoaaDoor.mbW

namespace Go.Proofs.YtiihafhnaiicoaaDoor.mbW
set_option maxRecDepth 100000
open Go.RowKit Go.Proofs.YtiihafhnaiicoaaDoor.base Go.Proofs.YtiihafhnaiicoaaDoor.shP Go.Proofs.YtiihafhnaiicoaaDoor.shW Go.Proofs.YtiihafhnaiicoaaDoor.ocP Go.Proofs.YtiihafhnaiicoaaDoor.ocW
open Go.Proofs.YtiihafhnaiicoaaDoor.trW (IsD sv zd_isD digest_isD z20_at)
set_option linter.unusedVariables false
set_option linter.unusedSimpArgs false
set_option maxRecDepth 100000
/-- How long the name at a place is; whether a record fits there; the place behind it; the record. -/
def nl (b : List Int) (p : Nat) : Nat := (b.getD p 0).toNat
def fits (b : List Int) (p : Nat) : Prop := p + nl b p + 23 ≤ b.length
instance (b : List Int) (p : Nat) : Decidable (fits b p) := inferInstanceAs (Decidable (_ ≤ _))
def nx (b : List Int) (p : Nat) : Nat := p + nl b p + 23
def rcAt (b : List Int) (p : Nat) : Rc := ⟨bstr ((b.drop (p + 1)).take (nl b p)), b.getD (p + 1 + nl b p) 0 * 256 + b.getD (p + 2 + nl b p) 0, (b.drop (p + 3 + nl b p)).take 20⟩
def rdS (b : List Int) : Nat → Option (List Rc × Nat)
  | 0 => some ([], 0)
  | k + 1 => match rdS b k with
    | none => none
    | some (l, p) => if fits b p then some (l ++ [rcAt b p], nx b p) else none
theorem rdS_none {b : List Int} {k : Nat} (h : rdS b k = none) : ∀ n, k ≤ n → rdS b n = none
  | 0, hn => by obtain rfl : k = 0 := by omega
                exact h
  | n + 1, hn => by
    rcases Nat.lt_or_ge n k with hk | hk
    · obtain rfl : k = n + 1 := by omega
      exact h
    · rw [rdS, rdS_none h n hk]
theorem rdS_step {b : List Int} {k p : Nat} {l : List Rc} (h : rdS b k = some (l, p)) (hf : fits b p) : rdS b (k + 1) = some (l ++ [rcAt b p], nx b p) := by
  rw [rdS, h]; simp only; rw [if_pos hf]
theorem rdS_stop {b : List Int} {k p : Nat} {l : List Rc} (h : rdS b k = some (l, p)) (hf : ¬ fits b p) : rdS b (k + 1) = none := by
  rw [rdS, h]; simp only; rw [if_neg hf]
def Byt8 (b : List Int) : Prop := ∀ z ∈ b, 0 ≤ z ∧ z ≤ 255
theorem Byt8.at {b : List Int} (h : Byt8 b) (p : Nat) : 0 ≤ b.getD p 0 ∧ b.getD p 0 ≤ 255 := by
  rw [List.getD_eq_getElem?_getD]
  rcases Nat.lt_or_ge p b.length with hp | hp
  · rw [List.getElem?_eq_getElem hp]; exact h _ (List.getElem_mem _)
  · rw [List.getElem?_eq_none hp]; simp
theorem nl_le {b : List Int} (h : Byt8 b) (p : Nat) : nl b p ≤ 255 := by have := h.at p; unfold nl; omega
theorem nl_int {b : List Int} (h : Byt8 b) (p : Nat) : ((nl b p : Nat) : Int) = b.getD p 0 := by have := h.at p; unfold nl; omega
theorem bstr_size (zs : List Int) : (bstr zs).size = zs.length := by
  have : ∀ (zs : List Int) (r : ByteArray), (zs.foldl (fun r n => r.push (UInt8.ofNat n.toNat)) r).size = r.size + zs.length := by
    intro zs
    induction zs with
    | nil => simp
    | cons z l ih => intro r; rw [List.foldl_cons, ih, ByteArray.size_push, List.length_cons]; omega
  have := this zs .empty
  unfold bstr
  rw [this]; simp
theorem rdS_le {b : List Int} (hb : Byt8 b) : ∀ {k p : Nat} {l : List Rc}, rdS b k = some (l, p) → p ≤ 278 * k ∧ p ≤ b.length ∧ l.length = k
  | 0, p, l, h => by
    simp only [rdS, Option.some.injEq, Prod.mk.injEq] at h
    obtain ⟨rfl, rfl⟩ := h
    simp
  | k + 1, p, l, h => by
    rw [rdS] at h
    rcases e : rdS b k with _ | ⟨l', p'⟩
    · rw [e] at h; cases h
    · rw [e] at h
      simp only at h
      by_cases hf : fits b p'
      · rw [if_pos hf] at h
        simp only [Option.some.injEq, Prod.mk.injEq] at h
        obtain ⟨rfl, rfl⟩ := h
        have ih := rdS_le hb e
        have := nl_le hb p'
        unfold fits at hf
        unfold nx
        refine ⟨by omega, by omega, ?_⟩
        rw [List.length_append, ih.2.2]; rfl
      · rw [if_neg hf] at h; cases h
/-- Only the first bytes matter. -/
theorem getD_take {b : List Int} {m i : Nat} (h : i < m) : (b.take m).getD i 0 = b.getD i 0 := by
  rw [List.getD_eq_getElem?_getD, List.getD_eq_getElem?_getD, List.getElem?_take, if_pos h]
theorem nl_take {b : List Int} {m p : Nat} (h : p < m) : nl (b.take m) p = nl b p := by unfold nl; rw [getD_take h]
theorem fits_take {b : List Int} {m p : Nat} (hb : Byt8 b) (h : p + 278 ≤ m) : fits (b.take m) p ↔ fits b p := by
  unfold fits
  rw [nl_take (by omega), List.length_take]
  have := nl_le hb p
  omega
theorem drop_take2 {b : List Int} {m i n : Nat} (h : i + n ≤ m) : ((b.take m).drop i).take n = (b.drop i).take n := by
  rw [List.drop_take, List.take_take, Nat.min_eq_left (by omega)]
theorem rcAt_take {b : List Int} {m p : Nat} (hb : Byt8 b) (h : p + 278 ≤ m) : rcAt (b.take m) p = rcAt b p := by
  have := nl_le hb p
  unfold rcAt
  rw [nl_take (by omega), drop_take2 (by omega), getD_take (by omega), getD_take (by omega), drop_take2 (by omega)]
theorem rdS_take {b : List Int} (hb : Byt8 b) (m : Nat) : ∀ k, 278 * k ≤ m → rdS (b.take m) k = rdS b k
  | 0, _ => rfl
  | k + 1, h => by
    rw [rdS, rdS, rdS_take hb m k (by omega)]
    rcases e : rdS b k with _ | ⟨l, p⟩
    · rfl
    · simp only
      have hp := (rdS_le hb e).1
      have h1 := fits_take (m := m) (p := p) hb (by omega)
      by_cases hf : fits b p
      · rw [if_pos hf, if_pos (h1.2 hf), rcAt_take hb (by omega)]
        unfold nx
        rw [nl_take (by omega)]
      · rw [if_neg hf, if_neg (fun e => hf (h1.1 e))]
/-! What octet answers. -/
theorem cuB_p {b : List Int} {p : Nat} (h : b.length ≤ 50000) (hp : p ≤ b.length) : cuB ⟨b, (p : Int)⟩ = true := (cuB_iff _).2 ⟨h, by show (0 : Int) ≤ p; omega, by show (p : Int) ≤ b.length; omega⟩
theorem rdV_1 {b : List Int} {p : Nat} (hp : p < b.length) : rdV ⟨b, (p : Int)⟩ 1 = b.getD p 0 := by
  unfold rdV
  show valB ((b.drop ((p : Int)).toNat).take 1) = _
  rw [Int.toNat_natCast, List.drop_eq_getElem_cons hp, List.take_succ_cons, List.take_zero, List.getD_eq_getElem?_getD, List.getElem?_eq_getElem hp]
  simp [valB]
theorem rdV_2 {b : List Int} {p : Nat} (hp : p + 1 < b.length) : rdV ⟨b, (p : Int)⟩ 2 = b.getD p 0 * 256 + b.getD (p + 1) 0 := by
  unfold rdV
  show valB ((b.drop ((p : Int)).toNat).take 2) = _
  rw [Int.toNat_natCast, List.drop_eq_getElem_cons (by omega : p < b.length), List.take_succ_cons, List.drop_eq_getElem_cons hp, List.take_succ_cons, List.take_zero, List.getD_eq_getElem?_getD, List.getElem?_eq_getElem (by omega : p < b.length), List.getD_eq_getElem?_getD, List.getElem?_eq_getElem hp]
  simp [valB]
theorem rs_yes {b : List Int} {p : Nat} (hb : Byt8 b) (h : b.length ≤ 50000) (hp : p + 1 + nl b p ≤ b.length) : rsE ⟨b, (p : Int)⟩ 1 255 = 0 ∧ rsC ⟨b, (p : Int)⟩ 1 255 = ⟨b, ((p + 1 + nl b p : Nat) : Int)⟩ ∧ rsV ⟨b, (p : Int)⟩ 1 255 = (b.drop (p + 1)).take (nl b p) := by
  have hv := rdV_1 (b := b) (p := p) (by omega)
  have hx := hb.at p
  have hk := nl_int hb p
  have e : rsE ⟨b, (p : Int)⟩ 1 255 = 0 := by
    unfold rsE pkE
    rw [if_pos (cuB_p h (by omega)), if_pos ⟨by decide, by decide⟩, if_pos (show (1 : Int) ≤ (b.length : Int) - (p : Int) by omega), hv, if_pos (by omega), if_pos (by show b.getD p 0 ≤ (b.length : Int) - (p : Int) - 1; omega)]
  refine ⟨e, ?_, ?_⟩
  · unfold rsC
    rw [if_pos e, hv]
    congr 1
    show (p : Int) + (1 + b.getD p 0) = _
    omega
  · unfold rsV
    rw [if_pos e, hv]
    show (b.drop ((p : Int) + 1).toNat).take (b.getD p 0).toNat = _
    rw [show ((p : Int) + 1).toNat = p + 1 by omega]; rfl
theorem rs_no {b : List Int} {p : Nat} (hb : Byt8 b) (h : b.length ≤ 50000) (hl : p ≤ b.length) (hp : ¬ p + 1 + nl b p ≤ b.length) : rsE ⟨b, (p : Int)⟩ 1 255 = 18 := by
  have hx := hb.at p
  have hk := nl_int hb p
  unfold rsE pkE
  rw [if_pos (cuB_p h (by omega)), if_pos ⟨by decide, by decide⟩]
  rcases Nat.lt_or_ge p b.length with h1 | h1
  · rw [rdV_1 h1, if_pos (show (1 : Int) ≤ (b.length : Int) - (p : Int) by omega), if_pos (by omega), if_neg (by show ¬ b.getD p 0 ≤ (b.length : Int) - (p : Int) - 1; omega)]
  · rw [if_neg (show ¬ (1 : Int) ≤ (b.length : Int) - (p : Int) by omega)]; rfl
theorem rd_yes {b : List Int} {p : Nat} (hb : Byt8 b) (h : b.length ≤ 50000) (hp : p + 2 ≤ b.length) : rdE ⟨b, (p : Int)⟩ 2 65535 = 0 ∧ rdC ⟨b, (p : Int)⟩ 2 65535 = ⟨b, ((p + 2 : Nat) : Int)⟩ ∧ rdN ⟨b, (p : Int)⟩ 2 65535 = b.getD p 0 * 256 + b.getD (p + 1) 0 := by
  have hv := rdV_2 (b := b) (p := p) (by omega)
  have hx := hb.at p
  have hy := hb.at (p + 1)
  have e : rdE ⟨b, (p : Int)⟩ 2 65535 = 0 := by
    unfold rdE pkE
    rw [if_pos (cuB_p h (by omega)), if_pos (by decide), if_pos (show (2 : Int) ≤ (b.length : Int) - (p : Int) by omega), hv, if_pos (by omega)]
  refine ⟨e, ?_, ?_⟩
  · unfold rdC
    rw [if_pos e]; rfl
  · unfold rdN
    rw [if_pos e, hv]
theorem rd_no {b : List Int} {p : Nat} (h : b.length ≤ 50000) (hl : p ≤ b.length) (hp : ¬ p + 2 ≤ b.length) : rdE ⟨b, (p : Int)⟩ 2 65535 = 18 := by
  unfold rdE pkE
  rw [if_pos (cuB_p h hl), if_pos (by decide), if_neg (show ¬ (2 : Int) ≤ (b.length : Int) - (p : Int) by omega)]
theorem tk_yes {b : List Int} {p : Nat} (h : b.length ≤ 50000) (hp : p + 20 ≤ b.length) : tkE ⟨b, (p : Int)⟩ 20 = 0 ∧ tkC ⟨b, (p : Int)⟩ 20 = ⟨b, ((p + 20 : Nat) : Int)⟩ ∧ tkV ⟨b, (p : Int)⟩ 20 = (b.drop p).take 20 := by
  have e : tkE ⟨b, (p : Int)⟩ 20 = 0 := by
    unfold tkE
    rw [if_pos (cuB_p h (by omega)), if_pos (by decide), if_pos (show (20 : Int) ≤ (b.length : Int) - (p : Int) by omega)]
  refine ⟨e, ?_, ?_⟩
  · unfold tkC
    rw [if_pos e]; rfl
  · unfold tkV
    rw [if_pos e]
    show (b.drop ((p : Int)).toNat).take ((20 : Int)).toNat = _
    rw [Int.toNat_natCast]; rfl
theorem tk_no {b : List Int} {p : Nat} (h : b.length ≤ 50000) (hl : p ≤ b.length) (hp : ¬ p + 20 ≤ b.length) : tkE ⟨b, (p : Int)⟩ 20 = 18 := by
  unfold tkE
  rw [if_pos (cuB_p h hl), if_pos (by decide), if_neg (show ¬ (20 : Int) ≤ (b.length : Int) - (p : Int) by omega)]
theorem sum_len {b : List Int} {p : Nat} (hp : p + 20 ≤ b.length) : ((b.drop p).take 20).length = 20 := by rw [List.length_take, List.length_drop]; omega
theorem sum_isD {b : List Int} {p : Nat} (hb : Byt8 b) (hp : p + 20 ≤ b.length) : IsD ((b.drop p).take 20) := by
  refine ⟨sum_len hp, fun z hz => ?_⟩
  exact hb z (List.mem_of_mem_drop (List.mem_of_mem_take hz))
theorem cu_of {w : World} {B n d : Nat} {A : Option Addr} {b : List Int} {p : Nat} (hb : Byt8 b) (o : OwnZ w B (.slice A n d) b) (e : n = b.length) (hp : p ≤ b.length) (h : b.length ≤ 50000) : CuIn w A n d ⟨b, (p : Int)⟩ := by
  have q := OwnZ.bounds o
  exact ⟨by show (-9223372036854775808 : Int) ≤ p; omega, by show (p : Int) ≤ 9223372036854775807; omega, o.has, e.symm, q.2.1, by omega, hb⟩
end Go.Proofs.YtiihafhnaiicoaaDoor.mbW

namespace Go.Proofs.YtiihafhnaiicoaaDoor.mbW
set_option maxRecDepth 100000
open Go.RowKit Go.Proofs.YtiihafhnaiicoaaDoor.base Go.Proofs.YtiihafhnaiicoaaDoor.shP Go.Proofs.YtiihafhnaiicoaaDoor.shW Go.Proofs.YtiihafhnaiicoaaDoor.ocP Go.Proofs.YtiihafhnaiicoaaDoor.ocW
open Go.Proofs.YtiihafhnaiicoaaDoor.trW (IsD sv zd_isD digest_isD z20_at)
set_option linter.unusedVariables false
set_option linter.unusedSimpArgs false
set_option maxRecDepth 100000
set_option maxHeartbeats 6400000 in
theorem Write_any (rs : List Rc) (P : Option Addr) (m d : Nat) (w : World) (hT : Tab w) (hR : RecB w P m d rs) :
    Calls Tryd.prog 18 #[.slice P m d] w (WrP rs w) := by
  have m9 : (m : Int) ≤ 9223372036854775807 := by have := hR.c1; have := hR.c2; omega
  have HR := Lib.hid hR
  have HL := Lib.hid hR.l
  go_enter Tryd.func18, Tryd.ntmps18
  go_wp2_with fail
  refine (Valid_any rs P m d w hT hR).mono ?_
  rintro e w1 ⟨rfl, b1⟩
  clear hR hT
  have B1 := Lib.hid b1
  clear b1
  rcases vl_cases rs with hc | hc
  case inr =>
    have HC : Hid (vlE rs ≠ 0) := Lib.hid (by omega)
    have HF := Lib.hid (wr_no HC.out)
    rcases hc with hc | hc | hc <;>
    · have HCC := Lib.hid hc
      rw [hc]
      clear hc
      go_wp2_with fail
      go_ret2
      exact ⟨none, 0, 0, by rw [HCC.out]; rfl, by rw [HF.out]; rfl, Nat.le_refl _, by omega, .inl HF.out, B1.out⟩
  case inl =>
    have HC := Lib.hid hc
    have HZ := Lib.hid (vl_zero hc)
    have hm := HZ.out.1
    rw [HL.out] at hm
    have HM := Lib.hid hm
    rw [hc]
    clear hc hm
    go_wp2_with fail
    go_loopw [5, 18] (fun bv iv wq => ∃ (k n : Nat) (A : Option Addr) (c : Nat), k ≤ m ∧ iv = .int .i64 (k : Int) ∧ bv = .slice A n c ∧ n = (tabB (rs.take k)).length ∧ n ≤ 100 * k ∧ OwnI wq w.heap.size 5 .u8 (.slice A n c) (tabB (rs.take k)) ∧ Below w.heap.size w wq) (fun _ iv _ => m - (intOf iv).toNat)
    case atStart => exact ⟨0, 0, none, 0, Nat.zero_le _, rfl, rfl, rfl, by omega, OwnI.nil _ _ _ _, B1.out⟩
    case round =>
      clear B1
      obtain ⟨k, n, A, c, hk, rfl, rfl, hn, hn2, own, acc⟩ := hrel
      rename World => wq
      have HN := Lib.hid (And.intro hn hn2)
      have HO := Lib.hid own
      have HACC := Lib.hid acc
      by_cases hlt : k < m
      · obtain ⟨b, off, rfl, hb⟩ := HR.out.h.some (by rw [HL.out]; omega)
        have RX := Lib.hid ((HR.out.h.past acc).rng (i := k) (by rw [HL.out]; exact hlt))
        have HK := Lib.hid hlt
        have hmem : rs.getD k RE.d ∈ rs := by rw [List.getD_eq_getElem?_getD, List.getElem?_eq_getElem (by rw [HL.out]; exact hlt)]; exact List.getElem_mem _
        have HSD := Lib.hid (HR.out.d _ hmem)
        have HOK := Lib.hid (HZ.out.2.1 k (by rw [HL.out]; exact hlt))
        have HSN := Lib.hid (tabB_snoc rs (k := k) (by rw [HL.out]; exact hlt))
        have k1 : (k : Int) < m := by omega
        have k0 : 0 ≤ (k : Int) := by omega
        have hd0 : RE.d = rc0 := rfl
        rw [hd0] at RX HSD
        generalize rs.getD k rc0 = q at *
        obtain ⟨nm, sz, sm⟩ := q
        clear hmem hd0
        have HNS := Lib.hid (nm_size HOK.out.1)
        have HLN := Lib.hid (rcB_len (r := ⟨nm, sz, sm⟩) HSD.out.len)
        have z0 : 0 ≤ sz := HOK.out.2.1
        have z9 : sz ≤ 8192 := HOK.out.2.2.1
        dsimp only at HNS HSD HLN
        have LZ := Lib.hid (z22_at wq rfl)
        have HGG := Lib.hid (mb_new wq (.cells #[.string ⟨#[]⟩, .int .i64 0, .int .u8 0, .int .u8 0, .int .u8 0, .int .u8 0, .int .u8 0, .int .u8 0, .int .u8 0, .int .u8 0, .int .u8 0, .int .u8 0, .int .u8 0, .int .u8 0, .int .u8 0, .int .u8 0, .int .u8 0, .int .u8 0, .int .u8 0, .int .u8 0, .int .u8 0, .int .u8 0] 54))
        have HGS : Hid ((wq.alloc (.cells #[.string ⟨#[]⟩, .int .i64 0, .int .u8 0, .int .u8 0, .int .u8 0, .int .u8 0, .int .u8 0, .int .u8 0, .int .u8 0, .int .u8 0, .int .u8 0, .int .u8 0, .int .u8 0, .int .u8 0, .int .u8 0, .int .u8 0, .int .u8 0, .int .u8 0, .int .u8 0, .int .u8 0, .int .u8 0, .int .u8 0] 54)).heap.size = wq.heap.size + 1) := Lib.hid (by simp)
        clear hk hn hn2 hlt own acc hb
        go_upto_region 8 with (first | (show wpList _ _ _ ({ dst := _, op := Op.load 54 _, type := _, pos := _, after := _, guard := _ } :: _) _ _; go_must (refine Enc.wp_ld RE (x := ⟨nm, sz, sm⟩) (P := Tryd.prog) Tryd.underlying54 rfl info22 (by rfl) _ rfl (RX.out) rfl ?_)) | (show wpList _ _ _ ({ dst := none, op := Op.store 54 (.tmp 7) _, type := _, pos := _, after := _, guard := _ } :: _) _ _; go_must (refine Enc.wp_st RE (g := wq.heap.size) (P := Tryd.prog) info22 (by rfl) _ _ rfl (LZ.out) rfl rfl ?_); intro w5 hR5 hg5 hb5 hz5))
        have BQ := HGG.out.trans hb5
        have L5 := Lib.hid hR5
        have O5 := Lib.hid (ownI_past HO.out BQ)
        have B5 := Lib.hid (mb_bb HACC.out BQ)
        have y0 : w5.cell? ⟨wq.heap.size, 0, none⟩ = some (.string nm) := L5.out.cell 0
        have HNG := Lib.hid (own_ne HO.out (Nat.le_refl _))
        obtain ⟨g8, hg8⟩ : ∃ g8, wq.heap.size = g8 := ⟨_, rfl⟩
        have HS5 : Hid (g8 < w5.heap.size) := Lib.hid (by rw [hz5, HGS.out]; omega)
        rw [hg8] at y0 L5 HNG ⊢
        clear BQ hR5 hg5 hb5 hz5 HACC HGG LZ RX HO HGS hg8
        obtain ⟨cc, wB, hcv, hh, hc1, hc2, hbb, hlt⟩ := conv_m nm w5 (by have := HNS.out; omega)
        have HH := Lib.hid (And.intro hh (And.intro hc1 hc2))
        have LB := Lib.hid (L5.out.past hbb)
        have OB := Lib.hid (ownI_past O5.out hbb)
        have BB := Lib.hid (mb_bb B5.out hbb)
        have HSB : Hid (w5.heap.size < wB.heap.size) := Lib.hid hlt
        clear hh hc1 hc2 hbb hlt
        go_wp2_with fail
        refine (String_any (bl nm) 1 _ nm.size cc wB HH.out.1 (bl_len nm) HH.out.2.1 HH.out.2.2).mono ?_
        rintro e w6 ⟨A6, n6, c6, rfl, hn6, ho6, hb6⟩
        rw [(str_name HNS.out.2).1]
        rw [(str_name HNS.out.2).2] at hn6 ho6
        have L6 := Lib.hid (LB.out.past hb6)
        have O6 := Lib.hid (ownI_past OB.out hb6)
        have B6 := Lib.hid (mb_bb BB.out hb6)
        have H6 := Lib.hid ho6
        have N6 := Lib.hid hn6
        have S6 := Lib.hid hb6.size
        have y1 : w6.cell? ⟨g8, 1, none⟩ = some (.int .i64 sz) := L6.out.cell 1
        clear hcv y0 hn6 ho6 hb6 L5 O5 B5 LB OB BB HH
        go_wp2_with fail
        refine (Number_any sz 2 w6 z0 (by omega)).mono ?_
        rintro e w7 ⟨A7, n7, c7, rfl, hn7, ho7, hb7⟩
        rw [(num_size z0 z9).1]
        rw [(num_size z0 z9).2] at hn7 ho7
        have L7 := Lib.hid (L6.out.past hb7)
        have O7 := Lib.hid (ownI_past O6.out hb7)
        have B7 := Lib.hid (mb_bb B6.out hb7)
        have H7 := Lib.hid (H6.out.past hb7)
        rw [digs_len] at hn7
        subst hn7
        have N6' : Hid (n6 = nm.size + 1) := Lib.hid (by rw [N6.out, List.length_append, digs_len, bl_len]; omega)
        obtain ⟨g6, rfl, g61, g62, o6⟩ := H7.out.at_head (by have := N6'.out; omega)
        obtain ⟨g7, rfl, g71, g72, o7⟩ := ho7.at_head (by decide)
        have E6 : Hid (∀ i, i < n6 → w7.cell? ⟨g6, 0 + i, none⟩ = some (.int .u8 ((digs nm.size 1 ++ bl nm).getD i 0))) := Lib.hid (fun i hi => by rw [Nat.zero_add]; exact o6.cell i (by rw [← N6.out]; exact hi))
        have E7 : Hid (∀ i, i < 2 → w7.cell? ⟨g7, 0 + i, none⟩ = some (.int .u8 ((digs sz 2).getD i 0))) := Lib.hid (fun i hi => by rw [Nat.zero_add]; exact o7.cell i (by rw [digs_len]; exact hi))
        have NE7 := Lib.hid (own_ne O6.out g71)
        have LT7 := Lib.hid (And.intro g72 L7.out.lt)
        have HB7 := Lib.hid B7.out.size
        clear hb7 L6 O6 B6 H6 H7 y1 g61 g62 g71 o6 o7 ho7
        go_upto_region 15 with (at_builtin; refine app8k (by rfl) _ _ rfl w.heap.size (.slice A n c) (tabB (rs.take k)) rfl O7.out g6 0 n6 c6 (digs nm.size 1 ++ bl nm) rfl N6.out.symm E6.out (n + n6) (by rw [HN.out.1]) (by have := HN.out.2; have := HM.out; have := HK.out; have := N6'.out; have := HNS.out; omega) HB7.out ?_; intro A8 c8 w8 ho8 hg8 hb8 hk8)
        have L8 := Lib.hid (L7.out.grown hg8 HNG.out)
        have E8 : Hid (∀ i, i < 2 → w8.cell? ⟨g7, 0 + i, none⟩ = some (.int .u8 ((digs sz 2).getD i 0))) := Lib.hid (fun i hi => hg8.cell (E7.out i hi) NE7.out)
        have NG8 := Lib.hid (ne_own hk8 HNG.out LT7.out.2)
        have NS8 := Lib.hid (ne_own hk8 NE7.out LT7.out.1)
        have LG8 := Lib.hid (Nat.lt_of_lt_of_le LT7.out.2 hg8.size)
        have B8 := Lib.hid (B7.out.trans hb8)
        have HB8 := Lib.hid (Nat.le_trans HB7.out hg8.size)
        have O8 := Lib.hid ho8
        have HNN : Hid (n + n6 + 2 + 20 ≤ 100 * (k + 1)) := Lib.hid (by have := HN.out.2; have := N6'.out; have := HNS.out; omega)
        have HT8 : Hid (n + n6 = (tabB (rs.take k) ++ (digs nm.size 1 ++ bl nm)).length) := Lib.hid (by rw [List.length_append, ← N6.out, ← HN.out.1])
        clear L7 E6 E7 NE7 LT7 B7 HB7 hg8 hb8 hk8 ho8 HNG O7
        go_upto_region 16 with (at_builtin; refine app8k (by rfl) _ _ rfl w.heap.size (.slice A8 (n + n6) c8) (tabB (rs.take k) ++ (digs nm.size 1 ++ bl nm)) rfl O8.out g7 0 2 c7 (digs sz 2) rfl (digs_len _ _) E8.out (n + n6 + 2) (by rw [← HT8.out]) (by have := HNN.out; have := HM.out; have := HK.out; omega) HB8.out ?_; intro A9 c9 w9 ho9 hg9 hb9 hk9)
        have L9 := Lib.hid (L8.out.grown hg9 NG8.out)
        have E9 := Lib.hid (sum_cell L9.out HSD.out.len)
        have B9 := Lib.hid (B8.out.trans hb9)
        have HB9 := Lib.hid (Nat.le_trans HB8.out hg9.size)
        have O9 := Lib.hid ho9
        have HT9 : Hid (n + n6 + 2 = ((tabB (rs.take k) ++ (digs nm.size 1 ++ bl nm)) ++ digs sz 2).length) := Lib.hid (by rw [List.length_append, ← HT8.out, digs_len])
        clear L8 E8 NG8 NS8 LG8 B8 HB8 hg9 hb9 hk9 ho9 O8
        go_wp2_with (at_builtin; refine app8k (by rfl) _ _ rfl w.heap.size (.slice A9 (n + n6 + 2) c9) ((tabB (rs.take k) ++ (digs nm.size 1 ++ bl nm)) ++ digs sz 2) rfl O9.out g8 2 20 20 sm rfl HSD.out.len E9.out (n + n6 + 2 + 20) (by rw [← HT9.out]) (by have := HNN.out; have := HM.out; have := HK.out; omega) HB9.out ?_; intro Aa ca wa hoa hga hba hka)
        have HFI : Hid (tabB (rs.take (k + 1)) = ((tabB (rs.take k) ++ (digs nm.size 1 ++ bl nm)) ++ digs sz 2) ++ sm) := Lib.hid (by rw [HSN.out]; unfold rcB; simp only [List.append_assoc])
        go_roundw
        case rel => exact ⟨k + 1, n + n6 + 2 + 20, Aa, ca, HK.out, by go_num, rfl, by rw [HFI.out, List.length_append, ← HT9.out, HSD.out.len], HNN.out, by rw [HFI.out]; exact hoa, B9.out.trans hba⟩
        case measure => simp [intOf]; have := HK.out; omega
      · have k1 : ¬ (k : Int) < m := by omega
        have HF : Hid (wrV rs = tabB (rs.take k)) := Lib.hid (by rw [wr_ok HC.out, List.take_of_length_le (by rw [HL.out]; omega)])
        have HBD := Lib.hid (OwnZ.bounds (.inl own))
        have HHS := Lib.hid own.has
        have HN1 := Lib.hid hn
        clear hk hn hn2 hlt acc HN own HO
        go_wp2_with fail
        go_ret2
        exact ⟨A, n, c, by rw [HC.out]; rfl, by rw [HF.out]; exact HN1.out, HBD.out.2.1, HBD.out.2.2, by rw [HF.out]; exact HHS.out, HACC.out⟩
end Go.Proofs.YtiihafhnaiicoaaDoor.mbW

namespace Go.Proofs.YtiihafhnaiicoaaDoor.mbW
set_option maxRecDepth 100000
open Go.RowKit Go.Proofs.YtiihafhnaiicoaaDoor.base Go.Proofs.YtiihafhnaiicoaaDoor.shP Go.Proofs.YtiihafhnaiicoaaDoor.shW Go.Proofs.YtiihafhnaiicoaaDoor.ocP Go.Proofs.YtiihafhnaiicoaaDoor.ocW
open Go.Proofs.YtiihafhnaiicoaaDoor.trW (IsD sv zd_isD digest_isD z20_at)
set_option linter.unusedVariables false
set_option linter.unusedSimpArgs false
set_option maxRecDepth 100000
theorem digs1 {n : Int} (h : 0 ≤ n) (h2 : n ≤ 255) : digs n 1 = [n] := by
  show [n / 256 ^ (1 - 1 - 0) % 256] = [n]
  congr 1
  show n / 1 % 256 = n
  omega
theorem digs2 (n : Int) : digs n 2 = [n / 256 % 256, n % 256] := by
  show [n / 256 ^ (2 - 1 - 0) % 256, n / 256 ^ (2 - 1 - 1) % 256] = _
  congr 1
  congr 1
  show n / 1 % 256 = n % 256
  omega
theorem has_cells {w : World} {k : IntKind} {g o : Nat} {ys : List Int} (h : Has k w (some ⟨g, o, none⟩) ys) : ∀ i, i < ys.length → w.cell? ⟨g, o + i, none⟩ = some (.int k (ys.getD i 0)) := by
  intro i hi
  rcases h with h | ⟨b, off, e, _, hc⟩
  · rw [h] at hi; simp at hi
  · injection e with e
    injection e with e1 e2
    subst e1 e2
    exact hc i hi
set_option maxHeartbeats 6400000 in
theorem Bytes_any (rs : List Rc) (P : Option Addr) (m d : Nat) (w : World) (hR : RecB w P m d rs) (hv : vlE rs = 0) :
    Calls Tryd.prog 37 #[.slice P m d] w fun e w' => ∃ A n c, e = .returned (.slice A n c) ∧ n = (tabB rs).length ∧ n ≤ c ∧ c ≤ 9223372036854775807 ∧ Has .u8 w' A (tabB rs) ∧ Below w.heap.size w w' := by
  have m9 : (m : Int) ≤ 9223372036854775807 := by have := hR.c1; have := hR.c2; omega
  have HR := Lib.hid hR
  have HL := Lib.hid hR.l
  have HZ := Lib.hid (vl_zero hv)
  have hm := HZ.out.1
  rw [HL.out] at hm
  have HM := Lib.hid hm
  clear hR hv hm
  go_enter Tryd.func37, Tryd.ntmps37
  go_wp2_with fail
  go_loopw [3, 4] (fun bv iv wq => ∃ (k n : Nat) (A : Option Addr) (c : Nat), k ≤ m ∧ iv = .int .i64 (k : Int) ∧ bv = .slice A n c ∧ n = (tabB (rs.take k)).length ∧ n ≤ 100 * k ∧ OwnI wq w.heap.size 5 .u8 (.slice A n c) (tabB (rs.take k)) ∧ Below w.heap.size w wq) (fun _ iv _ => m - (intOf iv).toNat)
  case atStart => exact ⟨0, 0, none, 0, Nat.zero_le _, rfl, rfl, rfl, by omega, OwnI.nil _ _ _ _, Below.refl _ _⟩
  case round =>
    obtain ⟨k, n, A, c, hk, rfl, rfl, hn, hn2, own, acc⟩ := hrel
    rename World => wq
    have HN := Lib.hid (And.intro hn hn2)
    have HO := Lib.hid own
    have HACC := Lib.hid acc
    by_cases hlt : k < m
    · obtain ⟨b, off, rfl, hb⟩ := HR.out.h.some (by rw [HL.out]; omega)
      have RX := Lib.hid ((HR.out.h.past acc).rng (i := k) (by rw [HL.out]; exact hlt))
      have HK := Lib.hid hlt
      have hmem : rs.getD k RE.d ∈ rs := by rw [List.getD_eq_getElem?_getD, List.getElem?_eq_getElem (by rw [HL.out]; exact hlt)]; exact List.getElem_mem _
      have HSD := Lib.hid (HR.out.d _ hmem)
      have HOK := Lib.hid (HZ.out.2.1 k (by rw [HL.out]; exact hlt))
      have HSN := Lib.hid (tabB_snoc rs (k := k) (by rw [HL.out]; exact hlt))
      have k1 : (k : Int) < m := by omega
      have k0 : 0 ≤ (k : Int) := by omega
      have hd0 : RE.d = rc0 := rfl
      rw [hd0] at RX HSD
      generalize rs.getD k rc0 = q at *
      obtain ⟨nm, sz, sm⟩ := q
      clear hmem hd0
      have HNS := Lib.hid (nm_size HOK.out.1)
      have HLN := Lib.hid (rcB_len (r := ⟨nm, sz, sm⟩) HSD.out.len)
      have z0 : 0 ≤ sz := HOK.out.2.1
      have z9 : sz ≤ 8192 := HOK.out.2.2.1
      dsimp only at HNS HSD HLN
      have LZ := Lib.hid (z22_at wq rfl)
      have HGG := Lib.hid (mb_new wq (.cells #[.string ⟨#[]⟩, .int .i64 0, .int .u8 0, .int .u8 0, .int .u8 0, .int .u8 0, .int .u8 0, .int .u8 0, .int .u8 0, .int .u8 0, .int .u8 0, .int .u8 0, .int .u8 0, .int .u8 0, .int .u8 0, .int .u8 0, .int .u8 0, .int .u8 0, .int .u8 0, .int .u8 0, .int .u8 0, .int .u8 0] 54))
      have HGS : Hid ((wq.alloc (.cells #[.string ⟨#[]⟩, .int .i64 0, .int .u8 0, .int .u8 0, .int .u8 0, .int .u8 0, .int .u8 0, .int .u8 0, .int .u8 0, .int .u8 0, .int .u8 0, .int .u8 0, .int .u8 0, .int .u8 0, .int .u8 0, .int .u8 0, .int .u8 0, .int .u8 0, .int .u8 0, .int .u8 0, .int .u8 0, .int .u8 0] 54)).heap.size = wq.heap.size + 1) := Lib.hid (by simp)
      clear hk hn hn2 hlt own acc hb
      go_upto_region 6 with (first | (show wpList _ _ _ ({ dst := _, op := Op.load 54 _, type := _, pos := _, after := _, guard := _ } :: _) _ _; go_must (refine Enc.wp_ld RE (x := ⟨nm, sz, sm⟩) (P := Tryd.prog) Tryd.underlying54 rfl info22 (by rfl) _ rfl (RX.out) rfl ?_)) | (show wpList _ _ _ ({ dst := none, op := Op.store 54 (.tmp 5) _, type := _, pos := _, after := _, guard := _ } :: _) _ _; go_must (refine Enc.wp_st RE (g := wq.heap.size) (P := Tryd.prog) info22 (by rfl) _ _ rfl (LZ.out) rfl rfl ?_); intro w5 hR5 hg5 hb5 hz5))
      have BQ := HGG.out.trans hb5
      have L5 := Lib.hid hR5
      have O5 := Lib.hid (ownI_past HO.out BQ)
      have B5 := Lib.hid (mb_bb HACC.out BQ)
      have y0 : w5.cell? ⟨wq.heap.size, 0, none⟩ = some (.string nm) := L5.out.cell 0
      have HNG := Lib.hid (own_ne HO.out (Nat.le_refl _))
      obtain ⟨g8, hg8⟩ : ∃ g8, wq.heap.size = g8 := ⟨_, rfl⟩
      have HS5 : Hid (g8 < w5.heap.size) := Lib.hid (by rw [hz5, HGS.out]; omega)
      rw [hg8] at y0 L5 HNG ⊢
      clear BQ hR5 hg5 hb5 hz5 HACC HGG LZ RX HO HGS hg8
      have n40 : (nm.size : Int) ≤ 40 := by have := HNS.out.2; omega
      have n0 : 0 ≤ (nm.size : Int) := by omega
      have y0' : (w5.alloc (.cells #[.int .u8 (nm.size : Int)] 5)).cell? ⟨g8, 0, none⟩ = some (.string nm) := (L5.out.past (mb_new w5 _)).cell 0
      have LA := Lib.hid (L5.out.past (mb_new w5 (.cells #[.int .u8 (nm.size : Int)] 5)))
      have OA := Lib.hid (ownI_past O5.out (mb_new w5 (.cells #[.int .u8 (nm.size : Int)] 5)))
      have BA := Lib.hid (mb_bb B5.out (mb_new w5 (.cells #[.int .u8 (nm.size : Int)] 5)))
      have EA : Hid (∀ i, i < 1 → (w5.alloc (.cells #[.int .u8 (nm.size : Int)] 5)).cell? ⟨w5.heap.size, 0 + i, none⟩ = some (.int .u8 ([(nm.size : Int)].getD i 0))) := Lib.hid (fun i hi => by
        obtain rfl : i = 0 := by omega
        exact (Lies.fresh w5 5 [.int .u8 (nm.size : Int)]).cell 0)
      have HBA := Lib.hid BA.out.size
      go_upto_region 7 with (at_builtin; refine app8k (by rfl) _ _ rfl w.heap.size (.slice A n c) (tabB (rs.take k)) rfl OA.out w5.heap.size 0 1 1 [(nm.size : Int)] rfl rfl EA.out (n + 1) (by rw [HN.out.1]) (by have := HN.out.2; have := HM.out; have := HK.out; omega) HBA.out ?_; intro A6 c6 w6 ho6 hg6 hb6 hk6)
      have L6 := Lib.hid (LA.out.grown hg6 HNG.out)
      have NG6 := Lib.hid (ne_own hk6 HNG.out (by have := LA.out.lt; exact this))
      have B6 := Lib.hid (BA.out.trans hb6)
      have O6 := Lib.hid ho6
      have HT6 : Hid (n + 1 = (tabB (rs.take k) ++ [(nm.size : Int)]).length) := Lib.hid (by rw [List.length_append, ← HN.out.1]; rfl)
      clear LA OA BA EA HBA hg6 hb6 hk6 ho6 HNG O5 L5 B5 y0 y0'
      obtain ⟨cc, wB, hcv, hh, hc1, hc2, hbb, hlt⟩ := conv_m nm w6 (by have := HNS.out; omega)
      have y0 : w6.cell? ⟨g8, 0, none⟩ = some (.string nm) := L6.out.cell 0
      have EB : Hid (∀ i, i < nm.size → wB.cell? ⟨w6.heap.size, 0 + i, none⟩ = some (.int .u8 ((bl nm).getD i 0))) := Lib.hid (fun i hi => has_cells hh i (by rw [bl_len]; exact hi))
      have LB := Lib.hid (L6.out.past hbb)
      have OB := Lib.hid (ownI_past O6.out hbb)
      have BB := Lib.hid (mb_bb B6.out hbb)
      have HBB := Lib.hid BB.out.size
      clear hh hc1 hc2 hbb hlt
      go_upto_region 8 with (at_builtin; refine app8k (by rfl) _ _ rfl w.heap.size (.slice A6 (n + 1) c6) (tabB (rs.take k) ++ [(nm.size : Int)]) rfl OB.out w6.heap.size 0 nm.size cc (bl nm) rfl (bl_len nm) EB.out (n + 1 + nm.size) (by rw [← HT6.out]) (by have := HN.out.2; have := HM.out; have := HK.out; have := HNS.out; omega) HBB.out ?_; intro A7 c7 w7 ho7 hg7 hb7 hk7)
      have L7 := Lib.hid (LB.out.grown hg7 NG6.out)
      have NG7 := Lib.hid (ne_own hk7 NG6.out (by have := LB.out.lt; exact this))
      have B7 := Lib.hid (BB.out.trans hb7)
      have O7 := Lib.hid ho7
      have HT7 : Hid (n + 1 + nm.size = ((tabB (rs.take k) ++ [(nm.size : Int)]) ++ bl nm).length) := Lib.hid (by rw [List.length_append, ← HT6.out, bl_len])
      clear hcv y0 LB OB BB EB HBB hg7 hb7 hk7 ho7 NG6 O6 L6 B6
      have y1 : w7.cell? ⟨g8, 1, none⟩ = some (.int .i64 sz) := L7.out.cell 1
      have LA := Lib.hid (L7.out.past (mb_new w7 (.cells #[.int .u8 (sz / 256), .int .u8 (sz % 256)] 5)))
      have OA := Lib.hid (ownI_past O7.out (mb_new w7 (.cells #[.int .u8 (sz / 256), .int .u8 (sz % 256)] 5)))
      have BA := Lib.hid (mb_bb B7.out (mb_new w7 (.cells #[.int .u8 (sz / 256), .int .u8 (sz % 256)] 5)))
      have EA : Hid (∀ i, i < 2 → (w7.alloc (.cells #[.int .u8 (sz / 256), .int .u8 (sz % 256)] 5)).cell? ⟨w7.heap.size, 0 + i, none⟩ = some (.int .u8 ([sz / 256, sz % 256].getD i 0))) := Lib.hid (fun i hi => by
        rcases (by omega : i = 0 ∨ i = 1) with rfl | rfl
        · exact (Lies.fresh w7 5 [.int .u8 (sz / 256), .int .u8 (sz % 256)]).cell 0
        · exact (Lies.fresh w7 5 [.int .u8 (sz / 256), .int .u8 (sz % 256)]).cell 1)
      have HBA := Lib.hid BA.out.size
      have HNN : Hid (n + 1 + nm.size + 2 + 20 ≤ 100 * (k + 1)) := Lib.hid (by have := HN.out.2; have := HNS.out; omega)
      go_upto_region 9 with (at_builtin; refine app8k (by rfl) _ _ rfl w.heap.size (.slice A7 (n + 1 + nm.size) c7) ((tabB (rs.take k) ++ [(nm.size : Int)]) ++ bl nm) rfl OA.out w7.heap.size 0 2 2 [sz / 256, sz % 256] rfl rfl EA.out (n + 1 + nm.size + 2) (by rw [← HT7.out]) (by have := HNN.out; have := HM.out; have := HK.out; omega) HBA.out ?_; intro A8 c8 w8 ho8 hg8 hb8 hk8)
      have L8 := Lib.hid (LA.out.grown hg8 NG7.out)
      have E8 := Lib.hid (sum_cell L8.out HSD.out.len)
      have B8 := Lib.hid (BA.out.trans hb8)
      have HB8 := Lib.hid B8.out.size
      have O8 := Lib.hid ho8
      have HT8 : Hid (n + 1 + nm.size + 2 = (((tabB (rs.take k) ++ [(nm.size : Int)]) ++ bl nm) ++ [sz / 256, sz % 256]).length) := Lib.hid (by rw [List.length_append, ← HT7.out]; rfl)
      clear LA OA BA EA HBA hg8 hb8 hk8 ho8 NG7 O7 L7 B7 y1
      have HFI : Hid (tabB (rs.take (k + 1)) = (((tabB (rs.take k) ++ [(nm.size : Int)]) ++ bl nm) ++ [sz / 256, sz % 256]) ++ sm) := Lib.hid (by
        rw [HSN.out]
        unfold rcB
        dsimp only
        rw [digs1 (by omega) (by omega), digs2, show sz / 256 % 256 = sz / 256 by omega]
        simp only [List.append_assoc])
      go_wp2_with (at_builtin; refine app8k (by rfl) _ _ rfl w.heap.size (.slice A8 (n + 1 + nm.size + 2) c8) (((tabB (rs.take k) ++ [(nm.size : Int)]) ++ bl nm) ++ [sz / 256, sz % 256]) rfl O8.out g8 2 20 20 sm rfl HSD.out.len E8.out (n + 1 + nm.size + 2 + 20) (by rw [← HT8.out]) (by have := HNN.out; have := HM.out; have := HK.out; omega) HB8.out ?_; intro A9 c9 w9 ho9 hg9 hb9 hk9)
      go_roundw
      case rel => exact ⟨k + 1, n + 1 + nm.size + 2 + 20, A9, c9, HK.out, by go_num, rfl, by rw [HFI.out, List.length_append, ← HT8.out, HSD.out.len], HNN.out, by rw [HFI.out]; exact ho9, B8.out.trans hb9⟩
      case measure => simp [intOf]; have := HK.out; omega
    · have k1 : ¬ (k : Int) < m := by omega
      have HF : Hid (tabB rs = tabB (rs.take k)) := Lib.hid (by rw [List.take_of_length_le (by rw [HL.out]; omega)])
      have HBD := Lib.hid (OwnZ.bounds (.inl own))
      have HHS := Lib.hid own.has
      have HN1 := Lib.hid hn
      clear hk hn hn2 hlt acc HN own HO
      go_wp2_with fail
      go_ret
      exact ⟨A, n, c, rfl, by rw [HF.out]; exact HN1.out, HBD.out.2.1, HBD.out.2.2, by rw [HF.out]; exact HHS.out, HACC.out⟩
set_option maxHeartbeats 6400000 in
theorem rWrite_any (rs : List Rc) (P : Option Addr) (m d : Nat) (w : World) (hR : RecB w P m d rs) :
    Calls Tryd.prog 19 #[.slice P m d] w (WrP rs w) := by
  have HR := Lib.hid hR
  go_enter Tryd.func19, Tryd.ntmps19
  go_wp2_with fail
  refine (rValid_any rs P m d w hR).mono ?_
  rintro e w1 ⟨rfl, b1⟩
  clear hR
  have B1 := Lib.hid b1
  have HR1 := Lib.hid (HR.out.below b1 (Nat.le_refl _))
  clear b1
  rcases vl_cases rs with hc | hc
  case inr =>
    have HC : Hid (vlE rs ≠ 0) := Lib.hid (by omega)
    have HF := Lib.hid (wr_no HC.out)
    have HRV := Lib.hid (rValid_any rs P m d w1 HR1.out)
    rcases hc with hc | hc | hc <;>
    · have HCC := Lib.hid hc
      rw [hc] at HRV ⊢
      clear hc
      go_wp2_with fail
      refine HRV.out.mono ?_
      rintro e w2 ⟨rfl, b2⟩
      have B2 := Lib.hid (mb_bb B1.out b2)
      clear b2
      go_wp2_with fail
      go_ret2
      exact ⟨none, 0, 0, by rw [HCC.out]; rfl, by rw [HF.out]; rfl, Nat.le_refl _, by omega, .inl HF.out, B2.out⟩
  case inl =>
    have HC := Lib.hid hc
    rw [hc]
    clear hc
    go_wp2_with fail
    refine (Bytes_any rs P m d w1 HR1.out HC.out).mono ?_
    rintro e w2 ⟨A, n, c, rfl, hn, h1, h2, hh, b2⟩
    have HX := Lib.hid (And.intro hn (And.intro h1 (And.intro h2 hh)))
    have B2 := Lib.hid (mb_bb B1.out b2)
    clear hn h1 h2 hh b2
    go_wp2_with fail
    go_ret2
    exact ⟨A, n, c, by rw [HC.out]; rfl, by rw [wr_ok HC.out]; exact HX.out.1, HX.out.2.1, HX.out.2.2.1, by rw [wr_ok HC.out]; exact HX.out.2.2.2, B2.out⟩
end Go.Proofs.YtiihafhnaiicoaaDoor.mbW

namespace Go.Proofs.YtiihafhnaiicoaaDoor.mbW
set_option maxRecDepth 100000
open Go.RowKit Go.Proofs.YtiihafhnaiicoaaDoor.base Go.Proofs.YtiihafhnaiicoaaDoor.shP Go.Proofs.YtiihafhnaiicoaaDoor.shW
open Go.Proofs.YtiihafhnaiicoaaDoor.trW (IsD sv zd_isD digest_isD z20_at)
set_option linter.unusedVariables false
set_option linter.unusedSimpArgs false
set_option maxRecDepth 100000
theorem recsB {w : World} {A : Option Addr} {n c : Nat} {rs : List Rc} (h : RecsIn w A n c rs) : RecB w A n c rs := ⟨h.h, h.l, h.c1, h.c2, h.z, h.d⟩
theorem memB1 {w : World} {q : Mb} {g : Nat} (hg : w.heap.size = g) (hq : InR w q.r) : MemB (w.alloc (.cells #[.string q.nm, .slice q.r.A q.r.n q.r.c] 37)) (some ⟨g, 0, none⟩) 1 1 [q] := by
  have L := Lies.fresh_at (w := w) (t := 37) (cs := [.string q.nm, .slice q.r.A q.r.n q.r.c]) hg
  refine ⟨rfl, Nat.le_refl _, by omega, .inr ⟨g, 0, rfl, L.lt, fun i hi => ?_⟩, fun x hx => ?_⟩
  · obtain rfl : i = 0 := by simpa using hi
    exact ⟨L.cell 0, L.cell 1⟩
  · simp only [List.mem_cons, List.not_mem_nil, or_false] at hx
    subst hx
    exact hq.below (mb_new w _) (Nat.le_refl _)
set_option maxHeartbeats 12800000 in
theorem writes (P : Option Addr) (m d : Nat) (rs : List Rc) (q : Mb) (s : ByteArray) (w : World) (hR : RecsIn w P m d rs) (hq : q.nm.size ≤ maxLen ∧ InR w q.r) (hs : s.size ≤ maxLen) (hT : Tab w) :
    Calls Tryd.prog 4 #[.slice P m d, .agg #[.string q.nm, .slice q.r.A q.r.n q.r.c], .string s] w fun e w' => e = .returned (.bool true) ∧ Below w.heap.size w w' := by
  have HR := Lib.hid (recsB hR)
  have HT := Lib.hid hT
  have HQ := Lib.hid hq.2
  have HQN : Hid (q.nm.size ≤ 9223372036854775807) := Lib.hid (by have := hq.1; unfold maxLen at this; omega)
  have m1 : (m : Int) ≤ 9223372036854775807 := by have := hR.c1; have := hR.c2; omega
  have HL := Lib.hid hR.l
  have HVA := Lib.hid (fun (w' : World) (h : Below w.heap.size w w') => Valid_any rs P m d w' (HT.out.below h (Nat.le_refl _)) (HR.out.below h (Nat.le_refl _)))
  have HVB := Lib.hid (fun (w' : World) (h : Below w.heap.size w w') => rValid_any rs P m d w' (HR.out.below h (Nat.le_refl _)))
  have HWA := Lib.hid (fun (w' : World) (h : Below w.heap.size w w') => Write_any rs P m d w' (HT.out.below h (Nat.le_refl _)) (HR.out.below h (Nat.le_refl _)))
  have HWB := Lib.hid (fun (w' : World) (h : Below w.heap.size w w') => rWrite_any rs P m d w' (HR.out.below h (Nat.le_refl _)))
  have HFA := Lib.hid (fun (w' : World) (h : Below w.heap.size w w') => Find_any rs s P m d w' (HT.out.below h (Nat.le_refl _)) (HR.out.below h (Nat.le_refl _)))
  have HFB := Lib.hid (fun (w' : World) (h : Below w.heap.size w w') => rFind_any rs s P m d w' (HR.out.below h (Nat.le_refl _)))
  have G1 := mb_new w (.cells #[.string q.nm, .slice q.r.A q.r.n q.r.c] 37)
  have L1 := Lib.hid (Lies.fresh w 37 [.string q.nm, .slice q.r.A q.r.n q.r.c])
  have B1 := Lib.hid G1
  clear hR hq hs hT G1
  go_enter Tryd.func4, Tryd.ntmps4
  go_wp2_with fail
  generalize (w.alloc (.cells #[.string q.nm, .slice q.r.A q.r.n q.r.c] 37)) = w1 at *
  refine (GreatR_any rs P m d w1 (HR.out.below B1.out (Nat.le_refl _))).mono ?_
  rintro e _ ⟨⟨b, rfl, hb⟩, rfl⟩
  rename World => w1
  cases b
  case true =>
    go_wp2_with fail
    go_ret
    exact ⟨rfl, B1.out⟩
  have HG := Lib.hid (hb rfl)
  clear hb
  have x0 : w1.cell? ⟨w.heap.size, 0, none⟩ = some (.string q.nm) := L1.out.cell 0
  have x1 : w1.cell? ⟨w.heap.size, 1, none⟩ = some (.slice q.r.A q.r.n q.r.c) := L1.out.cell 1
  have HG1 := Lib.hid (Great_any [q] (some ⟨w1.heap.size, 0, none⟩) 1 1 (w1.alloc (.cells #[.string q.nm, .slice q.r.A q.r.n q.r.c] 37)) (memB1 rfl (HQ.out.below B1.out (Nat.le_refl _))))
  have G2 := mb_new w1 (.cells #[.string q.nm, .slice q.r.A q.r.n q.r.c] 37)
  have L2 := Lib.hid (L1.out.past G2)
  have B2 := Lib.hid (mb_bb B1.out G2)
  clear G2
  go_wp2_with fail
  generalize (w1.alloc (.cells #[.string q.nm, .slice q.r.A q.r.n q.r.c] 37)) = w2 at *
  refine HG1.out.mono ?_
  rintro e _ ⟨⟨b, rfl, hb⟩, rfl⟩
  rename World => w2
  clear x0 x1 L1 HG1 B1
  cases b
  case true =>
    go_wp2_with fail
    go_ret
    exact ⟨rfl, B2.out⟩
  have HGQ : Hid (q.nm.size ≤ 100 ∧ q.r.n ≤ 10000) := Lib.hid ((hb rfl).2 0 (by decide))
  clear hb
  by_cases cs : (100 : Int) < s.size
  · go_wp2_with fail
    go_ret
    exact ⟨rfl, B2.out⟩
  go_wp2_with fail
  refine (HWA.out w2 B2.out).mono ?_
  rintro e w3 ⟨A3, n3, c3, rfl, hn3, -, -, hh3, b3⟩
  have B3 := Lib.hid (mb_bb B2.out b3)
  have L3 := Lib.hid (L2.out.past b3)
  have H3 := Lib.hid hh3
  have N3 := Lib.hid hn3
  clear b3 hh3 hn3 L2
  go_wp2_with fail
  refine (HWB.out w3 B3.out).mono ?_
  rintro e w4 ⟨A4, n4, c4, rfl, hn4, -, -, hh4, b4⟩
  have B4 := Lib.hid (mb_bb B3.out b4)
  have L4 := Lib.hid (L3.out.past b4)
  have H34 := Lib.hid (H3.out.below b4 (Nat.le_refl _))
  have H4 := Lib.hid hh4
  have N4 := Lib.hid hn4
  clear b4 hh4 hn4 L3 H3
  go_wp2_with fail
  refine (HFA.out w4 B4.out).mono ?_
  rintro e w5 ⟨rfl, b5⟩
  have B5 := Lib.hid (mb_bb B4.out b5)
  have L5 := Lib.hid (L4.out.past b5)
  have H35 := Lib.hid (H34.out.below b5 (Nat.le_refl _))
  have H45 := Lib.hid (H4.out.below b5 (Nat.le_refl _))
  clear b5 L4 H34 H4
  go_wp2_with fail
  refine (HFB.out w5 B5.out).mono ?_
  rintro e w6 ⟨rfl, b6⟩
  have B6 := Lib.hid (mb_bb B5.out b6)
  have L6 := Lib.hid (L5.out.past b6)
  have H36 := Lib.hid (H35.out.below b6 (Nat.le_refl _))
  have H46 := Lib.hid (H45.out.below b6 (Nat.le_refl _))
  clear b6 L5 H35 H45
  go_wp2_with fail
  refine (HVA.out w6 B6.out).mono ?_
  rintro e w7 ⟨rfl, b7⟩
  have B7 := Lib.hid (mb_bb B6.out b7)
  have L7 := Lib.hid (L6.out.past b7)
  have H37 := Lib.hid (H36.out.below b7 (Nat.le_refl _))
  have H47 := Lib.hid (H46.out.below b7 (Nat.le_refl _))
  clear b7 L6 H36 H46
  go_wp2_with fail
  refine (HVB.out w7 B7.out).mono ?_
  rintro e w8 ⟨rfl, b8⟩
  have B8 := Lib.hid (mb_bb B7.out b8)
  have L8 := Lib.hid (L7.out.past b8)
  have cv1 := conv8 (n := n3) (c := c3) (H37.out.below b8 (Nat.le_refl _)) N3.out.symm
  have cv2 := conv8 (n := n4) (c := c4) (H47.out.below b8 (Nat.le_refl _)) N4.out.symm
  clear b8 L7 H37 H47 HWA HWB HFA HFB HVA HVB
  by_cases c0 : m = 0
  · subst c0
    go_wp2_with fail
    go_ret
    exact ⟨rfl, B8.out⟩
  have hp : 0 < m := by omega
  have m0 : ¬ (m : Int) = 0 := by omega
  have m2 : 0 < (m : Int) := by omega
  obtain ⟨b, off, rfl, hbb⟩ := HR.out.h.some (by rw [HL.out]; omega)
  have hmem : rs.getD 0 rc0 ∈ rs := by rw [List.getD_eq_getElem?_getD, List.getElem?_eq_getElem (by rw [HL.out]; exact hp)]; exact List.getElem_mem _
  have HZ := Lib.hid (HR.out.z _ hmem)
  have HD := Lib.hid (HR.out.d _ hmem)
  have RX : Hid (∀ x', Below w.heap.size w x' → x'.rangeAt b (off + 0 * 22) (RE.enc (rs.getD 0 rc0))) := Lib.hid (fun x' h => (HR.out.h.past h).rng (i := 0) (by rw [HL.out]; exact hp))
  generalize rs.getD 0 rc0 = r at *
  clear hmem hbb c0
  go_upto_region 11 with fail
  clear cv1 cv2
  have HRA := Lib.hid (fun (w' : World) (h : Below w.heap.size w w') => Right_any r q w' (HT.out.below h (Nat.le_refl _)) HZ.out HD.out (HQ.out.below h (Nat.le_refl _)) (by have := HGQ.out.2; omega))
  have HRB := Lib.hid (fun (w' : World) (h : Below w.heap.size w w') => rRight_any r q w' HZ.out HD.out (HQ.out.below h (Nat.le_refl _)) (by have := HGQ.out.2; omega) HQN.out)
  (have RD := grows_roads (S := fun x' => Below w8.heap.size w8 x') (fun a b h1 h2 => h2.trans (h1.mono h2.size))); refine region_ord _ Grows RD (Below.drew (Below.refl _ _)) (by kernel_rfl) ?_; intro ops Q' hops hPQ hN; (have HNS : Hid (Region.noSelect ops = true) := Lib.hid (by rw [hops]; kernel_rfl)); (have hsz : ops.size = 10 := (by rw [hops]; rfl)); have HOP := Lib.hid hops; have HPQ := Lib.hid hPQ; have HN := Lib.hid hN; rw [hsz]; clear hops hsz hPQ hN
  refine ord_take RD 0 (at_list (by rw [HOP.out]; rfl)) HNS.out HPQ.out (by rw [HOP.out]; kernel_rfl) (by rw [HOP.out]; kernel_rfl) (by rw [HOP.out]; rfl) (fun K hK => ?_); apply Exists.intro; refine ⟨fun W hSW => ?_, hK _ ?_⟩; (focus ((try dsimp only at hSW); go_simp; try with_reducible rfl)); clear hK K; (try simp only [Act.put, List.setIfInBounds_toArray, List.set_cons_zero, List.set_cons_succ])
  refine ord_take RD 1 (at_list (by rw [HOP.out]; rfl)) HNS.out HPQ.out (by rw [HOP.out]; kernel_rfl) (by rw [HOP.out]; kernel_rfl) (by rw [HOP.out]; rfl) (fun K hK => ?_); apply Exists.intro; refine ⟨fun W hSW => ?_, hK _ ?_⟩; (focus ((try dsimp only at hSW); go_simp; try with_reducible rfl)); clear hK K; (try simp only [Act.put, List.setIfInBounds_toArray, List.set_cons_zero, List.set_cons_succ])
  refine ord_take RD 2 (at_list (by rw [HOP.out]; rfl)) HNS.out HPQ.out (by rw [HOP.out]; kernel_rfl) (by rw [HOP.out]; kernel_rfl) (by rw [HOP.out]; rfl) (fun K hK => ?_); apply Exists.intro; refine ⟨fun W hSW => ?_, hK _ ?_⟩; (focus ((try dsimp only at hSW); exact Enc.quiet_ld RE (x := r) (P := Tryd.prog) Tryd.underlying54 rfl info22 _ rfl (RX.out _ (mb_bb B8.out hSW)) rfl)); clear hK K; (try simp only [Act.put, List.setIfInBounds_toArray, List.set_cons_zero, List.set_cons_succ])
  refine ord_take RD 3 (at_list (by rw [HOP.out]; rfl)) HNS.out HPQ.out (by rw [HOP.out]; kernel_rfl) (by rw [HOP.out]; kernel_rfl) (by rw [HOP.out]; rfl) (fun K hK => ?_); apply Exists.intro; refine ⟨fun W hSW => ?_, hK _ ?_⟩; (focus ((try dsimp only at hSW); have x0 : W.cell? ⟨w.heap.size, 0, none⟩ = some (.string q.nm) := (L8.out.past hSW).cell 0; have x1 : W.cell? ⟨w.heap.size, 1, none⟩ = some (.slice q.r.A q.r.n q.r.c) := (L8.out.past hSW).cell 1; go_simp; try with_reducible rfl)); clear hK K; (try simp only [Act.put, List.setIfInBounds_toArray, List.set_cons_zero, List.set_cons_succ])
  refine ord_one RD 4 (by rw [HOP.out]; kernel_rfl) (at_list (by rw [HOP.out]; rfl)) (by rw [HOP.out]; rfl) (fun W1 hWW hSW K hK => ?_); (try dsimp only at hSW)
  go_simp
  refine (HRA.out W1 (mb_bb B8.out hSW)).mono ?_
  rintro e w9 ⟨rfl, b9⟩
  refine hK _ _ (mb_bb hSW b9) ?_
  clear hSW hWW b9
  clear hK K; (try simp only [Act.put, List.setIfInBounds_toArray, List.set_cons_zero, List.set_cons_succ])
  refine ord_take RD 5 (at_list (by rw [HOP.out]; rfl)) HNS.out HPQ.out (by rw [HOP.out]; kernel_rfl) (by rw [HOP.out]; kernel_rfl) (by rw [HOP.out]; rfl) (fun K hK => ?_); apply Exists.intro; refine ⟨fun W hSW => ?_, hK _ ?_⟩; (focus ((try dsimp only at hSW); go_simp; try with_reducible rfl)); clear hK K; (try simp only [Act.put, List.setIfInBounds_toArray, List.set_cons_zero, List.set_cons_succ])
  refine ord_take RD 6 (at_list (by rw [HOP.out]; rfl)) HNS.out HPQ.out (by rw [HOP.out]; kernel_rfl) (by rw [HOP.out]; kernel_rfl) (by rw [HOP.out]; rfl) (fun K hK => ?_); apply Exists.intro; refine ⟨fun W hSW => ?_, hK _ ?_⟩; (focus ((try dsimp only at hSW); go_simp; try with_reducible rfl)); clear hK K; (try simp only [Act.put, List.setIfInBounds_toArray, List.set_cons_zero, List.set_cons_succ])
  refine ord_take RD 7 (at_list (by rw [HOP.out]; rfl)) HNS.out HPQ.out (by rw [HOP.out]; kernel_rfl) (by rw [HOP.out]; kernel_rfl) (by rw [HOP.out]; rfl) (fun K hK => ?_); apply Exists.intro; refine ⟨fun W hSW => ?_, hK _ ?_⟩; (focus ((try dsimp only at hSW); go_simp; try with_reducible rfl)); clear hK K; (try simp only [Act.put, List.setIfInBounds_toArray, List.set_cons_zero, List.set_cons_succ])
  refine ord_take RD 8 (at_list (by rw [HOP.out]; rfl)) HNS.out HPQ.out (by rw [HOP.out]; kernel_rfl) (by rw [HOP.out]; kernel_rfl) (by rw [HOP.out]; rfl) (fun K hK => ?_); apply Exists.intro; refine ⟨fun W hSW => ?_, hK _ ?_⟩; (focus ((try dsimp only at hSW); go_simp; try with_reducible rfl)); clear hK K; (try simp only [Act.put, List.setIfInBounds_toArray, List.set_cons_zero, List.set_cons_succ])
  refine ord_take RD 9 (at_list (by rw [HOP.out]; rfl)) HNS.out HPQ.out (by rw [HOP.out]; kernel_rfl) (by rw [HOP.out]; kernel_rfl) (by rw [HOP.out]; rfl) (fun K hK => ?_); apply Exists.intro; refine ⟨fun W hSW => ?_, hK _ ?_⟩; (focus ((try dsimp only at hSW); go_simp; try with_reducible rfl)); clear hK K; (try simp only [Act.put, List.setIfInBounds_toArray, List.set_cons_zero, List.set_cons_succ])
  refine ord_done (by rw [HOP.out]; kernel_rfl) (fun Wa hWW hSW => HN.out _ _ ?_); clear HOP HNS HPQ HN RD; (try dsimp only at hSW)
  have Ba := Lib.hid (mb_bb B8.out hSW)
  have La := Lib.hid (L8.out.past hSW)
  clear hSW hWW HRA L8 B8
  go_upto_region 12 with fail
  (have RD := grows_roads (S := fun x' => Below Wa.heap.size Wa x') (fun a b h1 h2 => h2.trans (h1.mono h2.size))); refine region_ord _ Grows RD (Below.drew (Below.refl _ _)) (by kernel_rfl) ?_; intro ops Q' hops hPQ hN; (have HNS : Hid (Region.noSelect ops = true) := Lib.hid (by rw [hops]; kernel_rfl)); (have hsz : ops.size = 10 := (by rw [hops]; rfl)); have HOP := Lib.hid hops; have HPQ := Lib.hid hPQ; have HN := Lib.hid hN; rw [hsz]; clear hops hsz hPQ hN
  refine ord_take RD 0 (at_list (by rw [HOP.out]; rfl)) HNS.out HPQ.out (by rw [HOP.out]; kernel_rfl) (by rw [HOP.out]; kernel_rfl) (by rw [HOP.out]; rfl) (fun K hK => ?_); apply Exists.intro; refine ⟨fun W hSW => ?_, hK _ ?_⟩; (focus ((try dsimp only at hSW); go_simp; try with_reducible rfl)); clear hK K; (try simp only [Act.put, List.setIfInBounds_toArray, List.set_cons_zero, List.set_cons_succ])
  refine ord_take RD 1 (at_list (by rw [HOP.out]; rfl)) HNS.out HPQ.out (by rw [HOP.out]; kernel_rfl) (by rw [HOP.out]; kernel_rfl) (by rw [HOP.out]; rfl) (fun K hK => ?_); apply Exists.intro; refine ⟨fun W hSW => ?_, hK _ ?_⟩; (focus ((try dsimp only at hSW); go_simp; try with_reducible rfl)); clear hK K; (try simp only [Act.put, List.setIfInBounds_toArray, List.set_cons_zero, List.set_cons_succ])
  refine ord_take RD 2 (at_list (by rw [HOP.out]; rfl)) HNS.out HPQ.out (by rw [HOP.out]; kernel_rfl) (by rw [HOP.out]; kernel_rfl) (by rw [HOP.out]; rfl) (fun K hK => ?_); apply Exists.intro; refine ⟨fun W hSW => ?_, hK _ ?_⟩; (focus ((try dsimp only at hSW); exact Enc.quiet_ld RE (x := r) (P := Tryd.prog) Tryd.underlying54 rfl info22 _ rfl (RX.out _ (mb_bb Ba.out hSW)) rfl)); clear hK K; (try simp only [Act.put, List.setIfInBounds_toArray, List.set_cons_zero, List.set_cons_succ])
  refine ord_take RD 3 (at_list (by rw [HOP.out]; rfl)) HNS.out HPQ.out (by rw [HOP.out]; kernel_rfl) (by rw [HOP.out]; kernel_rfl) (by rw [HOP.out]; rfl) (fun K hK => ?_); apply Exists.intro; refine ⟨fun W hSW => ?_, hK _ ?_⟩; (focus ((try dsimp only at hSW); have x0 : W.cell? ⟨w.heap.size, 0, none⟩ = some (.string q.nm) := (La.out.past hSW).cell 0; have x1 : W.cell? ⟨w.heap.size, 1, none⟩ = some (.slice q.r.A q.r.n q.r.c) := (La.out.past hSW).cell 1; go_simp; try with_reducible rfl)); clear hK K; (try simp only [Act.put, List.setIfInBounds_toArray, List.set_cons_zero, List.set_cons_succ])
  refine ord_one RD 4 (by rw [HOP.out]; kernel_rfl) (at_list (by rw [HOP.out]; rfl)) (by rw [HOP.out]; rfl) (fun W1 hWW hSW K hK => ?_); (try dsimp only at hSW)
  go_simp
  refine (HRB.out W1 (mb_bb Ba.out hSW)).mono ?_
  rintro e w9 ⟨rfl, b9⟩
  refine hK _ _ (mb_bb hSW b9) ?_
  clear hSW hWW b9
  clear hK K; (try simp only [Act.put, List.setIfInBounds_toArray, List.set_cons_zero, List.set_cons_succ])
  refine ord_take RD 5 (at_list (by rw [HOP.out]; rfl)) HNS.out HPQ.out (by rw [HOP.out]; kernel_rfl) (by rw [HOP.out]; kernel_rfl) (by rw [HOP.out]; rfl) (fun K hK => ?_); apply Exists.intro; refine ⟨fun W hSW => ?_, hK _ ?_⟩; (focus ((try dsimp only at hSW); go_simp; try with_reducible rfl)); clear hK K; (try simp only [Act.put, List.setIfInBounds_toArray, List.set_cons_zero, List.set_cons_succ])
  refine ord_take RD 6 (at_list (by rw [HOP.out]; rfl)) HNS.out HPQ.out (by rw [HOP.out]; kernel_rfl) (by rw [HOP.out]; kernel_rfl) (by rw [HOP.out]; rfl) (fun K hK => ?_); apply Exists.intro; refine ⟨fun W hSW => ?_, hK _ ?_⟩; (focus ((try dsimp only at hSW); go_simp; try with_reducible rfl)); clear hK K; (try simp only [Act.put, List.setIfInBounds_toArray, List.set_cons_zero, List.set_cons_succ])
  refine ord_take RD 7 (at_list (by rw [HOP.out]; rfl)) HNS.out HPQ.out (by rw [HOP.out]; kernel_rfl) (by rw [HOP.out]; kernel_rfl) (by rw [HOP.out]; rfl) (fun K hK => ?_); apply Exists.intro; refine ⟨fun W hSW => ?_, hK _ ?_⟩; (focus ((try dsimp only at hSW); go_simp; try with_reducible rfl)); clear hK K; (try simp only [Act.put, List.setIfInBounds_toArray, List.set_cons_zero, List.set_cons_succ])
  refine ord_take RD 8 (at_list (by rw [HOP.out]; rfl)) HNS.out HPQ.out (by rw [HOP.out]; kernel_rfl) (by rw [HOP.out]; kernel_rfl) (by rw [HOP.out]; rfl) (fun K hK => ?_); apply Exists.intro; refine ⟨fun W hSW => ?_, hK _ ?_⟩; (focus ((try dsimp only at hSW); go_simp; try with_reducible rfl)); clear hK K; (try simp only [Act.put, List.setIfInBounds_toArray, List.set_cons_zero, List.set_cons_succ])
  refine ord_take RD 9 (at_list (by rw [HOP.out]; rfl)) HNS.out HPQ.out (by rw [HOP.out]; kernel_rfl) (by rw [HOP.out]; kernel_rfl) (by rw [HOP.out]; rfl) (fun K hK => ?_); apply Exists.intro; refine ⟨fun W hSW => ?_, hK _ ?_⟩; (focus ((try dsimp only at hSW); go_simp; try with_reducible rfl)); clear hK K; (try simp only [Act.put, List.setIfInBounds_toArray, List.set_cons_zero, List.set_cons_succ])
  refine ord_done (by rw [HOP.out]; kernel_rfl) (fun Wb hWW hSW => HN.out _ _ ?_); clear HOP HNS HPQ HN RD; (try dsimp only at hSW)
  have Bb := Lib.hid (mb_bb Ba.out hSW)
  clear hSW hWW HRB La Ba
  go_wp2_with fail
  go_ret
  exact ⟨rfl, Bb.out⟩
end Go.Proofs.YtiihafhnaiicoaaDoor.mbW

namespace Go.Proofs.YtiihafhnaiicoaaDoor.mbW
set_option maxRecDepth 100000
open Go.RowKit Go.Proofs.YtiihafhnaiicoaaDoor.base Go.Proofs.YtiihafhnaiicoaaDoor.shP Go.Proofs.YtiihafhnaiicoaaDoor.shW Go.Proofs.YtiihafhnaiicoaaDoor.ocP Go.Proofs.YtiihafhnaiicoaaDoor.ocW
open Go.Proofs.YtiihafhnaiicoaaDoor.trW (IsD sv zd_isD digest_isD z20_at)
set_option linter.unusedVariables false
set_option linter.unusedSimpArgs false
set_option maxRecDepth 100000
def dN : List Int := [218, 57, 163, 238, 94, 107, 75, 13, 50, 85, 191, 239, 149, 96, 24, 144, 175, 216, 7, 9]
theorem dN_is : digest [] = dN := by decide +kernel
theorem dN_isD : IsD dN := by rw [← dN_is]; exact digest_isD []
def aN : ByteArray := ⟨#[97]⟩
def qa : Mb := ⟨aN, r80⟩
def ra : Rc := ⟨aN, 0, dN⟩
theorem nm_a : nmB aN = true := by decide +kernel
theorem ck_a : ckE [qa] = 0 := by
  rw [ck_ok (ms := [qa]) (by simp) (by simp [sumD, qa, r80]) (fun k hk => by
    obtain rfl : k = 0 := by simpa using hk
    exact nm_a)]
  exact tw_all (fun i hi k hk => by simp [nms] at hi; omega)
theorem of_a : ofL [qa] = [ra] := by
  show [recOf qa] = [ra]
  unfold recOf
  rw [show qa.r.b = [] from rfl, dN_is]; rfl
theorem vl_a : vlE [ra] = 0 := by
  rw [vl_ok (rs := [ra]) (by simp) (fun k hk => by
    obtain rfl : k = 0 := by simpa using hk
    exact ⟨nm_a, by decide, by decide, fun _ => dN_is.symm⟩) (by decide)]
  exact tw_all (fun i hi k hk => by simp [rnms] at hi; omega)
theorem tab_a : tabB [ra] = [1, 97, 0, 0] ++ dN := by decide +kernel
theorem wr_a : wrV [ra] = [1, 97, 0, 0] ++ dN := by rw [wr_ok vl_a, tab_a]
theorem want_a : ((bstr ([1, 97, 0, 0] ++ dN)).toList == ((bstr [1, 97, 0, 0]) ++ (bstr dN)).toList) = true := by decide +kernel
def abN : ByteArray := ⟨#[97, 32, 98]⟩
theorem ck_ab : ckE [⟨abN, r80⟩] = 8 := ck_bad (ms := [⟨abN, r80⟩]) (by simp) (by simp [sumD, r80]) (k := 0) (by simp) (by decide +kernel)
set_option maxHeartbeats 3200000 in
theorem none_any (w : World) : Calls Tryd.prog 28 #[] w fun e w' => e = .returned (.agg (darr dN)) ∧ Below w.heap.size w w' := by
  have Y := Lib.hid (z20_at w rfl)
  have B0 := Lib.hid (mb_new w (.cells #[.int .u8 0, .int .u8 0, .int .u8 0, .int .u8 0, .int .u8 0, .int .u8 0, .int .u8 0, .int .u8 0, .int .u8 0, .int .u8 0, .int .u8 0, .int .u8 0, .int .u8 0, .int .u8 0, .int .u8 0, .int .u8 0, .int .u8 0, .int .u8 0, .int .u8 0, .int .u8 0] 52))
  go_enter Tryd.func28, Tryd.ntmps28
  go_wp2_with (first | (show wpList _ _ _ ({ dst := none, op := Op.store 52 _ _, type := _, pos := _, after := _, guard := _ } :: _) _ _; go_must (refine trW.wp_st (g := w.heap.size) (l := dN) (by rfl) _ _ rfl (Y.out) (zd_isD.len) (dN_isD.len) rfl rfl ?_); intro w3 hR3 hg3 hb3 hz3))
  refine bodyPost_ret (trW.ret_1 (by exact Tryd.results28) _ _ _ (dN_isD.len) rfl (hR3)) rfl ?_
  exact ⟨rfl, B0.out.trans hb3⟩
end Go.Proofs.YtiihafhnaiicoaaDoor.mbW

namespace Go.Proofs.YtiihafhnaiicoaaDoor.mbW
set_option maxRecDepth 100000
open Go.RowKit Go.Proofs.YtiihafhnaiicoaaDoor.base Go.Proofs.YtiihafhnaiicoaaDoor.shP Go.Proofs.YtiihafhnaiicoaaDoor.shW Go.Proofs.YtiihafhnaiicoaaDoor.ocP Go.Proofs.YtiihafhnaiicoaaDoor.ocW
open Go.Proofs.YtiihafhnaiicoaaDoor.trW (IsD sv zd_isD digest_isD z20_at)
set_option linter.unusedVariables false
set_option linter.unusedSimpArgs false
set_option maxRecDepth 100000
theorem inr0 (w : World) : InR w r80 := ⟨.inl rfl, rfl, Nat.le_refl _, by decide, by simp [r80]⟩
theorem ra_ok : RcOk ra := ⟨by decide, by decide, dN_isD⟩
theorem run_rec2 {l : List Int} (h : l.length = 20) (s : ByteArray) (w : World) : (Instr.build 54 #[(0, .string s), (2, .agg (darr l))]).run Tryd.prog w = .ok (.agg (rcE ⟨s, 0, l⟩).toArray) w := by
  obtain ⟨a, b, c, d, e, f, g, i, j, k, l, m, n, o, p, q, r, t, u, v, rfl⟩ := trW.match20 h
  kernel_rfl
theorem wp_rec2 {ops : Array Oper} {rest : List Oper} {o : Oper} {a : Act} {w : World} {Q : Exit → Act → World → Prop} {l : List Int} {s : ByteArray} (hw : Region.wanted o (yielded ops a.tmps) = true) (x z : Operand) (ho : o.op = .build 54 #[(0, x), (2, z)]) (hl : l.length = 20)
    (hx : a.eval x = .string s) (hz : a.eval z = .agg (darr l)) (H : wpList Tryd.prog ops Q rest (a.put o.dst (.agg (rcE ⟨s, 0, l⟩).toArray)) w) : wpList Tryd.prog ops Q (o :: rest) a w := by
  refine wpList_step fun K hK => ?_
  rw [if_pos hw]
  unfold Oper.wp execOp
  simp only [ho, List.map_toArray, List.map_cons, List.map_nil, hx, hz, Sem.run_bind, Sem.run_pure, run_rec2 hl, Result.andThen_ok]
  exact hK _ _ H
theorem has_sum {w : World} {g : Nat} {l : List Int} (h : Lies w g 52 (sv l)) (hl : l.length = 20) : Has .u8 w (some ⟨g, 0, none⟩) l := .inr ⟨g, 0, rfl, h.lt, fun i hi => by
  rw [Nat.zero_add, h.cell, sv, List.getElem?_map, List.getElem?_eq_getElem hi, List.getD_eq_getElem?_getD, List.getElem?_eq_getElem hi]; rfl⟩
theorem has_4 {w : World} {g : Nat} {a b c d : Int} {t : TypeId} (h : Lies w g t [.int .u8 a, .int .u8 b, .int .u8 c, .int .u8 d]) : Has .u8 w (some ⟨g, 0, none⟩) [a, b, c, d] := .inr ⟨g, 0, rfl, h.lt, fun i hi => by
  rw [Nat.zero_add, h.cell]
  rcases (by simp at hi; omega : i = 0 ∨ i = 1 ∨ i = 2 ∨ i = 3) with rfl | rfl | rfl | rfl <;> rfl⟩
open Classical in
set_option maxHeartbeats 12800000 in
theorem alive_yes (w : World) (hT : Tab w) : Calls Tryd.prog 29 #[] w fun e w' => e = .returned (.bool true) ∧ Below w.heap.size w w' := by
  have HT := Lib.hid hT
  have HO1 := Lib.hid (Of_any [qa] (some ⟨w.heap.size, 0, none⟩) 1 1 (w.alloc (.cells #[.string aN, .slice none 0 0] 37)) (HT.out.below (mb_new w _) (Nat.le_refl _)) (memB1 (q := qa) rfl (inr0 w)))
  have B1 := Lib.hid (mb_new w (.cells #[.string aN, .slice none 0 0] 37))
  clear hT
  go_enter Tryd.func29, Tryd.ntmps29
  go_wp2_with fail
  refine HO1.out.mono ?_
  rintro e w2 ⟨hof, b2⟩
  have B2 := Lib.hid (mb_bb B1.out b2)
  clear b2 HO1 B1
  rcases hof with ⟨_, A, c, rfl, ho⟩ | ⟨hz, _⟩
  case inr => exact absurd ck_a hz
  rw [of_a] at ho
  have HO := Lib.hid ho
  have HRB : Hid (∀ w', Below w2.heap.size w2 w' → RecB w' A 1 c [ra]) := Lib.hid (fun w' h => ⟨(HO.out.past h).has, rfl, HO.out.len.2.1, by have := HO.out.len.2.2; unfold maxLen at this; omega, by simp [ra], by simp [ra]; exact dN_isD⟩)
  clear ho
  go_wp2_with fail
  refine (Write_any [ra] A 1 c w2 (HT.out.below B2.out (Nat.le_refl _)) (HRB.out w2 (Below.refl _ _))).mono ?_
  rintro e w3 ⟨A3, n3, c3, rfl, hn3, h31, h32, hh3, b3⟩
  have HA3 := Lib.hid hh3
  have HN3 := Lib.hid hn3
  have B3 := Lib.hid (mb_bb B2.out b3)
  have B23 := Lib.hid b3
  clear b3 hh3 hn3 h31 h32
  rw [vl_a]
  go_wp2_with fail
  refine (none_any w3).mono ?_
  rintro e w4 ⟨rfl, b4⟩
  have Y := Lib.hid (z20_at w4 rfl)
  have B4 := Lib.hid (mb_bb B3.out b4)
  have B24 := Lib.hid (mb_bb B23.out b4)
  have HA4 := Lib.hid (HA3.out.below b4 (Nat.le_refl _))
  have HAz := Lib.hid (HA4.out.below (mb_new w4 (.cells #[.int .u8 0, .int .u8 0, .int .u8 0, .int .u8 0, .int .u8 0, .int .u8 0, .int .u8 0, .int .u8 0, .int .u8 0, .int .u8 0, .int .u8 0, .int .u8 0, .int .u8 0, .int .u8 0, .int .u8 0, .int .u8 0, .int .u8 0, .int .u8 0, .int .u8 0, .int .u8 0] 52)) (Nat.le_refl _))
  have B2z := Lib.hid (mb_bb B24.out (mb_new w4 (.cells #[.int .u8 0, .int .u8 0, .int .u8 0, .int .u8 0, .int .u8 0, .int .u8 0, .int .u8 0, .int .u8 0, .int .u8 0, .int .u8 0, .int .u8 0, .int .u8 0, .int .u8 0, .int .u8 0, .int .u8 0, .int .u8 0, .int .u8 0, .int .u8 0, .int .u8 0, .int .u8 0] 52)))
  have Bz := Lib.hid (mb_bb B4.out (mb_new w4 (.cells #[.int .u8 0, .int .u8 0, .int .u8 0, .int .u8 0, .int .u8 0, .int .u8 0, .int .u8 0, .int .u8 0, .int .u8 0, .int .u8 0, .int .u8 0, .int .u8 0, .int .u8 0, .int .u8 0, .int .u8 0, .int .u8 0, .int .u8 0, .int .u8 0, .int .u8 0, .int .u8 0] 52)))
  clear b4 HA3 B3 B23
  go_upto_region 4 with (first | (show wpList _ _ _ ({ dst := none, op := Op.store 52 _ _, type := _, pos := _, after := _, guard := _ } :: _) _ _; go_must (refine trW.wp_st (g := w4.heap.size) (l := dN) (by rfl) _ _ rfl (Y.out) (zd_isD.len) (dN_isD.len) rfl rfl ?_); intro w5 hR5 hg5 hb5 hz5))
  have L5 := Lib.hid hR5
  have B5 := Lib.hid (Bz.out.trans (hb5.mono B4.out.size))
  have B25 := Lib.hid (B2z.out.trans (hb5.mono B24.out.size))
  have HA5 : Hid (Has .u8 w5 A3 (wrV [ra])) := Lib.hid (by
    rcases HA4.out with h | ⟨b, off, e, hb, hc⟩
    · exact .inl h
    · exact has_g HAz.out hg5 (fun b' off' e' => by
        rw [e] at e'
        injection e' with e'
        injection e' with e1 _
        subst e1
        intro h
        injection h with h
        omega))
  clear HA4 hR5 hg5 hb5 hz5 Y B4 B24 HAz B2z Bz
  obtain ⟨g5, hg5⟩ : ∃ g5, w4.heap.size = g5 := ⟨_, rfl⟩
  rw [hg5] at L5 ⊢
  clear hg5
  (have RD := grows_roads (S := fun x' => Below w5.heap.size w5 x') (fun a b h1 h2 => h2.trans (h1.mono h2.size))); refine region_ord _ Grows RD (Below.drew (Below.refl _ _)) (by kernel_rfl) ?_; intro ops Q' hops hPQ hN; (have HNS : Hid (Region.noSelect ops = true) := Lib.hid (by rw [hops]; kernel_rfl)); (have hsz : ops.size = 6 := (by rw [hops]; rfl)); have HOP := Lib.hid hops; have HPQ := Lib.hid hPQ; have HN := Lib.hid hN; rw [hsz]; clear hops hsz hPQ hN
  refine ord_take RD 2 (at_list (by rw [HOP.out]; rfl)) HNS.out HPQ.out (by rw [HOP.out]; kernel_rfl) (by rw [HOP.out]; kernel_rfl) (by rw [HOP.out]; rfl) (fun K hK => ?_); apply Exists.intro; refine ⟨fun W hSW => ?_, hK _ ?_⟩; (focus ((try dsimp only at hSW); go_simp; try with_reducible rfl)); clear hK K; (try simp only [Act.put, List.setIfInBounds_toArray, List.set_cons_zero, List.set_cons_succ])
  refine ord_take RD 3 (at_list (by rw [HOP.out]; rfl)) HNS.out HPQ.out (by rw [HOP.out]; kernel_rfl) (by rw [HOP.out]; kernel_rfl) (by rw [HOP.out]; rfl) (fun K hK => ?_); apply Exists.intro; refine ⟨fun W hSW => ?_, hK _ ?_⟩; (focus ((try dsimp only at hSW); have cv := conv8 (n := 20) (c := 20) (has_sum (L5.out.past hSW) dN_isD.len) rfl; go_simp; try with_reducible rfl)); clear hK K; (try simp only [Act.put, List.setIfInBounds_toArray, List.set_cons_zero, List.set_cons_succ])
  refine ord_one RD 0 (by rw [HOP.out]; kernel_rfl) (at_list (by rw [HOP.out]; rfl)) (by rw [HOP.out]; rfl) (fun W1 hWW hSW K hK => ?_); (try dsimp only at hSW)
  go_simp
  have LL := Lib.hid (Lies.fresh W1 5 [.int .u8 1, .int .u8 97, .int .u8 0, .int .u8 0])
  have G := mb_new W1 (.cells #[.int .u8 1, .int .u8 97, .int .u8 0, .int .u8 0] 5)
  refine hK _ _ (mb_bb hSW G) ?_
  clear hSW hWW G
  clear hK K; (try simp only [Act.put, List.setIfInBounds_toArray, List.set_cons_zero, List.set_cons_succ])
  generalize hw6 : (W1.alloc (.cells #[.int .u8 1, .int .u8 97, .int .u8 0, .int .u8 0] 5)) = W6 at *
  have L6 := Lib.hid LL.out
  clear LL hw6
  refine ord_one RD 1 (by rw [HOP.out]; kernel_rfl) (at_list (by rw [HOP.out]; rfl)) (by rw [HOP.out]; rfl) (fun W2 hWW hSW K hK => ?_); (try dsimp only at hSW)
  have cv := conv8 (n := 4) (c := 4) (has_4 (L6.out.past hWW)) rfl
  go_simp
  refine hK _ _ hSW ?_
  clear hSW hWW cv L6
  clear hK K; (try simp only [Act.put, List.setIfInBounds_toArray, List.set_cons_zero, List.set_cons_succ])
  refine ord_take RD 4 (at_list (by rw [HOP.out]; rfl)) HNS.out HPQ.out (by rw [HOP.out]; kernel_rfl) (by rw [HOP.out]; kernel_rfl) (by rw [HOP.out]; rfl) (fun K hK => ?_); apply Exists.intro; refine ⟨fun W hSW => ?_, hK _ ?_⟩; (focus ((try dsimp only at hSW); have hsz : ¬ 9223372036854775807 < (bstr [1, 97, 0, 0]).size + (bstr dN).size := (by decide +kernel); go_simp; try with_reducible rfl)); clear hK K; (try simp only [Act.put, List.setIfInBounds_toArray, List.set_cons_zero, List.set_cons_succ])
  refine ord_take RD 5 (at_list (by rw [HOP.out]; rfl)) HNS.out HPQ.out (by rw [HOP.out]; kernel_rfl) (by rw [HOP.out]; kernel_rfl) (by rw [HOP.out]; rfl) (fun K hK => ?_); apply Exists.intro; refine ⟨fun W hSW => ?_, hK _ ?_⟩; (focus ((try dsimp only at hSW); go_simp; try with_reducible rfl)); clear hK K; (try simp only [Act.put, List.setIfInBounds_toArray, List.set_cons_zero, List.set_cons_succ])
  refine ord_done (by rw [HOP.out]; kernel_rfl) (fun W7 hWW hSW => HN.out _ _ ?_); clear HOP HNS HPQ HN RD; (try dsimp only at hSW)
  have B7 := Lib.hid (mb_bb B5.out hSW)
  have B27 := Lib.hid (mb_bb B25.out hSW)
  have L7 := Lib.hid (L5.out.past hSW)
  have HA7 := Lib.hid (HA5.out.below hSW (Nat.le_refl _))
  clear hSW hWW B5 B25 L5 HA5
  go_wp2_with fail
  refine (none_any W7).mono ?_
  rintro e w8 ⟨rfl, b8⟩
  have B8 := Lib.hid (mb_bb B7.out b8)
  have B28 := Lib.hid (mb_bb B27.out b8)
  have HA8 := Lib.hid (HA7.out.below b8 (Nat.le_refl _))
  have HR8 := Lib.hid (recB1 (w := w8) (r := ra) rfl (by decide) dN_isD)
  have B9 := Lib.hid (mb_bb B8.out (mb_new w8 (.cells (rcE ra).toArray 54)))
  have B29 := Lib.hid (mb_bb B28.out (mb_new w8 (.cells (rcE ra).toArray 54)))
  have HA9 := Lib.hid (HA8.out.below (mb_new w8 (.cells (rcE ra).toArray 54)) (Nat.le_refl _))
  clear b8 B7 B27 HA7 L7 B8 B28 HA8
  go_wp2_with (first | (show wpList _ _ _ ({ dst := _, op := Op.buildSlice 25 1 _, type := _, pos := _, after := _, guard := _ } :: _) _ _; go_must (refine wp_litR (r := ra) (by rfl) _ rfl rfl ?_)) | (show wpList _ _ _ ({ dst := _, op := Op.build 54 #[(0, _), (2, _)], type := _, pos := _, after := _, guard := _ } :: _) _ _; go_must (refine wp_rec2 (l := dN) (by rfl) _ _ rfl dN_isD.len rfl rfl ?_)))
  generalize (w8.alloc (.cells (rcE ra).toArray 54)) = w9 at *
  refine (Same_any [ra] [ra] A (some ⟨w8.heap.size, 0, none⟩) 1 1 c 1 w9 (HRB.out w9 B29.out).h HR8.out.h rfl rfl (by decide) (by decide) (by simp; exact ra_ok) (by simp; exact ra_ok)).mono ?_
  rintro e w10 ⟨rfl, b10⟩
  rw [show decide ([ra] = [ra]) = true from decide_eq_true rfl]
  have B10 := Lib.hid (mb_bb B9.out b10)
  have cv := conv8 (n := n3) (c := c3) (HA9.out.below b10 (Nat.le_refl _)) HN3.out.symm
  rw [wr_a] at cv
  have hwa := want_a
  have HCK := Lib.hid (Check_any [⟨abN, r80⟩] (some ⟨w10.heap.size, 0, none⟩) 1 1 (w10.alloc (.cells #[.string abN, .slice none 0 0] 37)) (memB1 (q := ⟨abN, r80⟩) rfl (inr0 w10)))
  have B11 := Lib.hid (mb_bb B10.out (mb_new w10 (.cells #[.string abN, .slice none 0 0] 37)))
  clear b10 B9 B29 HA9 HR8 B10
  rw [ck_ab] at HCK
  go_wp2_with fail
  refine HCK.out.mono ?_
  rintro e w12 ⟨rfl, b12⟩
  have B12 := Lib.hid (mb_bb B11.out b12)
  clear b12
  go_wp2_with fail
  go_ret
  exact ⟨rfl, B12.out⟩
end Go.Proofs.YtiihafhnaiicoaaDoor.mbW

namespace Go.Proofs.YtiihafhnaiicoaaDoor.mbW
set_option maxRecDepth 100000
open Go.RowKit Go.Proofs.YtiihafhnaiicoaaDoor.base Go.Proofs.YtiihafhnaiicoaaDoor.shP Go.Proofs.YtiihafhnaiicoaaDoor.shW
open Go.Proofs.YtiihafhnaiicoaaDoor.trW (IsD sv zd_isD digest_isD z20_at)
set_option linter.unusedVariables false
set_option linter.unusedSimpArgs false
set_option maxRecDepth 100000
theorem ck_tw {ms : List Mb} (h : ckE ms = 0) : twE (nms ms) = 0 := by
  have h2 := h
  unfold ckE at h2
  split at h2
  · omega
  · split at h2
    · omega
    · split at h2
      · exact h2
      · omega
theorem rnms_of (ms : List Mb) : rnms (ofL ms) = nms ms := by
  unfold rnms ofL nms
  rw [List.map_map]; rfl
theorem sumZ_of : ∀ ms : List Mb, sumZ (ofL ms) = sumD ms
  | [] => rfl
  | m :: l => by
    have := sumZ_of l
    unfold sumZ ofL at this ⊢
    simp only [List.map_cons, List.sum_cons, sumD]
    rw [this]
    show ((m.r.n : Int)) + _ = _
    omega
theorem rok_of {ms : List Mb} (h : ckE ms = 0) {k : Nat} (hk : k < ms.length) (he : (ms.getD k mb0).r.b.length = (ms.getD k mb0).r.n) : rok (recOf (ms.getD k mb0)) := by
  have h1 := sumD_get ms k hk
  have h2 := (ck_zero h).2
  refine ⟨?_, by show (0 : Int) ≤ ((ms.getD k mb0).r.n : Int); omega, by show ((ms.getD k mb0).r.n : Int) ≤ 8192; omega, fun hz => ?_⟩
  · refine nm_of_ck h _ ?_
    rw [show (recOf (ms.getD k mb0)).nm = (ms.getD k mb0).nm from rfl, ← nms_get ms hk, List.getD_eq_getElem?_getD, List.getElem?_eq_getElem (by rw [nms_len]; exact hk)]
    exact List.getElem_mem _
  · have hz2 : ((ms.getD k mb0).r.n : Int) = 0 := hz
    have : (ms.getD k mb0).r.b = [] := List.eq_nil_of_length_eq_zero (by omega)
    show digest (ms.getD k mb0).r.b = digest []
    rw [this]
theorem vl_of {ms : List Mb} (h : ckE ms = 0) (he : ∀ k, k < ms.length → (ms.getD k mb0).r.b.length = (ms.getD k mb0).r.n) : vlE (ofL ms) = 0 := by
  have hz := ck_zero h
  rw [vl_ok (rs := ofL ms) (by rw [ofL_len]; omega) (fun k hk => by rw [ofL_len] at hk; rw [ofL_get ms hk]; exact rok_of h hk (he k hk)) (by rw [sumZ_of]; omega), rnms_of]
  exact ck_tw h
theorem vl_one {ms : List Mb} (h : ckE ms = 0) {k : Nat} (hk : k < ms.length) (he : (ms.getD k mb0).r.b.length = (ms.getD k mb0).r.n) : vlE [recOf (ms.getD k mb0)] = 0 := by
  have h1 := rok_of h hk he
  rw [vl_ok (rs := [recOf (ms.getD k mb0)]) (by simp) (fun j hj => by
    obtain rfl : j = 0 := by simpa using hj
    exact h1) (by have := h1.2.2.1; show ¬ 8192 < (recOf (ms.getD k mb0)).sz + 0; omega)]
  exact tw_all (fun i hi k hk => by simp [rnms] at hi; omega)
theorem fst_of {ms : List Mb} (h : ckE ms = 0) {k : Nat} (hk : k < ms.length) : Fst (ofL ms) (ms.getD k mb0).nm k := by
  refine ⟨by rw [ofL_len]; exact hk, by rw [ofL_get ms hk]; rfl, fun j hj e => ?_⟩
  rw [ofL_get ms (by omega)] at e
  have e2 : (ms.getD j mb0).nm = (ms.getD k mb0).nm := e
  have := tw_at (ss := nms ms) (i := k) (k := j) (by rw [nms_len]; exact hk) hj (by rw [nms_get ms hk, nms_get ms (by omega)]; exact e2.symm)
  rw [ck_tw h] at this
  cases this
theorem longer (s : ByteArray) : s ++ ⟨#[120]⟩ ≠ s := fun e => by
  have := congrArg ByteArray.size e
  rw [ByteArray.size_append] at this
  have h : (⟨#[120]⟩ : ByteArray).size = 1 := rfl
  omega
theorem rt_x (q : Mb) : rtB (recOf q) ⟨q.nm ++ ⟨#[120]⟩, q.r⟩ = false := rt_no (fun e => longer q.nm (by
  have := congrArg Rc.nm e
  exact this.symm))
end Go.Proofs.YtiihafhnaiicoaaDoor.mbW
