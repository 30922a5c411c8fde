/- Digests: lists of 20 bytes; rows of them, as flat lists of bytes. -/
import Derived.Test.YtiihafhnaiicoaaDoorPk1
import Derived.Test.YtiihafhnaiicoaaDoorFar
import Derived.Test.YtiihafhnaiicoaaDoorTrPlain2
import Derived.Deep.MidRow
import Derived.Laws.MakeOwn
namespace Go.Proofs.YtiihafhnaiicoaaDoor.trW
set_option maxRecDepth 100000
open Go.RowKit Go.Proofs.YtiihafhnaiicoaaDoor.base Go.Proofs.YtiihafhnaiicoaaDoor.shP Go.Proofs.YtiihafhnaiicoaaDoor.shW
set_option linter.unusedVariables false
set_option linter.unusedSimpArgs false
def sv (l : List Int) : List Value := l.map (Value.int .u8)
structure IsD (d : List Int) : Prop where
  len : d.length = 20
  bd : ∀ z ∈ d, 0 ≤ z ∧ z ≤ 255
theorem wbytes_isD (v : W5) : IsD (wbytes v) := ⟨rfl, fun z hz => by
  simp only [wbytes, List.map_cons, List.map_nil, List.flatten_cons, List.flatten_nil, List.append_nil, List.mem_append, List.mem_cons, List.not_mem_nil, or_false] at hz
  omega⟩
theorem digest_isD (b : List Int) : IsD (digest b) := wbytes_isD _
theorem zd_isD : IsD zd := ⟨rfl, by unfold zd; intro z hz; have := List.eq_of_mem_replicate hz; omega⟩
theorem info20l {d : List Int} (h : d.length = 20) : (Tryd.prog.info? 52).map (·.size) = some (sv d).length := by
  rw [sv, List.length_map, h]; kernel_rfl
theorem sv_one (l : List Int) : ∀ v ∈ (sv l).toArray.toList, v.oneCell' = true := by
  intro v hv
  simp only [sv] at hv
  obtain ⟨z, _, rfl⟩ := List.mem_map.1 hv
  rfl
theorem sv_all (l : List Int) : (sv l).toArray.all (·.oneCell') = true := by
  rw [Array.all_eq_true_iff_forall_mem]; intro v hv; exact sv_one l v (by simpa using hv)
def AllD (ls : List (List Int)) : Prop := ∀ d ∈ ls, IsD d
theorem AllD.get {ls : List (List Int)} (h : AllD ls) {i : Nat} (hi : i < ls.length) : IsD (ls.getD i zd) := by
  rw [List.getD_eq_getElem?_getD, List.getElem?_eq_getElem hi]; exact h _ (List.getElem_mem hi)
theorem AllD.getz {ls : List (List Int)} (h : AllD ls) (i : Nat) : IsD (ls.getD i zd) := by
  rcases Nat.lt_or_ge i ls.length with hi | hi
  · exact h.get hi
  · rw [List.getD_eq_getElem?_getD, List.getElem?_eq_none hi]; exact zd_isD
theorem AllD.take {ls : List (List Int)} (h : AllD ls) (k : Nat) : AllD (ls.take k) := fun d hd => h d (List.mem_of_mem_take hd)
theorem AllD.drop {ls : List (List Int)} (h : AllD ls) (k : Nat) : AllD (ls.drop k) := fun d hd => h d (List.mem_of_mem_drop hd)
theorem AllD.set {ls : List (List Int)} (h : AllD ls) (k : Nat) {d : List Int} (hd : IsD d) : AllD (ls.set k d) := fun x hx => by
  rcases List.mem_or_eq_of_mem_set hx with h1 | rfl
  · exact h x h1
  · exact hd
theorem AllD.append {a b : List (List Int)} (h : AllD a) (k : AllD b) : AllD (a ++ b) := fun d hd => (List.mem_append.1 hd).elim (h d) (k d)
theorem AllD.one {d : List Int} (h : IsD d) : AllD [d] := fun x hx => by simp at hx; subst hx; exact h
theorem AllD.nil : AllD [] := fun x hx => by simp at hx
theorem AllD.rev {a : List (List Int)} (h : AllD a) : AllD a.reverse := fun d hd => h d (List.mem_reverse.1 hd)
/-- The bytes of digests, one behind the other. -/
def dL (ls : List (List Int)) : List Int := ls.flatten
theorem dL_app (a b : List (List Int)) : dL (a ++ b) = dL a ++ dL b := List.flatten_append
theorem dL_one (d : List Int) : dL [d] = d := by simp [dL]
theorem dL_len : ∀ {ls : List (List Int)}, AllD ls → (dL ls).length = ls.length * 20
  | [], _ => rfl
  | d :: r, h => by
    have h1 := (h d (by simp)).len
    have h2 := dL_len (ls := r) (fun x hx => h x (by simp [hx]))
    show (d ++ dL r).length = _
    rw [List.length_append, h1, h2, List.length_cons]; omega
theorem dL_take : ∀ {ls : List (List Int)} (k : Nat), AllD ls → (dL ls).take (k * 20) = dL (ls.take k)
  | [], k, _ => by simp [dL]
  | d :: r, 0, _ => by simp [dL]
  | d :: r, k + 1, h => by
    have h1 := (h d (by simp)).len
    have h2 := dL_take (ls := r) k (fun x hx => h x (by simp [hx]))
    show (d ++ dL r).take _ = d ++ dL (r.take k)
    rw [List.take_append, h1, ← h2, List.take_of_length_le (by rw [h1]; omega)]
    rw [show (k + 1) * 20 - 20 = k * 20 by omega]
theorem dL_drop : ∀ {ls : List (List Int)} (k : Nat), AllD ls → (dL ls).drop (k * 20) = dL (ls.drop k)
  | [], k, _ => by simp [dL]
  | d :: r, 0, _ => by simp [dL]
  | d :: r, k + 1, h => by
    have h1 := (h d (by simp)).len
    have h2 := dL_drop (ls := r) k (fun x hx => h x (by simp [hx]))
    show (d ++ dL r).drop _ = dL (r.drop k)
    rw [List.drop_append, h1, ← h2, List.drop_eq_nil_of_le (by rw [h1]; omega), List.nil_append]
    rw [show (k + 1) * 20 - 20 = k * 20 by omega]
theorem dL_at {ls : List (List Int)} (h : AllD ls) {i : Nat} (hi : i < ls.length) : ((dL ls).drop (i * 20)).take 20 = ls.getD i zd := by
  rw [dL_drop i h, show (20 : Nat) = 1 * 20 from rfl, dL_take 1 (h.drop i), List.drop_eq_getElem_cons hi, List.take_succ_cons, List.take_zero, dL_one, List.getD_eq_getElem?_getD, List.getElem?_eq_getElem hi]; rfl
/-- One digest of a slice, as a range. -/
theorem rng_at {w : World} {ls : List (List Int)} {b off : Nat} (hc : ∀ i, i < (dL ls).length → w.cell? ⟨b, off + i, none⟩ = some (.int .u8 ((dL ls).getD i 0))) (h : AllD ls) {i : Nat} (hi : i < ls.length) : w.rangeAt b (off + i * 20) (sv (ls.getD i zd)) := fun j v hv => by
  rw [← dL_at h hi, sv, List.getElem?_map, List.getElem?_take] at hv
  by_cases hj : j < 20
  · rw [if_pos hj, List.getElem?_drop] at hv
    have h2 : i * 20 + j < (dL ls).length := by rw [dL_len h]; omega
    rw [Nat.add_assoc, hc _ h2, ← hv, List.getD_eq_getElem?_getD, List.getElem?_eq_getElem h2]; rfl
  · rw [if_neg hj] at hv; cases hv
/-- A slice has these digests. -/
structure HasD (w : World) (A : Option Addr) (ls : List (List Int)) : Prop where
  h : Has .u8 w A (dL ls)
  d : AllD ls
theorem HasD.past {w w' : World} {A : Option Addr} {ls : List (List Int)} (h : HasD w A ls) (hb : Below w.heap.size w w') : HasD w' A ls := ⟨h.h.below hb (Nat.le_refl _), h.d⟩
theorem HasD.below {w w' : World} {B : Nat} {A : Option Addr} {ls : List (List Int)} (h : HasD w A ls) (hb : Below B w w') (hB : w.heap.size ≤ B) : HasD w' A ls := ⟨h.h.below hb hB, h.d⟩
theorem HasD.rng {w : World} {A : Option Addr} {ls : List (List Int)} (k : HasD w A ls) {b off : Nat} (hA : A = some ⟨b, off, none⟩) {i : Nat} (hi : i < ls.length) : w.rangeAt b (off + i * 20) (sv (ls.getD i zd)) := by
  obtain ⟨b', off', h1, h2, h3⟩ := has_some k.h (by rw [dL_len k.d]; omega)
  rw [hA] at h1
  injection h1 with h1
  injection h1 with h1 h4
  subst h1 h4
  exact rng_at h3 k.d hi
theorem HasD.some {w : World} {A : Option Addr} {ls : List (List Int)} (k : HasD w A ls) (hp : 0 < ls.length) : ∃ b off, A = .some ⟨b, off, none⟩ ∧ b < w.heap.size := by
  obtain ⟨b', off', h1, h2, h3⟩ := has_some k.h (by rw [dL_len k.d]; omega)
  exact ⟨b', off', h1, h2⟩
theorem HasD.front {w : World} {A : Option Addr} {ls : List (List Int)} (k : HasD w A ls) (n : Nat) : HasD w A (ls.take n) := ⟨by rw [← dL_take n k.d]; exact k.h.front _, k.d.take n⟩
theorem HasD.cut {w : World} {A : Option Addr} {ls : List (List Int)} (k : HasD w A ls) {n c : Nat} (hn : n ≤ ls.length) (hc : ls.length ≤ c) : HasD w (if c = n then A else A.map (·.add (n * 20))) (ls.drop n) := by
  refine ⟨?_, k.d.drop n⟩
  have := k.h.cut (n := n * 20) (cap := c * 20) (by rw [dL_len k.d]; omega) (by rw [dL_len k.d]; omega)
  rw [dL_drop n k.d] at this
  by_cases e : c = n
  · rw [if_pos e]; rw [if_pos (by omega)] at this; exact this
  · rw [if_neg e]; rw [if_neg (by omega)] at this; exact this
/-- A row of digests of the call's own. -/
structure OwnD (w : World) (B : Nat) (v : Value) (ls : List (List Int)) : Prop where
  o : w.ownsRow B 52 20 v ls.length (sv (dL ls))
  d : AllD ls
theorem OwnD.nil (w : World) (B : Nat) : OwnD w B (.slice none 0 0) [] := ⟨World.ownsRow_nil w B _ 20, AllD.nil⟩
theorem OwnD.below {w w' : World} {B C : Nat} {v : Value} {ls : List (List Int)} (h : OwnD w B v ls) (hb : Below C w w') (hC : w.heap.size ≤ C) : OwnD w' B v ls := by
  refine ⟨⟨h.o.1, ?_⟩, h.d⟩
  rcases h.o.2 with h2 | ⟨g, cap, cur, hv, hB, hg, r⟩
  · exact .inl h2
  · exact .inr ⟨g, cap, cur, hv, hB, by rw [hb.block g (Nat.lt_of_lt_of_le (lt_of_block hg) hC)]; exact hg, r⟩
theorem OwnD.past {w w' : World} {B : Nat} {v : Value} {ls : List (List Int)} (h : OwnD w B v ls) (hb : Below w.heap.size w w') : OwnD w' B v ls := h.below hb (Nat.le_refl _)
theorem OwnD.mono {w : World} {B B' : Nat} {v : Value} {ls : List (List Int)} (h : OwnD w B v ls) (hB : B' ≤ B) : OwnD w B' v ls := ⟨h.o.mono hB, h.d⟩
theorem OwnD.kept {w w' : World} {B g : Nat} {v : Value} {ls : List (List Int)} (h : OwnD w B v ls) (hg : w.grownBy w' (some g)) (hne : v.ownBlock ≠ some g) : OwnD w' B v ls := ⟨h.o.kept hg (.inr hne), h.d⟩
theorem OwnD.val {w : World} {B : Nat} {v : Value} {ls : List (List Int)} (h : OwnD w B v ls) : ∃ A cap, v = .slice A ls.length cap ∧ HasD w A ls ∧ ls.length ≤ cap ∧ cap ≤ maxLen ∧ (ls ≠ [] → ∃ g, A = some ⟨g, 0, none⟩ ∧ B ≤ g ∧ g < w.heap.size) := by
  obtain ⟨⟨hl, h2⟩, hd⟩ := h
  rcases h2 with ⟨rfl, h0⟩ | ⟨g, cap, cur, rfl, hB, hh, hnc, hcm, hcs, ht⟩
  · have : ls = [] := List.eq_nil_of_length_eq_zero h0
    subst this
    exact ⟨none, 0, rfl, ⟨.inl rfl, hd⟩, by simp, Nat.zero_le _, by simp⟩
  · refine ⟨_, cap, rfl, ⟨.inr ⟨g, 0, rfl, lt_of_block hh, fun i hi => ?_⟩, hd⟩, hnc, hcm, fun _ => ⟨g, rfl, hB, lt_of_block hh⟩⟩
    have : w.cell? ⟨g, 0 + i, none⟩ = cur[0 + i]? := by simp [World.cell?, hh]
    rw [this, Nat.zero_add, ← Array.getElem?_toList]
    have e1 : (cur.toList.take (ls.length * 20))[i]? = cur.toList[i]? := by rw [List.getElem?_take, if_pos (by rw [dL_len hd] at hi; exact hi)]
    rw [← e1, ht, sv, List.getElem?_map, List.getElem?_eq_getElem hi]
    simp [List.getD_eq_getElem?_getD, List.getElem?_eq_getElem hi]
theorem OwnD.has {w : World} {B n c : Nat} {A : Option Addr} {ls : List (List Int)} (h : OwnD w B (.slice A n c) ls) : HasD w A ls := by
  obtain ⟨A', cap', e1, h1, _⟩ := h.val
  injection e1 with e1 _ _
  rw [e1]; exact h1
theorem OwnD.len {w : World} {B n c : Nat} {A : Option Addr} {ls : List (List Int)} (h : OwnD w B (.slice A n c) ls) : n = ls.length ∧ n ≤ c ∧ c ≤ maxLen := by
  obtain ⟨A', cap', e1, h1, h2, h3, _⟩ := h.val
  injection e1 with e1 e2 e3
  subst e2 e3
  exact ⟨rfl, h2, h3⟩
theorem OwnD.spot {w : World} {B n c : Nat} {A : Option Addr} {ls : List (List Int)} (h : OwnD w B (.slice A n c) ls) (hp : 0 < n) : ∃ g, A = some ⟨g, 0, none⟩ ∧ B ≤ g ∧ g < w.heap.size := by
  obtain ⟨A', cap', e1, h1, h2, h3, h4⟩ := h.val
  injection e1 with e1 e2 e3
  subst e1 e2 e3
  exact h4 (by intro e; rw [e] at hp; simp at hp)
theorem OwnD.there {w : World} {B g n c : Nat} {ls : List (List Int)} (h : OwnD w B (.slice (some ⟨g, 0, none⟩) n c) ls) {i : Nat} (hi : i < n) : w.there g (i * 20) 20 := by
  have hn := h.len.1
  subst hn
  refine fun j hj => ⟨?_, h.o.frozenAt (i * 20 + j)⟩
  rw [h.o.cellAt (i * 20 + j) (by omega), sv, List.getElem?_map, List.getElem?_eq_getElem (by rw [dL_len h.d]; omega)]
  rfl
end Go.Proofs.YtiihafhnaiicoaaDoor.trW
