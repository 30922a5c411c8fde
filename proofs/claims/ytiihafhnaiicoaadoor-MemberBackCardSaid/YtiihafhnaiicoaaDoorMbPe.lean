/- What was written is read, by plain facts. -/
import Derived.Test.YtiihafhnaiicoaaDoorMbL4
namespace Go.Proofs.YtiihafhnaiicoaaDoor.mbW
set_option maxRecDepth 100000
open Go.RowKit Go.Proofs.YtiihafhnaiicoaaDoor.base Go.Proofs.YtiihafhnaiicoaaDoor.shP Go.Proofs.YtiihafhnaiicoaaDoor.shW Go.Proofs.YtiihafhnaiicoaaDoor.ocP Go.Proofs.YtiihafhnaiicoaaDoor.ocW
open Go.Proofs.YtiihafhnaiicoaaDoor.trW (IsD sv zd_isD digest_isD z20_at)
set_option linter.unusedVariables false
set_option linter.unusedSimpArgs false
set_option maxRecDepth 100000
theorem bl_bstr {xs : List Int} (h : Byt8 xs) : bl (bstr xs) = xs := by
  unfold bl
  rw [bstr_list]
  unfold Lib.bytesOf
  rw [List.map_map]
  conv => rhs; rw [← List.map_id xs]
  refine List.map_congr_left fun z hz => ?_
  have hx := h z hz
  show (((UInt8.ofNat z.toNat).toNat : Nat) : Int) = z
  have : (UInt8.ofNat z.toNat).toNat = z.toNat % 256 := by simp
  rw [this]
  omega
theorem bstr_bl (s : ByteArray) : bstr (bl s) = s := by
  have h : (bstr (bl s)).data.toList = s.data.toList := by
    rw [bstr_list]
    unfold Lib.bytesOf bl
    rw [List.map_map]
    conv => rhs; rw [← List.map_id s.data.toList]
    refine List.map_congr_left fun z hz => ?_
    show UInt8.ofNat ((z.toNat : Int)).toNat = z
    rw [Int.toNat_natCast, UInt8.ofNat_toNat]
  have e : (bstr (bl s)).data = s.data := Array.ext' h
  cases h1 : bstr (bl s)
  cases s
  rw [h1] at e
  simp only at e
  rw [e]
theorem digs_1 (n : Int) : digs n 1 = [n % 256] := by
  show [n / 256 ^ 0 % 256] = _
  rw [Int.pow_zero, Int.ediv_one]
theorem digs_2 (n : Int) : digs n 2 = [n / 256 % 256, n % 256] := by
  show [n / 256 ^ 1 % 256, n / 256 ^ 0 % 256] = _
  rw [Int.pow_zero, Int.ediv_one, Int.pow_succ, Int.pow_zero, Int.one_mul]
theorem getD_drop (b : List Int) (p i : Nat) : b.getD (p + i) 0 = (b.drop p).getD i 0 := by
  rw [List.getD_eq_getElem?_getD, List.getD_eq_getElem?_getD, List.getElem?_drop]
theorem rcB_form {r : Rc} (h1 : r.nm.size ≤ 255) (h2 : 0 ≤ r.sz) (h3 : r.sz ≤ 65535) : rcB r = (r.nm.size : Int) :: (bl r.nm ++ (r.sz / 256 :: (r.sz % 256) :: r.sum)) := by
  unfold rcB
  rw [digs_1, digs_2, show ((r.nm.size : Nat) : Int) % 256 = r.nm.size by omega, show r.sz / 256 % 256 = r.sz / 256 by omega]
  simp
/-- A record's bytes stand at a place. -/
theorem at_rec {b rest : List Int} {p : Nat} {r : Rc} (h : b.drop p = rcB r ++ rest) (h1 : r.nm.size ≤ 255) (h2 : 0 ≤ r.sz) (h3 : r.sz ≤ 65535) (h4 : r.sum.length = 20) : nl b p = r.nm.size ∧ fits b p ∧ rcAt b p = r := by
  have hl := rcB_len (r := r) h4
  have hlen : b.length - p = r.nm.size + 23 + rest.length := by
    have := congrArg List.length h
    rw [List.length_drop, List.length_append, hl] at this; exact this
  rw [rcB_form h1 h2 h3] at h
  have hlb := bl_len r.nm
  have hn : nl b p = r.nm.size := by
    unfold nl
    rw [show p = p + 0 from rfl, getD_drop, h]
    simp
  have d1 : b.drop (p + 1) = bl r.nm ++ (r.sz / 256 :: (r.sz % 256) :: (r.sum ++ rest)) := by
    rw [← List.drop_drop, h]; simp
  have d2 : b.drop (p + 1 + r.nm.size) = r.sz / 256 :: (r.sz % 256) :: (r.sum ++ rest) := by
    rw [← List.drop_drop, d1, ← hlb, List.drop_left]
  refine ⟨hn, by unfold fits; rw [hn]; omega, ?_⟩
  unfold rcAt
  rw [hn, d1, show p + 3 + r.nm.size = p + 1 + r.nm.size + 2 by omega, ← List.drop_drop, d2, show p + 2 + r.nm.size = p + 1 + r.nm.size + 1 by omega, getD_drop b (p + 1 + r.nm.size) 1, show b.getD (p + 1 + r.nm.size) 0 = b.getD (p + 1 + r.nm.size + 0) 0 from rfl, getD_drop b (p + 1 + r.nm.size) 0, d2]
  have e1 : (bl r.nm ++ (r.sz / 256 :: (r.sz % 256) :: (r.sum ++ rest))).take r.nm.size = bl r.nm := by rw [← hlb, List.take_left]
  rw [e1, bstr_bl]
  have e2 : ((r.sz / 256 :: (r.sz % 256) :: (r.sum ++ rest)).drop 2).take 20 = r.sum := by
    show (r.sum ++ rest).take 20 = r.sum
    rw [← h4, List.take_left]
  rw [e2]
  have e3 : (r.sz / 256 :: (r.sz % 256) :: (r.sum ++ rest)).getD 0 0 * 256 + (r.sz / 256 :: (r.sz % 256) :: (r.sum ++ rest)).getD 1 0 = r.sz := by
    show r.sz / 256 * 256 + r.sz % 256 = r.sz
    omega
  rw [e3]
def GoodR (l : List Rc) : Prop := ∀ r ∈ l, r.nm.size ≤ 255 ∧ 0 ≤ r.sz ∧ r.sz ≤ 65535 ∧ r.sum.length = 20
theorem tabB_drop (l : List Rc) : ∀ k, tabB l = tabB (l.take k) ++ tabB (l.drop k) := fun k => by
  unfold tabB
  rw [← List.flatten_append, ← List.map_append, List.take_append_drop]
theorem read_tab {l : List Rc} (h : GoodR l) (c : List Int) : ∀ k, k ≤ l.length → rdS (tabB l ++ c) k = some (l.take k, (tabB (l.take k)).length)
  | 0, _ => by simp [rdS, tabB]
  | k + 1, hk => by
    have ih := read_tab h c k (by omega)
    have hr := h (l.getD k rc0) (by rw [List.getD_eq_getElem?_getD, List.getElem?_eq_getElem (by omega)]; exact List.getElem_mem _)
    have hd : (tabB l ++ c).drop (tabB (l.take k)).length = rcB (l.getD k rc0) ++ (tabB (l.drop (k + 1)) ++ c) := by
      rw [tabB_drop l k, List.append_assoc, List.drop_left, List.drop_eq_getElem_cons (by omega : k < l.length), List.getD_eq_getElem?_getD, List.getElem?_eq_getElem (by omega : k < l.length)]
      unfold tabB
      simp only [List.map_cons, List.flatten_cons, List.append_assoc, Option.getD_some]
    obtain ⟨e1, e2, e3⟩ := at_rec hd hr.1 hr.2.1 hr.2.2.1 hr.2.2.2
    rw [rdS_step ih e2, e3]
    have e4 : nx (tabB l ++ c) (tabB (l.take k)).length = (tabB (l.take (k + 1))).length := by
      unfold nx
      rw [e1, tabB_snoc l (by omega), List.length_append, rcB_len hr.2.2.2]; omega
    rw [e4, List.take_add_one, List.getElem?_eq_getElem (by omega), List.getD_eq_getElem?_getD, List.getElem?_eq_getElem (by omega)]
    rfl
theorem read_back {l : List Rc} (h : GoodR l) (c : List Int) : rdS (tabB l ++ c) l.length = some (l, (tabB l).length) := by
  have := read_tab h c l.length (Nat.le_refl _)
  rwa [List.take_length] at this
/-- Bytes behind change nothing. -/
theorem getD_app {a c : List Int} {i : Nat} (h : i < a.length) : (a ++ c).getD i 0 = a.getD i 0 := by
  rw [List.getD_eq_getElem?_getD, List.getD_eq_getElem?_getD, List.getElem?_append_left h]
theorem rdS_pre {b : List Int} (c : List Int) : ∀ {k p : Nat} {l : List Rc}, rdS b k = some (l, p) → rdS (b ++ c) k = some (l, p)
  | 0, p, l, h => h
  | k + 1, p, l, h => by
    rw [rdS] at h
    rcases e : rdS b k with _ | ⟨l', p'⟩
    · rw [e] at h; cases h
    · rw [e] at h
      simp only at h
      by_cases hf : fits b p'
      · rw [if_pos hf] at h
        have ih := rdS_pre c e
        have hfl := hf
        unfold fits at hfl
        have hn : nl (b ++ c) p' = nl b p' := by unfold nl; rw [getD_app (by omega)]
        have hf2 : fits (b ++ c) p' := by unfold fits; rw [hn, List.length_append]; omega
        rw [rdS_step ih hf2, ← h]
        have hr : rcAt (b ++ c) p' = rcAt b p' := by
          unfold rcAt
          rw [hn, getD_app (by omega), getD_app (by omega)]
          have t : ∀ i m, i + m ≤ b.length → ((b ++ c).drop i).take m = (b.drop i).take m := fun i m h => by
            rw [List.drop_append_of_le_length (by omega), List.take_append_of_le_length (by rw [List.length_drop]; omega)]
          rw [t _ _ (by omega), t _ _ (by omega)]
        rw [hr]
        unfold nx
        rw [hn]
      · rw [if_neg hf] at h; cases h
theorem read_part {l : List Rc} (h : GoodR l) (hb : Byt8 (tabB l)) {i : Nat} (hi : i < (tabB l).length) : rdS ((tabB l).take i) l.length = none := by
  rcases e : rdS ((tabB l).take i) l.length with _ | ⟨l', p⟩
  · rfl
  · have h1 := rdS_pre ((tabB l).drop i) e
    rw [List.take_append_drop] at h1
    have h2 := read_back h []
    rw [List.append_nil, h1] at h2
    have h3 := (rdS_le (b := (tabB l).take i) (fun z hz => hb z (List.mem_of_mem_take hz)) e).2.1
    simp only [Option.some.injEq, Prod.mk.injEq] at h2
    rw [List.length_take] at h3
    omega
/-- What was read, written. -/
theorem rc_back {b : List Int} {p : Nat} (hb : Byt8 b) (hf : fits b p) : rcB (rcAt b p) = (b.drop p).take (nl b p + 23) := by
  have hk := rcAt_ok hb hf
  unfold fits at hf
  have hx := hb.at p
  have hu := hb.at (p + 1 + nl b p)
  have hv := hb.at (p + 2 + nl b p)
  have hs : (rcAt b p).nm.size = nl b p := by
    show (bstr _).size = _
    rw [bstr_size, List.length_take, List.length_drop]; omega
  rw [rcB_form (by rw [hs]; exact nl_le hb p) hk.1.1 hk.1.2, hs, nl_int hb p]
  have e1 : bl (rcAt b p).nm = (b.drop (p + 1)).take (nl b p) := bl_bstr (fun z hz => hb z (List.mem_of_mem_drop (List.mem_of_mem_take hz)))
  have e2 : (rcAt b p).sz / 256 = b.getD (p + 1 + nl b p) 0 := by
    show (b.getD (p + 1 + nl b p) 0 * 256 + b.getD (p + 2 + nl b p) 0) / 256 = _
    omega
  have e3 : (rcAt b p).sz % 256 = b.getD (p + 2 + nl b p) 0 := by
    show (b.getD (p + 1 + nl b p) 0 * 256 + b.getD (p + 2 + nl b p) 0) % 256 = _
    omega
  have e4 : (rcAt b p).sum = (b.drop (p + 3 + nl b p)).take 20 := rfl
  rw [e1, e2, e3, e4]
  generalize hz : nl b p = z at *
  have q0 : b.drop p = b.getD p 0 :: b.drop (p + 1) := by
    rw [List.drop_eq_getElem_cons (by omega : p < b.length), List.getD_eq_getElem?_getD, List.getElem?_eq_getElem (by omega : p < b.length)]; rfl
  have q1 : b.drop (p + 1) = (b.drop (p + 1)).take z ++ b.drop (p + 1 + z) := by
    have := List.take_append_drop z (b.drop (p + 1))
    rw [List.drop_drop] at this
    exact this.symm
  have q2 : b.drop (p + 1 + z) = b.getD (p + 1 + z) 0 :: b.getD (p + 2 + z) 0 :: b.drop (p + 3 + z) := by
    rw [List.drop_eq_getElem_cons (by omega : p + 1 + z < b.length), List.getD_eq_getElem?_getD, List.getElem?_eq_getElem (by omega : p + 1 + z < b.length), show p + 1 + z + 1 = p + 2 + z by omega, List.drop_eq_getElem_cons (by omega : p + 2 + z < b.length), List.getD_eq_getElem?_getD, List.getElem?_eq_getElem (by omega : p + 2 + z < b.length), show p + 2 + z + 1 = p + 3 + z by omega]; rfl
  have l1 : ((b.drop (p + 1)).take z).length = z := by rw [List.length_take, List.length_drop]; omega
  generalize (b.drop (p + 1)).take z = X at *
  rw [q0, q1, q2]
  generalize b.drop (p + 3 + z) = D
  have r1 : (b.getD p 0 :: (X ++ (b.getD (p + 1 + z) 0 :: b.getD (p + 2 + z) 0 :: D))).take (z + 23) = b.getD p 0 :: (X ++ (b.getD (p + 1 + z) 0 :: b.getD (p + 2 + z) 0 :: D.take 20)) := by
    rw [show z + 23 = (X.length + 22) + 1 by omega, List.take_succ_cons, List.take_length_add_append]; rfl
  rw [r1]
theorem tab_back {b : List Int} (hb : Byt8 b) : ∀ {k p : Nat} {l : List Rc}, rdS b k = some (l, p) → tabB l = b.take p
  | 0, p, l, h => by
    simp only [rdS, Option.some.injEq, Prod.mk.injEq] at h
    obtain ⟨rfl, rfl⟩ := h
    simp [tabB]
  | k + 1, p, l, h => by
    rw [rdS] at h
    rcases e : rdS b k with _ | ⟨l', p'⟩
    · rw [e] at h; cases h
    · rw [e] at h
      simp only at h
      by_cases hf : fits b p'
      · rw [if_pos hf] at h
        simp only [Option.some.injEq, Prod.mk.injEq] at h
        obtain ⟨rfl, rfl⟩ := h
        have ih := tab_back hb e
        unfold tabB at ih ⊢
        rw [List.map_append, List.flatten_append, ih, List.map_cons, List.map_nil, List.flatten_cons, List.flatten_nil, List.append_nil, rc_back hb hf]
        unfold nx
        rw [Nat.add_assoc]
        exact List.take_add.symm
      · rw [if_neg hf] at h; cases h
end Go.Proofs.YtiihafhnaiicoaaDoor.mbW
