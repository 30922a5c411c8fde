/- Filters: places in a list in which bytes move to the front; runs that are spelled again; chains. Plain facts, no program's numbers. -/
import Derived.Test.YtbfodmckgjeoaaaFiPlain2
namespace Go.Proofs.Ytbfodmckgjeoaaa.fiP
set_option maxRecDepth 100000
set_option linter.unusedVariables false
set_option linter.unusedSimpArgs false
/-! ### Moving to the front -/
def ix : List Int → Int → Nat
  | [], _ => 0
  | z :: r, c => if z = c then 0 else ix r c + 1
theorem ix_at : ∀ {l : List Int} {c : Int}, c ∈ l → ix l c < l.length ∧ l.getD (ix l c) 0 = c
  | [], c, h => by simp at h
  | z :: r, c, h => by
    unfold ix
    by_cases e : z = c
    · rw [if_pos e]; exact ⟨by simp, by simpa using e⟩
    · rw [if_neg e]
      have hr : c ∈ r := by
        rcases List.mem_cons.1 h with h | h
        · exact absurd h.symm e
        · exact h
      have := ix_at hr
      exact ⟨by simpa using this.1, by simpa using this.2⟩
theorem ix_ne : ∀ {l : List Int} {c : Int} {j : Nat}, j < ix l c → l.getD j 0 ≠ c
  | [], c, j, h => by simp [ix] at h
  | z :: r, c, j, h => by
    unfold ix at h
    by_cases e : z = c
    · rw [if_pos e] at h; omega
    · rw [if_neg e] at h
      cases j with
      | zero => simpa using e
      | succ j => simpa using ix_ne (l := r) (c := c) (j := j) (by omega)
theorem ix_getD : ∀ {l : List Int} {i : Nat}, l.Nodup → i < l.length → ix l (l.getD i 0) = i
  | [], i, _, h => by simp at h
  | z :: r, 0, _, _ => by simp [ix]
  | z :: r, i + 1, hn, h => by
    have hn' := List.nodup_cons.1 hn
    have hi : i < r.length := by simpa using h
    have e : (z :: r).getD (i + 1) 0 = r.getD i 0 := by simp
    have hm : r.getD i 0 ∈ r := by
      rw [List.getD_eq_getElem?_getD, List.getElem?_eq_getElem hi]; exact List.getElem_mem hi
    rw [e, ix, if_neg (fun hh => hn'.1 (by rw [hh]; exact hm)), ix_getD hn'.2 hi]
/-- The list in which what stood at i is in front. -/
def mv (l : List Int) (i : Nat) : List Int := l.getD i 0 :: (l.take i ++ l.drop (i + 1))
theorem mv_perm {l : List Int} {i : Nat} (h : i < l.length) : (mv l i).Perm l := by
  have e : l = l.take i ++ l[i] :: l.drop (i + 1) := by
    rw [← List.drop_eq_getElem_cons h, List.take_append_drop]
  have e1 : l.getD i 0 = l[i] := by simp [List.getD_eq_getElem?_getD, List.getElem?_eq_getElem h]
  unfold mv
  rw [e1]
  have := (List.perm_middle (a := l[i]) (l₁ := l.take i) (l₂ := l.drop (i + 1))).symm
  exact this.trans (by rw [← e])
/-- A list of all bytes, each once. -/
structure Full (l : List Int) : Prop where
  len : l.length = 256
  nd : l.Nodup
  all : ∀ c, c ∈ l ↔ 0 ≤ c ∧ c ≤ 255
theorem Full.mv {l : List Int} (h : Full l) {i : Nat} (hi : i < 256) : Full (mv l i) := by
  have p := mv_perm (l := l) (i := i) (by rw [h.len]; exact hi)
  exact ⟨by rw [p.length_eq, h.len], p.nodup_iff.2 h.nd, fun c => by rw [p.mem_iff, h.all]⟩
theorem Full.bd {l : List Int} (h : Full l) (i : Nat) : 0 ≤ l.getD i 0 ∧ l.getD i 0 ≤ 255 := at_bd (fun z hz => (h.all z).1 hz) i
theorem Full.ix {l : List Int} (h : Full l) {c : Int} (h0 : 0 ≤ c) (h1 : c ≤ 255) : ix l c < 256 ∧ l.getD (ix l c) 0 = c := by
  have := ix_at ((h.all c).2 ⟨h0, h1⟩)
  rw [h.len] at this; exact this
def tab : List Int := (List.range 256).map (fun (i : Nat) => (i : Int))
theorem tab_len : tab.length = 256 := by simp [tab]
theorem tab_full : Full tab := by
  refine ⟨tab_len, ?_, fun c => ?_⟩
  · unfold tab
    rw [List.nodup_iff_pairwise_ne, List.pairwise_map]
    exact (List.nodup_iff_pairwise_ne.1 List.nodup_range).imp (fun h => by omega)
  · unfold tab
    rw [List.mem_map]
    constructor
    · rintro ⟨i, hi, rfl⟩
      have := List.mem_range.1 hi
      omega
    · rintro ⟨h0, h1⟩
      exact ⟨c.toNat, List.mem_range.2 (by omega), by omega⟩
def fr : List Int → List Int → List Int
  | _, [] => []
  | l, c :: r => (ix l c : Int) :: fr (mv l (ix l c)) r
def nm : List Int → List Int → List Int
  | _, [] => []
  | l, c :: r => l.getD c.toNat 0 :: nm (mv l c.toNat) r
theorem fr_len : ∀ (b l : List Int), (fr l b).length = b.length
  | [], l => rfl
  | c :: r, l => by simp [fr, fr_len r]
theorem nm_len : ∀ (b l : List Int), (nm l b).length = b.length
  | [], l => rfl
  | c :: r, l => by simp [nm, nm_len r]
theorem fr_bd : ∀ {b l : List Int}, Full l → (∀ z ∈ b, 0 ≤ z ∧ z ≤ 255) → ∀ z ∈ fr l b, 0 ≤ z ∧ z ≤ 255
  | [], l, _, _, z, hz => by simp [fr] at hz
  | c :: r, l, hl, hb, z, hz => by
    have hc := hb c (by simp)
    have hi := hl.ix hc.1 hc.2
    rcases List.mem_cons.1 hz with rfl | hz
    · omega
    · exact fr_bd (hl.mv hi.1) (fun z hz => hb z (by simp [hz])) z hz
theorem nm_bd : ∀ {b l : List Int}, Full l → (∀ z ∈ b, 0 ≤ z ∧ z ≤ 255) → ∀ z ∈ nm l b, 0 ≤ z ∧ z ≤ 255
  | [], l, _, _, z, hz => by simp [nm] at hz
  | c :: r, l, hl, hb, z, hz => by
    have hc := hb c (by simp)
    rcases List.mem_cons.1 hz with rfl | hz
    · exact hl.bd _
    · exact nm_bd (hl.mv (by omega)) (fun z hz => hb z (by simp [hz])) z hz
theorem nm_fr : ∀ {b l : List Int}, Full l → (∀ z ∈ b, 0 ≤ z ∧ z ≤ 255) → nm l (fr l b) = b
  | [], l, _, _ => rfl
  | c :: r, l, hl, hb => by
    have hc := hb c (by simp)
    have hi := hl.ix hc.1 hc.2
    rw [fr, nm, Int.toNat_natCast, hi.2, nm_fr (hl.mv hi.1) (fun z hz => hb z (by simp [hz]))]
theorem fr_nm : ∀ {b l : List Int}, Full l → (∀ z ∈ b, 0 ≤ z ∧ z ≤ 255) → fr l (nm l b) = b
  | [], l, _, _ => rfl
  | c :: r, l, hl, hb => by
    have hc := hb c (by simp)
    have hi : ix l (l.getD c.toNat 0) = c.toNat := ix_getD hl.nd (by rw [hl.len]; omega)
    rw [nm, fr, hi, fr_nm (hl.mv (by omega)) (fun z hz => hb z (by simp [hz]))]
    congr 1; omega
/-! ### Runs, spelled again -/
/-- All of a run is the same; what follows it is not. -/
theorem rlN_same (b : List Int) (i : Nat) : ∀ f n j, n ≤ j → j < rlN b i f n → i + j < b.length ∧ b.getD (i + j) 0 = b.getD i 0
  | 0, n, j, h1, h2 => by rw [rlN] at h2; omega
  | f + 1, n, j, h1, h2 => by
    rw [rlN] at h2
    split at h2
    · rename_i hh
      rcases Nat.lt_or_ge n j with c | c
      · exact rlN_same b i f (n + 1) j c h2
      · obtain rfl : j = n := by omega
        exact hh
    · omega
theorem rl_same {b : List Int} {i j : Nat} (hi : i < b.length) (h : j < rl b i) : i + j < b.length ∧ b.getD (i + j) 0 = b.getD i 0 := by
  rcases Nat.eq_zero_or_pos j with rfl | c
  · exact ⟨hi, rfl⟩
  · exact rlN_same b i 256 1 j c h
theorem rlN_stop (b : List Int) (i : Nat) : ∀ f n, rlN b i f n < n + f → ¬ (i + rlN b i f n < b.length ∧ b.getD (i + rlN b i f n) 0 = b.getD i 0)
  | 0, n, h => by rw [rlN] at h; omega
  | f + 1, n, h => by
    rw [rlN] at h ⊢
    split
    · rename_i hh
      rw [if_pos hh] at h
      exact rlN_stop b i f (n + 1) (by omega)
    · rename_i hh
      exact hh
theorem rl_stop {b : List Int} {i : Nat} (h : rl b i < 257) : ¬ (i + rl b i < b.length ∧ b.getD (i + rl b i) 0 = b.getD i 0) := rlN_stop b i 256 1 (by unfold rl at h; omega)
theorem drop_run {s : List Int} {t r : Nat} {x : Int} (h : t + r ≤ s.length) (hx : ∀ j, j < r → s.getD (t + j) 0 = x) : s.drop t = List.replicate r x ++ s.drop (t + r) := by
  induction r generalizing t with
  | zero => simp
  | succ r ih =>
    have h0 := hx 0 (by omega)
    rw [Nat.add_zero] at h0
    rw [List.drop_eq_getElem_cons (by omega), List.replicate_succ, List.cons_append, ih (t := t + 1) (by omega) (fun j hj => by have := hx (j + 1) (by omega); rwa [show t + 1 + j = t + (j + 1) by omega]), show t + 1 + r = t + (r + 1) by omega]
    congr 1
    rw [← h0]; simp [List.getD_eq_getElem?_getD, List.getElem?_eq_getElem (show t < s.length by omega)]
/-- What counted bytes begin with. -/
theorem cn_cases {s : List Int} {t : Nat} {x : Int} {rest : List Int} (h : cn s t = x :: rest) :
    t < s.length ∧ s.getD t 0 = x ∧ ((rl s t = 1 ∧ rest = cn s (t + 1) ∧ rest.head? ≠ some x) ∨ (2 ≤ rl s t ∧ rl s t ≤ 257 ∧ t + rl s t ≤ s.length ∧ rest = x :: ((rl s t : Int) - 2) :: cn s (t + rl s t) ∧ s.drop t = List.replicate (rl s t) x ++ s.drop (t + rl s t))) := by
  have ht : t < s.length := by
    rcases Nat.lt_or_ge t s.length with c | c
    · exact c
    · rw [cn_end c] at h; cases h
  have hb := rl_bd ht
  rw [cn_step ht, tok] at h
  by_cases e : rl s t = 1
  · rw [if_pos e] at h
    injection h with h1 h2
    refine ⟨ht, h1, .inl ⟨e, by rw [← h2, e]; rfl, ?_⟩⟩
    intro hh
    have hs := rl_stop (b := s) (i := t) (by omega)
    rw [e] at hs
    have h2 : cn s (t + 1) = rest := by rw [← h2, e]; rfl
    have h3 : t + 1 < s.length := by
      rcases Nat.lt_or_ge (t + 1) s.length with c | c
      · exact c
      · rw [cn_end c] at h2; rw [← h2] at hh; cases hh
    have h4 : (cn s (t + 1)).head? = some (s.getD (t + 1) 0) := by
      rw [cn_step h3, tok]; split <;> rfl
    rw [h2, hh] at h4
    injection h4 with h4
    exact hs ⟨h3, by rw [← h4, h1]⟩
  · rw [if_neg e] at h
    injection h with h1 h2
    refine ⟨ht, h1, .inr ⟨by omega, hb.2.1, hb.2.2, by rw [← h2, h1]; rfl, drop_run hb.2.2 (fun j hj => by rw [(rl_same ht hj).2, h1])⟩⟩
/-- What counted runs tell. -/
def spl : List Int → List Int
  | x :: y :: z :: r => if x = y then List.replicate (z.toNat + 2) x ++ spl r else x :: spl (y :: z :: r)
  | l => l
theorem spl_cn (s : List Int) : ∀ d t, s.length - t = d → spl (cn s t) = s.drop t := by
  intro d
  induction d using Nat.strongRecOn with
  | _ d ih =>
    intro t hd
    rcases Nat.lt_or_ge t s.length with hlt | hge
    · obtain ⟨x, rest, hx⟩ : ∃ x rest, cn s t = x :: rest := by
        rw [cn_step hlt, tok]; split <;> exact ⟨_, _, rfl⟩
      obtain ⟨_, h1, h2 | h2⟩ := cn_cases hx
      · obtain ⟨e, h3, h4⟩ := h2
        have hi := ih (s.length - (t + 1)) (by omega) (t + 1) rfl
        rw [← h3] at hi
        have e1 : spl (x :: rest) = x :: spl rest := by
          match rest, h4 with
          | [], _ => rfl
          | [y], _ => rfl
          | y :: z :: r, h4 =>
            rw [spl, if_neg (fun hh => h4 (by rw [hh]; rfl))]
        rw [hx, e1, hi, List.drop_eq_getElem_cons hlt]
        congr 1
        rw [← h1]; simp [List.getD_eq_getElem?_getD, List.getElem?_eq_getElem hlt]
      · obtain ⟨h3, h4, h5, h6, h7⟩ := h2
        have hi := ih (s.length - (t + rl s t)) (by omega) (t + rl s t) rfl
        rw [hx, h6, spl, if_pos rfl, hi, h7]
        congr 2
        omega
    · rw [cn_end hge, List.drop_eq_nil_of_le hge]; rfl
theorem spl_whole (s : List Int) : spl (cn s 0) = s := by rw [spl_cn s _ 0 rfl, List.drop_zero]
/-- What runs tell, where they are those of some bytes that are not too many. -/
def un (b : List Int) : Option (List Int) := if (spl b).length ≤ 10125 ∧ cn (spl b) 0 = b then some (spl b) else none
theorem un_some {b s : List Int} : un b = some s ↔ s.length ≤ 10125 ∧ cn s 0 = b := by
  unfold un
  constructor
  · intro h
    split at h
    · injection h with h; subst h; assumption
    · cases h
  · rintro ⟨h1, h2⟩
    have : spl b = s := by rw [← h2, spl_whole]
    rw [this, if_pos ⟨h1, h2⟩]
theorem un_none {b : List Int} (h : ∀ s, s.length ≤ 10125 → cn s 0 ≠ b) : un b = none := by
  cases e : un b with
  | none => rfl
  | some s => obtain ⟨h1, h2⟩ := un_some.1 e; exact absurd h2 (h s h1)
/-- So far zs is the front of each string that these are the runs of. -/
def Tr (b zs : List Int) (k : Nat) : Prop := ∀ s, cn s 0 = b → zs = s.take zs.length ∧ zs.length ≤ s.length ∧ cn s zs.length = b.drop k
theorem Tr.start (b : List Int) : Tr b [] 0 := fun s h => ⟨rfl, Nat.zero_le _, by simpa using h⟩
theorem snoc_take {s zs : List Int} {x : Int} (h1 : zs = s.take zs.length) (h2 : zs.length < s.length) (h3 : s.getD zs.length 0 = x) : zs ++ [x] = s.take (zs ++ [x]).length := by
  rw [List.length_append, List.length_singleton, List.take_succ_eq_append_getElem h2, ← h1]
  congr 2
  rw [← h3]; simp [List.getD_eq_getElem?_getD, List.getElem?_eq_getElem h2]
theorem run_take {s zs : List Int} {x : Int} {r : Nat} (h1 : zs = s.take zs.length) (h2 : zs.length + r ≤ s.length) (h3 : s.drop zs.length = List.replicate r x ++ s.drop (zs.length + r)) : zs ++ List.replicate r x = s.take (zs ++ List.replicate r x).length := by
  rw [List.length_append, List.length_replicate, List.take_add, ← h1, h3, List.take_append_of_le_length (by simp), List.take_of_length_le (by simp)]
theorem drop_cons {b : List Int} {k : Nat} (h : k < b.length) : b.drop k = b.getD k 0 :: b.drop (k + 1) := by
  rw [List.drop_eq_getElem_cons h]
  congr 1
  simp [List.getD_eq_getElem?_getD, List.getElem?_eq_getElem h]
theorem Tr.one {b zs : List Int} {k : Nat} (h : Tr b zs k) (hk : k < b.length) (hn : ¬ (k + 1 < b.length ∧ b.getD (k + 1) 0 = b.getD k 0)) : Tr b (zs ++ [b.getD k 0]) (k + 1) := by
  intro s hs
  obtain ⟨h1, h2, h3⟩ := h s hs
  rw [drop_cons hk] at h3
  obtain ⟨h4, h5, h6 | h6⟩ := cn_cases h3
  · obtain ⟨e, h7, h8⟩ := h6
    refine ⟨snoc_take h1 h4 h5, by simp; omega, ?_⟩
    rw [List.length_append, List.length_singleton, h7]
  · obtain ⟨e1, e2, e3, e4, e5⟩ := h6
    exfalso
    have hk1 : k + 1 < b.length := by
      rcases Nat.lt_or_ge (k + 1) b.length with c | c
      · exact c
      · rw [List.drop_eq_nil_of_le c] at e4; cases e4
    rw [drop_cons hk1] at e4
    injection e4 with e4 _
    exact hn ⟨hk1, e4⟩
theorem Tr.two {b zs : List Int} {k : Nat} (h : Tr b zs k) (hk : k + 2 < b.length) (he : b.getD (k + 1) 0 = b.getD k 0) {n : Nat} (hn : b.getD (k + 2) 0 = n) : Tr b (zs ++ List.replicate (n + 2) (b.getD k 0)) (k + 3) := by
  intro s hs
  obtain ⟨h1, h2, h3⟩ := h s hs
  rw [drop_cons (show k < b.length by omega), drop_cons (show k + 1 < b.length by omega), drop_cons hk] at h3
  obtain ⟨h4, h5, h6 | h6⟩ := cn_cases h3
  · obtain ⟨e, h7, h8⟩ := h6
    exact absurd (by rw [he]; rfl) h8
  · obtain ⟨e1, e2, e3, e4, e5⟩ := h6
    injection e4 with _ e4
    injection e4 with e6 e7
    have er : rl s zs.length = n + 2 := by omega
    rw [er] at e3 e5 e7
    refine ⟨run_take h1 e3 e5, by simp; omega, ?_⟩
    rw [List.length_append, List.length_replicate, ← e7]
theorem Tr.none {b zs : List Int} {k : Nat} (h : Tr b zs k) (hk : k + 2 = b.length) (he : b.getD (k + 1) 0 = b.getD k 0) : ∀ s, cn s 0 ≠ b := by
  intro s hs
  obtain ⟨h1, h2, h3⟩ := h s hs
  rw [drop_cons (show k < b.length by omega), drop_cons (show k + 1 < b.length by omega), List.drop_eq_nil_of_le (by omega)] at h3
  obtain ⟨h4, h5, h6 | h6⟩ := cn_cases h3
  · obtain ⟨e, h7, h8⟩ := h6
    exact absurd (by rw [he]; rfl) h8
  · obtain ⟨e1, e2, e3, e4, e5⟩ := h6
    injection e4 with _ e4
    cases e4
theorem Tr.of_none {b zs : List Int} {k : Nat} (h : ∀ s, cn s 0 ≠ b) : Tr b zs k := fun s hs => absurd hs (h s)
theorem Tr.long {b zs : List Int} {k : Nat} (h : Tr b zs k) (hl : 10125 < zs.length) : un b = Option.none := un_none fun s h1 h2 => by
  have := (h s h2).2.1
  omega
theorem Tr.done {b zs : List Int} {k : Nat} (h : Tr b zs k) (hk : b.length ≤ k) (hl : zs.length ≤ 10125) : un b = if cn zs 0 = b then some zs else Option.none := by
  by_cases c : cn zs 0 = b
  · rw [if_pos c]; exact un_some.2 ⟨hl, c⟩
  · rw [if_neg c]
    refine un_none fun s _ hs => c ?_
    obtain ⟨h1, h2, h3⟩ := h s hs
    rw [List.drop_eq_nil_of_le hk] at h3
    have : s.length ≤ zs.length := by
      rcases Nat.lt_or_ge zs.length s.length with c | c
      · rw [cn_step c, tok] at h3
        split at h3 <;> cases h3
      · exact c
    have e : zs = s := by rw [h1, List.take_of_length_le this]
    rw [e]; exact hs
theorem un_bd {b s : List Int} (h : un b = some s) (hb : ∀ z ∈ b, 0 ≤ z ∧ z ≤ 255) : ∀ z ∈ s, 0 ≤ z ∧ z ≤ 255 := by
  obtain ⟨-, h2⟩ := un_some.1 h
  have key : ∀ d t, s.length - t = d → (∀ z ∈ cn s t, 0 ≤ z ∧ z ≤ 255) → ∀ z ∈ s.drop t, 0 ≤ z ∧ z ≤ 255 := by
    intro d
    induction d using Nat.strongRecOn with
    | _ d ih =>
      intro t hd hc z hz
      rcases Nat.lt_or_ge t s.length with hlt | hge
      · obtain ⟨x, rest, hx⟩ : ∃ x rest, cn s t = x :: rest := by
          rw [cn_step hlt, tok]; split <;> exact ⟨_, _, rfl⟩
        rw [hx] at hc
        obtain ⟨_, h1, h2 | h2⟩ := cn_cases hx
        · obtain ⟨e, h3, h4⟩ := h2
          rw [drop_cons hlt, h1] at hz
          rcases List.mem_cons.1 hz with rfl | hz
          · exact hc _ (by simp)
          · exact ih (s.length - (t + 1)) (by omega) (t + 1) rfl (fun z hz => hc z (by rw [h3]; simp [hz])) z hz
        · obtain ⟨h3, h4, h5, h6, h7⟩ := h2
          rw [h7] at hz
          rcases List.mem_append.1 hz with hz | hz
          · rw [(List.mem_replicate.1 hz).2]; exact hc _ (by simp)
          · exact ih (s.length - (t + rl s t)) (by omega) (t + rl s t) rfl (fun z hz => hc z (by rw [h6]; simp [hz])) z hz
      · rw [List.drop_eq_nil_of_le hge] at hz; simp at hz
  have := key _ 0 rfl (by rw [h2]; exact hb)
  simpa using this
/-! ### One filter; chains -/
def okF (f : Int × Int) : Bool := (f.1 == 1 && decide (1 ≤ f.2) && decide (f.2 ≤ 8)) || ((f.1 == 2 || f.1 == 3) && f.2 == 0)
def oneF (f : Int × Int) (b : List Int) : List Int := if f.1 = 1 then dl b f.2.toNat else if f.1 = 2 then fr tab b else cn b 0
def backF (f : Int × Int) (b : List Int) : Option (List Int) := if f.1 = 1 then some (sm b f.2.toNat) else if f.1 = 2 then some (nm tab b) else un b
def appF : List (Int × Int) → List Int → List Int
  | [], b => b
  | f :: r, b => appF r (oneF f b)
/-- From the last one on. -/
def undF : List (Int × Int) → List Int → Option (List Int)
  | [], b => some b
  | f :: r, b => (undF r b).bind (backF f)
theorem okF_cases {f : Int × Int} (h : okF f = true) : (f.1 = 1 ∧ 1 ≤ f.2 ∧ f.2 ≤ 8) ∨ (f.1 = 2 ∧ f.2 = 0) ∨ (f.1 = 3 ∧ f.2 = 0) := by
  unfold okF at h
  simp only [Bool.or_eq_true, Bool.and_eq_true, beq_iff_eq, decide_eq_true_eq] at h
  omega
abbrev Byt (b : List Int) : Prop := ∀ z ∈ b, 0 ≤ z ∧ z ≤ 255
theorem oneF_bd {f : Int × Int} {b : List Int} (hb : Byt b) : Byt (oneF f b) := by
  unfold oneF
  split
  · exact bld_bd (dF_bd _ _) _
  · split
    · exact fr_bd tab_full hb
    · exact cn_bd hb _ 0 rfl
theorem backF_bd {f : Int × Int} {b s : List Int} (hb : Byt b) (h : backF f b = some s) : Byt s := by
  unfold backF at h
  split at h
  · injection h with h; subst h; exact bld_bd (sF_bd _ _) _
  · split at h
    · injection h with h; subst h; exact nm_bd tab_full hb
    · exact un_bd h hb
theorem oneF_len {f : Int × Int} {b : List Int} : 2 * (oneF f b).length ≤ 3 * b.length := by
  unfold oneF
  split
  · rw [dl, bld_len]; omega
  · split
    · rw [fr_len]; omega
    · have := cn_len b _ 0 rfl; omega
theorem backF_len {f : Int × Int} {b s : List Int} (hl : b.length ≤ 10125) (h : backF f b = some s) : s.length ≤ 10125 := by
  unfold backF at h
  split at h
  · injection h with h; subst h; rw [sm, bld_len]; exact hl
  · split at h
    · injection h with h; subst h; rw [nm_len]; exact hl
    · exact (un_some.1 h).1
theorem back_one {f : Int × Int} {b : List Int} (hf : okF f = true) (hb : Byt b) (hl : b.length ≤ 10125) : backF f (oneF f b) = some b := by
  unfold backF oneF
  rcases okF_cases hf with h | h | h
  · rw [if_pos h.1, if_pos h.1, sm_dl hb (by omega)]
  · have e1 : ¬ f.1 = 1 := by omega
    simp only [if_neg e1, if_pos h.1]
    rw [nm_fr tab_full hb]
  · have e1 : ¬ f.1 = 1 := by omega
    have e2 : ¬ f.1 = 2 := by omega
    simp only [if_neg e1, if_neg e2]
    exact un_some.2 ⟨hl, rfl⟩
theorem one_back {f : Int × Int} {b s : List Int} (hf : okF f = true) (hb : Byt b) (h : backF f b = some s) : oneF f s = b := by
  unfold backF at h
  unfold oneF
  rcases okF_cases hf with c | c | c
  · rw [if_pos c.1] at h ⊢
    injection h with h; subst h; exact dl_sm hb (by omega)
  · rw [if_neg (by omega), if_pos c.1] at h ⊢
    injection h with h; subst h; exact fr_nm tab_full hb
  · rw [if_neg (by omega), if_neg (by omega)] at h ⊢
    exact (un_some.1 h).2
def okC (l : List (Int × Int)) : Bool := l.all okF
theorem appF_bd : ∀ {l : List (Int × Int)} {b : List Int}, Byt b → Byt (appF l b)
  | [], b, h => h
  | f :: r, b, h => appF_bd (l := r) (oneF_bd h)
theorem appF_append : ∀ (l m : List (Int × Int)) (b : List Int), appF (l ++ m) b = appF m (appF l b)
  | [], m, b => rfl
  | f :: r, m, b => appF_append r m (oneF f b)
theorem undF_append : ∀ (l m : List (Int × Int)) (b : List Int), undF (l ++ m) b = (undF m b).bind (undF l)
  | [], m, b => by cases h : undF m b <;> simp [undF, h]
  | f :: r, m, b => by
    rw [List.cons_append, undF, undF_append r m b]
    cases h : undF m b <;> simp [undF]
theorem undF_bd : ∀ {l : List (Int × Int)} {b s : List Int}, Byt b → undF l b = some s → Byt s
  | [], b, s, h, e => by injection e with e; subst e; exact h
  | f :: r, b, s, h, e => by
    rw [undF] at e
    obtain ⟨t, h1, h2⟩ := Option.bind_eq_some_iff.1 e
    exact backF_bd (undF_bd h h1) h2
theorem undF_len : ∀ {l : List (Int × Int)} {b s : List Int}, b.length ≤ 10125 → undF l b = some s → s.length ≤ 10125
  | [], b, s, h, e => by injection e with e; subst e; exact h
  | f :: r, b, s, h, e => by
    rw [undF] at e
    obtain ⟨t, h1, h2⟩ := Option.bind_eq_some_iff.1 e
    exact backF_len (undF_len h h1) h2
/-- How many bytes a chain makes at most. -/
theorem appF_len : ∀ {l : List (Int × Int)} {b : List Int}, 2 ^ l.length * (appF l b).length ≤ 3 ^ l.length * b.length
  | [], b => by simp [appF]
  | f :: r, b => by
    have h1 := appF_len (l := r) (b := oneF f b)
    have h2 := oneF_len (f := f) (b := b)
    rw [appF, List.length_cons, Nat.pow_succ, Nat.pow_succ]
    calc 2 ^ r.length * 2 * (appF r (oneF f b)).length = 2 * (2 ^ r.length * (appF r (oneF f b)).length) := by rw [Nat.mul_comm (2 ^ r.length) 2, Nat.mul_assoc]
      _ ≤ 2 * (3 ^ r.length * (oneF f b).length) := Nat.mul_le_mul_left _ h1
      _ = 3 ^ r.length * (2 * (oneF f b).length) := by rw [← Nat.mul_assoc, Nat.mul_comm 2, Nat.mul_assoc]
      _ ≤ 3 ^ r.length * (3 * b.length) := Nat.mul_le_mul_left _ h2
      _ = 3 ^ r.length * 3 * b.length := by rw [Nat.mul_assoc]
theorem appF_short {l : List (Int × Int)} {b : List Int} (h4 : l.length ≤ 4) (hb : b.length ≤ 2000) : (appF l b).length ≤ 10125 := by
  have h := appF_len (l := l) (b := b)
  have hc : l.length = 0 ∨ l.length = 1 ∨ l.length = 2 ∨ l.length = 3 ∨ l.length = 4 := by omega
  rcases hc with e | e | e | e | e <;> rw [e] at h <;> simp at h <;> omega
theorem und_app : ∀ {l : List (Int × Int)} {b : List Int}, okC l = true → Byt b → l.length ≤ 4 → b.length ≤ 2000 → undF l (appF l b) = some b := by
  have key : ∀ (n : Nat) (l : List (Int × Int)) (b : List Int), l.length = n → okC l = true → Byt b → (∀ k, k ≤ l.length → (appF (l.take k) b).length ≤ 10125) → undF l (appF l b) = some b := by
    intro n
    induction n with
    | zero => intro l b hl _ _ _; rw [List.eq_nil_of_length_eq_zero hl]; rfl
    | succ n ih =>
      intro l b hl hok hb hlen
      match l, hl with
      | f :: r, hl =>
        have ho : okF f = true ∧ okC r = true := by simpa [okC] using hok
        have h1 := ih r (oneF f b) (by simpa using hl) ho.2 (oneF_bd hb) (fun k hk => by
          have := hlen (k + 1) (by simp; omega)
          rwa [List.take_succ_cons, appF] at this)
        rw [appF, undF, h1]
        have := hlen 0 (Nat.zero_le _)
        exact back_one ho.1 hb this
  intro l b h1 h2 h3 h4
  exact key _ l b rfl h1 h2 (fun k hk => appF_short (by rw [List.length_take]; omega) h4)
theorem app_und : ∀ {l : List (Int × Int)} {b s : List Int}, okC l = true → Byt b → undF l b = some s → appF l s = b
  | [], b, s, _, _, e => by injection e with e; subst e; rfl
  | f :: r, b, s, hok, hb, e => by
    have ho : okF f = true ∧ okC r = true := by simpa [okC] using hok
    rw [undF] at e
    obtain ⟨t, h1, h2⟩ := Option.bind_eq_some_iff.1 e
    rw [appF, one_back ho.1 (undF_bd hb h1) h2]
    exact app_und ho.2 hb h1
attribute [irreducible] tab
end Go.Proofs.Ytbfodmckgjeoaaa.fiP
