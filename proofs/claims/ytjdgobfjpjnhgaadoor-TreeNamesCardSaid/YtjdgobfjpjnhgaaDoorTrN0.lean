/- TreeNames: its values. -/
import Derived.Test.YtjdgobfjpjnhgaaDoorTrB
import Derived.Test.YtjdgobfjpjnhgaaDoorMakeS
namespace Go.Proofs.YtjdgobfjpjnhgaaDoor.trW
set_option maxRecDepth 100000
open Go.RowKit Go.Proofs.YtjdgobfjpjnhgaaDoor.base Go.Proofs.YtjdgobfjpjnhgaaDoor.shP Go.Proofs.YtjdgobfjpjnhgaaDoor.shW Go.Proofs.YtjdgobfjpjnhgaaDoor.trP
set_option linter.unusedVariables false
set_option linter.unusedSimpArgs false
set_option maxRecDepth 100000
def sf : Nat → Nat → Nat → Nat
  | 0, _, _ => 0
  | k + 1, n, i => if 2 ≤ n then 1 + (if i < half n then sf k (half n) i else sf k (n - half n) (i - half n)) else 0
theorem sf_eq : ∀ (k n i : Nat), n ≤ 2 ^ k → (sidesT n i).length = sf k n i
  | 0, n, i, h => by rw [sides_one (by simp at h; omega)]; rfl
  | k + 1, n, i, h => by
    rw [sf]
    by_cases h2 : 2 ≤ n
    · rw [if_pos h2, sides_step h2]
      have h1 := half_lt h2
      have h3 := half_two h2
      have h4 : half n ≤ 2 ^ k := by
        unfold half at h1 ⊢
        have h5 : 2 ^ Nat.log2 (n - 1) < 2 ^ (k + 1) := Nat.lt_of_lt_of_le h1 h
        have h6 := (Nat.pow_lt_pow_iff_right (by omega : 1 < 2)).1 h5
        exact Nat.pow_le_pow_right (by omega) (by omega)
      split
      · rw [sf_eq k (half n) i h4]
      · rw [sf_eq k (n - half n) (i - half n) (by omega)]
    · rw [if_neg h2, sides_one h2]; rfl
theorem st_of {n i : Nat} {v : Nat} (h1 : okN (n : Int) (i : Int) = true) (h2 : n ≤ 1024) (h : sf 10 n i = v) : (sdL (n : Int) (i : Int)).length = v ∧ sdE (n : Int) (i : Int) = 0 := by
  have := sd_yes h1
  refine ⟨?_, this.2⟩
  rw [this.1, ← h]
  exact sf_eq 10 n i h2
theorem ways8 (n : Nat) (h1 : 1 ≤ n) (h2 : n ≤ 8) : (sdL (n : Int) 0).length = ([0, 1, 2, 2, 3, 3, 3, 3] : List Nat).getD (n - 1) 0 ∧ sdE (n : Int) 0 = 0 := by
  have H : ∀ m : Fin 9, 1 ≤ m.val → sf 10 m.val 0 = ([0, 1, 2, 2, 3, 3, 3, 3] : List Nat).getD (m.val - 1) 0 := by decide +kernel
  exact st_of (i := 0) (okN_yes (by omega) (by omega) (by omega) (by omega)) (by omega) (H ⟨n, by omega⟩ h1)
theorem stA : (sdL 600 599).length = 6 ∧ sdE 600 599 = 0 := st_of (n := 600) (i := 599) (by decide) (by decide) (by decide +kernel)
theorem stB : (sdL 600 0).length = 10 ∧ sdE 600 0 = 0 := st_of (n := 600) (i := 0) (by decide) (by decide) (by decide +kernel)
theorem stC : (sdL 5 4).length = 1 ∧ sdE 5 4 = 0 := st_of (n := 5) (i := 4) (by decide) (by decide) (by decide +kernel)
theorem st1 : (sdL 1 0).length = 0 ∧ sdE 1 0 = 0 := st_of (n := 1) (i := 0) (by decide) (by decide) (by decide +kernel)
theorem st2 : (sdL 2 0).length = 1 ∧ sdE 2 0 = 0 := st_of (n := 2) (i := 0) (by decide) (by decide) (by decide +kernel)
theorem stn {n i : Int} (h : okN n i = false) : (sdL n i).length = 0 ∧ sdE n i = 2 := by
  have := sd_no h
  exact ⟨by rw [this.1]; rfl, this.2⟩
def z5 : List Int := List.replicate 10001 0
theorem z5_len : z5.length = 10001 := List.length_replicate
theorem z5_bd : ∀ z ∈ z5, 0 ≤ z ∧ z ≤ 255 := fun z hz => by have := List.eq_of_mem_replicate hz; omega
attribute [irreducible] z5
theorem lf5 : lfE z5 = 4 ∧ lfV z5 = zd := lf_no (by rw [z5_len]; decide)
def rep (n : Nat) : List R8 := List.replicate n r80
theorem rep_len (n : Nat) : (rep n).length = n := List.length_replicate
theorem rep_ch (n : Nat) (h : n ≤ 600) : chB (rep n) = true := ch_of (by rw [rep_len]; exact h) (fun r hr => by rw [(List.mem_replicate.1 hr).2]; simp [r80])
theorem rep_one : rep 1 = [r80] := rfl
attribute [irreducible] rep
theorem r601 : rtV (rep 601) = zd ∧ chE (rep 601) = 4 := by
  have h : chB (rep 601) = false := ch_long (by rw [rep_len]; decide)
  exact ⟨rtV_no h, chE_no h⟩
theorem two_bad {r : R8} (h : r.b = z5) : rtV [r80, r] = zd ∧ chE [r80, r] = 4 := by
  have h : chB [r80, r] = false := ch_bad (k := 1) (by simp) (by show ¬ r.b.length ≤ 10000; rw [h, z5_len]; decide)
  exact ⟨rtV_no h, chE_no h⟩
theorem p601 : prE (rep 601) (-1) = 4 ∧ prL (rep 601) (-1) = [] := pr_bad (ch_long (by rw [rep_len]; decide))
theorem p0 : prE [] 0 = 2 ∧ prL [] 0 = [] := pr_out (ch_of (by simp) (by simp)) (by simp)
theorem p2 : prE (rep 2) 2 = 2 ∧ prL (rep 2) 2 = [] := pr_out (rep_ch 2 (by decide)) (by rw [rep_len]; decide)
theorem p1 : prE (rep 1) 0 = 0 ∧ prL (rep 1) 0 = [] := by
  have := pr_in (rs := rep 1) (i := 0) (rep_ch 1 (by decide)) (by rw [rep_len]; decide)
  exact ⟨this.1, by rw [this.2]; exact prD_one (by rw [lvs_len, rep_len]; decide) _⟩
def s7 : List Int := 7 :: List.replicate 19 0
theorem s7_isD : IsD s7 := ⟨rfl, fun z hz => by
  rcases List.mem_cons.1 hz with rfl | h
  · omega
  · have := List.eq_of_mem_replicate h; omega⟩
theorem u33 : goE 3 3 [] = 2 ∧ goV 3 3 zd [] = zd := go_no (by decide)
theorem u32 : goE 3 2 [] = 12 ∧ goV 3 2 zd [] = zd := go_bad (by decide) (by rw [st32.1]; decide)
theorem u1 : goE 1 0 [zd] = 12 ∧ goV 1 0 zd [zd] = zd := go_bad (by decide) (by rw [st1.1]; decide)
theorem u7 (d : List Int) : goE 1 0 [] = 0 ∧ goV 1 0 d [] = d := by
  have h := go_yes (n := 1) (i := 0) (ls := []) (d := d) (by decide) (by rw [st1.1]; rfl)
  refine ⟨h.1, ?_⟩
  rw [h.2, List.eq_nil_of_length_eq_zero st1.1]; rfl
theorem v5 : vE 0 0 z5 [] = 4 ∧ vB zd 0 0 z5 [] = false := v_no (by rw [z5_len]; decide)
theorem v0 : vE 0 0 [] [] = 2 ∧ vB zd 0 0 [] [] = false := by
  have e : goE 0 0 [] = 2 := (go_no (d := zd) (by decide)).1
  have := v_err (r := zd) (n := 0) (i := 0) (b := []) (ls := []) (by decide) (by rw [e]; decide)
  exact ⟨by rw [this.1, e], this.2⟩
theorem v2 : vE 2 0 [] [] = 12 ∧ vB zd 2 0 [] [] = false := by
  have e : goE 2 0 [] = 12 := (go_bad (d := zd) (by decide) (by rw [st2.1]; decide)).1
  have := v_err (r := zd) (n := 2) (i := 0) (b := []) (ls := []) (by decide) (by rw [e]; decide)
  exact ⟨by rw [this.1, e], this.2⟩
theorem v1 (r : List Int) : vE 1 0 [] [] = 0 ∧ vB r 1 0 [] [] = decide (leafD [] = r) := by
  have := v_ok (r := r) (n := 1) (i := 0) (b := []) (ls := []) (by decide) (u7 zd).1
  exact ⟨this.1, by rw [this.2, (u7 (leafD [])).2]⟩
theorem root_rep1 : rtV (rep 1) = leafD [] ∧ chE (rep 1) = 0 := by
  rw [rep_one]; exact root1 (by simp [r80])
end Go.Proofs.YtjdgobfjpjnhgaaDoor.trW
