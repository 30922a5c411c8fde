/- New and Put of rings, all ways at once: the program's and the reference's. -/
import Derived.Test.YtpggdijhfdddpaaDoorRgW19
namespace Go.Proofs.YtpggdijhfdddpaaDoor.rgL
open Go.RowKit Go.Proofs.YtpggdijhfdddpaaDoor.base Go.Proofs.YtpggdijhfdddpaaDoor.rgP Go.Proofs.YtpggdijhfdddpaaDoor.rgW
set_option linter.unusedVariables false
set_option linter.unusedSimpArgs false

theorem put1_b {r : Rg} {c : Int} (h : ∀ z ∈ r.b, 0 ≤ z ∧ z ≤ 255) (hc : 0 ≤ c ∧ c ≤ 255) : ∀ z ∈ (put1 r c).b, 0 ≤ z ∧ z ≤ 255 := by
  intro z hz
  rcases List.mem_or_eq_of_mem_set hz with h1 | h1
  · exact h z h1
  · rw [h1]; exact hc
theorem putR_b : ∀ (l : List Int) {r : Rg}, (∀ z ∈ r.b, 0 ≤ z ∧ z ≤ 255) → (∀ z ∈ l, 0 ≤ z ∧ z ≤ 255) → ∀ z ∈ (putR r l).b, 0 ≤ z ∧ z ≤ 255
  | [], _, h, _ => h
  | c :: l, r, h, hl => putR_b l (put1_b h (hl c (by simp))) (fun z hz => hl z (by simp [hz]))
theorem own_cap {w : World} {B g : Nat} {e : TypeId} {k : IntKind} {n c : Nat} {zs : List Int} (h : OwnI w B e k (.slice (some ⟨g, 0, none⟩) n c) zs) : n = zs.length ∧ n ≤ c ∧ c ≤ 9223372036854775807 := by
  obtain ⟨hl, h2⟩ := h
  rcases h2 with ⟨h', _⟩ | ⟨g', cap, cur, hv, hB, hg, hnc, hcm, hcs, ht⟩
  · cases h'
  · injection hv with v1 v2 v3
    subst v2 v3
    exact ⟨rfl, hnc, by simpa [maxLen] using hcm⟩
theorem zero_in (w : World) : RgIn w none 0 0 zeroR := ⟨by decide, by decide, by decide, by decide, .inl rfl, rfl, Nat.le_refl _, by decide, by intro z h; cases h⟩
theorem zero_z (w : World) (B : Nat) : OwnZ w B (.slice none 0 0) zeroR.b := .inr ⟨rfl, none, rfl⟩
theorem new_in {l : Int} (h : lvB l = true) {w : World} {B g : Nat} (o : OwnI w B 5 .u8 (.slice (some ⟨g, 0, none⟩) (szOf l) (szOf l)) (List.replicate (szOf l) 0)) : RgIn w (some ⟨g, 0, none⟩) (szOf l) (szOf l) (newR l) := by
  have hl := (lvB_iff l).1 h
  have hb := sz_bd h
  have e : newR l = ⟨l, List.replicate (szOf l) 0, 0⟩ := by unfold newR; rw [if_pos h]
  rw [e]
  exact ⟨by show -9223372036854775808 ≤ l; omega, by show l ≤ 9223372036854775807; omega, by show -9223372036854775808 ≤ (0 : Int); omega, by show (0 : Int) ≤ 9223372036854775807; omega, o.has, by simp, Nat.le_refl _, by omega, by intro z hz; have := List.eq_of_mem_replicate hz; omega⟩
theorem New_any (l : Int) (w : World) :
    Calls Tryd.prog 36 #[.int .i64 l] w fun e w' => ∃ A n c, e = .returned (.tuple #[.agg #[.int .i64 (newR l).l, .slice A n c, .int .i64 (newR l).n], .int .i64 (newE l)]) ∧ RgIn w' A n c (newR l) ∧ OwnZ w' w.heap.size (.slice A n c) (newR l).b ∧ Below w.heap.size w w' := by
  cases h : lvB l
  · refine (New_bad l w h).mono ?_
    rintro e w1 ⟨rfl, hb⟩
    have e1 : newR l = zeroR := by unfold newR; rw [h]; rfl
    have e2 : newE l = 2 := by unfold newE; rw [h]; rfl
    rw [e1, e2]
    exact ⟨none, 0, 0, rfl, zero_in _, zero_z _ _, hb⟩
  · refine (New_ok l w h).mono ?_
    rintro e w1 ⟨g, rfl, ho, hb⟩
    have hi := new_in h ho
    have e1 : newR l = ⟨l, List.replicate (szOf l) 0, 0⟩ := by unfold newR; rw [if_pos h]
    have e2 : newE l = 0 := by unfold newE; rw [h]; rfl
    refine ⟨_, _, _, ?_, hi, ?_, hb⟩
    · rw [e1, e2]
    · rw [e1]; exact .inl ho
theorem put_in {r : Rg} {A : Option Addr} {n c m : Nat} {l : List Int} {w w1 : World} {B g d : Nat} (h : RgIn w A n c r) (hm : l.length = m) (hb : ∀ z ∈ l, 0 ≤ z ∧ z ≤ 255) (hk : putE r l = 0) (o : OwnI w1 B 5 .u8 (.slice (some ⟨g, 0, none⟩) n d) (putR r l).b) : RgIn w1 (some ⟨g, 0, none⟩) n d (putR r l) := by
  obtain ⟨h1, h3, h4⟩ := put_parts hm hk
  obtain ⟨a1, a2, a3, a4⟩ := ok_parts h h1
  obtain ⟨c1, c2, c3⟩ := own_cap o
  have e1 := putR_l l r
  have e2 := putR_n l r
  refine ⟨by rw [e1]; exact h.l1, by rw [e1]; exact h.l2, by rw [e2]; omega, by rw [e2]; omega, o.has, c1.symm, c2, c3, putR_b l h.b hb⟩
theorem Put_any (r : Rg) (A B : Option Addr) (n c m d : Nat) (l : List Int) (w : World) (h : RgIn w A n c r) (hl : Has .u8 w B l) (hm : l.length = m) (m2 : m ≤ 9223372036854775807) (hb : ∀ z ∈ l, 0 ≤ z ∧ z ≤ 255) :
    Calls Tryd.prog 37 #[.agg #[.int .i64 (r).l, .slice A n c, .int .i64 (r).n], .slice B m d] w fun e w' => ∃ A' n' c', e = .returned (.tuple #[.agg #[.int .i64 (putV r l).l, .slice A' n' c', .int .i64 (putV r l).n], .int .i64 (putE r l)]) ∧ RgIn w' A' n' c' (putV r l) ∧ OwnZ w' w.heap.size (.slice A' n' c') (putV r l).b ∧ Below w.heap.size w w' := by
  by_cases hk : putE r l = 0
  · refine (Put_ok r A B n c m d l w h hl hm hk).mono ?_
    rintro e w1 ⟨g, d, rfl, ho, hb1⟩
    have e1 : putV r l = putR r l := by unfold putV; rw [if_pos hk]
    rw [e1, hk]
    refine ⟨_, _, _, ?_, put_in h hm hb hk ho, .inl ho, hb1⟩
    rw [putR_l]
  · refine (Put_bad r A B n c m d l w h hm m2 hk).mono ?_
    rintro e w1 ⟨rfl, hb1⟩
    have e1 : putV r l = zeroR := by unfold putV; rw [if_neg hk]
    rw [e1]
    exact ⟨none, 0, 0, rfl, zero_in _, zero_z _ _, hb1⟩
end Go.Proofs.YtpggdijhfdddpaaDoor.rgL
