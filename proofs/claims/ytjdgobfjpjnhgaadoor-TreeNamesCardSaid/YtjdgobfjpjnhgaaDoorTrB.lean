/- What fits; what the laws say of plain lists. -/
import Derived.Test.YtjdgobfjpjnhgaaDoorTrA
import Derived.Test.YtjdgobfjpjnhgaaDoorRowsV2
import Derived.Test.YtjdgobfjpjnhgaaDoorStr
namespace Go.Proofs.YtjdgobfjpjnhgaaDoor.trW
set_option maxRecDepth 100000
open Go.RowKit Go.Proofs.YtjdgobfjpjnhgaaDoor.base Go.Proofs.YtjdgobfjpjnhgaaDoor.shP Go.Proofs.YtjdgobfjpjnhgaaDoor.shW Go.Proofs.YtjdgobfjpjnhgaaDoor.trP
set_option linter.unusedVariables false
set_option linter.unusedSimpArgs false
set_option maxRecDepth 100000
def FT (rs : List R8) (m : Nat) (e : Ending) : Prop := ∃ b : Bool, e = .returned (.bool b) ∧ (b = true → m ≤ 20 ∧ ∀ k, k < m → (rs.getD k r80).n ≤ 600)
set_option maxHeartbeats 1600000 in
theorem fit_any (P : Option Addr) (m d : Nat) (rs : List R8) (w : World) (hr : RowsB w P m d rs) : Calls Tryd.prog 24 #[.slice P m d] w fun e w' => FT rs m e ∧ w' = w := by
  have m9 : (m : Int) ≤ 9223372036854775807 := by have := hr.c1; have := hr.c2; omega
  have HR := Lib.hid hr
  clear hr
  by_cases c : m ≤ 20
  · have c1 : (m : Int) ≤ 20 := by omega
    have HC := Lib.hid c
    clear c
    go_enter Tryd.func24, Tryd.ntmps24
    go_wp2_with fail
    refine (Great_any P m d rs w HR.out).mono ?_
    rintro e _ ⟨⟨b, rfl, hb⟩, rfl⟩
    have HB := Lib.hid hb
    clear hb
    cases b
    · go_wp2_with fail
      go_ret
      exact ⟨⟨_, rfl, fun _ => ⟨HC.out, fun k hk => (HB.out (by trivial)).2.2 k hk (by have := HC.out; omega)⟩⟩, rfl⟩
    · go_wp2_with fail
      go_ret
      exact ⟨⟨_, rfl, fun h => by simp at h⟩, rfl⟩
  · have c1 : ¬ (m : Int) ≤ 20 := by omega
    clear c
    go_enter Tryd.func24, Tryd.ntmps24
    go_wp2_with fail
    go_ret
    exact ⟨⟨_, rfl, fun h => by simp at h⟩, rfl⟩
theorem inr_of {w : World} {a : Option Addr} {len cap : Nat} {z : List Int} (h : IsRow .u8 w a len cap z) : InR w ⟨a, len, cap, z.take len⟩ := by
  obtain ⟨q1, q2, q3, q4⟩ := has_of_row h
  have q5 := h
  refine ⟨q1, q2, ?_, ?_, fun z hz => bounds_u8 (q4 z hz)⟩
  · show len ≤ cap
    rcases h with ⟨_, rfl, rfl, _⟩ | ⟨x, _, h, _⟩
    · exact Nat.le_refl _
    · exact h
  · show cap ≤ 9223372036854775807
    rcases h with ⟨_, rfl, rfl, _⟩ | ⟨x, _, _, h, _⟩
    · omega
    · unfold maxLen at h; omega
theorem fit_ch {w : World} {P : Option Addr} {m d : Nat} {rs : List R8} (hr : RowsB w P m d rs) (h : m ≤ 20 ∧ ∀ k, k < m → (rs.getD k r80).n ≤ 600) : chB rs = true := by
  refine ch_yes (by rw [hr.l]; omega) (fun k hk => ?_)
  have h1 := h.2 k (by rw [← hr.l]; exact hk)
  have h2 := (hr.h.get k hk).e
  omega
theorem lvs_set (rs : List R8) (k : Nat) (r : R8) : lvs (rs.set k r) = (lvs rs).set k (leafD r.b) := by unfold lvs; rw [List.map_set]
theorem ch_set {rs : List R8} (h : chB rs = true) (k : Nat) {r : R8} (hr : r.b.length ≤ 10000) : chB (rs.set k r) = true := by
  have h1 := ch_le h
  refine ch_of (by rw [List.length_set]; exact h1) (fun x hx => ?_)
  rcases List.mem_or_eq_of_mem_set hx with h2 | rfl
  · obtain ⟨i, hi, rfl⟩ := List.mem_iff_getElem.1 h2
    have := ch_each h hi
    rw [List.getD_eq_getElem?_getD, List.getElem?_eq_getElem hi] at this
    exact this
  · exact hr
theorem okN_of {m i : Nat} (h1 : i < m) (h2 : m ≤ 600) : okN (m : Int) (i : Int) = true := okN_yes (by omega) (by omega) (by omega) (by omega)
/-- How long a way is. -/
theorem way_len {ls : List (List Int)} {m i q : Nat} (hl : ls.length = m) (h1 : i < m) (h2 : m ≤ 600) (hq : (prD ls i).length = q) : (sdL (m : Int) (i : Int)).length = q ∧ sdE (m : Int) (i : Int) = 0 := by
  have h := sd_yes (okN_of h1 h2)
  exact ⟨by rw [h.1, ← hq, prD_len, hl]; rfl, h.2⟩
/-- Going up from a leaf by a proof gives the root of the list with that leaf. -/
theorem up_prD {ls : List (List Int)} {m i : Nat} (hl : ls.length = m) (h1 : i < m) (h2 : m ≤ 600) (d : List Int) : goE (m : Int) (i : Int) (prD ls i) = 0 ∧ goV (m : Int) (i : Int) d (prD ls i) = rtD (ls.set i d) := by
  have h := sd_yes (okN_of h1 h2)
  have hw := (way_len hl h1 h2 rfl).1
  have hy := go_yes (d := d) (ls := prD ls i) (okN_of h1 h2) hw.symm
  refine ⟨hy.1, ?_⟩
  rw [hy.2, h.1]
  exact up_root nodeD zd m ls i d hl h1
theorem prD_set {ls : List (List Int)} {m i : Nat} (hl : ls.length = m) (h1 : i < m) (d : List Int) : prD (ls.set i d) i = prD ls i := proof_set nodeD zd m ls i d hl h1
theorem set_self {rs : List R8} {i : Nat} (h : i < rs.length) : (lvs rs).set i (leafD (rs.getD i r80).b) = lvs rs := by
  rw [← lvs_get rs h, List.getD_eq_getElem?_getD, List.getElem?_eq_getElem (by rw [lvs_len]; exact h)]
  exact List.set_getElem_self _
theorem OwnD.keptRow {w w' : World} {B B2 : Nat} {v v2 : Value} {ls l2 : List (List Int)} (h : OwnD w B v ls) (h2 : OwnD w B2 v2 l2) (hg : w.grownBy w' v2.ownBlock) (hlt : ∀ k, v.ownBlock = some k → k < B2) : OwnD w' B v ls := by
  refine ⟨h.o.kept hg ?_, h.d⟩
  cases e : v.ownBlock with
  | none => exact .inl rfl
  | some k =>
    right
    intro e2
    have h3 := (h2.o.lt k e2.symm).1
    have h4 := hlt k e
    omega
theorem wp_neqs {ops : Array Oper} {rest : List Oper} {o : Oper} {a : Act} {w : World} {Q : Exit → Act → World → Prop} {l : List Int} (hw : Region.wanted o (yielded ops a.tmps) = true) (x y : Operand) (t : TypeId) (ho : o.op = .binOp .neq 26 x y t) (hl : IsD l)
    (hx : a.eval x = .agg (darr l)) (hy : a.eval y = .agg (darr l)) (H : wpList Tryd.prog ops Q rest (a.put o.dst (.bool false)) w) : wpList Tryd.prog ops Q (o :: rest) a w := by
  refine wpList_step fun K hK => ?_
  rw [if_pos hw]
  unfold Oper.wp execOp
  simp only [ho, hx, hy, Sem.run_bind, Sem.run_pure, Result.andThen_ok, run_neq_struct, run_eqGuard_agg _ _ _ _ _ _ _ (show Tryd.prog.eqGuardType Tryd.prog.depth 26 = false by kernel_rfl), eq_sum hl hl, decide_eq_true rfl]
  exact hK _ _ H
theorem ver_yes {rs : List R8} {m i : Nat} (hl : rs.length = m) (h : chB rs = true) (h1 : i < m) : vE (m : Int) (i : Int) (rs.getD i r80).b (prD (lvs rs) i) = 0 ∧ vB (rtD (lvs rs)) (m : Int) (i : Int) (rs.getD i r80).b (prD (lvs rs) i) = true := by
  have hm := ch_le h
  have hb := ch_each h (k := i) (by omega)
  have hu := up_prD (ls := lvs rs) (by rw [lvs_len, hl]) h1 (by omega) (leafD (rs.getD i r80).b)
  rw [set_self (by omega)] at hu
  have hv := v_ok (r := rtD (lvs rs)) (n := (m : Int)) (i := (i : Int)) (ls := prD (lvs rs) i) hb hu.1
  exact ⟨hv.1, by rw [hv.2, hu.2, decide_eq_true rfl]⟩
end Go.Proofs.YtjdgobfjpjnhgaaDoor.trW
