/- Learning, by walks. -/
import Derived.Test.YtjikddndlnimoaaMxW6
namespace Go.Proofs.Ytjikddndlnimoaa.mxP
set_option maxRecDepth 100000
open Go.Proofs.Ytjikddndlnimoaa.base Go.Proofs.Ytjikddndlnimoaa.rfP Go.Proofs.Ytjikddndlnimoaa.sqP Go.Proofs.Ytjikddndlnimoaa.fixP
set_option linter.unusedVariables false
/-- The mixer after learning. -/
def learnM (l : List (List Int)) (k : Nat) (ins : List Int) (off : Int) : List (List Int) := l.set k (tauL (l.getD k []) ins off)
def learnME (l : List (List Int)) (set : Int) (ins : List Int) (p : Int) : Int := if mAskE l set ins = 0 then wrongE p else mAskE l set ins
def learnMV (l : List (List Int)) (set : Int) (ins : List Int) (p : Int) (bit : Bool) : List (List Int) := if learnME l set ins p = 0 then learnM l set.toNat ins (offP p bit) else []
theorem tauL_len {ws ins : List Int} {off : Int} (h : ws.length = 8) (h' : ins.length = 8) : (tauL ws ins off).length = 8 := by simp [tauL, h, h']
theorem tauL_at {ws ins : List Int} {off : Int} (h : ws.length = 8) (h' : ins.length = 8) (k : Nat) (hk : k < 8) : (tauL ws ins off).getD k 0 = tau (ws.getD k 0) (ins.getD k 0) off := by
  simp only [List.getD_eq_getElem?_getD]
  rw [List.getElem?_eq_getElem (by rw [tauL_len h h']; exact hk), List.getElem?_eq_getElem (by omega), List.getElem?_eq_getElem (by omega)]
  simp [tauL]
theorem tau_bd (w x off : Int) : -2147483648 ≤ tau w x off ∧ tau w x off ≤ 2147483647 := sat_bd _
/-- The first ones after, the others before. -/
def mxPart (T S : List Int) (k : Nat) : List Int := T.take k ++ S.drop k
theorem part_0 (T S : List Int) : mxPart T S 0 = S := rfl
theorem part_8 {T S : List Int} (h : T.length = 8) (h' : S.length = 8) : mxPart T S 8 = T := by
  unfold mxPart; rw [List.take_of_length_le (by omega), List.drop_of_length_le (by omega), List.append_nil]
theorem part_len {T S : List Int} (h : T.length = 8) (h' : S.length = 8) (k : Nat) (hk : k ≤ 8) : (mxPart T S k).length = 8 := by
  unfold mxPart; rw [List.length_append, List.length_take, List.length_drop]; omega
theorem part_at {T S : List Int} (h : T.length = 8) (h' : S.length = 8) (k : Nat) (hk : k < 8) : (mxPart T S k).getD k 0 = S.getD k 0 := by
  unfold mxPart
  simp only [List.getD_eq_getElem?_getD]
  rw [List.getElem?_append_right (by rw [List.length_take]; omega), List.length_take, List.getElem?_drop]
  congr 2
  omega
theorem part_set {T S : List Int} (h : T.length = 8) (h' : S.length = 8) (k : Nat) (hk : k < 8) : (mxPart T S k).set k (T.getD k 0) = mxPart T S (k + 1) := by
  apply List.ext_getElem
  · rw [List.length_set, part_len h h' k (by omega), part_len h h' (k + 1) (by omega)]
  · intro i h1 h2
    rw [List.length_set, part_len h h' k (by omega)] at h1
    simp only [mxPart, List.getElem_set, List.getElem_append, List.length_take, List.getElem_take, List.getElem_drop]
    by_cases c : k = i
    · subst c
      rw [if_pos rfl, dif_pos (by omega), List.getD_eq_getElem?_getD, List.getElem?_eq_getElem (by omega)]
      rfl
    · rw [if_neg c]
      by_cases c2 : i < k
      · rw [dif_pos (by omega), dif_pos (by omega)]
      · rw [dif_neg (by omega), dif_neg (by omega)]
        congr 1
        omega
theorem off_bd {p : Int} (bit : Bool) (h0 : 0 ≤ p) (h1 : p ≤ 4095) : -4095 ≤ offP p bit ∧ offP p bit ≤ 4095 := by unfold offP; split <;> omega
theorem step_bd {x off : Int} (x0 : -2047 ≤ x) (x1 : x ≤ 2047) (o0 : -4095 ≤ off) (o1 : off ≤ 4095) : -8382465 ≤ x * off ∧ x * off ≤ 8382465 := by
  have f : ∀ a b : Int, 0 ≤ a → a ≤ 2047 → 0 ≤ b → b ≤ 4095 → 0 ≤ a * b ∧ a * b ≤ 8382465 := by
    intro a b a1 a2 b1 b2
    have := Int.mul_le_mul a2 b2 b1 (by omega)
    exact ⟨Int.mul_nonneg a1 b1, by omega⟩
  by_cases cx : 0 ≤ x <;> by_cases cy : 0 ≤ off
  · have := f x off cx (by omega) cy (by omega); omega
  · have := f x (-off) cx (by omega) (by omega) (by omega); rw [Int.mul_neg] at this; omega
  · have := f (-x) off (by omega) (by omega) cy (by omega); rw [Int.neg_mul] at this; omega
  · have := f (-x) (-off) (by omega) (by omega) (by omega) (by omega); rw [Int.neg_mul_neg] at this; omega
theorem sat_in {n : Int} (h0 : -2147483648 ≤ n) (h1 : n ≤ 2147483647) : sat n = n := by unfold sat; rw [if_neg (by omega), if_neg (by omega)]
theorem rnd14_bd {n : Int} (h0 : -58677255 ≤ n) (h1 : n ≤ 58677255) : -3582 ≤ rnd n 14 ∧ rnd n 14 ≤ 3582 := by rw [rnd14]; omega
end Go.Proofs.Ytjikddndlnimoaa.mxP
namespace Go.Proofs.Ytjikddndlnimoaa.mxW
set_option maxRecDepth 100000
open Go.RowKit Go.Proofs.Ytjikddndlnimoaa.base Go.Proofs.Ytjikddndlnimoaa.rfP Go.Proofs.Ytjikddndlnimoaa.mxP Go.Proofs.Ytjikddndlnimoaa.sqP Go.Proofs.Ytjikddndlnimoaa.sqW Go.Proofs.Ytjikddndlnimoaa.fixP Go.Proofs.Ytjikddndlnimoaa.fixW
set_option linter.unusedVariables false
set_option linter.unusedSimpArgs false
theorem satB (n : Int) (w : World) : Calls Try.prog 17 #[.int .i64 n] w fun e w' => e = .returned (.int .i32 (sat n)) ∧ Below w.heap.size w w' :=
  (sat_any n w).mono fun e w' ⟨h1, h2⟩ => ⟨h1, h2 ▸ Below.refl _ _⟩
theorem addB (a b : Int) (w : World) (a1 : -2147483648 ≤ a) (a2 : a ≤ 2147483647) (b1 : -2147483648 ≤ b) (b2 : b ≤ 2147483647) : Calls Try.prog 16 #[.int .i32 a, .int .i32 b] w fun e w' => e = .returned (.int .i32 (sat (a + b))) ∧ Below w.heap.size w w' :=
  (add_any a b w a1 a2 b1 b2).mono fun e w' ⟨h1, h2⟩ => ⟨h1, h2 ▸ Below.refl _ _⟩
set_option maxHeartbeats 400000 in
theorem learn1_any (P : Option Addr) (m c : Nat) (rs : List RY) (i G : Nat) (w : World) (K : MxAt w G P m c rs) (hi : i < m) (hl : ((numsY rs).getD i []).length = 8) :
    Calls Try.prog 13 #[.int .i64 i, .pointer (some ⟨G, 0, none⟩)] w fun e w' => ∃ g c, e = .returned (.slice (some ⟨g, 0, none⟩) 8 c) ∧ OwnI w' w.heap.size 21 .i32 (.slice (some ⟨g, 0, none⟩) 8 c) ((numsY rs).getD i []) ∧ Below w.heap.size w w' := by
  have HL : Hid (rs.length = m) := Lib.hid K.rows.l
  obtain ⟨b, off, rfl, hb, hc⟩ := K.rows.h.some (by rw [HL.out]; omega)
  have z1 := hc i (by rw [HL.out]; exact hi)
  have z0 := K.cell
  have HN := nums_at rs i (by rw [HL.out]; exact hi)
  rw [HN] at hl ⊢
  have HI := Lib.hid (K.rows.h.get i (by rw [HL.out]; exact hi))
  have m9 : (m : Int) ≤ 9223372036854775807 := by have := K.rows.c1; have := K.rows.c2; omega
  have i1 : (i : Int) < m := by omega
  have i0 : 0 ≤ (i : Int) := by omega
  clear K hc HN hi
  generalize rs.getD i ry0 = r at *
  obtain ⟨A, n, d, z⟩ := r
  have HZ : Hid (z.length = 8) := Lib.hid hl
  obtain rfl : n = 8 := by have e1 : z.length = n := HI.out.e; have e2 := HZ.out; omega
  clear hl
  go_enter Try.func13, Try.ntmps13
  go_wp2_with fail
  refine (Clone32 HI.out.h HZ.out HI.out.c1 (by decide) (by decide)).mono ?_
  rintro e w1 ⟨g, c', rfl, ho, hb⟩
  have HO := Lib.hid (And.intro ho hb)
  clear ho hb
  go_wp2_with fail
  go_ret
  exact ⟨g, c', rfl, HO.out⟩
set_option maxHeartbeats 800000 in
theorem Learn_bad (P : Option Addr) (m c : Nat) (rs : List RY) (set : Int) (B : Option Addr) (n d : Nat) (ys : List Int) (p : Int) (bit : Bool) (w : World) (h : RowsY w P m c rs) (hi : In8 w B n d ys) (ha : learnME (numsY rs) set ys p ≠ 0) :
    Calls Try.prog 6 #[.agg #[.slice P m c], .int .i64 set, .slice B n d, .int .i32 p, .bool bit] w fun e w' => e = .returned (.tuple #[.agg #[.slice none 0 0], .int .i64 (learnME (numsY rs) set ys p)]) ∧ Below w.heap.size w w' := by
  have H := Lib.hid (And.intro h hi)
  have B0 : Hid (Below w.heap.size w ((w.alloc (.cells #[.slice P m c] 24)).alloc (.cells #[.slice none 0 0] 24)) ∧ Lies ((w.alloc (.cells #[.slice P m c] 24)).alloc (.cells #[.slice none 0 0] 24)) (w.heap.size + 1) 24 [.slice none 0 0] ∧ w.heap.size < w.heap.size + 1) := Lib.hid ⟨by (repeat' (first | (with_reducible exact Below.refl _ _) | (with_reducible assumption) | (with_reducible refine below_drewN ?_ _) | (with_reducible refine below_new ?_ _) | (with_reducible refine Below.alloc ?_ ?_ _) | (with_reducible refine Below.drew ?_) | (with_reducible refine Below.setCell ?_ ?_ _) | (with_reducible apply below_at; (case k => (with_reducible assumption)); (case hB => omega)) | (with_reducible apply below_on; (with_reducible assumption)) | (go_size; done) | (with_reducible apply size_of))), Lies.fresh_at (cs := [.slice none 0 0]) (by simp), by omega⟩
  by_cases ha0 : mAskE (numsY rs) set ys = 0
  · have e1 : learnME (numsY rs) set ys p = wrongE p := by unfold learnME; rw [if_pos ha0]
    rw [e1] at ha ⊢
    have HA := Lib.hid ha0
    obtain ⟨v, hv⟩ : ∃ v, wrongE p = v := ⟨_, rfl⟩
    have HV := Lib.hid hv
    rw [hv] at ha ⊢
    clear e1 ha0 hv h hi
    go_enter Try.func6, Try.ntmps6
    go_wp2_with fail
    generalize ((w.alloc (.cells #[.slice P m c] 24)).alloc (.cells #[.slice none 0 0] 24)) = w0 at *
    generalize w.heap.size + 1 = g2 at *
    refine (checkIn_any P m c rs set B n d ys w0 (H.out.1.past B0.out.1) (H.out.2.past B0.out.1)).mono ?_
    rintro e w1 ⟨rfl, hb1⟩
    rw [HA.out]
    have H1 := Lib.hid (And.intro (B0.out.2.1.past hb1) (below_bs B0.out.1 hb1))
    clear hb1
    go_wp2_with fail
    refine (Wrong_any p bit w1).mono ?_
    rintro e w2 ⟨rfl, rfl⟩
    rw [HV.out]
    obtain ⟨z1, z2⟩ := H1.out.1.one
    go_wp2_with fail
    have K := H1.out.1.set 0 (.slice none 0 0)
    have k1 : (w2.setCell ⟨g2, 0, none⟩ (.slice none 0 0)).cell? ⟨g2, 0, none⟩ = some (.slice none 0 0) := K.cell 0
    refine bodyPost_ret (by simp [results, Try.results6, go_sem, k1]; try rfl) rfl ?_
    exact ⟨rfl, H1.out.2.setCell (Nat.le_of_lt B0.out.2.2) _⟩
  · have e1 : learnME (numsY rs) set ys p = mAskE (numsY rs) set ys := by unfold learnME; rw [if_neg ha0]
    rw [e1]
    obtain ⟨v, hv⟩ : ∃ v, mAskE (numsY rs) set ys = v := ⟨_, rfl⟩
    have HV := Lib.hid hv
    rw [hv] at ha0 ⊢
    clear e1 ha hv h hi
    go_enter Try.func6, Try.ntmps6
    go_wp2_with fail
    generalize ((w.alloc (.cells #[.slice P m c] 24)).alloc (.cells #[.slice none 0 0] 24)) = w0 at *
    generalize w.heap.size + 1 = g2 at *
    refine (checkIn_any P m c rs set B n d ys w0 (H.out.1.past B0.out.1) (H.out.2.past B0.out.1)).mono ?_
    rintro e w1 ⟨rfl, hb1⟩
    rw [HV.out]
    have H1 := Lib.hid (And.intro (B0.out.2.1.past hb1) (below_bs B0.out.1 hb1))
    clear hb1
    obtain ⟨z1, z2⟩ := H1.out.1.one
    go_wp2_with fail
    have K := H1.out.1.set 0 (.slice none 0 0)
    have k1 : (w1.setCell ⟨g2, 0, none⟩ (.slice none 0 0)).cell? ⟨g2, 0, none⟩ = some (.slice none 0 0) := K.cell 0
    refine bodyPost_ret (by simp [results, Try.results6, go_sem, k1]; try rfl) rfl ?_
    exact ⟨rfl, H1.out.2.setCell (Nat.le_of_lt B0.out.2.2) _⟩
end Go.Proofs.Ytjikddndlnimoaa.mxW
