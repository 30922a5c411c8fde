/- Parts in memory; the members' lengths; the reference's Lengths. -/
import Derived.Test.YthckpenindchlaaSpTw
import Derived.Test.YthckpenindchlaaSpE
import Derived.Test.YthckpenindchlaaMemI
namespace Go.Proofs.Ythckpenindchlaa.spW
set_option maxRecDepth 100000
open Go.RowKit Go.Proofs.Ythckpenindchlaa.base Go.Proofs.Ythckpenindchlaa.mbW
set_option linter.unusedVariables false
set_option linter.unusedSimpArgs false
set_option maxRecDepth 100000
structure Pt where
  p : Pc
  r : R8
def pt0 : Pt := ⟨pc0, r80⟩
def ptE (t : Pt) : List Value := [.int .i64 t.p.m, .int .i64 t.p.o, .int .i64 t.p.r, .slice t.r.A t.r.n t.r.c]
def TE : Enc Pt where
  enc := ptE
  n := 4
  T := 59
  d := pt0
  len := fun x => rfl
  one := fun x v hv => by
    simp only [ptE, List.mem_cons, List.not_mem_nil, or_false] at hv
    rcases hv with rfl | rfl | rfl | rfl <;> rfl
  pos := by decide
theorem infoT : ∃ i z, Try.prog.info? 59 = some i ∧ i.zero = some z ∧ i.size = 4 ∧ i.bytes = 48 ∧ z.cells.size = 4 ∧ z.cells = (ptE pt0).toArray := by
  obtain ⟨i, h1, h2, h3, h4⟩ := info_parts (P := Try.prog) (e := 59) (z := .agg (ptE pt0).toArray) (size := 4) (bytes := 48) (by kernel_rfl)
  exact ⟨i, _, h1, h2, h3, h4, rfl, rfl⟩
theorem infoT4 : (Try.prog.info? 59).map (·.size) = some TE.n := by kernel_rfl
theorem IT : Enc.Info TE Try.prog 33 48 := ⟨Try.underlying33, by
  obtain ⟨i, z, h1, h2, h3, h4, h5, _⟩ := infoT
  exact ⟨i, z, h1, h2, h3, h4, h5⟩⟩
/-! The members' lengths. -/
def lensM (ms : List Mb) : List Int := ms.map fun m => (m.r.n : Int)
theorem lens_len (ms : List Mb) : (lensM ms).length = ms.length := List.length_map _
theorem lens_get (ms : List Mb) {k : Nat} (h : k < ms.length) : (lensM ms).getD k 0 = ((ms.getD k mb0).r.n : Int) := by
  rw [List.getD_eq_getElem?_getD, List.getD_eq_getElem?_getD, lensM, List.getElem?_map, List.getElem?_eq_getElem h]; rfl
theorem lens_snoc (ms : List Mb) {k : Nat} (h : k < ms.length) : (lensM ms).take (k + 1) = (lensM ms).take k ++ [((ms.getD k mb0).r.n : Int)] := by
  rw [List.take_add_one, ← lens_get ms h, List.getD_eq_getElem?_getD, List.getElem?_eq_getElem (by rw [lens_len]; exact h)]; rfl
theorem lens_sum : ∀ ms : List Mb, (lensM ms).sum = (sumD ms : Int)
  | [] => rfl
  | m :: r => by
    have ih := lens_sum r
    show (m.r.n : Int) + (lensM r).sum = ((m.r.n + sumD r : Nat) : Int)
    rw [ih]; omega
theorem ck_zero {ms : List Mb} (h : ckE ms = 0) : ms.length ≤ 16 ∧ sumD ms ≤ 8192 := by
  unfold ckE at h
  split at h
  · omega
  · split at h
    · omega
    · omega
theorem sz_lens {ms : List Mb} (h : ckE ms = 0) : szE (lensM ms) = 0 := by
  have hc := ck_zero h
  refine sz_ok (fun k hk => ?_) (by rw [lens_len]; omega) (by rw [lens_sum]; omega)
  rw [lens_len] at hk
  rw [lens_get ms hk]; omega
theorem zs_own {w : World} {B n c : Nat} {A : Option Addr} {zs : List Int} (h : OwnI w B 3 .i64 (.slice A n c) zs) (hz : ∀ z ∈ zs, -9223372036854775808 ≤ z ∧ z ≤ 9223372036854775807) : ZsB w A n c zs := by
  obtain ⟨A', cap, e, h1, h2, h3⟩ := h.val
  injection e with e1 e2 e3
  subst e1 e2 e3
  refine ⟨h1, rfl, h2, ?_, hz⟩
  rcases h.2 with ⟨e, _⟩ | ⟨g, cap', cur, e, _, _, _, h4, _⟩
  · injection e with _ _ e3
    omega
  · injection e with _ _ e3
    unfold maxLen at h4; omega
theorem lens_bounds {w : World} {P : Option Addr} {m d : Nat} {ms : List Mb} (hR : MemB w P m d ms) : ∀ z ∈ lensM ms, -9223372036854775808 ≤ z ∧ z ≤ 9223372036854775807 := by
  intro z hz
  obtain ⟨q, hq, rfl⟩ := List.mem_map.1 hz
  have := hR.h.all q hq
  have h1 := this.c1
  have h2 := this.c2
  omega
theorem has_one (w : World) (x : Int) {g : Nat} (hg : w.heap.size = g) : Has .i64 (w.alloc (.cells #[.int .i64 x] 3)) (some ⟨g, 0, none⟩) [x] := by
  subst hg
  exact (OwnI.lit w 3 .i64 [x] 0 (Nat.zero_le _) (by unfold maxLen; simp)).has
set_option maxHeartbeats 3200000 in
theorem Lengths_any (ms : List Mb) (P : Option Addr) (m d : Nat) (w : World) (hR : MemB w P m d ms) (h9 : m ≤ 100) :
    Calls Try.prog 26 #[.slice P m d] w fun e w' => ∃ (A : Option Addr) (c : Nat), e = .returned (.slice A m c) ∧ ZsB w' A m c (lensM ms) ∧ Below w.heap.size w w' := by
  have HR := Lib.hid hR
  have HL := Lib.hid hR.l
  have HZB := Lib.hid (lens_bounds hR)
  have m9 : (m : Int) ≤ 100 := by omega
  have H9 := Lib.hid h9
  clear hR h9
  go_enter Try.func26, Try.ntmps26
  go_wp2_with fail
  go_loopw [3, 4] (fun rv iv wr => ∃ (k : Nat) (A : Option Addr) (c : Nat), k ≤ m ∧ iv = .int .i64 (k : Int) ∧ rv = .slice A k c ∧ OwnI wr w.heap.size 3 .i64 (.slice A k c) ((lensM ms).take k) ∧ Below w.heap.size w wr) (fun _ iv _ => m - (intOf iv).toNat)
  case atStart => exact ⟨0, none, 0, Nat.zero_le _, rfl, rfl, OwnI.nil _ _ _ _, Below.refl _ _⟩
  case round =>
    obtain ⟨k, A, c, hk, rfl, rfl, own, acc⟩ := hrel
    rename World => wr
    have HO := Lib.hid own
    have HACC := Lib.hid acc
    by_cases hlt : k < m
    · obtain ⟨b, off, rfl, hb⟩ := HR.out.h.some (by rw [HL.out]; omega)
      obtain ⟨x0, x1⟩ := memCell HR.out hlt acc
      have ltb : b < wr.heap.size := Nat.lt_of_lt_of_le hb acc.size
      have HK := Lib.hid hlt
      have HSN := Lib.hid (lens_snoc ms (k := k) (by rw [HL.out]; exact hlt))
      have HTL : Hid (((lensM ms).take k).length = k) := Lib.hid (by rw [List.length_take, lens_len, HL.out]; omega)
      have k1 : (k : Int) < m := by omega
      have k0 : 0 ≤ (k : Int) := by omega
      generalize ms.getD k mb0 = q at *
      obtain ⟨nm, rA, rn, rc, rb⟩ := q
      dsimp only at x0 x1 HSN
      have G := mb_new wr (.cells #[.int .i64 (rn : Int)] 3)
      have O4 := Lib.hid (own.below G (Nat.le_refl _))
      have B4 := Lib.hid (mb_bb acc G)
      have L4 := Lib.hid (has_one wr (rn : Int) rfl)
      clear hk hlt own acc hb G
      go_wp2_with (at_builtin; refine appI rfl _ _ rfl w.heap.size _ ((lensM ms).take k) rfl O4.out _ 1 1 [(rn : Int)] rfl rfl L4.out (k + 1) (by rw [HTL.out]) (by have := H9.out; have := HK.out; omega) B4.out.size ?_; intro A7 c7 w7 ho7 hg7 hb7)
      go_roundw
      case rel => exact ⟨k + 1, A7, c7, HK.out, by go_num, rfl, by rw [HSN.out]; exact ho7, B4.out.trans hb7⟩
      case measure => simp [intOf]; have := HK.out; omega
    · have k1 : ¬ (k : Int) < m := by omega
      obtain rfl : k = m := by omega
      clear hk hlt own acc
      go_wp2_with fail
      go_ret
      refine ⟨A, c, rfl, ?_, HACC.out⟩
      have e : (lensM ms).take k = lensM ms := List.take_of_length_le (by rw [lens_len, HL.out]; omega)
      exact zs_own (by rw [← e]; exact HO.out) HZB.out
end Go.Proofs.Ythckpenindchlaa.spW
