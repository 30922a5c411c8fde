/- The longest string of a group, by walks. -/
import Derived.Test.YtacllaeccdgnmaaPaPlain2
import Derived.Test.YtacllaeccdgnmaaRows8
import Derived.Test.YtacllaeccdgnmaaOwnZ
namespace Go.Proofs.Ytacllaeccdgnmaa.paW
set_option maxRecDepth 100000
open Go.RowKit Go.Proofs.Ytacllaeccdgnmaa.base Go.Proofs.Ytacllaeccdgnmaa.paP
set_option linter.unusedVariables false
set_option linter.unusedSimpArgs false
set_option maxRecDepth 100000
/-- The strings. -/
def bs (rs : List R8) : List (List Int) := rs.map R8.b
theorem rb_n {w : World} {P : Option Addr} {m d : Nat} {rs : List R8} (h : RowsB w P m d rs) {i : Nat} (hi : i < m) : (rs.getD i r80).b.length = (rs.getD i r80).n := (h.h.get i (by rw [h.l]; exact hi)).e
theorem rb_cell {w : World} {P : Option Addr} {m d : Nat} {rs : List R8} (h : RowsB w P m d rs) {k : Nat} (hk : k < m) : ∃ b off, P = Option.some ⟨b, off, none⟩ ∧ b < w.heap.size ∧ ∀ i, i < m → w.cell? ⟨b, off + i, none⟩ = Option.some (.slice (rs.getD i r80).A (rs.getD i r80).n (rs.getD i r80).c) := by
  obtain ⟨b, off, h1, h2, h3⟩ := h.h.some (by rw [h.l]; omega)
  exact ⟨b, off, h1, h2, fun i hi => h3 i (by rw [h.l]; exact hi)⟩
theorem bs_take (rs : List R8) (i : Nat) (hi : i < rs.length) : bs (rs.take (i + 1)) = bs (rs.take i) ++ [(rs.getD i r80).b] := by
  unfold bs
  rw [List.take_add_one, List.getElem?_eq_getElem hi, List.map_append]
  simp [List.getD_eq_getElem?_getD, List.getElem?_eq_getElem hi]
set_option maxHeartbeats 1000000 in
theorem widest1 (P : Option Addr) (m d g : Nat) (rs : List R8) (a i : Nat) (w : World) (hr : RowsB w P m d rs) (hg : Lies w g 22 [.slice P m d]) (hi : i < m) :
    Calls Try.prog 41 #[.int .i64 (a : Int), .int .i64 (i : Int), .pointer (some ⟨g, 0, none⟩)] w fun e w' => e = .returned (.int .i64 ((max a (rs.getD i r80).n : Nat) : Int)) ∧ w' = w := by
  obtain ⟨b, off, rfl, hb, hc⟩ := rb_cell hr hi
  have c1 := hc i hi
  have c0 : w.cell? ⟨g, 0, none⟩ = some (.slice (some ⟨b, off, none⟩) m d) := hg.one.1
  obtain ⟨n, hn⟩ : ∃ n, (rs.getD i r80).n = n := ⟨_, rfl⟩
  rw [hn] at c1 ⊢
  have i1 : (i : Int) < m := by omega
  have i0 : 0 ≤ (i : Int) := by omega
  generalize (rs.getD i r80).A = A at *
  generalize (rs.getD i r80).c = cc at *
  clear hr hg hc hi
  go_enter Try.func41, Try.ntmps41
  go_wp2_with fail
  · go_ret
    exact ⟨by rw [show max a n = n by omega]; rfl, rfl⟩
  · go_ret
    exact ⟨by rw [show max a n = a by omega]; rfl, rfl⟩
set_option maxHeartbeats 1000000 in
theorem foldw (P : Option Addr) (m d g : Nat) (rs : List R8) (w : World) (hr : RowsB w P m d rs) (hg : Lies w g 22 [.slice P m d]) :
    Calls Try.prog 40 #[.int .i64 (m : Int), .int .i64 0, .func (.func 41) #[] #[.pointer (some ⟨g, 0, none⟩)]] w fun e w' => e = .returned (.int .i64 (wd (bs rs) : Int)) ∧ w' = w := by
  have HR := Lib.hid hr
  have HG := Lib.hid hg
  have m1 : (m : Int) ≤ 9223372036854775807 := by have := hr.c1; have := hr.c2; omega
  clear hr hg
  go_enter Try.func40, Try.ntmps40
  go_wp2_with fail
  go_loopw [7, 11] (fun a i wr => ∃ q : Nat, q ≤ m ∧ i = .int .i64 (q : Int) ∧ a = .int .i64 (wd (bs (rs.take q)) : Int) ∧ wr = w) (fun _ i _ => m - (intOf i).toNat)
  case atStart => exact ⟨0, Nat.zero_le _, rfl, rfl, rfl⟩
  case round =>
    obtain ⟨q, hq, rfl, rfl, rfl⟩ := hrel
    by_cases hlt : q < m
    · have q1 : (q : Int) < m := by omega
      have q0 : 0 ≤ (q : Int) := by omega
      have HQ := Lib.hid hlt
      have HS := Lib.hid (bs_take rs q (by rw [HR.out.l]; exact hlt))
      clear hlt hq
      go_wp2_with (go_at_call 41; refine (widest1 P m d g rs _ q _ HR.out HG.out HQ.out).mono ?_; rintro e w4 ⟨rfl, rfl⟩)
      go_roundw
      case rel => exact ⟨q + 1, HQ.out, by go_num, by rw [HS.out, wd_snoc, rb_n HR.out HQ.out, List.getD_eq_getElem?_getD], by trivial⟩
      case measure => simp [intOf]; have := HQ.out; omega
    · obtain rfl : q = m := by omega
      have q1 : ¬ (q : Int) < q := by omega
      have HE : Hid (rs.take q = rs) := Lib.hid (List.take_of_length_le (by rw [HR.out.l]; exact Nat.le_refl _))
      clear hlt hq
      go_wp2_with fail
      go_ret
      exact ⟨by rw [HE.out]; rfl, rfl⟩
set_option maxHeartbeats 1000000 in
theorem Widest_any (P : Option Addr) (m d : Nat) (rs : List R8) (w : World) (hr : RowsB w P m d rs) :
    Calls Try.prog 30 #[.slice P m d] w fun e w' => e = .returned (.int .i64 (wd (bs rs) : Int)) ∧ Below w.heap.size w w' := by
  have hb : Below w.heap.size w (w.alloc (.cells #[.slice P m d] 22)) := (Below.refl _ _).alloc (Nat.le_refl _) _
  have HR := Lib.hid (hr.below hb (Nat.le_refl _))
  have HG : Hid (Lies (w.alloc (.cells #[.slice P m d] 22)) w.heap.size 22 [.slice P m d]) := Lib.hid (Lies.fresh _ _ _)
  have HB := Lib.hid hb
  have c0 := HG.out.one.1
  clear hr hb
  go_enter Try.func30, Try.ntmps30
  go_wp2_with (go_at_call 40; refine (foldw P m d _ rs _ HR.out HG.out).mono ?_; rintro e w4 ⟨rfl, rfl⟩)
  go_ret
  exact ⟨rfl, HB.out⟩
end Go.Proofs.Ytacllaeccdgnmaa.paW
