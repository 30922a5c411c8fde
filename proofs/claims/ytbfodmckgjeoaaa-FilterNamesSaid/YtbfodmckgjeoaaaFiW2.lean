/- Filters: differences and sums of the program, by walks. -/
import Derived.Test.YtbfodmckgjeoaaaFiW
import Derived.Test.YtbfodmckgjeoaaaFar
import Derived.StillTailTactics
namespace Go.Proofs.Ytbfodmckgjeoaaa.fiW
set_option maxRecDepth 100000
open Go.RowKit Go.Proofs.Ytbfodmckgjeoaaa.base Go.Proofs.Ytbfodmckgjeoaaa.fiP
set_option linter.unusedVariables false
set_option linter.unusedSimpArgs false
/-- The first k are made, the others stand as they did. -/
def half (f : List Int → Nat → Int) (b : List Int) (k : Nat) : List Int := bld f k ++ b.drop k
theorem half_len {f : List Int → Nat → Int} {b : List Int} {k : Nat} (h : k ≤ b.length) : (half f b k).length = b.length := by
  rw [half, List.length_append, bld_len, List.length_drop]; omega
theorem half_all {f : List Int → Nat → Int} {b : List Int} {k : Nat} (h : b.length ≤ k) : half f b k = bld f k := by
  rw [half, List.drop_eq_nil_of_le h, List.append_nil]
theorem half_set {f : List Int → Nat → Int} {b : List Int} {k : Nat} (h : k < b.length) : (half f b k).set k (f (bld f k) k) = half f b (k + 1) := by
  rw [half, half, bld_snoc, List.set_append, if_neg (by rw [bld_len]; omega), bld_len, Nat.sub_self, List.drop_eq_getElem_cons h, List.set_cons_zero, List.append_assoc]
  rfl
theorem half_at {f : List Int → Nat → Int} {b : List Int} {j k : Nat} (h : k ≤ j) : (half f b k).getD j 0 = b.getD j 0 := by
  rw [half]
  simp only [List.getD_eq_getElem?_getD]
  rw [List.getElem?_append_right (by rw [bld_len]; exact h), bld_len, List.getElem?_drop]
  congr 2
  omega
theorem half_before {f : List Int → Nat → Int} {b : List Int} {j k : Nat} (h : j < k) : (half f b k).getD j 0 = (bld f k).getD j 0 := by
  rw [half]
  simp only [List.getD_eq_getElem?_getD]
  rw [List.getElem?_append_left (by rw [bld_len]; exact h)]
/-- What stands ahead of the n-th is the bytes'. -/
theorem half_start {f : List Int → Nat → Int} {b : List Int} {n : Nat} (h : ∀ l k, k < n → f l k = b.getD k 0) : ∀ k, k ≤ n → k ≤ b.length → half f b k = b
  | 0, _, _ => by simp [half, bld]
  | k + 1, h1, h2 => by
    rw [← half_set (by omega), half_start h k (by omega) (by omega), h _ k (by omega)]
    refine List.ext_getElem (by simp) fun i h3 h4 => ?_
    rw [List.getElem_set]
    split
    · rename_i e; subst e; simp [List.getD_eq_getElem?_getD, List.getElem?_eq_getElem h4]
    · rfl
theorem dF_start {b : List Int} (hb : ∀ z ∈ b, 0 ≤ z ∧ z ≤ 255) (m : Nat) : ∀ l k, k < m → dF b m l k = b.getD k 0 := fun l k hk => by
  have := at_bd hb k
  unfold dF bef; rw [if_neg (by omega)]; omega
theorem sF_start {b : List Int} (hb : ∀ z ∈ b, 0 ≤ z ∧ z ≤ 255) (m : Nat) : ∀ l k, k < m → sF b m l k = b.getD k 0 := fun l k hk => by
  have := at_bd hb k
  unfold sF bef; rw [if_neg (by omega)]; omega
set_option maxHeartbeats 1000000 in
theorem differences_any (b : List Int) (A : Option Addr) (n c m : Nat) (w : World) (h : Ib w A n c b) (hl : n ≤ 20000) (h1 : 1 ≤ m) (h8 : m ≤ 8) :
    Calls Try.prog 26 #[.slice A n c, .int .i64 (m : Int)] w fun e w' => ∃ A' c', e = .returned (.slice A' n c') ∧ OwnZ w' w.heap.size (.slice A' n c') (dl b m) ∧ Below w.heap.size w w' := by
  have HH := Lib.hid h
  have hn : b.length = n := h.e
  have HN := Lib.hid hn
  have HL := Lib.hid hl
  have n9 : (n : Int) ≤ 20000 := by omega
  have m1 : (1 : Int) ≤ m := by omega
  have m8 : (m : Int) ≤ 8 := by omega
  have HST := Lib.hid (half_start (dF_start h.bd m))
  clear h hn hl h1 h8
  go_enter Try.func26, Try.ntmps26
  go_wp2_with fail
  refine (Clone8 (zs := b) HH.out.h HH.out.e HH.out.c1 (by have := HL.out; omega)).mono ?_
  rintro e w1 ⟨A1, c1, rfl, -, o1, hb1⟩
  have HO1 := Lib.hid o1
  have HB1 := Lib.hid hb1
  clear o1 hb1
  go_wp2_with fail
  by_cases hmn : m < n
  · obtain ⟨g, rfl, hg0, hg1, o⟩ := HO1.out.at_head (by omega)
    have HOI := Lib.hid o
    have HG := Lib.hid (And.intro hg0 hg1)
    clear o hg0 hg1 HO1
    go_loopw [6] (fun j wr => ∃ k : Nat, m ≤ k ∧ k ≤ n ∧ j = .int .i64 k ∧ OwnI wr w.heap.size 5 .u8 (.slice (some ⟨g, 0, none⟩) n c1) (half (dF b m) b k) ∧ Below w.heap.size w wr) (fun j _ => n - (intOf j).toNat)
    case atStart => exact ⟨m, Nat.le_refl _, by omega, rfl, by rw [HST.out m (Nat.le_refl _) (by rw [HN.out]; omega)]; exact HOI.out, HB1.out⟩
    case round =>
      obtain ⟨k, hmk, hk, rfl, own, acc⟩ := hrel
      have HO := Lib.hid own
      have HACC := Lib.hid acc
      by_cases hlt : k < n
      · obtain ⟨bb, off, rfl, hbb, hc⟩ := in_at HH.out acc hlt
        have p1 := hc k hlt
        obtain ⟨j, hj⟩ : ∃ j, k - m = j := ⟨_, rfl⟩
        have p2 := hc j (by omega)
        have p3 := own.cell k (by rw [half_len (by rw [HN.out]; omega), HN.out]; exact hlt)
        have p4 := own.frozen k
        obtain ⟨x1, x2⟩ := at_bd HH.out.bd k
        obtain ⟨y1, y2⟩ := at_bd HH.out.bd j
        have HF : Hid (dF b m (bld (dF b m) k) k = (b.getD k 0 - b.getD j 0) % 256) := Lib.hid (by unfold dF bef; rw [if_pos hmk, hj])
        have HS := Lib.hid (half_set (f := dF b m) (b := b) (k := k) (by rw [HN.out]; exact hlt))
        have HLT := Lib.hid (And.intro hmk hlt)
        have k1 : (k : Int) < n := by omega
        have k2 : k < n := hlt
        have j1 : IntKind.i64.wrap ((k : Int) - m) = (j : Int) := by
          have : (k : Int) - m = j := by omega
          rw [this]; exact IntWalk.i64_in _ (by omega)
        have j3 : (j : Int) < n := by omega
        generalize b.getD k 0 = x at *
        generalize b.getD j 0 = y at *
        generalize (half (dF b m) b k).getD k 0 = v at *
        have z1 : IntKind.u8.wrap (x - y) = (x - y) % 256 := by rfl
        clear hk own acc hlt hc hmk hj
        go_wp2_with fail
        go_still_tail 14, (by kernel_rfl)
        go_wp2
        refine ⟨⟨k + 1, by have := HLT.out; omega, by have := HLT.out; omega, by go_num, ?_, ?_⟩, by simp [intOf]; have := HLT.out; omega⟩
        · rw [← HS.out, HF.out]
          exact HO.out.store k _
        · have h1 : Below w.heap.size w (wr.setCell ⟨g, k, none⟩ (.int .u8 ((x - y) % 256))) := Below.setCell HACC.out HG.out.1 _
          exact h1.drew
      · obtain rfl : k = n := by omega
        have k1 : ¬ (k : Int) < k := by omega
        clear hk hmk own acc hlt
        go_wp2_with fail
        go_ret
        exact ⟨_, c1, rfl, .inl (by rw [dl, HN.out, ← half_all (b := b) (by rw [HN.out]; omega)]; exact HO.out), HACC.out⟩
  · have HD : Hid (dl b m = b) := Lib.hid (by
      have := HST.out n (by omega) (by rw [HN.out]; omega)
      rw [half_all (by rw [HN.out]; omega)] at this
      rw [dl, HN.out]; exact this)
    have k1 : ¬ (m : Int) < n := by omega
    have d1 : decide (m < n) = false := decide_eq_false hmn
    clear hmn
    go_loopw [6] (fun j wr => j = .int .i64 (m : Int) ∧ wr = w1) (fun j _ => 0)
    case atStart => exact ⟨rfl, rfl⟩
    case round =>
      obtain ⟨rfl, rfl⟩ := hrel
      go_wp2_with fail
      go_ret
      exact ⟨A1, c1, rfl, by rw [HD.out]; exact HO1.out, HB1.out⟩
end Go.Proofs.Ytbfodmckgjeoaaa.fiW
