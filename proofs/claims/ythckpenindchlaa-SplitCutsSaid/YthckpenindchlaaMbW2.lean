/- Names twice; rows of strings of the call's own. -/
import Derived.Test.YthckpenindchlaaMbW
import Derived.Test.YthckpenindchlaaMake
namespace Go.Proofs.Ythckpenindchlaa.mbW
set_option maxRecDepth 100000
open Go.RowKit Go.Proofs.Ythckpenindchlaa.base
set_option linter.unusedVariables false
set_option linter.unusedSimpArgs false
set_option maxRecDepth 100000
theorem tw_at {ss : List ByteArray} {i k : Nat} (hi : i < ss.length) (hk : k < i) (h : ss.getD i .empty = ss.getD k .empty) : twE ss = 14 := tw_yes ⟨i, k, hk, hi, h⟩
theorem tw_all {ss : List ByteArray} (h : ∀ i, i < ss.length → ∀ k, k < i → ss.getD i .empty ≠ ss.getD k .empty) : twE ss = 0 := tw_no (fun ⟨i, k, hk, hi, e⟩ => h i hi k hk e)
set_option maxHeartbeats 1600000 in
theorem twice_any (ss : List ByteArray) (A : Option Addr) (n c : Nat) (w : World) (hA : HasT w A ss) (hl : ss.length = n) (hc : n ≤ c) (hm : c ≤ 9223372036854775807) :
    Calls Try.prog 30 #[.slice A n c] w fun e w' => e = .returned (.int .i64 (twE ss)) ∧ w' = w := by
  have HA := Lib.hid hA
  have HL := Lib.hid hl
  have HC := Lib.hid (And.intro hc hm)
  have n9 : (n : Int) ≤ 9223372036854775807 := by omega
  have nc : (n : Int) ≤ c := by omega
  clear hA hl hc hm
  go_enter Try.func30, Try.ntmps30
  go_wp2_with fail
  go_loopw [9] (fun iv wr => ∃ i : Nat, i ≤ n ∧ iv = .int .i64 (i : Int) ∧ (∀ j, j < i → ∀ k, k < j → ss.getD j .empty ≠ ss.getD k .empty) ∧ wr = w) (fun iv _ => n - (intOf iv).toNat)
  case atStart => exact ⟨0, Nat.zero_le _, rfl, by intro j hj; omega, rfl⟩
  case round =>
    obtain ⟨i, hi, rfl, hs, hw⟩ := hrel
    subst hw
    have HS := Lib.hid hs
    by_cases hlt : i < n
    · obtain ⟨b, off, rfl, hb, hcell⟩ := HA.out.some (by rw [HL.out]; omega)
      have i1 : (i : Int) < n := by omega
      have i0 : 0 ≤ (i : Int) := by omega
      have ic : (i : Int) ≤ c := by omega
      have HI := Lib.hid hlt
      have HCL := Lib.hid hcell
      have x1 := hcell i (by rw [HL.out]; exact hlt)
      obtain ⟨si, hsi⟩ : ∃ si, ss.getD i .empty = si := ⟨_, rfl⟩
      rw [hsi] at x1
      have HSI := Lib.hid hsi
      clear hi hs hlt hcell hsi hb
      go_wp2_with fail
      go_loopw [18] (fun kv wq => ∃ k : Nat, k ≤ i ∧ kv = .int .i64 (k : Int) ∧ (∀ j, j < k → si ≠ ss.getD j .empty) ∧ wq = wr) (fun kv _ => i - (intOf kv).toNat)
      case atStart => exact ⟨0, Nat.zero_le _, rfl, by intro j hj; omega, rfl⟩
      case round =>
        obtain ⟨k, hk, rfl, hks, hwq⟩ := hrel
        subst hwq
        have HKS := Lib.hid hks
        by_cases hlt : k < i
        · have k1 : (k : Int) < i := by omega
          have k0 : 0 ≤ (k : Int) := by omega
          have HK := Lib.hid hlt
          have x2 := HCL.out k (by rw [HL.out]; have := HI.out; omega)
          obtain ⟨sk, hsk⟩ : ∃ sk, ss.getD k .empty = sk := ⟨_, rfl⟩
          rw [hsk] at x2
          have HSK := Lib.hid hsk
          have HEQ := Lib.hid (str_eq si sk)
          clear hk hks hlt hsk
          by_cases ce : si = sk
          · have he : (si.toList == sk.toList) = true := by rw [HEQ.out]; exact decide_eq_true ce
            have HV := Lib.hid (tw_at (ss := ss) (i := i) (k := k) (by rw [HL.out]; exact HI.out) HK.out (by rw [HSI.out, HSK.out]; exact ce))
            clear ce
            go_wp2_with fail
            go_ret
            exact ⟨by rw [HV.out]; rfl, rfl⟩
          · have he : (si.toList == sk.toList) = false := by rw [HEQ.out]; exact decide_eq_false ce
            have HNE := Lib.hid ce
            clear ce
            go_wp2_with fail
            go_roundw
            case rel =>
              refine ⟨k + 1, HK.out, by go_num, fun j hj => ?_, by trivial⟩
              rcases Nat.lt_or_ge j k with h | h
              · exact HKS.out j h
              · have : j = k := by omega
                subst this; rw [HSK.out]; exact HNE.out
            case measure => simp [intOf]; have := HK.out; omega
        · have k1 : ¬ (k : Int) < i := by omega
          have HKE : Hid (k = i) := Lib.hid (by omega)
          clear hk hks hlt
          go_wp2_with fail
          go_roundw
          case rel =>
            refine ⟨i + 1, HI.out, by go_num, fun j hj q hq => ?_, by trivial⟩
            rcases Nat.lt_or_ge j i with h | h
            · exact HS.out j h q hq
            · have : j = i := by omega
              subst this; rw [HSI.out]; exact HKS.out q (by rw [HKE.out]; exact hq)
          case measure => simp [intOf]; have := HI.out; omega
    · have i1 : ¬ (i : Int) < n := by omega
      have HV := Lib.hid (tw_all (ss := ss) (fun j hj => hs j (by rw [HL.out] at hj; omega)))
      clear hi hs hlt
      go_wp2_with fail
      go_ret
      exact ⟨by rw [HV.out]; rfl, rfl⟩
/-! A row of strings of the call's own. -/
def tCells (n : Nat) : Array Value := (List.replicate n (Value.string .empty)).toArray
theorem infoT : ∃ i, Try.prog.info? 9 = some i ∧ i.zero = some (.string .empty) ∧ i.size = 1 ∧ i.bytes = 16 := by
  obtain ⟨i, h1, h2, h3, h4⟩ := info_parts (P := Try.prog) (e := 9) (z := .string .empty) (size := 1) (bytes := 16) (by kernel_rfl)
  exact ⟨i, h1, h2, h3, h4⟩
theorem mkT (n : Nat) (hn : n ≤ 1000000) (w : World) : (Instr.makeSlice 64 (.int .i64 (n : Int)) (.int .i64 (n : Int))).run Try.prog w = .ok (.slice (some ⟨w.heap.size, 0, none⟩) n n) (w.alloc (.cells (tCells n) 9)) := by
  obtain ⟨i, hi, hz, h1, h2⟩ := infoT
  exact run_make_cells _ _ i (.string .empty) Try.underlying64 hi hz h1 rfl n (by rw [h2]; omega) (by omega) w
def OwnT (w : World) (B : Nat) (v : Value) (ss : List ByteArray) : Prop := w.ownsRow B 9 1 v ss.length (ss.map Value.string)
theorem own_t (w : World) (n : Nat) (hn : n ≤ 1000000) {B g : Nat} (hB : B ≤ g) (hg : w.heap.size = g) : OwnT (w.alloc (.cells (tCells n) 9)) B (.slice (some ⟨g, 0, none⟩) n n) (List.replicate n .empty) := by
  subst hg
  refine ⟨by simp, .inr ⟨w.heap.size, n, tCells n, by rw [List.length_replicate], hB, Array.getElem?_push_size, by simp, by unfold maxLen; omega, by simp [tCells], ?_⟩⟩
  unfold tCells; simp
attribute [irreducible] tCells
theorem OwnT.below {w w' : World} {B C : Nat} {v : Value} {ss : List ByteArray} (h : OwnT w B v ss) (hb : Below C w w') (hC : w.heap.size ≤ C) : OwnT w' B v ss := by
  refine ⟨h.1, ?_⟩
  rcases h.2 with h2 | ⟨g, cap, cur, hv, hB, hg, r⟩
  · exact .inl h2
  · exact .inr ⟨g, cap, cur, hv, hB, by rw [hb.block g (Nat.lt_of_lt_of_le (lt_of_block hg) hC)]; exact hg, r⟩
theorem OwnT.past {w w' : World} {B : Nat} {v : Value} {ss : List ByteArray} (h : OwnT w B v ss) (hb : Below w.heap.size w w') : OwnT w' B v ss := h.below hb (Nat.le_refl _)
theorem OwnT.len {w : World} {B n c : Nat} {g : Nat} {ss : List ByteArray} (h : OwnT w B (.slice (some ⟨g, 0, none⟩) n c) ss) : n = ss.length := by
  rcases h.2 with ⟨h', _⟩ | ⟨g', cap', cur, h', _⟩
  · cases h'
  · injection h' with _ h2 _
theorem OwnT.has {w : World} {B n c : Nat} {g : Nat} {ss : List ByteArray} (h : OwnT w B (.slice (some ⟨g, 0, none⟩) n c) ss) : HasT w (some ⟨g, 0, none⟩) ss := by
  have hn := h.len
  subst hn
  rcases h.2 with ⟨h', _⟩ | ⟨g', cap', cur, h', hb, hg, hnc, hcm, hcs, ht⟩
  · cases h'
  · injection h' with h1 _ _
    injection h1 with h1
    injection h1 with h1
    subst h1
    refine .inr ⟨g, 0, rfl, lt_of_block hg, fun i hi => ?_⟩
    rw [Nat.zero_add]
    have : w.cell? ⟨g, i, none⟩ = cur[i]? := by simp [World.cell?, hg]
    rw [this, ← Array.getElem?_toList]
    have e1 : (cur.toList.take (ss.length * 1))[i]? = cur.toList[i]? := by rw [List.getElem?_take, if_pos (by omega)]
    rw [← e1, ht, List.getElem?_map, List.getElem?_eq_getElem hi]
    simp [List.getD_eq_getElem?_getD, List.getElem?_eq_getElem hi]
theorem OwnT.frozen {w : World} {B g n c : Nat} {ss : List ByteArray} (h : OwnT w B (.slice (some ⟨g, 0, none⟩) n c) ss) (i : Nat) : w.frozen? ⟨g, i, none⟩ = false := by
  have hn := h.len
  subst hn
  exact World.ownsRow.frozenAt h i
theorem OwnT.store {w : World} {B g n c : Nat} {ss : List ByteArray} (h : OwnT w B (.slice (some ⟨g, 0, none⟩) n c) ss) (i : Nat) (x : ByteArray) : OwnT (w.setCell ⟨g, i, none⟩ (.string x)) B (.slice (some ⟨g, 0, none⟩) n c) (ss.set i x) := by
  have hn := h.len
  subst hn
  have := (World.ownsRow.stored h i (.string x)).1
  unfold OwnT
  rw [List.length_set, List.map_set]
  exact this
/-- The first k of them. -/
def fillT (ss : List ByteArray) (k : Nat) : List ByteArray := ss.take k ++ List.replicate (ss.length - k) .empty
theorem fillT_zero (ss : List ByteArray) : fillT ss 0 = List.replicate ss.length .empty := by simp [fillT]
theorem fillT_all {ss : List ByteArray} {k : Nat} (h : ss.length ≤ k) : fillT ss k = ss := by
  unfold fillT
  rw [List.take_of_length_le h, show ss.length - k = 0 by omega]; simp
theorem fillT_len {ss : List ByteArray} {k : Nat} (h : k ≤ ss.length) : (fillT ss k).length = ss.length := by
  unfold fillT
  rw [List.length_append, List.length_take, List.length_replicate]; omega
theorem fillT_set {ss : List ByteArray} {k : Nat} (h : k < ss.length) : (fillT ss k).set k (ss.getD k .empty) = fillT ss (k + 1) := by
  unfold fillT
  have l1 : (ss.take k).length = k := by rw [List.length_take]; omega
  rw [List.set_append_right _ _ (by omega), l1, Nat.sub_self, show ss.length - k = (ss.length - (k + 1)) + 1 by omega, List.replicate_succ, List.set_cons_zero, List.take_add_one, List.getElem?_eq_getElem h, List.getD_eq_getElem?_getD, List.getElem?_eq_getElem h]
  simp only [Option.toList_some, Option.getD_some, List.append_assoc, List.cons_append, List.nil_append]
end Go.Proofs.Ythckpenindchlaa.mbW
