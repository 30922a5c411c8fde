/- append(s, make([]int32, m)...) onto a row of the call's own. -/
import Derived.Test.YtjlmhlagpihehaaMem32
import Derived.Lib.AppendZerosOnto
import Derived.Maps.AppendAt
namespace Go.Proofs.Ytjlmhlagpihehaa.base
open Go.RowKit
set_option linter.unusedVariables false
set_option linter.unusedSimpArgs false
theorem zeroCells_one (z : Value) (m : Nat) : Builtin.zeroCells #[z] m = (List.replicate m z).toArray := by
  apply Array.ext'
  unfold Builtin.zeroCells
  refine List.ext_getElem (by simp) fun i h1 h2 => ?_
  simp [Nat.mod_one]
theorem run_room_zeros {P : Program} {w : World} (t tn ty e : TypeId) (i : TypeInfo) (z : Value) (kn : IntKind) (ht : P.underlying t = some (.slice e)) (htn : P.underlying tn = some (.int kn)) (hi : P.info? e = some i) (hz : i.zero = some z)
    (g sLen sCap : Nat) (cur : Array Value) (hg : w.heap[g]? = some (.cells cur e (0, 0))) (m : Nat) (h0 : 0 < m) (hs : 0 < i.size) (h63 : (m : Int) ≤ 9223372036854775807) (h48 : m * i.bytes ≤ 281474976710656)
    (h1 : ∀ u ∈ (Builtin.zeroCells z.cells m).toList, u.oneCell' = true)
    (hroom : sLen + m ≤ sCap) (hfit : sLen * i.size + (Builtin.zeroCells z.cells m).toList.length ≤ cur.size) :
    (Builtin.append_ #[t, tn] ty #[.slice (some ⟨g, 0, none⟩) sLen sCap, .int .i64 m]).run P w =
      .ok (.slice (some ⟨g, 0, none⟩) (sLen + m) sCap) (w.setRow g (cur.toList.take (sLen * i.size) ++ (Builtin.zeroCells z.cells m).toList ++ cur.toList.drop (sLen * i.size + (Builtin.zeroCells z.cells m).toList.length)).toArray) := by
  have hst := run_storeCells_at P g (sLen * i.size) e (Builtin.zeroCells z.cells m).toList 0 cur w hg (by simpa using hfit) h1
  simp only [Nat.add_zero] at hst
  have hm : m ≠ 0 := by omega
  have hw : IntKind.i64.wrap (m : Int) = m := by rw [IntKind.wrap_i64]; omega
  have h48i : ¬ (281474976710656 < (m : Int) * (i.bytes : Int)) := by rw [← Int.natCast_mul]; omega
  have hneg : ¬ ((m : Int) < 0) := by omega
  have hns : ¬ (m * i.size = 0) := Nat.mul_ne_zero hm (by omega)
  simp [Builtin.append_, run_underlying ht, run_underlying htn, sizeOf, typeInfo, zeroValue, hi, hz, asInt, asIntOf, hw, hm, hneg, hns, h48i, hroom, Addr.add_lit, hst]
theorem run_zeros32 {w : World} (ty : TypeId) (base : Nat) (v : Value) (zs : List Int) (hown : OwnI w base 21 .i32 v zs) (hp : zs ≠ []) (m : Nat) (h0 : 0 < m) (h63 : zs.length + m ≤ 1073741824) (hbase : base ≤ w.heap.size) :
    ∃ A' c' w', (Builtin.append_ #[30, 3] ty #[v, .int .i64 m]).run Try.prog w = .ok (.slice A' (zs.length + m) c') w' ∧ OwnI w' base 21 .i32 (.slice A' (zs.length + m) c') (zs ++ List.replicate m 0) ∧ Below base w w' := by
  obtain ⟨i, hi, hz, h1, h2⟩ := info32
  have hB : ∀ g, v.ownBlock = some g → base ≤ g := fun g hg => (World.ownsRow.lt hown g hg).1
  have ezc : (Builtin.zeroCells (Value.int .i32 0).cells m).toList = List.replicate m (Value.int .i32 0) := by rw [show (Value.int .i32 0).cells = #[.int .i32 0] from rfl, zeroCells_one]
  have hone : ∀ u ∈ (Builtin.zeroCells (Value.int .i32 0).cells m).toList, u.oneCell' = true := by
    intro u hu; rw [ezc] at hu; rw [List.eq_of_mem_replicate hu]; rfl
  have hzl : (zs.map (Value.int .i32)).length = zs.length := by simp
  rcases hown.2 with ⟨rfl, h0'⟩ | ⟨g, cap, cur, rfl, hbg, hg, hnc, hcm, hcs, htake⟩
  · exact absurd (List.eq_nil_of_length_eq_zero (by simpa using h0')) hp
  · by_cases hroom : zs.length + m ≤ cap
    · have hr := run_room_zeros (P := Try.prog) (w := w) 30 3 ty 21 i (.int .i32 0) .i64 Try.underlying30 Try.underlying3 hi hz g zs.length cap cur hg m h0 (by omega) (by omega) (by rw [h2]; omega) hone hroom (by rw [ezc, h1, hcs]; simp; omega)
      refine ⟨_, _, _, hr, ?_, ?_⟩
      · unfold OwnI
        have hll : zs.length + m = (zs ++ List.replicate m (0 : Int)).length := by simp
        rw [hll]
        refine ⟨by simp, .inr ⟨g, cap, _, rfl, hbg, setRow_heap w g cur _ _ _ hg, by simpa using hroom, hcm, ?_, ?_⟩⟩
        · rw [ezc]; simp only [List.size_toArray, List.length_append, List.length_take, List.length_drop, Array.length_toList, List.length_replicate]; rw [h1] at *; simp only [Nat.mul_one] at *; omega
        · rw [ezc]
          simp only [h1, Nat.mul_one] at *
          rw [List.map_append, List.map_replicate]
          have : cur.toList.take zs.length = zs.map (Value.int .i32) := by simpa using htake
          rw [this, List.take_left' (by simp)]
      · exact (Below.refl _ _).grown ⟨rfl, rfl, rfl, by simp, fun k _ hk => setRow_other w g k _ (fun e => hk (by simp [Value.ownBlock, e]))⟩ hbase hB
    · have hf := hown.cells (g := g) rfl
      have hge := grownCap_ge w (zs.length + m) cap 21
      have hcm' : grownCap w (zs.length + m) cap 21 ≤ maxLen := grownCap_le_maxLen w (zs.length + m) cap 21 (by simp only [maxLen]; omega)
      have hfc := run_firstCells_some (P := Try.prog) w.drew i.size zs.length ⟨g, 0, none⟩ zs.length cap (zs.map (Value.int .i32)) (by simp [h1]) (fun j u hj => hf j u hj)
      have hr := Lib.run_append_grow_zeros (P := Try.prog) w 30 3 ty 21 i (.int .i32 0) .i64 .i64 Try.underlying30 Try.underlying3 hi hz (some ⟨g, 0, none⟩) zs.length cap (zs.map (Value.int .i32)) hfc m h0 (by omega) (by omega) (by omega) (by rw [h2]; omega) (growslice_fits (by omega) (by rw [h2]; omega))
      refine ⟨_, _, _, hr, ?_, ?_⟩
      · unfold OwnI
        have hll : zs.length + m = (zs ++ List.replicate m (0 : Int)).length := by simp
        refine ⟨by simp, .inr ⟨w.heap.size, _, _, by rw [hll], hbase, heap_alloc_new w.drew _, by simpa using hge, hcm', ?_, ?_⟩⟩
        · simp only [Array.size_append, List.size_toArray, size_zeroCells, List.length_map, List.length_append, List.length_replicate, show (Value.int .i32 0).cells.size = 1 from rfl]; omega
        · simp only [Array.toList_append, List.append_assoc, ezc]
          rw [← List.append_assoc]
          refine (List.take_left' ?_).trans ?_
          · simp
          · simp
      · exact (Below.refl _ _).grown (row := none) ⟨rfl, rfl, rfl, by simp, fun _ hj _ => heap_alloc_old w.drew _ hj⟩ hbase (by simp)
theorem zeros32 {w : World} {ops : Array Oper} {rest : List Oper} {o : Oper} {a : Act} {Q : Exit → Act → World → Prop} (hgd : o.guard = none) (s x : Operand)
    (ho : o.op = .call { callee := .builtin .append, args := #[s, x], argTypes := #[30, 3] })
    (base : Nat) (v : Value) (zs : List Int) (hs : a.eval s = v) (hown : OwnI w base 21 .i32 v zs) (hp : zs ≠ []) (m : Nat) (hx : a.eval x = .int .i64 m) (h0 : 0 < m)
    (tot : Nat) (htot : zs.length + m = tot) (h63 : tot ≤ 1073741824) (hbase : base ≤ w.heap.size)
    (h : ∀ A' c' w', OwnI w' base 21 .i32 (.slice A' tot c') (zs ++ List.replicate m 0) → Below base w w' → wpList Try.prog ops Q rest (a.put o.dst (.slice A' tot c')) w') : wpList Try.prog ops Q (o :: rest) a w := by
  subst htot
  obtain ⟨A', c', w', hr, h1, h2⟩ := run_zeros32 o.type base v zs hown hp m h0 h63 hbase
  exact Lib.wpList_append_run w hgd s x _ _ ho v (.int .i64 m) hs hx _ _ hr (h A' c' w' h1 h2)
end Go.Proofs.Ytjlmhlagpihehaa.base
