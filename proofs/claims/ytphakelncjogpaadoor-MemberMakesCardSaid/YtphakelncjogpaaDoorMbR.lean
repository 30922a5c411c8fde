/- Records in memory: rows, made, built. -/
import Derived.Test.YtphakelncjogpaaDoorMbW4
import Derived.Test.YtphakelncjogpaaDoorRowE
import Derived.Test.YtphakelncjogpaaDoorTrD2
namespace Go.Proofs.YtphakelncjogpaaDoor.mbW
set_option maxRecDepth 100000
open Go.RowKit Go.Proofs.YtphakelncjogpaaDoor.base Go.Proofs.YtphakelncjogpaaDoor.shP Go.Proofs.YtphakelncjogpaaDoor.shW
open Go.Proofs.YtphakelncjogpaaDoor.trW (IsD sv zd_isD)
set_option linter.unusedVariables false
set_option linter.unusedSimpArgs false
set_option maxRecDepth 100000
structure Rc where
  nm : ByteArray
  sz : Int
  sum : List Int
def rc0 : Rc := ⟨.empty, 0, zd⟩
def rcE (r : Rc) : List Value := .string r.nm :: .int .i64 r.sz :: (List.range 20).map (fun i => Value.int .u8 (r.sum.getD i 0))
def RE : Enc Rc where
  enc := rcE
  n := 22
  T := 54
  d := rc0
  len := fun x => by simp [rcE]
  one := fun x v hv => by
    simp only [rcE, List.mem_cons, List.mem_map] at hv
    rcases hv with rfl | rfl | ⟨i, _, rfl⟩ <;> rfl
  pos := by decide
theorem get20 {l : List Int} (h : l.length = 20) : (List.range 20).map (fun i => Value.int .u8 (l.getD i 0)) = trW.sv l := by
  apply List.ext_getElem?
  intro i
  rw [trW.sv, List.getElem?_map, List.getElem?_map]
  rcases Nat.lt_or_ge i 20 with hi | hi
  · rw [List.getElem?_range hi, List.getElem?_eq_getElem (by omega : i < l.length)]
    simp only [Option.map_some, List.getD_eq_getElem?_getD, List.getElem?_eq_getElem (by omega : i < l.length), Option.getD_some]
  · rw [List.getElem?_eq_none (by simpa using hi), List.getElem?_eq_none (by omega)]; rfl
theorem rcE_eq {r : Rc} (h : r.sum.length = 20) : rcE r = .string r.nm :: .int .i64 r.sz :: trW.sv r.sum := by rw [rcE, get20 h]
theorem infoR : ∃ i z, Tryd.prog.info? 54 = some i ∧ i.zero = some z ∧ i.size = 22 ∧ i.bytes = 48 ∧ z.cells.size = 22 ∧ z.cells = (rcE rc0).toArray := by
  obtain ⟨i, h1, h2, h3, h4⟩ := info_parts (P := Tryd.prog) (e := 54) (z := .agg (rcE rc0).toArray) (size := 22) (bytes := 48) (by kernel_rfl)
  exact ⟨i, _, h1, h2, h3, h4, rfl, rfl⟩
theorem info22 : (Tryd.prog.info? 54).map (·.size) = some RE.n := by kernel_rfl
theorem IR : Enc.Info RE Tryd.prog 25 48 := ⟨Tryd.underlying25, by
  obtain ⟨i, z, h1, h2, h3, h4, h5, _⟩ := infoR
  exact ⟨i, z, h1, h2, h3, h4, h5⟩⟩
/-- A record built of its parts. -/
theorem run_rec {l : List Int} (h : l.length = 20) (s : ByteArray) (n : Int) (w : World) : (Instr.build 54 #[(0, .string s), (1, .int .i64 n), (2, .agg (darr l))]).run Tryd.prog w = .ok (.agg (RE.enc ⟨s, n, l⟩).toArray) w := by
  obtain ⟨a, b, c, d, e, f, g, i, j, k, l, m, n, o, p, q, r, t, u, v, rfl⟩ := trW.match20 h
  kernel_rfl
theorem wp_rec {ops : Array Oper} {rest : List Oper} {o : Oper} {a : Act} {w : World} {Q : Exit → Act → World → Prop} {l : List Int} {s : ByteArray} {n : Int} (hw : Region.wanted o (yielded ops a.tmps) = true) (x y z : Operand) (ho : o.op = .build 54 #[(0, x), (1, y), (2, z)]) (hl : l.length = 20)
    (hx : a.eval x = .string s) (hy : a.eval y = .int .i64 n) (hz : a.eval z = .agg (darr l)) (H : wpList Tryd.prog ops Q rest (a.put o.dst (.agg (RE.enc ⟨s, n, l⟩).toArray)) w) : wpList Tryd.prog ops Q (o :: rest) a w := by
  refine wpList_step fun K hK => ?_
  rw [if_pos hw]
  unfold Oper.wp execOp
  simp only [ho, List.map_toArray, List.map_cons, List.map_nil, hx, hy, hz, Sem.run_bind, Sem.run_pure, run_rec hl, Result.andThen_ok]
  exact hK _ _ H
theorem quiet_rec {o : Oper} {a : Act} {w : World} {C : World → Prop} {l : List Int} {s : ByteArray} {n : Int} (x y z : Operand) (ho : o.op = .build 54 #[(0, x), (1, y), (2, z)]) (hl : l.length = 20)
    (hx : a.eval x = .string s) (hy : a.eval y = .int .i64 n) (hz : a.eval z = .agg (darr l)) : Oper.quietAt Tryd.prog o a C w (.agg (RE.enc ⟨s, n, l⟩).toArray) := by
  unfold Oper.quietAt execOp
  simp only [ho, List.map_toArray, List.map_cons, List.map_nil, hx, hy, hz, Sem.run_bind, Sem.run_pure, run_rec hl, Result.andThen_ok]
  exact ⟨rfl, rfl⟩
/-! Made. -/
theorem made_row {α : Type} (E : Enc α) (n : Nat) : madeCells (E.enc E.d).toArray (n * E.n) = (E.row (List.replicate n E.d)).toArray := by
  apply Array.ext'
  have e1 : (madeCells (E.enc E.d).toArray (n * E.n)).toList = (List.range (n * E.n)).map fun q => (E.enc E.d).toArray[q % (E.enc E.d).toArray.size]! := by
    unfold madeCells
    rw [Array.toList_map, Array.toList_range]
  rw [e1]
  simp only [List.size_toArray, E.len]
  apply List.ext_getElem?
  intro q
  have hl := E.row_len (List.replicate n E.d)
  rw [List.length_replicate] at hl
  rcases Nat.lt_or_ge q (n * E.n) with hq | hq
  · rw [List.getElem?_map, List.getElem?_range hq]
    have hp := E.pos
    have hi : q / E.n < n := (Nat.div_lt_iff_lt_mul hp).2 hq
    have hr := E.row_at (xs := List.replicate n E.d) (i := q / E.n) (by rw [List.length_replicate]; exact hi)
    have hd : (List.replicate n E.d).getD (q / E.n) E.d = E.d := by
      rw [List.getD_eq_getElem?_getD, List.getElem?_replicate]; split <;> rfl
    rw [hd] at hr
    have hm : q % E.n < E.n := Nat.mod_lt _ hp
    have h3 : (E.enc E.d)[q % E.n]? = (E.row (List.replicate n E.d))[q]? := by
      rw [← hr, List.getElem?_take, if_pos hm, List.getElem?_drop, Nat.mul_comm, Nat.div_add_mod]
    show Option.map _ (some q) = (E.row (List.replicate n E.d))[q]?
    rw [← h3]
    have h4 : q % E.n < (E.enc E.d).length := by rw [E.len]; exact hm
    rw [List.getElem?_eq_getElem h4]
    simp [h4]
  · rw [List.getElem?_eq_none (by simpa using hq), List.getElem?_eq_none (by omega)]
def rCells (n : Nat) : Array Value := (RE.row (List.replicate n rc0)).toArray
theorem mkR (n : Nat) (hn : n ≤ 1000000) (w : World) : (Instr.makeSlice 25 (.int .i64 (n : Int)) (.int .i64 (n : Int))).run Tryd.prog w = .ok (.slice (some ⟨w.heap.size, 0, none⟩) n n) (w.alloc (.cells (rCells n) 54)) := by
  obtain ⟨i, z, h1, h2, h3, h4, h5, h6⟩ := infoR
  have hr := run_make (P := Tryd.prog) w 25 54 i z Tryd.underlying25 h1 h2 .i64 .i64 n n (by omega) (by omega) (by rw [h4]; omega) (by omega)
  simp only [Int.toNat_natCast] at hr
  rw [hr, h3, h6]
  have := made_row RE n
  rw [show rCells n = madeCells (rcE rc0).toArray (n * 22) from this.symm]
theorem own_r (w : World) (n : Nat) (hn : n ≤ 1000000) {B g : Nat} (hB : B ≤ g) (hg : w.heap.size = g) : RE.Own (w.alloc (.cells (rCells n) 54)) B (.slice (some ⟨g, 0, none⟩) n n) (List.replicate n rc0) := by
  subst hg
  have hl := RE.row_len (List.replicate n rc0)
  rw [List.length_replicate] at hl
  refine ⟨by rw [RE.row_len], .inr ⟨w.heap.size, n, rCells n, by rw [List.length_replicate], hB, Array.getElem?_push_size, by simp, by unfold maxLen; omega, by simp only [rCells, List.size_toArray]; exact hl, ?_⟩⟩
  unfold rCells
  exact List.take_of_length_le (by rw [List.length_replicate, hl]; exact Nat.le_refl _)
attribute [irreducible] rCells
end Go.Proofs.YtphakelncjogpaaDoor.mbW
