/- The bytes of five words, by a walk. -/
import Derived.Test.YtphakelncjogpaaDoorShW7
namespace Go.Proofs.YtphakelncjogpaaDoor.shW
set_option maxRecDepth 100000
open Go.RowKit Go.Proofs.YtphakelncjogpaaDoor.base Go.Proofs.YtphakelncjogpaaDoor.shP
set_option linter.unusedVariables false
set_option linter.unusedSimpArgs false
def wl (h : W5) : List Int := wbytes h
theorem wbytes_len (h : W5) : (wbytes h).length = 20 := rfl
theorem wbytes_at (h : W5) (i : Nat) (hi : i < 20) : (wbytes h).getD i 0 = (l5 h).getD (i / 4) 0 / 2 ^ (24 - 8 * (i % 4)) % 256 := by
  rcases (show i = 0 ∨ i = 1 ∨ i = 2 ∨ i = 3 ∨ i = 4 ∨ i = 5 ∨ i = 6 ∨ i = 7 ∨ i = 8 ∨ i = 9 ∨ i = 10 ∨ i = 11 ∨ i = 12 ∨ i = 13 ∨ i = 14 ∨ i = 15 ∨ i = 16 ∨ i = 17 ∨ i = 18 ∨ i = 19 by omega) with rfl | rfl | rfl | rfl | rfl | rfl | rfl | rfl | rfl | rfl | rfl | rfl | rfl | rfl | rfl | rfl | rfl | rfl | rfl | rfl <;> (first | rfl | simp [wbytes, l5])
/-- The digest's cells, the first k told. -/
def bc (h : W5) (k : Nat) : List Value := fill (.int .u8 0) ((wbytes h).map (Value.int .u8)) k
theorem bc_len (h : W5) {k : Nat} (hk : k ≤ 20) : (bc h k).length = 20 := by rw [bc, fill_len (by simp [wbytes_len]; omega)]; simp [wbytes_len]
theorem bc_set (h : W5) {k : Nat} (hk : k < 20) (x : Int) (hx : x = (wbytes h).getD k 0) : (bc h k).set k (.int .u8 x) = bc h (k + 1) := by
  have e := fill_set (z := Value.int .u8 0) (l := (wbytes h).map (Value.int .u8)) (k := k) (by simp [wbytes_len]; omega) (.int .u8 0)
  have e2 : ((wbytes h).map (Value.int .u8)).getD k (.int .u8 0) = .int .u8 x := by
    have h2 : k < (wbytes h).length := by rw [wbytes_len]; omega
    rw [hx, List.getD_eq_getElem?_getD, List.getElem?_map, List.getD_eq_getElem?_getD, List.getElem?_eq_getElem h2]; rfl
  rw [e2] at e
  exact e
/-- A digest as an array. -/
def darr (l : List Int) : Array Value := (l.map (Value.int .u8)).toArray
def z20 : List Value := List.replicate 20 (.int .u8 0)
theorem bc_0 (h : W5) : bc h 0 = z20 := by rw [bc, fill_zero]; rfl
theorem bc_20 (h : W5) (k : Nat) (hk : k = 20) : (bc h k).toArray = darr (wbytes h) := by subst hk; rw [bc, fill_all (by simp [wbytes_len])]; rfl
theorem dsize (h : W5) : (darr (wbytes h)).size = 20 := rfl
theorem done1 (h : W5) : ∀ v ∈ (darr (wbytes h)).toList, v.oneCell' = true := by
  intro v hv
  simp only [darr, List.mem_map] at hv
  obtain ⟨i, _, rfl⟩ := hv
  rfl
theorem info20 (h : W5) : (Tryd.prog.info? 52).map (·.size) = some (darr (wbytes h)).size := by rw [dsize]; kernel_rfl
set_option maxRecDepth 100000 in
set_option maxHeartbeats 4000000 in
theorem wordBytes (h : W5) (w : World) (hh : In5 h) : Calls Tryd.prog 55 #[a5 h] w fun e w' => e = .returned (.agg (darr (wbytes h))) ∧ Below w.heap.size w w' := by
  have hl : ∀ i, i < 5 → 0 ≤ (l5 h).getD i 0 ∧ (l5 h).getD i 0 ≤ 4294967295 := by
    intro i hi
    obtain ⟨h1, h2, h3, h4, h5⟩ := hh
    rcases (show i = 0 ∨ i = 1 ∨ i = 2 ∨ i = 3 ∨ i = 4 by omega) with rfl | rfl | rfl | rfl | rfl <;> assumption
  have HLB := Lib.hid hl
  have HH := Lib.hid hh
  clear hl hh
  simp only [a5, c5, l5, List.map_cons, List.map_nil]
  go_enter Tryd.func55, Tryd.ntmps55
  go_wp2_with fail
  go_loopw [5] (fun i wr => ∃ k : Nat, k ≤ 20 ∧ i = .int .i64 k ∧ Lies (wr) (w.heap.size) 98 (c5 (h)) ∧ Lies wr (w.heap.size + 1) 52 z20 ∧ Lies wr (w.heap.size + 1 + 1) 52 (bc h k) ∧ Below w.heap.size w wr) (fun i _ => 20 - (intOf i).toNat)
  case atStart =>
    refine ⟨0, by omega, rfl, ((Lies.fresh _ _ (c5 h)).alloc _).alloc _, ?_, ?_, by (repeat' (first | (with_reducible exact Below.refl _ _) | (with_reducible assumption) | (with_reducible refine below_drewN ?_ _) | (with_reducible refine below_new ?_ _) | (with_reducible refine Below.alloc ?_ ?_ _) | (with_reducible refine Below.drew ?_) | (with_reducible refine Below.setCell ?_ ?_ _) | (with_reducible apply below_at; (case k => (with_reducible assumption)); (case hB => omega)) | (with_reducible apply below_on; (with_reducible assumption)) | (go_size; done) | (with_reducible apply size_of)))⟩
    · exact (Lies.fresh_at (cs := z20) (by simp)).alloc _
    · rw [bc_0]; exact Lies.fresh_at (cs := z20) (by simp)
  case round =>
    obtain ⟨k, hk, rfl, R, Z, D, acc⟩ := hrel
    have HR := Lib.hid R
    have HZ := Lib.hid Z
    have HD := Lib.hid D
    have HACC := Lib.hid acc
    by_cases hlt : k < 20
    · have p0 : wr.cell? ⟨w.heap.size, k / 4, none⟩ = some (.int .u32 ((l5 h).getD (k / 4) 0)) := by rw [R.cell, c5, List.getElem?_map, l5_get h (k / 4) (by omega)]; rfl
      obtain ⟨x1, x2⟩ := HLB.out (k / 4) (by omega)
      have p2 := D.free k
      obtain ⟨old, q0⟩ : ∃ old, wr.cell? ⟨w.heap.size + 1 + 1, k, none⟩ = some old := ⟨_, (D.cell k).trans (List.getElem?_eq_getElem (by rw [bc_len h (by omega)]; omega))⟩
      have zk := D.lt
      have HX := Lib.hid (wbytes_at h k hlt)
      have HLT := Lib.hid hlt
      have k0 : 0 ≤ (k : Int) := by omega
      have k1 : (k : Int) < 20 := by omega
      have n1 : (k : Int) / 4 < 5 := by omega
      have n0 : 0 ≤ (k : Int) / 4 := by omega
      have n2 : ((k : Int) / 4).toNat = k / 4 := by omega
      have m1 : (24 - 8 * ((k : Int) % 4)).toNat = 24 - 8 * (k % 4) := by omega
      have m2 : 0 ≤ 24 - 8 * ((k : Int) % 4) := by omega
      have m3 : 24 - 8 * ((k : Int) % 4) ≤ 24 := by omega
      clear R Z D acc hk hlt
      generalize (l5 h).getD (k / 4) 0 = x at *
      go_wp2_with fail
      refine ⟨⟨k + 1, by have := HLT.out; omega, by go_num, HR.out.other (by show w.heap.size + 1 + 1 ≠ w.heap.size; omega) _, HZ.out.other (by show w.heap.size + 1 + 1 ≠ w.heap.size + 1; omega) _, ?_, by have := HACC.out; (repeat' (first | (with_reducible exact Below.refl _ _) | (with_reducible assumption) | (with_reducible refine below_drewN ?_ _) | (with_reducible refine below_new ?_ _) | (with_reducible refine Below.alloc ?_ ?_ _) | (with_reducible refine Below.drew ?_) | (with_reducible refine Below.setCell ?_ ?_ _) | (with_reducible apply below_at; (case k => (with_reducible assumption)); (case hB => omega)) | (with_reducible apply below_on; (with_reducible assumption)) | (go_size; done) | (with_reducible apply size_of)))⟩, by simp [intOf]; have := HLT.out; omega⟩
      have := HD.out.set k (.int .u8 (x / 2 ^ (24 - 8 * (k % 4)) % 256))
      rwa [bc_set h HLT.out _ HX.out.symm] at this
    · have k20 : ¬ (k : Int) < 20 := by omega
      have HD' : Hid (wr.heap[w.heap.size + 1 + 1]? = some (.cells (darr (wbytes h)) 52 (0, 0))) := Lib.hid (by rw [← bc_20 h k (by omega)]; exact HD.out)
      have HP := Lib.hid (done1 h)
      clear R Z D acc hk hlt HD
      go_upto_region 7 with fail
      go_step
      refine wpList_load_row (P := Tryd.prog) rfl 52 (.tmp 3) rfl (w.heap.size + 1 + 1) rfl 52 (darr (wbytes h)) (0, 0) _ HD'.out Tryd.underlying52 rfl (info20 h) ?_
      refine wpList_store_arr (P := Tryd.prog) rfl 52 (.tmp 2) (.tmp 21) rfl (w.heap.size + 1) rfl (darr (wbytes h)) rfl 52 _ HZ.out rfl HP.out (info20 h) ?_
      intro w9 hR9 hb9 hz9
      go_wp2_with fail
      refine bodyPost_ret (results_cell_row (P := Tryd.prog) Tryd.results55 _ _ _ _ _ _ _ rfl hR9 Tryd.underlying52 rfl (info20 h)) rfl ⟨rfl, ?_⟩
      exact HACC.out.trans (hb9.mono (by omega))
end Go.Proofs.YtphakelncjogpaaDoor.shW
