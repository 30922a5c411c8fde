/- Headers in memory; Check of both, by walks. -/
import Derived.Test.YteofindkccndjaaDoorHdPlain
import Derived.Test.YteofindkccndjaaDoorShW3
import Derived.Deep.MidRow
namespace Go.Proofs.YteofindkccndjaaDoor.hdW
set_option maxRecDepth 100000
open Go.RowKit Go.Proofs.YteofindkccndjaaDoor.base Go.Proofs.YteofindkccndjaaDoor.hdP
set_option linter.unusedVariables false
set_option linter.unusedSimpArgs false
def sv (s : List Int) : List Value := s.map (Value.int .u8)
def hl (h : Hd) : List Value := .int .u8 h.mo :: .int .i64 h.me :: .int .i64 h.of :: .int .i64 h.ra :: .int .i64 h.le :: sv h.s
def hv (h : Hd) : Array Value := (hl h).toArray
/-- A header at the head of block g. -/
def HdAt (w : World) (g : Nat) (h : Hd) : Prop := Lies w g 25 (hl h)
theorem hdAt_new (w : World) (h : Hd) : HdAt (w.alloc (.cells (hv h) 25)) w.heap.size h := Lies.fresh _ _ _
section
variable {w w' : World} {g : Nat} {h : Hd}
theorem HdAt.past (k : HdAt w g h) (hb : Below w.heap.size w w') : HdAt w' g h := Lies.past k hb
theorem HdAt.c0 (k : HdAt w g h) : w.cell? ⟨g, 0, none⟩ = some (.int .u8 h.mo) := Lies.cell k 0
theorem HdAt.c1 (k : HdAt w g h) : w.cell? ⟨g, 1, none⟩ = some (.int .i64 h.me) := Lies.cell k 1
theorem HdAt.c2 (k : HdAt w g h) : w.cell? ⟨g, 2, none⟩ = some (.int .i64 h.of) := Lies.cell k 2
theorem HdAt.c3 (k : HdAt w g h) : w.cell? ⟨g, 3, none⟩ = some (.int .i64 h.ra) := Lies.cell k 3
theorem HdAt.c4 (k : HdAt w g h) : w.cell? ⟨g, 4, none⟩ = some (.int .i64 h.le) := Lies.cell k 4
theorem HdAt.lt (k : HdAt w g h) : g < w.heap.size := Lies.lt k
theorem HdAt.rng (k : HdAt w g h) : w.rangeAt g 5 (sv h.s) := fun j v hv => by
  have := Lies.cell k (5 + j)
  rw [this, ← hv, Nat.add_comm]
  rfl
theorem HdAt.row (k : HdAt w g h) : w.heap[g]? = some (.cells (hv h) 25 (0, 0)) := k
end
attribute [irreducible] hv
set_option maxRecDepth 100000 in
set_option maxHeartbeats 1600000 in
theorem Check_any (h : Hd) (w : World) (hb : Bd h) : Calls Tryd.prog 13 #[.agg (hv h)] w fun e w' => e = .returned (.int .i64 (hdE h)) ∧ Below w.heap.size w w' := by
  have A0 := hdAt_new w h
  have B0 : Hid (Below w.heap.size w (w.alloc (.cells (hv h) 25))) := Lib.hid (by (repeat' (first | (with_reducible exact Below.refl _ _) | (with_reducible assumption) | (with_reducible refine below_drewN ?_ _) | (with_reducible refine below_new ?_ _) | (with_reducible refine Below.alloc ?_ ?_ _) | (with_reducible refine Below.drew ?_) | (with_reducible refine Below.setCell ?_ ?_ _) | (with_reducible apply below_at; (case k => (with_reducible assumption)); (case hB => omega)) | (with_reducible apply below_on; (with_reducible assumption)) | (go_size; done) | (with_reducible apply size_of))))
  obtain ⟨mo, me, of, ra, le, s⟩ := h
  have a0 := A0.c0
  have a1 := A0.c1
  have a2 := A0.c2
  have a3 := A0.c3
  have a4 := A0.c4
  have HY : Hid (Ok ⟨mo, me, of, ra, le, s⟩ → hdE ⟨mo, me, of, ra, le, s⟩ = 0) := Lib.hid hdE_yes
  have HN : Hid (¬ Ok ⟨mo, me, of, ra, le, s⟩ → hdE ⟨mo, me, of, ra, le, s⟩ = 8) := Lib.hid hdE_no
  simp only [Ok] at HY HN
  obtain ⟨b0, b1, b2, b3, b4, b5, b6⟩ := hb
  simp only [] at *
  clear A0 b5 b6
  generalize hdE ⟨mo, me, of, ra, le, s⟩ = e0 at *
  go_enter Tryd.func13, Tryd.ntmps13
  go_upto_region 1 with fail
  generalize (w.alloc (.cells (hv ⟨mo, me, of, ra, le, s⟩) 25)) = w0 at *
  by_cases c1 : me < 0
  · go_wp2_with fail
    go_ret
    exact ⟨by rw [HN.out (by first | omega | (simp; omega))]; rfl, B0.out⟩
  · by_cases c2 : 16 ≤ me
    · go_wp2_with fail
      go_ret
      exact ⟨by rw [HN.out (by first | omega | (simp; omega))]; rfl, B0.out⟩
    · by_cases c3 : ra < 1
      · go_wp2_with fail
        go_ret
        exact ⟨by rw [HN.out (by first | omega | (simp; omega))]; rfl, B0.out⟩
      · by_cases c4 : 4096 < ra
        · go_wp2_with fail
          go_ret
          exact ⟨by rw [HN.out (by first | omega | (simp; omega))]; rfl, B0.out⟩
        · by_cases c5 : of < 0
          · go_wp2_with fail
            go_ret
            exact ⟨by rw [HN.out (by first | omega | (simp; omega))]; rfl, B0.out⟩
          · by_cases c6 : 8192 - ra < of
            · go_wp2_with fail
              go_ret
              exact ⟨by rw [HN.out (by first | omega | (simp; omega))]; rfl, B0.out⟩
            · by_cases c7 : mo = 1
              · subst c7
                by_cases c8 : le = ra
                · subst c8
                  go_wp2_with fail
                  go_ret
                  exact ⟨by rw [HY.out (by first | omega | (simp; omega))]; rfl, B0.out⟩
                · have d8 : (le == ra) = false := by simpa using c8
                  go_wp2_with fail
                  go_ret
                  exact ⟨by rw [HN.out (by first | omega | (simp; omega))]; rfl, B0.out⟩
              · by_cases c8 : mo = 2
                · subst c8
                  by_cases c9 : 1 ≤ le
                  · by_cases cA : le < ra
                    · go_wp2_with fail
                      go_ret
                      exact ⟨by rw [HY.out (by first | omega | (simp; omega))]; rfl, B0.out⟩
                    · go_wp2_with fail
                      go_ret
                      exact ⟨by rw [HN.out (by first | omega | (simp; omega))]; rfl, B0.out⟩
                  · go_wp2_with fail
                    go_ret
                    exact ⟨by rw [HN.out (by first | omega | (simp; omega))]; rfl, B0.out⟩
                · go_wp2_with fail
                  go_ret
                  exact ⟨by rw [HN.out (by first | omega | (simp; omega))]; rfl, B0.out⟩
set_option maxRecDepth 100000 in
set_option maxHeartbeats 1600000 in
theorem rCheck (h : Hd) (w : World) (hb : Bd h) : Calls Tryd.prog 14 #[.agg (hv h)] w fun e w' => e = .returned (.int .i64 (hdE h)) ∧ Below w.heap.size w w' := by
  have A0 := hdAt_new w h
  have B0 : Hid (Below w.heap.size w (w.alloc (.cells (hv h) 25))) := Lib.hid (by (repeat' (first | (with_reducible exact Below.refl _ _) | (with_reducible assumption) | (with_reducible refine below_drewN ?_ _) | (with_reducible refine below_new ?_ _) | (with_reducible refine Below.alloc ?_ ?_ _) | (with_reducible refine Below.drew ?_) | (with_reducible refine Below.setCell ?_ ?_ _) | (with_reducible apply below_at; (case k => (with_reducible assumption)); (case hB => omega)) | (with_reducible apply below_on; (with_reducible assumption)) | (go_size; done) | (with_reducible apply size_of))))
  obtain ⟨mo, me, of, ra, le, s⟩ := h
  have a0 := A0.c0
  have a1 := A0.c1
  have a2 := A0.c2
  have a3 := A0.c3
  have a4 := A0.c4
  have HY : Hid (Ok ⟨mo, me, of, ra, le, s⟩ → hdE ⟨mo, me, of, ra, le, s⟩ = 0) := Lib.hid hdE_yes
  have HN : Hid (¬ Ok ⟨mo, me, of, ra, le, s⟩ → hdE ⟨mo, me, of, ra, le, s⟩ = 8) := Lib.hid hdE_no
  simp only [Ok] at HY HN
  obtain ⟨b0, b1, b2, b3, b4, b5, b6⟩ := hb
  simp only [] at *
  clear A0 b5 b6
  generalize hdE ⟨mo, me, of, ra, le, s⟩ = e0 at *
  go_enter Tryd.func14, Tryd.ntmps14
  go_upto_region 1 with fail
  generalize (w.alloc (.cells (hv ⟨mo, me, of, ra, le, s⟩) 25)) = w0 at *
  by_cases c1 : me < 0
  · go_wp2_with fail
    go_ret
    exact ⟨by rw [HN.out (by first | omega | (simp; omega))]; rfl, B0.out⟩
  · by_cases c2 : 16 ≤ me
    · go_wp2_with fail
      go_ret
      exact ⟨by rw [HN.out (by first | omega | (simp; omega))]; rfl, B0.out⟩
    · by_cases c3 : ra < 1
      · go_wp2_with fail
        go_ret
        exact ⟨by rw [HN.out (by first | omega | (simp; omega))]; rfl, B0.out⟩
      · by_cases c4 : 4096 < ra
        · go_wp2_with fail
          go_ret
          exact ⟨by rw [HN.out (by first | omega | (simp; omega))]; rfl, B0.out⟩
        · by_cases c5 : of < 0
          · go_wp2_with fail
            go_ret
            exact ⟨by rw [HN.out (by first | omega | (simp; omega))]; rfl, B0.out⟩
          · by_cases c6 : 8192 - ra < of
            · go_wp2_with fail
              go_ret
              exact ⟨by rw [HN.out (by first | omega | (simp; omega))]; rfl, B0.out⟩
            · by_cases c7 : mo = 1
              · subst c7
                by_cases c8 : le = ra
                · subst c8
                  go_wp2_with fail
                  go_ret
                  exact ⟨by rw [HY.out (by first | omega | (simp; omega))]; rfl, B0.out⟩
                · have d8 : (le == ra) = false := by simpa using c8
                  go_wp2_with fail
                  go_ret
                  exact ⟨by rw [HN.out (by first | omega | (simp; omega))]; rfl, B0.out⟩
              · by_cases c8 : mo = 2
                · subst c8
                  by_cases c9 : 1 ≤ le
                  · by_cases cA : le < ra
                    · go_wp2_with fail
                      go_ret
                      exact ⟨by rw [HY.out (by first | omega | (simp; omega))]; rfl, B0.out⟩
                    · go_wp2_with fail
                      go_ret
                      exact ⟨by rw [HN.out (by first | omega | (simp; omega))]; rfl, B0.out⟩
                  · go_wp2_with fail
                    go_ret
                    exact ⟨by rw [HN.out (by first | omega | (simp; omega))]; rfl, B0.out⟩
                · go_wp2_with fail
                  go_ret
                  exact ⟨by rw [HN.out (by first | omega | (simp; omega))]; rfl, B0.out⟩
end Go.Proofs.YteofindkccndjaaDoor.hdW
