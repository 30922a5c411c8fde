/- Whether a mixer is valid, by walks. -/
import Derived.Test.YtjikddndlnimoaaMxPlain
import Derived.Test.YtjikddndlnimoaaRfWD
import Derived.Lib.Hide
import Derived.StillTailTactics
namespace Go.Proofs.Ytjikddndlnimoaa.base
set_option maxRecDepth 100000
open Go.ChangeShapes Go.WideShapes Go.ChangeAt Go.RowKit Go.Deep
set_option linter.unusedVariables false
theorem read_mixer {H : Type} {enc : TypeId × Value → H} {W : World} {bs : Nat} {v : Value} {d : DataW H} {p : List MemPlace}
    (hv : Value.okWide Try.prog W .any bs 24 v) (h : DataW.Trod enc Try.prog W 0 (fun _ => true) true 24 v d p) :
    ∃ (P : Option Addr) (m c : Nat) (rs : List RY), v = .agg #[.slice P m c] ∧ RowsY W P m c rs := by
  obtain ⟨v0, y0, k, rfl, rfl, rfl, t0⟩ := open_agg1 Try.underlying24 (by kernel_rfl) (by kernel_rfl) hv h
  obtain ⟨P, m, c, rs, hcs, h1, h2, h3, h4⟩ := read_rows_y t0
  simp at hcs
  subst hcs
  exact ⟨_, _, _, rs, rfl, h1, h2, h3, h4⟩
structure MxAt (w : World) (g : Nat) (A : Option Addr) (n d : Nat) (qs : List RY) : Prop where
  lies : Lies w g 24 [.slice A n d]
  rows : RowsY w A n d qs
section
variable {w w' : World} {g : Nat} {A : Option Addr} {n d : Nat} {qs : List RY}
theorem MxAt.past (h : MxAt w g A n d qs) (hb : Below w.heap.size w w') : MxAt w' g A n d qs := ⟨h.lies.past hb, h.rows.past hb⟩
theorem MxAt.alloc (h : MxAt w g A n d qs) (o : Obj) : MxAt (w.alloc o) g A n d qs := h.past ((Below.refl _ _).alloc (Nat.le_refl _) _)
theorem MxAt.cell (h : MxAt w g A n d qs) : w.cell? ⟨g, 0, none⟩ = some (.slice A n d) := h.lies.cell 0
theorem mxAt_new (h : RowsY w A n d qs) : MxAt (w.alloc (.cells #[.slice A n d] 24)) w.heap.size A n d qs := ⟨Lies.fresh _ _ _, h.past ((Below.refl _ _).alloc (Nat.le_refl _) _)⟩
theorem below_bs {w w1 w2 : World} (h : Below w.heap.size w w1) (hb : Below w1.heap.size w1 w2) : Below w.heap.size w w2 := h.trans (hb.mono h.size)
theorem below_al {w w1 : World} (h : Below w.heap.size w w1) (o : Obj) : Below w.heap.size w (w1.alloc o) := h.alloc h.size o
theorem below_dN {w w1 : World} (h : Below w.heap.size w w1) (n : Nat) : Below w.heap.size w (w1.drewN n) := below_drewN h n
end
end Go.Proofs.Ytjikddndlnimoaa.base
namespace Go.Proofs.Ytjikddndlnimoaa.mxW
set_option maxRecDepth 100000
open Go.RowKit Go.Proofs.Ytjikddndlnimoaa.base Go.Proofs.Ytjikddndlnimoaa.rfP Go.Proofs.Ytjikddndlnimoaa.mxP
set_option linter.unusedVariables false
set_option linter.unusedSimpArgs false
set_option maxHeartbeats 800000 in
theorem Check_any (P : Option Addr) (m c : Nat) (rs : List RY) (w : World) (h : RowsY w P m c rs) :
    Calls Try.prog 20 #[.agg #[.slice P m c]] w fun e w' => e = .returned (.int .i64 (mxE (numsY rs))) ∧ Below w.heap.size w w' := by
  have H := Lib.hid h
  have HLN : Hid (rs.length = m) := Lib.hid h.l
  have m9 : (m : Int) ≤ 9223372036854775807 := by have := h.c1; have := h.c2; omega
  by_cases a1 : (m : Int) < 1
  · rw [mxE_no (mxB_len (by rw [nums_len, HLN.out]; omega))]
    clear h
    go_enter Try.func20, Try.ntmps20
    go_wp2_with fail
    go_ret
    exact ⟨rfl, by (repeat' (first | (with_reducible exact Below.refl _ _) | (with_reducible assumption) | (with_reducible refine below_drewN ?_ _) | (with_reducible refine below_new ?_ _) | (with_reducible refine Below.alloc ?_ ?_ _) | (with_reducible refine Below.drew ?_) | (with_reducible refine Below.setCell ?_ ?_ _) | (with_reducible apply below_at; (case k => (with_reducible assumption)); (case hB => omega)) | (with_reducible apply below_on; (with_reducible assumption)) | (go_size; done) | (with_reducible apply size_of)))⟩
  by_cases a2 : (256 : Int) < m
  · rw [mxE_no (mxB_len (by rw [nums_len, HLN.out]; omega))]
    clear h
    go_enter Try.func20, Try.ntmps20
    go_wp2_with fail
    go_ret
    exact ⟨rfl, by (repeat' (first | (with_reducible exact Below.refl _ _) | (with_reducible assumption) | (with_reducible refine below_drewN ?_ _) | (with_reducible refine below_new ?_ _) | (with_reducible refine Below.alloc ?_ ?_ _) | (with_reducible refine Below.drew ?_) | (with_reducible refine Below.setCell ?_ ?_ _) | (with_reducible apply below_at; (case k => (with_reducible assumption)); (case hB => omega)) | (with_reducible apply below_on; (with_reducible assumption)) | (go_size; done) | (with_reducible apply size_of)))⟩
  have HM : Hid (1 ≤ m ∧ m ≤ 256) := Lib.hid (by omega)
  obtain ⟨b, off, rfl, hb, hc⟩ := h.h.some (by rw [HLN.out]; omega)
  have HB : Hid (Below w.heap.size w (w.alloc (.cells #[.slice (some ⟨b, off, none⟩) m c] 24))) := Lib.hid (by (repeat' (first | (with_reducible exact Below.refl _ _) | (with_reducible assumption) | (with_reducible refine below_drewN ?_ _) | (with_reducible refine below_new ?_ _) | (with_reducible refine Below.alloc ?_ ?_ _) | (with_reducible refine Below.drew ?_) | (with_reducible refine Below.setCell ?_ ?_ _) | (with_reducible apply below_at; (case k => (with_reducible assumption)); (case hB => omega)) | (with_reducible apply below_on; (with_reducible assumption)) | (go_size; done) | (with_reducible apply size_of))))
  have HC : Hid (∀ k, k < m → (w.alloc (.cells #[.slice (some ⟨b, off, none⟩) m c] 24)).cell? ⟨b, off + k, none⟩ = some (.slice (rs.getD k ry0).A (rs.getD k ry0).n (rs.getD k ry0).c)) := Lib.hid (fun k hk => by rw [HB.out.cell (p := ⟨b, _, none⟩) hb]; exact hc k (by rw [HLN.out]; exact hk))
  have HI : Hid (∀ k, k < m → InY w (rs.getD k ry0)) := Lib.hid (fun k hk => (h.h.get k (by rw [HLN.out]; exact hk)))
  clear h hc
  go_enter Try.func20, Try.ntmps20
  go_wp2_with fail
  generalize w.alloc (.cells #[.slice (some ⟨b, off, none⟩) m c] 24) = wo at *
  go_loopw [18] (fun iv wr => ∃ k : Nat, k ≤ m ∧ iv = .int .i64 k ∧ setsB (numsY rs) k ∧ wr = wo) (fun iv _ => m - (intOf iv).toNat)
  case atStart => exact ⟨0, by omega, rfl, fun x hx => absurd hx (by omega), rfl⟩
  case round =>
    obtain ⟨k, hk, rfl, hro, rfl⟩ := hrel
    have HRO := Lib.hid hro
    by_cases hlt : k < m
    · have HLT := Lib.hid hlt
      have k1 : (k : Int) < m := by omega
      have k0 : 0 ≤ (k : Int) := by omega
      have z1 := HC.out k hlt
      have HIK := Lib.hid (HI.out k hlt)
      have HNA := Lib.hid (nums_at rs k (by rw [HLN.out]; exact hlt))
      have HNL : Hid (k < (numsY rs).length) := Lib.hid (by rw [nums_len, HLN.out]; exact hlt)
      generalize rs.getD k ry0 = r at *
      obtain ⟨A, n, d, z⟩ := r
      have HZN : Hid (z.length = n) := Lib.hid HIK.out.e
      clear hk hro hlt
      by_cases hn : n = 8
      · subst hn
        have HRK : Hid (setsB (numsY rs) (k + 1)) := Lib.hid (fun x hx => by
          rcases Nat.lt_or_ge x k with h1 | h1
          · exact HRO.out x h1
          · have : x = k := by omega
            subst this
            rw [HNA.out]
            exact HZN.out)
        go_wp2_with fail
        exact ⟨⟨k + 1, by have := HLT.out; omega, by go_num, HRK.out, by trivial⟩, by simp [intOf]; have := HLT.out; omega⟩
      · have hn' : ¬ (n : Int) = 8 := by omega
        have HE := Lib.hid (mxE_no (setsB_not HNL.out (by rw [HNA.out]; show z.length ≠ 8; rw [HZN.out]; exact hn)))
        go_wp2_with fail
        refine bodyPost_ret (by simp [results, Try.results20, go_sem, ]; try rfl) rfl ?_
        exact ⟨by rw [HE.out], HB.out⟩
    · have HE := Lib.hid (mxE_yes (setsB_all (l := numsY rs) (by rw [nums_len, HLN.out]; exact HM.out.1) (by rw [nums_len, HLN.out]; exact HM.out.2) (by rw [nums_len, HLN.out]; exact (show k = m by omega) ▸ hro)))
      have k1 : ¬ (k : Int) < m := by omega
      clear hk hro hlt
      go_wp2_with fail
      refine bodyPost_ret (by simp [results, Try.results20, go_sem, ]; try rfl) rfl ?_
      exact ⟨by rw [HE.out], HB.out⟩
set_option maxHeartbeats 800000 in
theorem rCheck_any (P : Option Addr) (m c : Nat) (rs : List RY) (w : World) (h : RowsY w P m c rs) :
    Calls Try.prog 21 #[.agg #[.slice P m c]] w fun e w' => e = .returned (.int .i64 (mxE (numsY rs))) ∧ Below w.heap.size w w' := by
  have H := Lib.hid h
  have HLN : Hid (rs.length = m) := Lib.hid h.l
  have m9 : (m : Int) ≤ 9223372036854775807 := by have := h.c1; have := h.c2; omega
  by_cases a1 : (m : Int) < 1
  · rw [mxE_no (mxB_len (by rw [nums_len, HLN.out]; omega))]
    clear h
    go_enter Try.func21, Try.ntmps21
    go_wp2_with fail
    go_ret
    exact ⟨rfl, by (repeat' (first | (with_reducible exact Below.refl _ _) | (with_reducible assumption) | (with_reducible refine below_drewN ?_ _) | (with_reducible refine below_new ?_ _) | (with_reducible refine Below.alloc ?_ ?_ _) | (with_reducible refine Below.drew ?_) | (with_reducible refine Below.setCell ?_ ?_ _) | (with_reducible apply below_at; (case k => (with_reducible assumption)); (case hB => omega)) | (with_reducible apply below_on; (with_reducible assumption)) | (go_size; done) | (with_reducible apply size_of)))⟩
  by_cases a2 : (256 : Int) < m
  · rw [mxE_no (mxB_len (by rw [nums_len, HLN.out]; omega))]
    clear h
    go_enter Try.func21, Try.ntmps21
    go_wp2_with fail
    go_ret
    exact ⟨rfl, by (repeat' (first | (with_reducible exact Below.refl _ _) | (with_reducible assumption) | (with_reducible refine below_drewN ?_ _) | (with_reducible refine below_new ?_ _) | (with_reducible refine Below.alloc ?_ ?_ _) | (with_reducible refine Below.drew ?_) | (with_reducible refine Below.setCell ?_ ?_ _) | (with_reducible apply below_at; (case k => (with_reducible assumption)); (case hB => omega)) | (with_reducible apply below_on; (with_reducible assumption)) | (go_size; done) | (with_reducible apply size_of)))⟩
  have HM : Hid (1 ≤ m ∧ m ≤ 256) := Lib.hid (by omega)
  obtain ⟨b, off, rfl, hb, hc⟩ := h.h.some (by rw [HLN.out]; omega)
  have HB : Hid (Below w.heap.size w (w.alloc (.cells #[.slice (some ⟨b, off, none⟩) m c] 24))) := Lib.hid (by (repeat' (first | (with_reducible exact Below.refl _ _) | (with_reducible assumption) | (with_reducible refine below_drewN ?_ _) | (with_reducible refine below_new ?_ _) | (with_reducible refine Below.alloc ?_ ?_ _) | (with_reducible refine Below.drew ?_) | (with_reducible refine Below.setCell ?_ ?_ _) | (with_reducible apply below_at; (case k => (with_reducible assumption)); (case hB => omega)) | (with_reducible apply below_on; (with_reducible assumption)) | (go_size; done) | (with_reducible apply size_of))))
  have HC : Hid (∀ k, k < m → (w.alloc (.cells #[.slice (some ⟨b, off, none⟩) m c] 24)).cell? ⟨b, off + k, none⟩ = some (.slice (rs.getD k ry0).A (rs.getD k ry0).n (rs.getD k ry0).c)) := Lib.hid (fun k hk => by rw [HB.out.cell (p := ⟨b, _, none⟩) hb]; exact hc k (by rw [HLN.out]; exact hk))
  have HI : Hid (∀ k, k < m → InY w (rs.getD k ry0)) := Lib.hid (fun k hk => (h.h.get k (by rw [HLN.out]; exact hk)))
  have HX : Hid ((w.alloc (.cells #[.slice (some ⟨b, off, none⟩) m c] 24)).cell? ⟨w.heap.size, 0, none⟩ = some (.slice (some ⟨b, off, none⟩) m c)) := Lib.hid ((Lies.fresh w 24 [.slice (some ⟨b, off, none⟩) m c]).cell 0)
  clear h hc
  go_enter Try.func21, Try.ntmps21
  go_wp2_with fail
  generalize w.alloc (.cells #[.slice (some ⟨b, off, none⟩) m c] 24) = wo at *
  go_loopw [3] (fun iv wr => ∃ k : Nat, k ≤ m ∧ iv = .int .i64 k ∧ setsB (numsY rs) k ∧ wr = wo) (fun iv _ => m - (intOf iv).toNat)
  case atStart => exact ⟨0, by omega, rfl, fun x hx => absurd hx (by omega), rfl⟩
  case round =>
    obtain ⟨k, hk, rfl, hro, rfl⟩ := hrel
    have HRO := Lib.hid hro
    have x1 := HX.out
    by_cases hlt : k < m
    · have HLT := Lib.hid hlt
      have k1 : (k : Int) < m := by omega
      have k0 : 0 ≤ (k : Int) := by omega
      have z1 := HC.out k hlt
      have HIK := Lib.hid (HI.out k hlt)
      have HNA := Lib.hid (nums_at rs k (by rw [HLN.out]; exact hlt))
      have HNL : Hid (k < (numsY rs).length) := Lib.hid (by rw [nums_len, HLN.out]; exact hlt)
      generalize rs.getD k ry0 = r at *
      obtain ⟨A, n, d, z⟩ := r
      have HZN : Hid (z.length = n) := Lib.hid HIK.out.e
      clear hk hro hlt
      by_cases hn : n = 8
      · subst hn
        have HRK : Hid (setsB (numsY rs) (k + 1)) := Lib.hid (fun x hx => by
          rcases Nat.lt_or_ge x k with h1 | h1
          · exact HRO.out x h1
          · have : x = k := by omega
            subst this
            rw [HNA.out]
            exact HZN.out)
        go_wp2_with fail
        exact ⟨⟨k + 1, by have := HLT.out; omega, by go_num, HRK.out, by trivial⟩, by simp [intOf]; have := HLT.out; omega⟩
      · have hn' : ¬ (n : Int) = 8 := by omega
        have HE := Lib.hid (mxE_no (setsB_not HNL.out (by rw [HNA.out]; show z.length ≠ 8; rw [HZN.out]; exact hn)))
        go_wp2_with fail
        refine bodyPost_ret (by simp [results, Try.results21, go_sem, ]; try rfl) rfl ?_
        exact ⟨by rw [HE.out], HB.out⟩
    · have HE := Lib.hid (mxE_yes (setsB_all (l := numsY rs) (by rw [nums_len, HLN.out]; exact HM.out.1) (by rw [nums_len, HLN.out]; exact HM.out.2) (by rw [nums_len, HLN.out]; exact (show k = m by omega) ▸ hro)))
      have k1 : ¬ (k : Int) < m := by omega
      clear hk hro hlt
      go_wp2_with fail
      refine bodyPost_ret (by simp [results, Try.results21, go_sem, ]; try rfl) rfl ?_
      exact ⟨by rw [HE.out], HB.out⟩
end Go.Proofs.Ytjikddndlnimoaa.mxW
