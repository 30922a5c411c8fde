/- Widths, cursors, by walks. -/
import Derived.Test.YtiihafhnaiicoaaDoorOcPlain
import Derived.Test.YtiihafhnaiicoaaDoorSame8
import Derived.Test.YtiihafhnaiicoaaDoorOwnZ
import Derived.Test.YtiihafhnaiicoaaDoorBits
import Derived.Lib.SmallJoins
import Derived.Deep.RegionHeld3
import Derived.BigQuiet
namespace Go.Proofs.YtiihafhnaiicoaaDoor.base
set_option maxRecDepth 100000
open Go.ChangeShapes Go.WideShapes Go.ChangeAt Go.RowKit Go.Joins

/-- A cursor: its bytes, where it stands. -/
structure Cu where
  b : List Int
  a : Int
/-- A slice of bytes among a struct's fields. -/
theorem read_bytes {H : Type} {enc : TypeId × Value → H} {W : World} {t e : TypeId} {k : IntKind} {n : Nat} {v : Value} {y : DataW H × List MemPlace} (ht : Tryd.prog.underlying t = some (.slice e)) (he : Tryd.prog.underlying e = some (.int k)) (hc : Tryd.prog.cellsOf e = 1)
    (h : DataW.trod enc Tryd.prog W 0 (fun _ => true) true n t [v] = some y) : ∃ (a : Option Addr) (len cap : Nat) (zs : List Int), v = .slice a len cap ∧ IsRow k W a len cap zs := by
  rcases open_ints ht he hc h with ⟨hcs, _⟩ | ⟨x, l, c, zs, hcs, _, hl, hm, hz, _, hcell, hwz⟩
  · simp at hcs
    exact ⟨none, 0, 0, [], hcs, .inl ⟨rfl, rfl, rfl, rfl⟩⟩
  · simp at hcs
    exact ⟨some x, l, c, zs, hcs, .inr ⟨x, rfl, hl, hm, by simpa using hz, hcell, hwz⟩⟩
/-- A cursor in memory: its row. -/
structure CuIn (w : World) (A : Option Addr) (n d : Nat) (c : Cu) : Prop where
  a1 : -9223372036854775808 ≤ c.a
  a2 : c.a ≤ 9223372036854775807
  h : Has .u8 w A c.b
  e : c.b.length = n
  c1 : n ≤ d
  c2 : n ≤ 9223372036854775807
  b : ∀ z ∈ c.b, 0 ≤ z ∧ z ≤ 255
theorem CuIn.below {w w' : World} {A : Option Addr} {n d : Nat} {c : Cu} (h : CuIn w A n d c) (hb : Below w.heap.size w w') : CuIn w' A n d c :=
  ⟨h.a1, h.a2, h.h.below hb (Nat.le_refl _), h.e, h.c1, h.c2, h.b⟩
theorem row_caps {k : IntKind} {w : World} {a : Option Addr} {len cap : Nat} {zs : List Int} (h : IsRow k w a len cap zs) : len ≤ cap ∧ cap ≤ maxLen := by
  rcases h with ⟨_, h1, h2, _⟩ | ⟨x, _, h1, h2, _⟩
  · rw [h1, h2]; exact ⟨Nat.le_refl _, Nat.zero_le _⟩
  · exact ⟨h1, h2⟩
theorem read_cursor {H : Type} {enc : TypeId × Value → H} {W : World} {bs : Nat} {v : Value} {d : DataW H} {p : List MemPlace}
    (hv : Value.okWide Tryd.prog W .any bs 79 v) (h : DataW.Trod enc Tryd.prog W 0 (fun _ => true) true 79 v d p) :
    ∃ (A : Option Addr) (n c : Nat) (u : Cu), v = .agg #[.slice A n c, .int .i64 u.a] ∧ CuIn W A n c u := by
  obtain ⟨v0, v1, y0, y1, k, rfl, rfl, rfl, t0, t1⟩ := open_agg2 Tryd.underlying79 (by kernel_rfl) (by kernel_rfl) hv h
  obtain ⟨A, n, c, z, rfl, rp⟩ := read_bytes Tryd.underlying35 Tryd.underlying5 (by kernel_rfl) t0
  obtain ⟨a, e1, rfl, wa⟩ := DataW.trod_int Tryd.underlying3 t1
  simp at e1
  subst e1
  obtain ⟨hp, ep, mp, bp⟩ := has_of_row rp
  have x := bounds_i64 wa
  have q := row_caps rp
  unfold maxLen at q
  exact ⟨A, n, c, ⟨z.take n, a⟩, rfl, ⟨x.1, x.2, hp, ep, q.1, by omega, fun z h => bounds_u8 (bp z h)⟩⟩
end Go.Proofs.YtiihafhnaiicoaaDoor.base
namespace Go.Proofs.YtiihafhnaiicoaaDoor.ocW
set_option maxRecDepth 100000
open Go.RowKit Go.Proofs.YtiihafhnaiicoaaDoor.base Go.Proofs.YtiihafhnaiicoaaDoor.ocP
set_option linter.unusedVariables false
set_option linter.unusedSimpArgs false

def cuB (c : Cu) : Bool := decide (c.b.length ≤ 50000) && (decide (0 ≤ c.a) && decide (c.a ≤ c.b.length))
def cuE (c : Cu) : Int := if cuB c then 0 else 8
theorem cuB_iff (c : Cu) : cuB c = true ↔ c.b.length ≤ 50000 ∧ 0 ≤ c.a ∧ c.a ≤ c.b.length := by simp [cuB]
set_option maxHeartbeats 400000 in
theorem isWidth_any (l : Int) (w : World) : Calls Tryd.prog 43 #[.int .i64 l] w fun e w' => e = .returned (.bool (wdB l)) ∧ w = w' := by
  by_cases h1 : 1 ≤ l
  · go_enter Tryd.func43, Tryd.ntmps43
    go_wp2
    go_ret
    exact ⟨retb (by simp [wdB]; omega), rfl⟩
  · go_enter Tryd.func43, Tryd.ntmps43
    go_wp2
    go_ret
    exact ⟨retb (by simp [wdB]; omega), rfl⟩
set_option maxHeartbeats 1000000 in
theorem Check_any (c : Cu) (A : Option Addr) (n d : Nat) (w : World) (h : CuIn w A n d c) :
    Calls Tryd.prog 65 #[.agg #[.slice A n d, .int .i64 (c).a]] w fun e w' => e = .returned (.int .i64 (cuE c)) ∧ Below w.heap.size w w' := by
  have he := h.e
  have n9 : (n : Int) ≤ 9223372036854775807 := by have := h.c1; have := h.c2; omega
  have HE : Hid (cuE c = if (n : Int) ≤ 50000 ∧ 0 ≤ c.a ∧ c.a ≤ n then 0 else 8) := Lib.hid (by
    unfold cuE
    by_cases hh : (n : Int) ≤ 50000 ∧ 0 ≤ c.a ∧ c.a ≤ n
    · rw [if_pos hh, if_pos ((cuB_iff c).2 ⟨by omega, hh.2.1, by omega⟩)]
    · rw [if_neg hh, if_neg (fun h2 => hh (by have := (cuB_iff c).1 h2; omega))])
  clear h he
  generalize c.a = a at *
  by_cases c1 : (n : Int) ≤ 50000
  · by_cases c2 : 0 ≤ a
    · by_cases c3 : a ≤ n
      · go_enter Tryd.func65, Tryd.ntmps65
        go_wp2
        go_ret
        exact ⟨ret1 (by rw [HE.out, if_pos ⟨c1, c2, c3⟩]), by (repeat' (first | (with_reducible exact Below.refl _ _) | (with_reducible assumption) | (with_reducible refine below_drewN ?_ _) | (with_reducible refine below_new ?_ _) | (with_reducible refine Below.alloc ?_ ?_ _) | (with_reducible refine Below.drew ?_) | (with_reducible refine Below.setCell ?_ ?_ _) | (with_reducible apply below_at; (case k => (with_reducible assumption)); (case hB => omega)) | (with_reducible apply below_on; (with_reducible assumption)) | (go_size; done) | (with_reducible apply size_of)))⟩
      · go_enter Tryd.func65, Tryd.ntmps65
        go_wp2
        go_ret
        exact ⟨ret1 (by rw [HE.out, if_neg (by omega)]), by (repeat' (first | (with_reducible exact Below.refl _ _) | (with_reducible assumption) | (with_reducible refine below_drewN ?_ _) | (with_reducible refine below_new ?_ _) | (with_reducible refine Below.alloc ?_ ?_ _) | (with_reducible refine Below.drew ?_) | (with_reducible refine Below.setCell ?_ ?_ _) | (with_reducible apply below_at; (case k => (with_reducible assumption)); (case hB => omega)) | (with_reducible apply below_on; (with_reducible assumption)) | (go_size; done) | (with_reducible apply size_of)))⟩
    · go_enter Tryd.func65, Tryd.ntmps65
      go_wp2
      go_ret
      exact ⟨ret1 (by rw [HE.out, if_neg (by omega)]), by (repeat' (first | (with_reducible exact Below.refl _ _) | (with_reducible assumption) | (with_reducible refine below_drewN ?_ _) | (with_reducible refine below_new ?_ _) | (with_reducible refine Below.alloc ?_ ?_ _) | (with_reducible refine Below.drew ?_) | (with_reducible refine Below.setCell ?_ ?_ _) | (with_reducible apply below_at; (case k => (with_reducible assumption)); (case hB => omega)) | (with_reducible apply below_on; (with_reducible assumption)) | (go_size; done) | (with_reducible apply size_of)))⟩
  · go_enter Tryd.func65, Tryd.ntmps65
    go_wp2
    go_ret
    exact ⟨ret1 (by rw [HE.out, if_neg (by omega)]), by (repeat' (first | (with_reducible exact Below.refl _ _) | (with_reducible assumption) | (with_reducible refine below_drewN ?_ _) | (with_reducible refine below_new ?_ _) | (with_reducible refine Below.alloc ?_ ?_ _) | (with_reducible refine Below.drew ?_) | (with_reducible refine Below.setCell ?_ ?_ _) | (with_reducible apply below_at; (case k => (with_reducible assumption)); (case hB => omega)) | (with_reducible apply below_on; (with_reducible assumption)) | (go_size; done) | (with_reducible apply size_of)))⟩
set_option maxHeartbeats 1000000 in
theorem left_ok (c : Cu) (A : Option Addr) (n d : Nat) (w : World) (h1 : 0 ≤ c.a) (h2 : c.a ≤ n) (h3 : n ≤ 50000) :
    Calls Tryd.prog 67 #[.agg #[.slice A n d, .int .i64 (c).a]] w fun e w' => e = .returned (.int .i64 ((n : Int) - c.a)) ∧ Below w.heap.size w w' := by
  have n9 : (n : Int) ≤ 50000 := by omega
  clear h3
  generalize c.a = a at *
  go_enter Tryd.func67, Tryd.ntmps67
  go_wp2
  go_ret
  exact ⟨rfl, by (repeat' (first | (with_reducible exact Below.refl _ _) | (with_reducible assumption) | (with_reducible refine below_drewN ?_ _) | (with_reducible refine below_new ?_ _) | (with_reducible refine Below.alloc ?_ ?_ _) | (with_reducible refine Below.drew ?_) | (with_reducible refine Below.setCell ?_ ?_ _) | (with_reducible apply below_at; (case k => (with_reducible assumption)); (case hB => omega)) | (with_reducible apply below_on; (with_reducible assumption)) | (go_size; done) | (with_reducible apply size_of)))⟩
def leftV (c : Cu) : Int := if cuB c then (c.b.length : Int) - c.a else 0
end Go.Proofs.YtiihafhnaiicoaaDoor.ocW
