/- Pieces checked: the program's. -/
import Derived.Test.YthckpenindchlaaSpPlM
namespace Go.Proofs.Ythckpenindchlaa.spW
set_option maxRecDepth 100000
open Go.RowKit Go.Proofs.Ythckpenindchlaa.base Go.Proofs.Ythckpenindchlaa.mbW
set_option linter.unusedVariables false
set_option linter.unusedSimpArgs false
set_option maxRecDepth 100000
structure PsB (w : World) (P : Option Addr) (m d : Nat) (l : List Pc) : Prop where
  h : PE.Has w P l
  ln : l.length = m
  c1 : m ≤ d
  c2 : d ≤ 9223372036854775807
  z : ∀ p ∈ l, (-9223372036854775808 ≤ p.m ∧ p.m ≤ 9223372036854775807) ∧ (-9223372036854775808 ≤ p.o ∧ p.o ≤ 9223372036854775807) ∧ (-9223372036854775808 ≤ p.r ∧ p.r ≤ 9223372036854775807)
theorem PsB.past {w w' : World} {P : Option Addr} {m d : Nat} {l : List Pc} (h : PsB w P m d l) (hb : Below w.heap.size w w') : PsB w' P m d l := ⟨h.h.past hb, h.ln, h.c1, h.c2, h.z⟩
theorem psZ {w : World} {P : Option Addr} {m d : Nat} {l : List Pc} (h : PsB w P m d l) {k : Nat} (hk : k < m) : (-9223372036854775808 ≤ (l.getD k pc0).m ∧ (l.getD k pc0).m ≤ 9223372036854775807) ∧ (-9223372036854775808 ≤ (l.getD k pc0).o ∧ (l.getD k pc0).o ≤ 9223372036854775807) ∧ (-9223372036854775808 ≤ (l.getD k pc0).r ∧ (l.getD k pc0).r ≤ 9223372036854775807) := by
  have hl := h.ln
  rw [List.getD_eq_getElem?_getD, List.getElem?_eq_getElem (by omega)]
  exact h.z _ (List.getElem_mem _)
/-- One of the pieces, in a later world. -/
theorem psAt {w : World} {P : Option Addr} {m d : Nat} {l : List Pc} (h : PsB w P m d l) {k : Nat} (hk : k < m) : ∃ b off, P = some ⟨b, off, none⟩ ∧ b < w.heap.size ∧ ∀ j, j < m → ∀ w', Below w.heap.size w w' → w'.rangeAt b (off + j * 3) (pcE (l.getD j pc0)) := by
  have hl := h.ln
  obtain ⟨b, off, e, hb⟩ := h.h.some (by omega : 0 < l.length)
  subst e
  exact ⟨b, off, rfl, hb, fun j hj w' hw => (h.h.past hw).rng (i := j) (by omega)⟩
theorem wp_ldP {ops : Array Oper} {rest : List Oper} {o : Oper} {a : Act} {w : World} {Q : Exit → Act → World → Prop} {g off : Nat} (x y z : Int) (hw : Region.wanted o (yielded ops a.tmps) = true) (p : Operand) (ho : o.op = .load 46 p) (k : w.rangeAt g off (pcE ⟨x, y, z⟩))
    (hx : a.eval p = .pointer (some ⟨g, off, none⟩)) (H : wpList Try.prog ops Q rest (a.put o.dst (.agg #[.int .i64 x, .int .i64 y, .int .i64 z])) w) : wpList Try.prog ops Q (o :: rest) a w :=
  Enc.wp_ld PE (x := ⟨x, y, z⟩) Try.underlying46 rfl info3 hw p ho k hx H
theorem rngC {w : World} {b off : Nat} {x y z : Int} (h : w.rangeAt b off (pcE ⟨x, y, z⟩)) : w.cell? ⟨b, off, none⟩ = some (.int .i64 x) ∧ w.cell? ⟨b, off + 1, none⟩ = some (.int .i64 y) ∧ w.cell? ⟨b, off + 2, none⟩ = some (.int .i64 z) := ⟨h 0 _ rfl, h 1 _ rfl, h 2 _ rfl⟩
theorem snocW {zs : List Int} {l : List Pc} {k : Nat} (h : ∀ j, j < k → wiP zs (l.getD j pc0)) (hk : wiP zs (l.getD k pc0)) : ∀ j, j < k + 1 → wiP zs (l.getD j pc0) := by
  intro j hj
  rcases Nat.lt_or_ge j k with h' | h'
  · exact h j h'
  · obtain rfl : j = k := by omega
    exact hk
set_option maxHeartbeats 6400000 in
theorem checkPieces_any (zs : List Int) (P : Option Addr) (m d : Nat) (l : List Pc) (Q : Option Addr) (n c : Nat) (w : World) (hZ : ZsB w P m d zs) (hL : PsB w Q n c l) :
    Calls Try.prog 27 #[.slice P m d, .slice Q n c] w fun e w' => e = .returned (.int .i64 (cpE zs l)) ∧ Below w.heap.size w w' := by
  have HZ := Lib.hid hZ
  have HZL := Lib.hid hZ.l
  have HL := Lib.hid hL
  have HLL := Lib.hid hL.ln
  have m9 : (m : Int) ≤ 9223372036854775807 := by have := hZ.c1; have := hZ.c2; omega
  have n9 : (n : Int) ≤ 9223372036854775807 := by have := hL.c1; have := hL.c2; omega
  clear hZ hL
  by_cases c0 : (600 : Int) < n
  · have HE := Lib.hid (cp_many (zs := zs) (l := l) (by rw [HLL.out]; omega))
    go_enter Try.func27, Try.ntmps27
    go_wp2_with fail
    go_ret
    exact ⟨by rw [HE.out]; rfl, Below.refl _ _⟩
  have H6 : Hid (¬ 600 < l.length) := Lib.hid (by rw [HLL.out]; omega)
  go_enter Try.func27, Try.ntmps27
  go_wp2_with fail
  go_loopw [12] (fun iv wr => ∃ k : Nat, k ≤ n ∧ iv = .int .i64 (k : Int) ∧ (∀ j, j < k → wiP zs (l.getD j pc0)) ∧ Below w.heap.size w wr) (fun iv _ => n - (intOf iv).toNat)
  case atStart => exact ⟨0, Nat.zero_le _, rfl, by intro j hj; omega, Below.refl _ _⟩
  case round =>
    obtain ⟨k, hk, rfl, hs, acc⟩ := hrel
    rename World => wr
    have HS := Lib.hid hs
    have HACC := Lib.hid acc
    by_cases hlt : k < n
    · obtain ⟨b, off, rfl, hb, hc⟩ := psAt HL.out hlt
      have HRG := Lib.hid (hc k hlt wr acc)
      have HK := Lib.hid hlt
      have k1 : (k : Int) < n := by omega
      have k0 : 0 ≤ (k : Int) := by omega
      have HBD := Lib.hid (psZ HL.out hlt)
      have HBADS := Lib.hid (fun (h : ¬ wiP zs (l.getD k pc0)) => cp_bad H6.out (by rw [HLL.out]; exact hlt) h)
      have HSN := Lib.hid (fun (h : wiP zs (l.getD k pc0)) => snocW hs h)
      generalize l.getD k pc0 = p at *
      obtain ⟨pm, po, pr⟩ := p
      dsimp only at HBD
      have B1 := Lib.hid (mb_bb acc (mb_new wr (.cells #[.int .i64 pm, .int .i64 po, .int .i64 pr] 46)))
      have L1 := Lib.hid (Lies.fresh wr 46 [.int .i64 pm, .int .i64 po, .int .i64 pr])
      clear hk hlt hs acc hc hb
      by_cases c1 : pm < 0
      · have HE := Lib.hid (HBADS.out (fun h => by have := h.1; dsimp only at this; omega))
        (go_wp2_with (show wpList _ _ _ ({ dst := _, op := Op.load 46 _, type := _, pos := _, after := _, guard := _ } :: _) _ _; go_must (refine wp_ldP (pm) (po) (pr) (by rfl) _ rfl (HRG.out) rfl ?_)); go_ret; exact ⟨by rw [HE.out]; rfl, B1.out⟩)
      by_cases c2 : (m : Int) ≤ pm
      · have HE := Lib.hid (HBADS.out (fun h => by have := h.2.1; rw [HZL.out] at this; dsimp only at this; omega))
        (go_wp2_with (show wpList _ _ _ ({ dst := _, op := Op.load 46 _, type := _, pos := _, after := _, guard := _ } :: _) _ _; go_must (refine wp_ldP (pm) (po) (pr) (by rfl) _ rfl (HRG.out) rfl ?_)); go_ret; exact ⟨by rw [HE.out]; rfl, B1.out⟩)
      by_cases c3 : po < 0
      · have HE := Lib.hid (HBADS.out (fun h => by have := h.2.2.1; dsimp only at this; omega))
        (go_wp2_with (show wpList _ _ _ ({ dst := _, op := Op.load 46 _, type := _, pos := _, after := _, guard := _ } :: _) _ _; go_must (refine wp_ldP (pm) (po) (pr) (by rfl) _ rfl (HRG.out) rfl ?_)); go_ret; exact ⟨by rw [HE.out]; rfl, B1.out⟩)
      by_cases c4 : pr < 1
      · have HE := Lib.hid (HBADS.out (fun h => by have := h.2.2.2.1; dsimp only at this; omega))
        (go_wp2_with (show wpList _ _ _ ({ dst := _, op := Op.load 46 _, type := _, pos := _, after := _, guard := _ } :: _) _ _; go_must (refine wp_ldP (pm) (po) (pr) (by rfl) _ rfl (HRG.out) rfl ?_)); go_ret; exact ⟨by rw [HE.out]; rfl, B1.out⟩)
      obtain ⟨i, rfl⟩ : ∃ i : Nat, pm = (i : Int) := ⟨pm.toNat, by omega⟩
      have hi : i < m := by omega
      obtain ⟨b2, off2, rfl, hb2, hc2⟩ := zsAt HZ.out hi
      have y0 := hc2 i hi _ B1.out
      have ltb : b2 < (wr.alloc (.cells #[.int .i64 (i : Int), .int .i64 po, .int .i64 pr] 46)).heap.size := Nat.lt_of_lt_of_le hb2 B1.out.size
      obtain ⟨x0, x1, x2, -, -, -⟩ := L1.out.three
      have ltg := L1.out.lt
      have HI : Hid ((i : Int).toNat = i) := Lib.hid (by omega)
      have c1' : 0 ≤ (i : Int) := by omega
      have c2' : (i : Int) < m := by omega
      have HZB := Lib.hid (zsZ HZ.out hi)
      have HWI : Hid (wiP zs ⟨i, po, pr⟩ ↔ pr ≤ zs.getD i 0 ∧ po ≤ zs.getD i 0 - pr) := Lib.hid (by
        unfold wiP
        dsimp only
        rw [HI.out, HZL.out]
        constructor
        · rintro ⟨_, _, _, _, h5, h6⟩; exact ⟨h5, h6⟩
        · rintro ⟨h5, h6⟩; exact ⟨by omega, by omega, by omega, by omega, h5, h6⟩)
      generalize zs.getD i 0 = z at *
      clear hi hb2 hc2 c1 c2
      go_upto_region 8 with (first | (show wpList _ _ _ ({ dst := _, op := Op.load 46 _, type := _, pos := _, after := _, guard := _ } :: _) _ _; go_must (refine wp_ldP ((i : Int)) (po) (pr) (by rfl) _ rfl (HRG.out) rfl ?_)))
      generalize (wr.alloc (.cells #[.int .i64 (i : Int), .int .i64 po, .int .i64 pr] 46)) = w1 at *
      by_cases c5 : z < pr
      · have HE := Lib.hid (HBADS.out (fun h => by have := (HWI.out.1 h).1; omega))
        go_quiet (fail)
        go_wp2_with fail
        go_ret
        exact ⟨by rw [HE.out]; rfl, by have := B1.out; (repeat' (first | (with_reducible exact Below.refl _ _) | (with_reducible assumption) | (with_reducible refine below_drewN ?_ _) | (with_reducible refine below_new ?_ _) | (with_reducible refine Below.alloc ?_ ?_ _) | (with_reducible refine Below.drew ?_) | (with_reducible refine Below.setCell ?_ ?_ _) | (with_reducible apply below_at; (case k => (with_reducible assumption)); (case hB => omega)) | (with_reducible apply below_on; (with_reducible assumption)) | (go_size; done) | (with_reducible apply size_of)))⟩
      have hw : IntKind.i64.wrap (z - pr) = z - pr := by rw [IntKind.wrap_i64]; have := HZB.out; omega
      by_cases c6 : z - pr < po
      · have HE := Lib.hid (HBADS.out (fun h => by have := (HWI.out.1 h).2; omega))
        go_quiet (fail)
        go_wp2_with fail
        go_ret
        exact ⟨by rw [HE.out]; rfl, by have := B1.out; (repeat' (first | (with_reducible exact Below.refl _ _) | (with_reducible assumption) | (with_reducible refine below_drewN ?_ _) | (with_reducible refine below_new ?_ _) | (with_reducible refine Below.alloc ?_ ?_ _) | (with_reducible refine Below.drew ?_) | (with_reducible refine Below.setCell ?_ ?_ _) | (with_reducible apply below_at; (case k => (with_reducible assumption)); (case hB => omega)) | (with_reducible apply below_on; (with_reducible assumption)) | (go_size; done) | (with_reducible apply size_of)))⟩
      have HN := Lib.hid (HSN.out (HWI.out.2 ⟨by omega, by omega⟩))
      go_quiet (fail)
      go_wp2_with fail
      go_roundw
      case rel => exact ⟨k + 1, HK.out, by go_num, HN.out, by have := B1.out; (repeat' (first | (with_reducible exact Below.refl _ _) | (with_reducible assumption) | (with_reducible refine below_drewN ?_ _) | (with_reducible refine below_new ?_ _) | (with_reducible refine Below.alloc ?_ ?_ _) | (with_reducible refine Below.drew ?_) | (with_reducible refine Below.setCell ?_ ?_ _) | (with_reducible apply below_at; (case k => (with_reducible assumption)); (case hB => omega)) | (with_reducible apply below_on; (with_reducible assumption)) | (go_size; done) | (with_reducible apply size_of)))⟩
      case measure => simp [intOf]; have := HK.out; omega
    · have k1 : ¬ (k : Int) < n := by omega
      obtain rfl : k = n := by omega
      have HE := Lib.hid (cp_ok H6.out (by rw [HLL.out]; exact HS.out))
      clear hk hlt hs acc
      go_wp2_with fail
      go_ret
      exact ⟨by rw [HE.out]; rfl, HACC.out⟩
end Go.Proofs.Ythckpenindchlaa.spW
