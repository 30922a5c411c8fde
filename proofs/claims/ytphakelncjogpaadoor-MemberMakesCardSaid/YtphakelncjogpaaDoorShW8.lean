/- The reference's Done, by a walk: its words. -/
import Derived.Test.YtphakelncjogpaaDoorShW5
import Derived.Test.YtphakelncjogpaaDoorMemU
import Derived.Test.YtphakelncjogpaaDoorOrd
import Derived.StillTailTactics
import Derived.Test.YtphakelncjogpaaDoorOwnZ
namespace Go.Proofs.YtphakelncjogpaaDoor.shW
set_option maxRecDepth 100000
open Go.RowKit Go.Proofs.YtphakelncjogpaaDoor.base Go.Proofs.YtphakelncjogpaaDoor.shP
set_option linter.unusedVariables false
set_option linter.unusedSimpArgs false
theorem own_alU {w : World} {B : Nat} {e : TypeId} {k : IntKind} {v : Value} {zs : List Int} (h : OwnI w B e k v zs) (o : Obj) : OwnI (w.alloc o) B e k v zs := h.below ((Below.refl _ _).alloc (Nat.le_refl _) _) (Nat.le_refl _)
theorem own_drU {w : World} {B : Nat} {e : TypeId} {k : IntKind} {v : Value} {zs : List Int} (h : OwnI w B e k v zs) : OwnI w.drew B e k v zs := h
theorem own_drNU {w : World} {B : Nat} {e : TypeId} {k : IntKind} {v : Value} {zs : List Int} (h : OwnI w B e k v zs) (n : Nat) : OwnI (w.drewN n) B e k v zs := h
def cellOr (w : World) (g i : Nat) : Value := (w.cell? ⟨g, i, none⟩).getD undef
theorem cellOr_of {w : World} {g i : Nat} {v : Value} (h : w.cell? ⟨g, i, none⟩ = some v) : w.cell? ⟨g, i, none⟩ = some (cellOr w g i) := by unfold cellOr; rw [h]; rfl
theorem cellOr_val {w : World} {g i : Nat} {v : Value} (h : w.cell? ⟨g, i, none⟩ = some v) : cellOr w g i = v := by unfold cellOr; rw [h]; rfl
theorem cellOr_drew (w : World) (g i : Nat) : cellOr w.drew g i = cellOr w g i := rfl
theorem cellOr_drewN (w : World) (n g i : Nat) : cellOr (w.drewN n) g i = cellOr w g i := rfl
theorem or_val {w : World} {g : Nat} {v : W5} (h : Lies (w) (g) 98 (c5 (v))) : cellOr w g 0 = .int .u32 v.a ∧ cellOr w g 1 = .int .u32 v.b ∧ cellOr w g 2 = .int .u32 v.c ∧ cellOr w g 3 = .int .u32 v.d ∧ cellOr w g 4 = .int .u32 v.e := by
  obtain ⟨h0, h1, h2, h3, h4⟩ := five h
  exact ⟨cellOr_val h0, cellOr_val h1, cellOr_val h2, cellOr_val h3, cellOr_val h4⟩
theorem five_or {w : World} {g : Nat} {t : TypeId} {a b c d e : Value} (h : Lies w g t [a, b, c, d, e]) : (w.cell? ⟨g, 0, none⟩ = some (cellOr w g 0) ∧ w.cell? ⟨g, 1, none⟩ = some (cellOr w g 1) ∧ w.cell? ⟨g, 2, none⟩ = some (cellOr w g 2) ∧ w.cell? ⟨g, 3, none⟩ = some (cellOr w g 3) ∧ w.cell? ⟨g, 4, none⟩ = some (cellOr w g 4)) ∧ (w.frozen? ⟨g, 0, none⟩ = false ∧ w.frozen? ⟨g, 1, none⟩ = false ∧ w.frozen? ⟨g, 2, none⟩ = false ∧ w.frozen? ⟨g, 3, none⟩ = false ∧ w.frozen? ⟨g, 4, none⟩ = false) :=
  ⟨⟨cellOr_of (h.cell 0), cellOr_of (h.cell 1), cellOr_of (h.cell 2), cellOr_of (h.cell 3), cellOr_of (h.cell 4)⟩, free5 h⟩
attribute [irreducible] cellOr
theorem lies_set5v {w : World} {g : Nat} {t : TypeId} {x0 x1 x2 x3 x4 a b c d e : Value} (h : Lies w g t [x0, x1, x2, x3, x4]) : Lies (((((w.setCell ⟨g, 0, none⟩ a).setCell ⟨g, 1, none⟩ b).setCell ⟨g, 2, none⟩ c).setCell ⟨g, 3, none⟩ d).setCell ⟨g, 4, none⟩ e) g t [a, b, c, d, e] := ((((h.set 0 a).set 1 b).set 2 c).set 3 d).set 4 e
def AtC (w : World) (g t : Nat) (v : Value) : Prop := w.cell? ⟨g, t, none⟩ = some v
theorem AtC.drew {w : World} {g t : Nat} {v : Value} (h : AtC w g t v) : AtC w.drew g t v := h
theorem AtC.drewN {w : World} {g t : Nat} {v : Value} (h : AtC w g t v) (n : Nat) : AtC (w.drewN n) g t v := h
theorem AtC.set {w : World} {g g' t i : Nat} {v x : Value} (h : AtC w g t v) (hne : g' ≠ g) : AtC (w.setCell ⟨g', i, none⟩ x) g t v := by
  unfold AtC
  rw [World.cell?_setCell_far _ _ _ _ hne]
  exact h
theorem L5of {w : World} {g : Nat} {a b c d e : Int} (h : Lies (w) (g) 98 (c5 (⟨a, b, c, d, e⟩))) : Lies w g 98 [.int .u32 a, .int .u32 b, .int .u32 c, .int .u32 d, .int .u32 e] := h
set_option maxRecDepth 100000 in
set_option maxHeartbeats 4000000 in
theorem rDone (h : W5) (b : List Int) (A : Option Addr) (d : Nat) (w : World) (hA : Has .u8 w A b) (hl : b.length = 64) (hd : 64 ≤ d) (hb : ∀ z ∈ b, 0 ≤ z ∧ z ≤ 255) (hh : In5 h) :
    Calls Tryd.prog 47 #[a5 h, .slice A 64 d] w fun e w' => e = .returned (a5 (dn h b)) ∧ Below w.heap.size w w' := by
  obtain ⟨B, off, rfl, hB, hc⟩ := has_some hA (by omega)
  have HC := Lib.hid hc
  have HL := Lib.hid hl
  have HBD := Lib.hid hb
  have HH := Lib.hid hh
  clear hA hl hb hh hc
  simp only [a5, c5, l5, List.map_cons, List.map_nil]
  go_enter Tryd.func47, Tryd.ntmps47
  go_wp2_with fail
  go_loopw [5, 6] (fun v i wr => ∃ (k : Nat) (A : Option Addr) (c : Nat), k ≤ 16 ∧ i = .int .i64 k ∧ v = .slice A k c ∧ OwnI wr (w.heap.size + 2) 97 .u32 (.slice A k c) (sch b k) ∧ Lies (wr) (w.heap.size) 98 (c5 (h)) ∧ Lies (wr) (w.heap.size + 1) 98 (c5 (⟨0, 0, 0, 0, 0⟩)) ∧ Below w.heap.size w wr) (fun _ i _ => 16 - (intOf i).toNat)
  case atStart => exact ⟨0, none, 0, by omega, rfl, rfl, OwnI.nil _ _ _ _, (Lies.fresh _ _ (c5 h)).alloc _, Lies.fresh_at (cs := c5 ⟨0, 0, 0, 0, 0⟩) (by simp), by (repeat' (first | (with_reducible exact Below.refl _ _) | (with_reducible assumption) | (with_reducible refine below_drewN ?_ _) | (with_reducible refine below_new ?_ _) | (with_reducible refine Below.alloc ?_ ?_ _) | (with_reducible refine Below.drew ?_) | (with_reducible refine Below.setCell ?_ ?_ _) | (with_reducible apply below_at; (case k => (with_reducible assumption)); (case hB => omega)) | (with_reducible apply below_on; (with_reducible assumption)) | (go_size; done) | (with_reducible apply size_of)))⟩
  case round =>
    obtain ⟨k, A, c, hk, rfl, rfl, own, R, Z, acc⟩ := hrel
    have HO := Lib.hid own
    have HR := Lib.hid R
    have HZ := Lib.hid Z
    have HACC := Lib.hid acc
    by_cases hlt : k < 16
    · obtain ⟨c0, c1, c2, c3⟩ := four_cells HC.out HL.out hlt
      rw [← acc.cell (p := ⟨B, _, none⟩) hB] at c0 c1 c2 c3
      obtain ⟨e0, f0⟩ := getD_bd HBD.out (4 * k)
      obtain ⟨e1, f1⟩ := getD_bd HBD.out (4 * k + 1)
      obtain ⟨e2, f2⟩ := getD_bd HBD.out (4 * k + 2)
      obtain ⟨e3, f3⟩ := getD_bd HBD.out (4 * k + 3)
      have hcc : ∀ W : World, Below w.heap.size w W → W.cell? ⟨B, off + 4 * k, none⟩ = some (.int .u8 (b.getD (4 * k) 0)) ∧ W.cell? ⟨B, off + (4 * k + 1), none⟩ = some (.int .u8 (b.getD (4 * k + 1) 0)) ∧ W.cell? ⟨B, off + (4 * k + 2), none⟩ = some (.int .u8 (b.getD (4 * k + 2) 0)) ∧ W.cell? ⟨B, off + (4 * k + 3), none⟩ = some (.int .u8 (b.getD (4 * k + 3) 0)) := fun W hW => by
        obtain ⟨c0, c1, c2, c3⟩ := four_cells HC.out HL.out hlt
        exact ⟨(hW.cell (p := ⟨B, _, none⟩) hB).trans c0, (hW.cell (p := ⟨B, _, none⟩) hB).trans c1, (hW.cell (p := ⟨B, _, none⟩) hB).trans c2, (hW.cell (p := ⟨B, _, none⟩) hB).trans c3⟩
      have HW : Hid (sch b (k + 1) = sch b k ++ [((b.getD (4 * k) 0 * 256 + b.getD (4 * k + 1) 0) * 256 + b.getD (4 * k + 2) 0) * 256 + b.getD (4 * k + 3) 0]) := Lib.hid (by rw [sch, if_pos hlt]; rfl)
      have HSL := Lib.hid (sch_len b k)
      have HLT := Lib.hid hlt
      have k1 : (k : Int) < 16 := by omega
      have k0 : 0 ≤ (k : Int) := by omega
      have HSZ : Hid (w.heap.size + 2 ≤ wr.heap.size) := Lib.hid (by have := Z.lt; omega)
      clear own R Z acc hk hlt
      generalize b.getD (4 * k) 0 = y0 at *
      generalize b.getD (4 * k + 1) 0 = y1 at *
      generalize b.getD (4 * k + 2) 0 = y2 at *
      generalize b.getD (4 * k + 3) 0 = y3 at *
      have HCC := Lib.hid hcc
      clear hcc
      have m0 : IntKind.i64.wrap (4 * (k : Int)) = 4 * (k : Int) := IntWalk.i64_in _ (by omega)
      have m1 : IntKind.i64.wrap (4 * (k : Int) + 1) = 4 * (k : Int) + 1 := IntWalk.i64_in _ (by omega)
      have m2 : IntKind.i64.wrap (4 * (k : Int) + 2) = 4 * (k : Int) + 2 := IntWalk.i64_in _ (by omega)
      have m3 : IntKind.i64.wrap (4 * (k : Int) + 3) = 4 * (k : Int) + 3 := IntWalk.i64_in _ (by omega)
      have n0 : (4 * (k : Int)).toNat = 4 * k := by omega
      have n1 : (4 * (k : Int) + 1).toNat = 4 * k + 1 := by omega
      have n2 : (4 * (k : Int) + 2).toNat = 4 * k + 2 := by omega
      have n3 : (4 * (k : Int) + 3).toNat = 4 * k + 3 := by omega
      have o0 : 0 ≤ 4 * (k : Int) := by omega
      have o1 : 0 ≤ 4 * (k : Int) + 1 := by omega
      have o2 : 0 ≤ 4 * (k : Int) + 2 := by omega
      have o3 : 0 ≤ 4 * (k : Int) + 3 := by omega
      have p0 : 4 * (k : Int) < 64 := by omega
      have p1 : 4 * (k : Int) + 1 < 64 := by omega
      have p2 : 4 * (k : Int) + 2 < 64 := by omega
      have p3 : 4 * (k : Int) + 3 < 64 := by omega
      have r0 : IntKind.u32.wrap y0 = y0 := by rw [IntKind.wrap_u32]; omega
      have r1 : IntKind.u32.wrap y1 = y1 := by rw [IntKind.wrap_u32]; omega
      have r2 : IntKind.u32.wrap y2 = y2 := by rw [IntKind.wrap_u32]; omega
      have r3 : IntKind.u32.wrap y3 = y3 := by rw [IntKind.wrap_u32]; omega
      have s0 : IntKind.u32.wrap (y0 * 256) = y0 * 256 := by rw [IntKind.wrap_u32]; omega
      have s1 : IntKind.u32.wrap (y0 * 256 + y1) = y0 * 256 + y1 := by rw [IntKind.wrap_u32]; omega
      have s2 : IntKind.u32.wrap ((y0 * 256 + y1) * 256) = (y0 * 256 + y1) * 256 := by rw [IntKind.wrap_u32]; omega
      have s3 : IntKind.u32.wrap ((y0 * 256 + y1) * 256 + y2) = (y0 * 256 + y1) * 256 + y2 := by rw [IntKind.wrap_u32]; omega
      have s4 : IntKind.u32.wrap (((y0 * 256 + y1) * 256 + y2) * 256) = ((y0 * 256 + y1) * 256 + y2) * 256 := by rw [IntKind.wrap_u32]; omega
      have s5 : IntKind.u32.wrap (((y0 * 256 + y1) * 256 + y2) * 256 + y3) = ((y0 * 256 + y1) * 256 + y2) * 256 + y3 := by rw [IntKind.wrap_u32]; omega
      go_wp2_with fail
      go_region_held3 (fun x' => x'.cell? ⟨B, off + 4 * k, none⟩ = some (.int .u8 y0) ∧ x'.cell? ⟨B, off + (4 * k + 1), none⟩ = some (.int .u8 y1) ∧ x'.cell? ⟨B, off + (4 * k + 2), none⟩ = some (.int .u8 y2) ∧ x'.cell? ⟨B, off + (4 * k + 3), none⟩ = some (.int .u8 y3))
        ((exact HCC.out _ (by have := HACC.out; (repeat' (first | (with_reducible exact Below.refl _ _) | (with_reducible assumption) | (with_reducible refine below_drewN ?_ _) | (with_reducible refine below_new ?_ _) | (with_reducible refine Below.alloc ?_ ?_ _) | (with_reducible refine Below.drew ?_) | (with_reducible refine Below.setCell ?_ ?_ _) | (with_reducible apply below_at; (case k => (with_reducible assumption)); (case hB => omega)) | (with_reducible apply below_on; (with_reducible assumption)) | (go_size; done) | (with_reducible apply size_of))))))
        (first | (refine step_appU (by rfl) _ _ (by rfl) (w.heap.size + 2) _ (sch b k) (by rfl) (by first | exact own_drU (own_alU HO.out _) | exact own_alU (own_drU HO.out) _) _ 1 1 [((y0 * 256 + y1) * 256 + y2) * 256 + y3] (by rfl) (by rfl) (by exact has_lit (zs := [_]) (by first | rfl | simp) (by simp [maxLen])) (k + 1) (by rw [HSL.out]) (by omega) (by have := HSZ.out; simp; omega) ?_; intro A2 c2 w2 own2 gr2 bel2; have HO2 := Lib.hid own2; clear own2 gr2))
      go_wp2_with fail
      refine ⟨⟨k + 1, A2, c2, by have := HLT.out; omega, by go_num, rfl, by rw [HW.out]; exact HO2.out, ?_, ?_, ?_⟩, by simp [intOf]; have := HLT.out; omega⟩
      · exact Lies.below (by first | exact ((HR.out.alloc _).drew) | exact ((HR.out.drew).alloc _)) bel2 (by omega)
      · exact Lies.below (by first | exact ((HZ.out.alloc _).drew) | exact ((HZ.out.drew).alloc _)) bel2 (by omega)
      · have := HACC.out; (repeat' (first | (with_reducible exact Below.refl _ _) | (with_reducible assumption) | (with_reducible refine below_drewN ?_ _) | (with_reducible refine below_new ?_ _) | (with_reducible refine Below.alloc ?_ ?_ _) | (with_reducible refine Below.drew ?_) | (with_reducible refine Below.setCell ?_ ?_ _) | (with_reducible apply below_at; (case k => (with_reducible assumption)); (case hB => omega)) | (with_reducible apply below_on; (with_reducible assumption)) | (go_size; done) | (with_reducible apply size_of)))
    · have HK := Lib.hid (show k = 16 by omega)
      have k16 : ¬ (k : Int) < 16 := by omega
      clear own R Z acc hk hlt
      go_wp2_with fail
      go_loopw [5, 7] (fun v i wr => ∃ (k g c : Nat), 16 ≤ k ∧ k ≤ 80 ∧ i = .int .i64 k ∧ v = .slice (some ⟨g, 0, none⟩) k c ∧ OwnI wr (w.heap.size + 2) 97 .u32 (.slice (some ⟨g, 0, none⟩) k c) (sch b k) ∧ Lies (wr) (w.heap.size) 98 (c5 (h)) ∧ Lies (wr) (w.heap.size + 1) 98 (c5 (⟨0, 0, 0, 0, 0⟩)) ∧ Below w.heap.size w wr) (fun _ i _ => 80 - (intOf i).toNat)
      case atStart =>
        obtain ⟨g, hg, -, -, -⟩ := HO.out.form (by intro e; have e2 := congrArg List.length e; rw [sch_len, HK.out] at e2; cases e2)
        refine ⟨16, g, c, by omega, by omega, rfl, by rw [hg, HK.out], ?_, HR.out, HZ.out, HACC.out⟩
        rw [← hg, ← HK.out]; exact HO.out
      case round =>
        clear HO HR HZ HACC k16 HK
        obtain ⟨k, g, c, hk1, hk, rfl, rfl, own, R, Z, acc⟩ := hrel
        have HO := Lib.hid own
        have HR := Lib.hid R
        have HZ := Lib.hid Z
        have HACC := Lib.hid acc
        by_cases hlt : k < 80
        · have hcc : ∀ i, i < k → wr.cell? ⟨g, i, none⟩ = some (.int .u32 ((sch b k).getD i 0)) := fun i hi => own.cell i (by rw [sch_len]; exact hi)
          have c3 := hcc (k - 3) (by omega)
          have c8 := hcc (k - 8) (by omega)
          have c14 := hcc (k - 14) (by omega)
          have c16 := hcc (k - 16) (by omega)
          have HW : Hid (sch b (k + 1) = sch b k ++ [rot (bits .xor .u32 (bits .xor .u32 (bits .xor .u32 ((sch b k).getD (k - 3) 0) ((sch b k).getD (k - 8) 0)) ((sch b k).getD (k - 14) 0)) ((sch b k).getD (k - 16) 0)) 1]) := Lib.hid (by rw [sch, if_neg (by omega)]; rfl)
          have HSL := Lib.hid (sch_len b k)
          have HLT : Hid (16 ≤ k ∧ k < 80) := Lib.hid ⟨hk1, hlt⟩
          have HSZ : Hid (w.heap.size + 2 ≤ wr.heap.size) := Lib.hid (by have := Z.lt; omega)
          have n3 : ((k : Int) - 3).toNat = k - 3 := by omega
          have n8 : ((k : Int) - 8).toNat = k - 8 := by omega
          have n14 : ((k : Int) - 14).toNat = k - 14 := by omega
          have n16 : ((k : Int) - 16).toNat = k - 16 := by omega
          have m3 : IntKind.i64.wrap ((k : Int) - 3) = (k : Int) - 3 := IntWalk.i64_in _ (by omega)
          have m8 : IntKind.i64.wrap ((k : Int) - 8) = (k : Int) - 8 := IntWalk.i64_in _ (by omega)
          have m14 : IntKind.i64.wrap ((k : Int) - 14) = (k : Int) - 14 := IntWalk.i64_in _ (by omega)
          have m16 : IntKind.i64.wrap ((k : Int) - 16) = (k : Int) - 16 := IntWalk.i64_in _ (by omega)
          have o3 : 3 ≤ (k : Int) := by omega
          have o8 : 8 ≤ (k : Int) := by omega
          have o14 : 14 ≤ (k : Int) := by omega
          have o16 : 16 ≤ (k : Int) := by omega
          have o3' : 0 ≤ (k : Int) - 3 := by omega
          have o8' : 0 ≤ (k : Int) - 8 := by omega
          have o14' : 0 ≤ (k : Int) - 14 := by omega
          have o16' : 0 ≤ (k : Int) - 16 := by omega
          have p3 : (k : Int) - 3 < k := by omega
          have p8 : (k : Int) - 8 < k := by omega
          have p14 : (k : Int) - 14 < k := by omega
          have p16 : (k : Int) - 16 < k := by omega
          have t0 : 0 ≤ (k : Int) := by omega
          have t1 : (k : Int) < 80 := by omega
          clear own R Z acc hk hk1 hlt hcc
          generalize (sch b k).getD (k - 3) 0 = y0 at *
          generalize (sch b k).getD (k - 8) 0 = y1 at *
          generalize (sch b k).getD (k - 14) 0 = y2 at *
          generalize (sch b k).getD (k - 16) 0 = y3 at *
          go_wp2_with fail
          (have RD := drawn_roads (S := fun x' => x'.cell? ⟨g, k - 3, none⟩ = some (.int .u32 y0) ∧ x'.cell? ⟨g, k - 8, none⟩ = some (.int .u32 y1) ∧ x'.cell? ⟨g, k - 14, none⟩ = some (.int .u32 y2) ∧ x'.cell? ⟨g, k - 16, none⟩ = some (.int .u32 y3)) (fun _ _ h => h)); refine region_ordT 26 _ Drawn RD ⟨c3, c8, c14, c16⟩ (by kernel_rfl) (by decide) ?_; intro ops Q' hops hPQ hN; (have HNS : Hid (Region.noSelect ops = true ∧ Region.sinkB .any ops 26 = true ∧ Region.chainB .any ops 26 = true ∧ 26 < ops.size) := Lib.hid (by rw [hops]; exact ⟨by kernel_rfl, by kernel_rfl, by kernel_rfl, by decide⟩)); (have hsz : ops.size = 28 := (by rw [hops]; rfl)); have HOP := Lib.hid hops; have HPQ := Lib.hid hPQ; have HN := Lib.hid hN; rw [hsz]; clear hops hsz hPQ hN
          refine ordT_take RD 0 (at_list (by rw [HOP.out]; rfl)) HNS.out HPQ.out (by rw [HOP.out]; kernel_rfl) (by rw [HOP.out]; kernel_rfl) (by rw [HOP.out]; rfl) (fun K hK => ?_); apply Exists.intro; refine ⟨fun W hSW => ?_, hK _ ?_⟩; (focus ((try dsimp only at hSW); go_simp; try with_reducible rfl)); clear hK K; (try simp only [Act.put, List.setIfInBounds_toArray, List.set_cons_zero, List.set_cons_succ])
          refine ordT_take RD 1 (at_list (by rw [HOP.out]; rfl)) HNS.out HPQ.out (by rw [HOP.out]; kernel_rfl) (by rw [HOP.out]; kernel_rfl) (by rw [HOP.out]; rfl) (fun K hK => ?_); apply Exists.intro; refine ⟨fun W hSW => ?_, hK _ ?_⟩; (focus ((try dsimp only at hSW); go_simp; try with_reducible rfl)); clear hK K; (try simp only [Act.put, List.setIfInBounds_toArray, List.set_cons_zero, List.set_cons_succ])
          refine ordT_take RD 2 (at_list (by rw [HOP.out]; rfl)) HNS.out HPQ.out (by rw [HOP.out]; kernel_rfl) (by rw [HOP.out]; kernel_rfl) (by rw [HOP.out]; rfl) (fun K hK => ?_); apply Exists.intro; refine ⟨fun W hSW => ?_, hK _ ?_⟩; (focus ((try dsimp only at hSW); go_simp; try with_reducible rfl)); clear hK K; (try simp only [Act.put, List.setIfInBounds_toArray, List.set_cons_zero, List.set_cons_succ])
          refine ordT_take RD 3 (at_list (by rw [HOP.out]; rfl)) HNS.out HPQ.out (by rw [HOP.out]; kernel_rfl) (by rw [HOP.out]; kernel_rfl) (by rw [HOP.out]; rfl) (fun K hK => ?_); apply Exists.intro; refine ⟨fun W hSW => ?_, hK _ ?_⟩; (focus ((try dsimp only at hSW); go_simp; try with_reducible rfl)); clear hK K; (try simp only [Act.put, List.setIfInBounds_toArray, List.set_cons_zero, List.set_cons_succ])
          refine ordT_take RD 4 (at_list (by rw [HOP.out]; rfl)) HNS.out HPQ.out (by rw [HOP.out]; kernel_rfl) (by rw [HOP.out]; kernel_rfl) (by rw [HOP.out]; rfl) (fun K hK => ?_); apply Exists.intro; refine ⟨fun W hSW => ?_, hK _ ?_⟩; (focus ((try dsimp only at hSW); go_simp; try with_reducible rfl)); clear hK K; (try simp only [Act.put, List.setIfInBounds_toArray, List.set_cons_zero, List.set_cons_succ])
          refine ordT_take RD 5 (at_list (by rw [HOP.out]; rfl)) HNS.out HPQ.out (by rw [HOP.out]; kernel_rfl) (by rw [HOP.out]; kernel_rfl) (by rw [HOP.out]; rfl) (fun K hK => ?_); apply Exists.intro; refine ⟨fun W hSW => ?_, hK _ ?_⟩; (focus ((try dsimp only at hSW); go_simp; try with_reducible rfl)); clear hK K; (try simp only [Act.put, List.setIfInBounds_toArray, List.set_cons_zero, List.set_cons_succ])
          refine ordT_take RD 6 (at_list (by rw [HOP.out]; rfl)) HNS.out HPQ.out (by rw [HOP.out]; kernel_rfl) (by rw [HOP.out]; kernel_rfl) (by rw [HOP.out]; rfl) (fun K hK => ?_); apply Exists.intro; refine ⟨fun W hSW => ?_, hK _ ?_⟩; (focus ((try dsimp only at hSW); go_simp; try with_reducible rfl)); clear hK K; (try simp only [Act.put, List.setIfInBounds_toArray, List.set_cons_zero, List.set_cons_succ])
          refine ordT_take RD 7 (at_list (by rw [HOP.out]; rfl)) HNS.out HPQ.out (by rw [HOP.out]; kernel_rfl) (by rw [HOP.out]; kernel_rfl) (by rw [HOP.out]; rfl) (fun K hK => ?_); apply Exists.intro; refine ⟨fun W hSW => ?_, hK _ ?_⟩; (focus ((try dsimp only at hSW); go_simp; try with_reducible rfl)); clear hK K; (try simp only [Act.put, List.setIfInBounds_toArray, List.set_cons_zero, List.set_cons_succ])
          refine ordT_take RD 8 (at_list (by rw [HOP.out]; rfl)) HNS.out HPQ.out (by rw [HOP.out]; kernel_rfl) (by rw [HOP.out]; kernel_rfl) (by rw [HOP.out]; rfl) (fun K hK => ?_); apply Exists.intro; refine ⟨fun W hSW => ?_, hK _ ?_⟩; (focus ((try dsimp only at hSW); go_simp; try with_reducible rfl)); clear hK K; (try simp only [Act.put, List.setIfInBounds_toArray, List.set_cons_zero, List.set_cons_succ])
          refine ordT_take RD 9 (at_list (by rw [HOP.out]; rfl)) HNS.out HPQ.out (by rw [HOP.out]; kernel_rfl) (by rw [HOP.out]; kernel_rfl) (by rw [HOP.out]; rfl) (fun K hK => ?_); apply Exists.intro; refine ⟨fun W hSW => ?_, hK _ ?_⟩; (focus ((try dsimp only at hSW); go_simp; try with_reducible rfl)); clear hK K; (try simp only [Act.put, List.setIfInBounds_toArray, List.set_cons_zero, List.set_cons_succ])
          refine ordT_take RD 10 (at_list (by rw [HOP.out]; rfl)) HNS.out HPQ.out (by rw [HOP.out]; kernel_rfl) (by rw [HOP.out]; kernel_rfl) (by rw [HOP.out]; rfl) (fun K hK => ?_); apply Exists.intro; refine ⟨fun W hSW => ?_, hK _ ?_⟩; (focus ((try dsimp only at hSW); go_simp; try with_reducible rfl)); clear hK K; (try simp only [Act.put, List.setIfInBounds_toArray, List.set_cons_zero, List.set_cons_succ])
          refine ordT_take RD 11 (at_list (by rw [HOP.out]; rfl)) HNS.out HPQ.out (by rw [HOP.out]; kernel_rfl) (by rw [HOP.out]; kernel_rfl) (by rw [HOP.out]; rfl) (fun K hK => ?_); apply Exists.intro; refine ⟨fun W hSW => ?_, hK _ ?_⟩; (focus ((try dsimp only at hSW); go_simp; try with_reducible rfl)); clear hK K; (try simp only [Act.put, List.setIfInBounds_toArray, List.set_cons_zero, List.set_cons_succ])
          refine ordT_take RD 12 (at_list (by rw [HOP.out]; rfl)) HNS.out HPQ.out (by rw [HOP.out]; kernel_rfl) (by rw [HOP.out]; kernel_rfl) (by rw [HOP.out]; rfl) (fun K hK => ?_); apply Exists.intro; refine ⟨fun W hSW => ?_, hK _ ?_⟩; (focus ((try dsimp only at hSW); go_simp; try with_reducible rfl)); clear hK K; (try simp only [Act.put, List.setIfInBounds_toArray, List.set_cons_zero, List.set_cons_succ])
          refine ordT_take RD 13 (at_list (by rw [HOP.out]; rfl)) HNS.out HPQ.out (by rw [HOP.out]; kernel_rfl) (by rw [HOP.out]; kernel_rfl) (by rw [HOP.out]; rfl) (fun K hK => ?_); apply Exists.intro; refine ⟨fun W hSW => ?_, hK _ ?_⟩; (focus ((try dsimp only at hSW); go_simp; try with_reducible rfl)); clear hK K; (try simp only [Act.put, List.setIfInBounds_toArray, List.set_cons_zero, List.set_cons_succ])
          refine ordT_take RD 14 (at_list (by rw [HOP.out]; rfl)) HNS.out HPQ.out (by rw [HOP.out]; kernel_rfl) (by rw [HOP.out]; kernel_rfl) (by rw [HOP.out]; rfl) (fun K hK => ?_); apply Exists.intro; refine ⟨fun W hSW => ?_, hK _ ?_⟩; (focus ((try dsimp only at hSW); go_simp; try with_reducible rfl)); clear hK K; (try simp only [Act.put, List.setIfInBounds_toArray, List.set_cons_zero, List.set_cons_succ])
          refine ordT_take RD 15 (at_list (by rw [HOP.out]; rfl)) HNS.out HPQ.out (by rw [HOP.out]; kernel_rfl) (by rw [HOP.out]; kernel_rfl) (by rw [HOP.out]; rfl) (fun K hK => ?_); apply Exists.intro; refine ⟨fun W hSW => ?_, hK _ ?_⟩; (focus ((try dsimp only at hSW); go_simp; try with_reducible rfl)); clear hK K; (try simp only [Act.put, List.setIfInBounds_toArray, List.set_cons_zero, List.set_cons_succ])
          refine ordT_take RD 16 (at_list (by rw [HOP.out]; rfl)) HNS.out HPQ.out (by rw [HOP.out]; kernel_rfl) (by rw [HOP.out]; kernel_rfl) (by rw [HOP.out]; rfl) (fun K hK => ?_); apply Exists.intro; refine ⟨fun W hSW => ?_, hK _ ?_⟩; (focus ((try dsimp only at hSW); go_simp; try with_reducible rfl)); clear hK K; (try simp only [Act.put, List.setIfInBounds_toArray, List.set_cons_zero, List.set_cons_succ])
          refine ordT_take RD 17 (at_list (by rw [HOP.out]; rfl)) HNS.out HPQ.out (by rw [HOP.out]; kernel_rfl) (by rw [HOP.out]; kernel_rfl) (by rw [HOP.out]; rfl) (fun K hK => ?_); apply Exists.intro; refine ⟨fun W hSW => ?_, hK _ ?_⟩; (focus ((try dsimp only at hSW); go_simp; try with_reducible rfl)); clear hK K; (try simp only [Act.put, List.setIfInBounds_toArray, List.set_cons_zero, List.set_cons_succ])
          refine ordT_take RD 18 (at_list (by rw [HOP.out]; rfl)) HNS.out HPQ.out (by rw [HOP.out]; kernel_rfl) (by rw [HOP.out]; kernel_rfl) (by rw [HOP.out]; rfl) (fun K hK => ?_); apply Exists.intro; refine ⟨fun W hSW => ?_, hK _ ?_⟩; (focus ((try dsimp only at hSW); go_simp; try with_reducible rfl)); clear hK K; (try simp only [Act.put, List.setIfInBounds_toArray, List.set_cons_zero, List.set_cons_succ])
          refine ordT_take RD 19 (at_list (by rw [HOP.out]; rfl)) HNS.out HPQ.out (by rw [HOP.out]; kernel_rfl) (by rw [HOP.out]; kernel_rfl) (by rw [HOP.out]; rfl) (fun K hK => ?_); apply Exists.intro; refine ⟨fun W hSW => ?_, hK _ ?_⟩; (focus ((try dsimp only at hSW); go_simp; try with_reducible rfl)); clear hK K; (try simp only [Act.put, List.setIfInBounds_toArray, List.set_cons_zero, List.set_cons_succ])
          refine ordT_take RD 20 (at_list (by rw [HOP.out]; rfl)) HNS.out HPQ.out (by rw [HOP.out]; kernel_rfl) (by rw [HOP.out]; kernel_rfl) (by rw [HOP.out]; rfl) (fun K hK => ?_); apply Exists.intro; refine ⟨fun W hSW => ?_, hK _ ?_⟩; (focus ((try dsimp only at hSW); go_simp; try with_reducible rfl)); clear hK K; (try simp only [Act.put, List.setIfInBounds_toArray, List.set_cons_zero, List.set_cons_succ])
          refine ordT_take RD 21 (at_list (by rw [HOP.out]; rfl)) HNS.out HPQ.out (by rw [HOP.out]; kernel_rfl) (by rw [HOP.out]; kernel_rfl) (by rw [HOP.out]; rfl) (fun K hK => ?_); apply Exists.intro; refine ⟨fun W hSW => ?_, hK _ ?_⟩; (focus ((try dsimp only at hSW); go_simp; try with_reducible rfl)); clear hK K; (try simp only [Act.put, List.setIfInBounds_toArray, List.set_cons_zero, List.set_cons_succ])
          refine ordT_take RD 22 (at_list (by rw [HOP.out]; rfl)) HNS.out HPQ.out (by rw [HOP.out]; kernel_rfl) (by rw [HOP.out]; kernel_rfl) (by rw [HOP.out]; rfl) (fun K hK => ?_); apply Exists.intro; refine ⟨fun W hSW => ?_, hK _ ?_⟩; (focus ((try dsimp only at hSW); go_simp; try with_reducible rfl)); clear hK K; (try simp only [Act.put, List.setIfInBounds_toArray, List.set_cons_zero, List.set_cons_succ])
          refine ordT_take RD 23 (at_list (by rw [HOP.out]; rfl)) HNS.out HPQ.out (by rw [HOP.out]; kernel_rfl) (by rw [HOP.out]; kernel_rfl) (by rw [HOP.out]; rfl) (fun K hK => ?_); apply Exists.intro; refine ⟨fun W hSW => ?_, hK _ ?_⟩; (focus ((try dsimp only at hSW); go_simp; try with_reducible rfl)); clear hK K; (try simp only [Act.put, List.setIfInBounds_toArray, List.set_cons_zero, List.set_cons_succ])
          refine ordT_take RD 24 (at_list (by rw [HOP.out]; rfl)) HNS.out HPQ.out (by rw [HOP.out]; kernel_rfl) (by rw [HOP.out]; kernel_rfl) (by rw [HOP.out]; rfl) (fun K hK => ?_); apply Exists.intro; refine ⟨fun W hSW => ?_, hK _ ?_⟩; (focus ((try dsimp only at hSW); go_simp; exact (turn1 _ _ (bits_bd _ _ _).1 (bits_bd _ _ _).2))); clear hK K; (try simp only [Act.put, List.setIfInBounds_toArray, List.set_cons_zero, List.set_cons_succ])
          refine ordT_one RD 25 (by rw [HOP.out]; kernel_rfl) (at_list (by rw [HOP.out]; rfl)) (by rw [HOP.out]; rfl) (fun W1 hWW hSW K hK => ?_); (try dsimp only at hSW)
          obtain ⟨nn, rfl⟩ := hWW
          go_simp
          refine hK _ _ ?sa ?ra
          case sa => (obtain ⟨h1, h2, h3, h4⟩ := hSW; refine ⟨?_, ?_, ?_, ?_⟩ <;> (rw [World.cell?_alloc_some _ _ _ (by simp [*])]; assumption))
          case ra =>
            clear hK K; (try simp only [Act.put, List.setIfInBounds_toArray, List.set_cons_zero, List.set_cons_succ])
            refine ordT_end (by rw [HOP.out]; kernel_rfl) (fun W2 hWW hSW => ?_); rw [HOP.out]; simp only [List.drop_succ_cons, List.drop_zero]; have hN := HN.out; clear HOP HNS HPQ HN RD; (try dsimp only at hSW)
            obtain ⟨nm, rfl⟩ := hWW
            go_wp2_with ((at_builtin; refine appU rfl _ _ rfl (w.heap.size + 2) _ (sch b k) rfl (show OwnI _ _ _ _ _ _ from own_drNU (own_alU (own_drNU HO.out _) _) nm) (some ⟨_, 0, none⟩) 1 1 [rot (bits .xor .u32 (bits .xor .u32 (bits .xor .u32 y0 y1) y2) y3) 1] rfl rfl (show Has _ _ _ _ from has_lit (zs := [_]) (by simp) (by simp [maxLen])) (k + 1) (by rw [HSL.out]) (by have := HLT.out; omega) (by have := HSZ.out; simp; omega) ?_); intro A2 c2 w2 own2 gr2 bel2; have HO2 := Lib.hid own2; clear own2 gr2)
            obtain ⟨g2, e2, -, -, -⟩ := HO2.out.form (by simp)
            subst e2
            refine ⟨⟨k + 1, g2, c2, by have := HLT.out; omega, by have := HLT.out; omega, by go_num, rfl, by rw [HW.out]; exact HO2.out, ?_, ?_, ?_⟩, by simp [intOf]; have := HLT.out; omega⟩
            · exact Lies.below (by have := HR.out; exact ((this.drewN _).alloc _).drewN _) bel2 (by omega)
            · exact Lies.below (by have := HZ.out; exact ((this.drewN _).alloc _).drewN _) bel2 (by omega)
            · have := HACC.out; (repeat' (first | (with_reducible exact Below.refl _ _) | (with_reducible assumption) | (with_reducible refine below_drewN ?_ _) | (with_reducible refine below_new ?_ _) | (with_reducible refine Below.alloc ?_ ?_ _) | (with_reducible refine Below.drew ?_) | (with_reducible refine Below.setCell ?_ ?_ _) | (with_reducible apply below_at; (case k => (with_reducible assumption)); (case hB => omega)) | (with_reducible apply below_on; (with_reducible assumption)) | (go_size; done) | (with_reducible apply size_of)))
        · have k80 : ¬ (k : Int) < 80 := by omega
          have HK := Lib.hid (show k = 80 by omega)
          have HOX : Hid (OwnI wr (w.heap.size + 2) 97 .u32 (.slice (some ⟨g, 0, none⟩) k c) (sch b 80)) := Lib.hid (by rw [← HK.out]; exact own)
          have HSZ : Hid (w.heap.size + 2 ≤ g ∧ g < wr.heap.size) := Lib.hid own.base_le
          obtain ⟨p0, p1, p2, p3, p4⟩ := five R
          have zk := R.lt
          clear own R Z acc hk hk1 hlt HO
          go_wp2_with fail
          generalize hg8 : wr.heap.size = g8 at *
          have HG8 := Lib.hid hg8
          have e80 := HK.out
          subst e80
          rw [show ((80 : Nat) : Int) = 80 from rfl]
          go_loopw [9] (fun i wz => ∃ t : Nat, t ≤ 80 ∧ i = .int .i64 t ∧ Lies (wz) (g8) 98 (c5 (rnds (sch b 80) t h)) ∧ Lies (wz) (w.heap.size) 98 (c5 (h)) ∧ OwnI wz (w.heap.size + 2) 97 .u32 (.slice (some ⟨g, 0, none⟩) 80 c) (sch b 80) ∧ Lies (wz) (w.heap.size + 1) 98 (c5 (⟨0, 0, 0, 0, 0⟩)) ∧ Below w.heap.size w wz) (fun i _ => 80 - (intOf i).toNat)
          case atStart => exact ⟨0, by omega, rfl, Lies.fresh_at (cs := c5 h) HG8.out, HR.out.alloc _, own_alU HOX.out _, HZ.out.alloc _, by have := HACC.out; (repeat' (first | (with_reducible exact Below.refl _ _) | (with_reducible assumption) | (with_reducible refine below_drewN ?_ _) | (with_reducible refine below_new ?_ _) | (with_reducible refine Below.alloc ?_ ?_ _) | (with_reducible refine Below.drew ?_) | (with_reducible refine Below.setCell ?_ ?_ _) | (with_reducible apply below_at; (case k => (with_reducible assumption)); (case hB => omega)) | (with_reducible apply below_on; (with_reducible assumption)) | (go_size; done) | (with_reducible apply size_of)))⟩
          case round =>
            clear HR HZ HACC HOX HK p0 p1 p2 p3 p4 zk
            obtain ⟨t, ht, rfl, K, R, own, Z, acc⟩ := hrel
            have HKK := Lib.hid K
            have HR := Lib.hid R
            have HO := Lib.hid own
            have HZ := Lib.hid Z
            have HACC := Lib.hid acc
            by_cases hlt : t < 80
            · have hi := rnds_in (W := sch b 80) HH.out t
              obtain ⟨p0, p1, p2, p3, p4⟩ := five K
              obtain ⟨f0, f1, f2, f3, f4⟩ := free5 K
              have q0 := own.cell t (by rw [sch_len]; exact hlt)
              have q1 := getD_bdU (sch_bd HBD.out 80) t
              have HRS : Hid (rnds (sch b 80) (t + 1) h = rnd ((sch b 80).getD t 0) t (rnds (sch b 80) t h)) := Lib.hid rfl
              have HLT := Lib.hid hlt
              have zk := K.lt
              have k0 : 0 ≤ (t : Int) := by omega
              have k1 : (t : Int) < 80 := by omega
              clear K R Z own acc ht hlt
              generalize rnds (sch b 80) t h = v at *
              generalize (sch b 80).getD t 0 = x at *
              obtain ⟨va, vb, vc, vd, ve⟩ := v
              obtain ⟨⟨a1, a2⟩, ⟨b1, b2⟩, ⟨c1, c2⟩, ⟨d1, d2⟩, ⟨e1, e2⟩⟩ := hi
              simp only [] at *
              go_wp2_with fail
              refine (part t vb vc vd _ HLT.out).mono ?_
              rintro e w3 ⟨rfl, rfl⟩
              generalize hF : fR t vb vc vd = F at *
              generalize hC : kR t = C at *
              have HF := Lib.hid hF
              have HC := Lib.hid hC
              clear hF hC
              go_wp2_with fail
              have HQ0 : Hid (AtC wr g t (.int .u32 x)) := Lib.hid q0
              have HNE : Hid (g8 ≠ g) := Lib.hid (by have := HSZ.out; omega)
              (have RD := drawn_roads (S := fun x' => (x'.cell? ⟨g8, 0, none⟩ = some (.int .u32 va) ∧ x'.cell? ⟨g8, 1, none⟩ = some (.int .u32 vb) ∧ x'.cell? ⟨g8, 2, none⟩ = some (.int .u32 vc) ∧ x'.cell? ⟨g8, 3, none⟩ = some (.int .u32 vd) ∧ x'.cell? ⟨g8, 4, none⟩ = some (.int .u32 ve)) ∧ x'.cell? ⟨g, t, none⟩ = some (.int .u32 x)) (fun _ _ h => h)); refine region_ordT 25 _ Drawn RD ⟨⟨p0, p1, p2, p3, p4⟩, q0⟩ (by kernel_rfl) (by decide) ?_; intro ops Q' hops hPQ hN; (have HNS : Hid (Region.noSelect ops = true ∧ Region.sinkB .any ops 25 = true ∧ Region.chainB .any ops 25 = true ∧ 25 < ops.size) := Lib.hid (by rw [hops]; exact ⟨by kernel_rfl, by kernel_rfl, by kernel_rfl, by decide⟩)); (have hsz : ops.size = 26 := (by rw [hops]; rfl)); have HOP := Lib.hid hops; have HPQ := Lib.hid hPQ; have HN := Lib.hid hN; rw [hsz]; clear hops hsz hPQ hN
              refine ordT_take RD 0 (at_list (by rw [HOP.out]; rfl)) HNS.out HPQ.out (by rw [HOP.out]; kernel_rfl) (by rw [HOP.out]; kernel_rfl) (by rw [HOP.out]; rfl) (fun K hK => ?_); apply Exists.intro; refine ⟨fun W hSW => ?_, hK _ ?_⟩; (focus ((try dsimp only at hSW); go_simp; try with_reducible rfl)); clear hK K; (try simp only [Act.put, List.setIfInBounds_toArray, List.set_cons_zero, List.set_cons_succ])
              refine ordT_take RD 1 (at_list (by rw [HOP.out]; rfl)) HNS.out HPQ.out (by rw [HOP.out]; kernel_rfl) (by rw [HOP.out]; kernel_rfl) (by rw [HOP.out]; rfl) (fun K hK => ?_); apply Exists.intro; refine ⟨fun W hSW => ?_, hK _ ?_⟩; (focus ((try dsimp only at hSW); go_simp; try with_reducible rfl)); clear hK K; (try simp only [Act.put, List.setIfInBounds_toArray, List.set_cons_zero, List.set_cons_succ])
              refine ordT_take RD 2 (at_list (by rw [HOP.out]; rfl)) HNS.out HPQ.out (by rw [HOP.out]; kernel_rfl) (by rw [HOP.out]; kernel_rfl) (by rw [HOP.out]; rfl) (fun K hK => ?_); apply Exists.intro; refine ⟨fun W hSW => ?_, hK _ ?_⟩; (focus ((try dsimp only at hSW); go_simp; exact (turn5 va _ a1 a2))); clear hK K; (try simp only [Act.put, List.setIfInBounds_toArray, List.set_cons_zero, List.set_cons_succ])
              refine ordT_take RD 3 (at_list (by rw [HOP.out]; rfl)) HNS.out HPQ.out (by rw [HOP.out]; kernel_rfl) (by rw [HOP.out]; kernel_rfl) (by rw [HOP.out]; rfl) (fun K hK => ?_); apply Exists.intro; refine ⟨fun W hSW => ?_, hK _ ?_⟩; (focus ((try dsimp only at hSW); go_simp; try with_reducible rfl)); clear hK K; (try simp only [Act.put, List.setIfInBounds_toArray, List.set_cons_zero, List.set_cons_succ])
              refine ordT_take RD 4 (at_list (by rw [HOP.out]; rfl)) HNS.out HPQ.out (by rw [HOP.out]; kernel_rfl) (by rw [HOP.out]; kernel_rfl) (by rw [HOP.out]; rfl) (fun K hK => ?_); apply Exists.intro; refine ⟨fun W hSW => ?_, hK _ ?_⟩; (focus ((try dsimp only at hSW); go_simp; try with_reducible rfl)); clear hK K; (try simp only [Act.put, List.setIfInBounds_toArray, List.set_cons_zero, List.set_cons_succ])
              refine ordT_take RD 5 (at_list (by rw [HOP.out]; rfl)) HNS.out HPQ.out (by rw [HOP.out]; kernel_rfl) (by rw [HOP.out]; kernel_rfl) (by rw [HOP.out]; rfl) (fun K hK => ?_); apply Exists.intro; refine ⟨fun W hSW => ?_, hK _ ?_⟩; (focus ((try dsimp only at hSW); go_simp; try with_reducible rfl)); clear hK K; (try simp only [Act.put, List.setIfInBounds_toArray, List.set_cons_zero, List.set_cons_succ])
              refine ordT_take RD 6 (at_list (by rw [HOP.out]; rfl)) HNS.out HPQ.out (by rw [HOP.out]; kernel_rfl) (by rw [HOP.out]; kernel_rfl) (by rw [HOP.out]; rfl) (fun K hK => ?_); apply Exists.intro; refine ⟨fun W hSW => ?_, hK _ ?_⟩; (focus ((try dsimp only at hSW); go_simp; try with_reducible rfl)); clear hK K; (try simp only [Act.put, List.setIfInBounds_toArray, List.set_cons_zero, List.set_cons_succ])
              refine ordT_take RD 7 (at_list (by rw [HOP.out]; rfl)) HNS.out HPQ.out (by rw [HOP.out]; kernel_rfl) (by rw [HOP.out]; kernel_rfl) (by rw [HOP.out]; rfl) (fun K hK => ?_); apply Exists.intro; refine ⟨fun W hSW => ?_, hK _ ?_⟩; (focus ((try dsimp only at hSW); go_simp; try with_reducible rfl)); clear hK K; (try simp only [Act.put, List.setIfInBounds_toArray, List.set_cons_zero, List.set_cons_succ])
              refine ordT_take RD 8 (at_list (by rw [HOP.out]; rfl)) HNS.out HPQ.out (by rw [HOP.out]; kernel_rfl) (by rw [HOP.out]; kernel_rfl) (by rw [HOP.out]; rfl) (fun K hK => ?_); apply Exists.intro; refine ⟨fun W hSW => ?_, hK _ ?_⟩; (focus ((try dsimp only at hSW); go_simp; try with_reducible rfl)); clear hK K; (try simp only [Act.put, List.setIfInBounds_toArray, List.set_cons_zero, List.set_cons_succ])
              refine ordT_take RD 9 (at_list (by rw [HOP.out]; rfl)) HNS.out HPQ.out (by rw [HOP.out]; kernel_rfl) (by rw [HOP.out]; kernel_rfl) (by rw [HOP.out]; rfl) (fun K hK => ?_); apply Exists.intro; refine ⟨fun W hSW => ?_, hK _ ?_⟩; (focus ((try dsimp only at hSW); go_simp; try with_reducible rfl)); clear hK K; (try simp only [Act.put, List.setIfInBounds_toArray, List.set_cons_zero, List.set_cons_succ])
              refine ordT_take RD 10 (at_list (by rw [HOP.out]; rfl)) HNS.out HPQ.out (by rw [HOP.out]; kernel_rfl) (by rw [HOP.out]; kernel_rfl) (by rw [HOP.out]; rfl) (fun K hK => ?_); apply Exists.intro; refine ⟨fun W hSW => ?_, hK _ ?_⟩; (focus ((try dsimp only at hSW); go_simp; try with_reducible rfl)); clear hK K; (try simp only [Act.put, List.setIfInBounds_toArray, List.set_cons_zero, List.set_cons_succ])
              refine ordT_take RD 11 (at_list (by rw [HOP.out]; rfl)) HNS.out HPQ.out (by rw [HOP.out]; kernel_rfl) (by rw [HOP.out]; kernel_rfl) (by rw [HOP.out]; rfl) (fun K hK => ?_); apply Exists.intro; refine ⟨fun W hSW => ?_, hK _ ?_⟩; (focus ((try dsimp only at hSW); go_simp; try with_reducible rfl)); clear hK K; (try simp only [Act.put, List.setIfInBounds_toArray, List.set_cons_zero, List.set_cons_succ])
              refine ordT_take RD 12 (at_list (by rw [HOP.out]; rfl)) HNS.out HPQ.out (by rw [HOP.out]; kernel_rfl) (by rw [HOP.out]; kernel_rfl) (by rw [HOP.out]; rfl) (fun K hK => ?_); apply Exists.intro; refine ⟨fun W hSW => ?_, hK _ ?_⟩; (focus ((try dsimp only at hSW); go_simp; try with_reducible rfl)); clear hK K; (try simp only [Act.put, List.setIfInBounds_toArray, List.set_cons_zero, List.set_cons_succ])
              refine ordT_take RD 13 (at_list (by rw [HOP.out]; rfl)) HNS.out HPQ.out (by rw [HOP.out]; kernel_rfl) (by rw [HOP.out]; kernel_rfl) (by rw [HOP.out]; rfl) (fun K hK => ?_); apply Exists.intro; refine ⟨fun W hSW => ?_, hK _ ?_⟩; (focus ((try dsimp only at hSW); go_simp; try with_reducible rfl)); clear hK K; (try simp only [Act.put, List.setIfInBounds_toArray, List.set_cons_zero, List.set_cons_succ])
              refine ordT_take RD 14 (at_list (by rw [HOP.out]; rfl)) HNS.out HPQ.out (by rw [HOP.out]; kernel_rfl) (by rw [HOP.out]; kernel_rfl) (by rw [HOP.out]; rfl) (fun K hK => ?_); apply Exists.intro; refine ⟨fun W hSW => ?_, hK _ ?_⟩; (focus ((try dsimp only at hSW); go_simp; try with_reducible rfl)); clear hK K; (try simp only [Act.put, List.setIfInBounds_toArray, List.set_cons_zero, List.set_cons_succ])
              refine ordT_take RD 15 (at_list (by rw [HOP.out]; rfl)) HNS.out HPQ.out (by rw [HOP.out]; kernel_rfl) (by rw [HOP.out]; kernel_rfl) (by rw [HOP.out]; rfl) (fun K hK => ?_); apply Exists.intro; refine ⟨fun W hSW => ?_, hK _ ?_⟩; (focus ((try dsimp only at hSW); go_simp; try with_reducible rfl)); clear hK K; (try simp only [Act.put, List.setIfInBounds_toArray, List.set_cons_zero, List.set_cons_succ])
              refine ordT_take RD 16 (at_list (by rw [HOP.out]; rfl)) HNS.out HPQ.out (by rw [HOP.out]; kernel_rfl) (by rw [HOP.out]; kernel_rfl) (by rw [HOP.out]; rfl) (fun K hK => ?_); apply Exists.intro; refine ⟨fun W hSW => ?_, hK _ ?_⟩; (focus ((try dsimp only at hSW); go_simp; try with_reducible rfl)); clear hK K; (try simp only [Act.put, List.setIfInBounds_toArray, List.set_cons_zero, List.set_cons_succ])
              refine ordT_take RD 17 (at_list (by rw [HOP.out]; rfl)) HNS.out HPQ.out (by rw [HOP.out]; kernel_rfl) (by rw [HOP.out]; kernel_rfl) (by rw [HOP.out]; rfl) (fun K hK => ?_); apply Exists.intro; refine ⟨fun W hSW => ?_, hK _ ?_⟩; (focus ((try dsimp only at hSW); go_simp; try with_reducible rfl)); clear hK K; (try simp only [Act.put, List.setIfInBounds_toArray, List.set_cons_zero, List.set_cons_succ])
              refine ordT_take RD 18 (at_list (by rw [HOP.out]; rfl)) HNS.out HPQ.out (by rw [HOP.out]; kernel_rfl) (by rw [HOP.out]; kernel_rfl) (by rw [HOP.out]; rfl) (fun K hK => ?_); apply Exists.intro; refine ⟨fun W hSW => ?_, hK _ ?_⟩; (focus ((try dsimp only at hSW); go_simp; try with_reducible rfl)); clear hK K; (try simp only [Act.put, List.setIfInBounds_toArray, List.set_cons_zero, List.set_cons_succ])
              refine ordT_take RD 19 (at_list (by rw [HOP.out]; rfl)) HNS.out HPQ.out (by rw [HOP.out]; kernel_rfl) (by rw [HOP.out]; kernel_rfl) (by rw [HOP.out]; rfl) (fun K hK => ?_); apply Exists.intro; refine ⟨fun W hSW => ?_, hK _ ?_⟩; (focus ((try dsimp only at hSW); go_simp; exact (turn30 vb _ b1 b2))); clear hK K; (try simp only [Act.put, List.setIfInBounds_toArray, List.set_cons_zero, List.set_cons_succ])
              refine ordT_take RD 20 (at_list (by rw [HOP.out]; rfl)) HNS.out HPQ.out (by rw [HOP.out]; kernel_rfl) (by rw [HOP.out]; kernel_rfl) (by rw [HOP.out]; rfl) (fun K hK => ?_); apply Exists.intro; refine ⟨fun W hSW => ?_, hK _ ?_⟩; (focus ((try dsimp only at hSW); go_simp; try with_reducible rfl)); clear hK K; (try simp only [Act.put, List.setIfInBounds_toArray, List.set_cons_zero, List.set_cons_succ])
              refine ordT_take RD 21 (at_list (by rw [HOP.out]; rfl)) HNS.out HPQ.out (by rw [HOP.out]; kernel_rfl) (by rw [HOP.out]; kernel_rfl) (by rw [HOP.out]; rfl) (fun K hK => ?_); apply Exists.intro; refine ⟨fun W hSW => ?_, hK _ ?_⟩; (focus ((try dsimp only at hSW); go_simp; try with_reducible rfl)); clear hK K; (try simp only [Act.put, List.setIfInBounds_toArray, List.set_cons_zero, List.set_cons_succ])
              refine ordT_take RD 22 (at_list (by rw [HOP.out]; rfl)) HNS.out HPQ.out (by rw [HOP.out]; kernel_rfl) (by rw [HOP.out]; kernel_rfl) (by rw [HOP.out]; rfl) (fun K hK => ?_); apply Exists.intro; refine ⟨fun W hSW => ?_, hK _ ?_⟩; (focus ((try dsimp only at hSW); go_simp; try with_reducible rfl)); clear hK K; (try simp only [Act.put, List.setIfInBounds_toArray, List.set_cons_zero, List.set_cons_succ])
              refine ordT_take RD 23 (at_list (by rw [HOP.out]; rfl)) HNS.out HPQ.out (by rw [HOP.out]; kernel_rfl) (by rw [HOP.out]; kernel_rfl) (by rw [HOP.out]; rfl) (fun K hK => ?_); apply Exists.intro; refine ⟨fun W hSW => ?_, hK _ ?_⟩; (focus ((try dsimp only at hSW); go_simp; try with_reducible rfl)); clear hK K; (try simp only [Act.put, List.setIfInBounds_toArray, List.set_cons_zero, List.set_cons_succ])
              refine ordT_take RD 24 (at_list (by rw [HOP.out]; rfl)) HNS.out HPQ.out (by rw [HOP.out]; kernel_rfl) (by rw [HOP.out]; kernel_rfl) (by rw [HOP.out]; rfl) (fun K hK => ?_); apply Exists.intro; refine ⟨fun W hSW => ?_, hK _ ?_⟩; (focus ((try dsimp only at hSW); go_simp; try with_reducible rfl)); clear hK K; (try simp only [Act.put, List.setIfInBounds_toArray, List.set_cons_zero, List.set_cons_succ])
              refine ordT_end (by rw [HOP.out]; kernel_rfl) (fun W2 hWW hSW => ?_); rw [HOP.out]; simp only [List.drop_succ_cons, List.drop_zero]; have hN := HN.out; clear HOP HNS HPQ HN RD; (try dsimp only at hSW)
              obtain ⟨nm, rfl⟩ := hWW
              go_wp2_with fail
              go_roundw
              case rel =>
                refine ⟨t + 1, by have := HLT.out; omega, by go_num, ?_, ?_, ?_, ?_, ?_⟩
                · rw [HRS.out, rnd_form, HF.out, HC.out]
                  exact (((((HKK.out.drewN _).set 0 _).set 1 _).set 2 _).set 3 _).set 4 _
                · have hne : g8 ≠ w.heap.size := by have := HSZ.out; omega
                  exact (((((HR.out.drewN _).other hne _).other hne _).other hne _).other hne _).other hne _
                · have hne : (Value.slice (some ⟨g, 0, none⟩) 80 c).ownBlock ≠ some g8 := by have := HSZ.out; simp [Value.ownBlock]; omega
                  exact own_set (own_set (own_set (own_set (own_set (own_drNU HO.out _) hne _) hne _) hne _) hne _) hne _
                · have hne : g8 ≠ w.heap.size + 1 := by have := HSZ.out; omega
                  exact (((((HZ.out.drewN _).other hne _).other hne _).other hne _).other hne _).other hne _
                · have := HACC.out
                  have : w.heap.size ≤ g8 := by have := HSZ.out; omega
                  (repeat' (first | (with_reducible exact Below.refl _ _) | (with_reducible assumption) | (with_reducible refine below_drewN ?_ _) | (with_reducible refine below_new ?_ _) | (with_reducible refine Below.alloc ?_ ?_ _) | (with_reducible refine Below.drew ?_) | (with_reducible refine Below.setCell ?_ ?_ _) | (with_reducible apply below_at; (case k => (with_reducible assumption)); (case hB => omega)) | (with_reducible apply below_on; (with_reducible assumption)) | (go_size; done) | (with_reducible apply size_of)))
              case measure => simp [intOf]; have := HLT.out; omega
            · have k80 : ¬ (t : Int) < 80 := by omega
              have e80 : t = 80 := by omega
              have HV : Hid (addW h (rnds (sch b 80) t h) = dn h b) := Lib.hid (by rw [e80]; rfl)
              clear K R own Z acc ht hlt HO e80
              generalize rnds (sch b 80) t h = v at *
              go_wp2_with fail
              go_loopw [12] (fun i wr => ∃ j : Nat, j ≤ 5 ∧ i = .int .i64 j ∧ Lies wr w.heap.size 98 ((mixL h v j).map (Value.int .u32)) ∧ Lies (wr) (g8) 98 (c5 (v)) ∧ Lies wr (w.heap.size + 1) 98 (c5 ⟨0, 0, 0, 0, 0⟩) ∧ Below w.heap.size w wr) (fun i _ => 5 - (intOf i).toNat)
              case atStart => exact ⟨0, by omega, rfl, HR.out, HKK.out, HZ.out, HACC.out⟩
              case round =>
                clear HKK HR HZ HACC
                obtain ⟨j, hj, rfl, R, K, Z, acc⟩ := hrel
                have HK := Lib.hid K
                have HR := Lib.hid R
                have HZ := Lib.hid Z
                have HACC := Lib.hid acc
                by_cases hlt : j < 5
                · have p0 : wr.cell? ⟨w.heap.size, j, none⟩ = some (.int .u32 ((l5 h).getD j 0)) := by rw [R.cell, List.getElem?_map, mixL_at h v j hlt]; rfl
                  have p1 : wr.cell? ⟨g8, j, none⟩ = some (.int .u32 ((l5 v).getD j 0)) := by rw [K.cell, c5, List.getElem?_map, l5_get v j hlt]; rfl
                  have p2 := R.free j
                  have zk := R.lt
                  have zl := K.lt
                  have HST : Hid ((mixL h v j).set j (((l5 h).getD j 0 + (l5 v).getD j 0) % 4294967296) = mixL h v (j + 1)) := Lib.hid (mixL_set h v j hlt)
                  have HLT := Lib.hid hlt
                  have j0 : 0 ≤ (j : Int) := by omega
                  have j1 : (j : Int) < 5 := by omega
                  clear K R Z acc hj hlt
                  generalize (l5 h).getD j 0 = y at *
                  generalize (l5 v).getD j 0 = z at *
                  go_wp2_with fail
                  refine region_still_tail 8 (by kernel_rfl) (by kernel_rfl) ?_; simp only [List.take_succ_cons, List.take_zero, List.drop_succ_cons, List.drop_zero]
                  repeat still_step
                  refine wpStill_nil ?_
                  go_wp2_with fail
                  refine ⟨⟨j + 1, by have := HLT.out; omega, by go_num, ?_, ?_, ?_, ?_⟩, ?_⟩
                  · rw [← HST.out]
                    have := HR.out.set j (.int .u32 ((y + z) % 4294967296))
                    rw [← List.map_set] at this
                    exact this.drew
                  · have hne : w.heap.size ≠ g8 := by have := HSZ.out; omega
                    exact (HK.out.other hne _).drew
                  · exact (HZ.out.other (by show w.heap.size ≠ w.heap.size + 1; omega) _).drew
                  · have := HACC.out; (repeat' (first | (with_reducible exact Below.refl _ _) | (with_reducible assumption) | (with_reducible refine below_drewN ?_ _) | (with_reducible refine below_new ?_ _) | (with_reducible refine Below.alloc ?_ ?_ _) | (with_reducible refine Below.drew ?_) | (with_reducible refine Below.setCell ?_ ?_ _) | (with_reducible apply below_at; (case k => (with_reducible assumption)); (case hB => omega)) | (with_reducible apply below_on; (with_reducible assumption)) | (go_size; done) | (with_reducible apply size_of)))
                  · simp [intOf]; have := HLT.out; omega
                · have j5 : ¬ (j : Int) < 5 := by omega
                  have e5 : j = 5 := by omega
                  have R5 : Lies (wr) (w.heap.size) 98 (c5 (addW h v)) := by
                    have := HR.out
                    rw [e5, mixL_5] at this
                    exact this
                  rw [HV.out] at R5
                  clear K R Z acc hj hlt HK HR e5
                  obtain ⟨p0, p1, p2, p3, p4⟩ := five R5
                  obtain ⟨f0, f1, f2, f3, f4⟩ := free5 HZ.out
                  obtain ⟨z0, z1, z2, z3, z4⟩ := five (v := ⟨0, 0, 0, 0, 0⟩) HZ.out
                  have zk := R5.lt
                  have zz := HZ.out.lt
                  generalize hu : dn h b = u at *
                  have HU := Lib.hid hu
                  clear hu
                  have HR5 := Lib.hid R5
                  clear R5
                  go_wp2_with fail
                  obtain ⟨t0, t1, t2, t3, t4⟩ := five (lies_set5 HZ.out u)
                  clear p0 p1 p2 p3 p4 z0 z1 z2 z3 z4 f0 f1 f2 f3 f4
                  refine bodyPost_ret (by simp [results, Tryd.results47, go_sem, t0, t1, t2, t3, t4]; try rfl) rfl ?_
                  exact ⟨by rw [HU.out], by have := HACC.out; (repeat' (first | (with_reducible exact Below.refl _ _) | (with_reducible assumption) | (with_reducible refine below_drewN ?_ _) | (with_reducible refine below_new ?_ _) | (with_reducible refine Below.alloc ?_ ?_ _) | (with_reducible refine Below.drew ?_) | (with_reducible refine Below.setCell ?_ ?_ _) | (with_reducible apply below_at; (case k => (with_reducible assumption)); (case hB => omega)) | (with_reducible apply below_on; (with_reducible assumption)) | (go_size; done) | (with_reducible apply size_of)))⟩
end Go.Proofs.YtphakelncjogpaaDoor.shW
