/- The reference's new adaptive map, by a walk. -/
import Derived.Test.YtipbafcjmeibpaaAdStep
import Derived.Test.YtipbafcjmeibpaaAdW9
import Derived.Deep.RegionLaw
namespace Go.Proofs.Ytipbafcjmeibpaa.adW
open Go.RowKit Go.Proofs.Ytipbafcjmeibpaa.base Go.Proofs.Ytipbafcjmeibpaa.adP
set_option linter.unusedVariables false
set_option linter.unusedSimpArgs false

theorem has_fresh32 {w : World} {g : Nat} {x : Int} (hg : w.heap.size = g) : Has .i32 (w.alloc (.cells #[.int .i32 x] 21)) (some ⟨g, 0, none⟩) [x] := has_lit (zs := [x]) hg (by show 1 ≤ maxLen; decide)
theorem has_drew {w : World} {A : Option Addr} {zs : List Int} (h : Has .i32 w A zs) : Has .i32 w.drew A zs := h
theorem has_alloc {w : World} {A : Option Addr} {zs : List Int} (h : Has .i32 w A zs) (o : Obj) : Has .i32 (w.alloc o) A zs := h.below ((Below.refl _ _).alloc (Nat.le_refl _) _) (Nat.le_refl _)
theorem has_kept {w w' : World} {b : Nat} {zs : List Int} {row : Option Nat} (h : Has .i32 w (some ⟨b, 0, none⟩) zs) (hg : w.grownBy w' row) (hb : b < w.heap.size) (hne : some b ≠ row) : Has .i32 w' (some ⟨b, 0, none⟩) zs := by
  rcases h with rfl | ⟨b', off, ha, _, hc⟩
  · exact .inl rfl
  · injection ha with ha
    injection ha with e1 e2 _
    subst e1 e2
    refine .inr ⟨b, 0, rfl, Nat.lt_of_lt_of_le hb hg.size, fun i hi => ?_⟩
    have := hc i hi
    simp only [World.cell?] at *
    rw [hg.block b hb hne]; exact this
theorem apart_turn {u v : Value} (h : Apart2 u v) : v.ownBlock = none ∨ v.ownBlock ≠ u.ownBlock := by
  rcases h with h | h
  · rcases hv : v.ownBlock with _ | b
    · exact .inl rfl
    · exact .inr (by rw [h]; simp)
  · exact .inr (fun e => h e.symm)
theorem apart_new {u u' v : Value} {b : Nat} (h : Apart2 u v) (hb : u'.ownBlock = u.ownBlock ∨ u'.ownBlock = some b) (hn : some b ≠ v.ownBlock) : Apart2 u' v := by
  rcases hb with hb | hb
  · unfold Apart2; rw [hb]; exact h
  · exact .inr (by rw [hb]; exact hn)
theorem apart_next {u v v' : Value} {b : Nat} (h : Apart2 u v) (hb : v'.ownBlock = v.ownBlock ∨ v'.ownBlock = some b) (hn : some b ≠ u.ownBlock) : Apart2 u v' := by
  rcases hb with hb | hb
  · unfold Apart2; rw [hb]; exact h
  · exact .inr (by rw [hb]; exact fun e => hn e.symm)
theorem own_set2 {w : World} {B g : Nat} {e t : TypeId} {k : IntKind} {v : Value} {zs : List Int} {cs : List Value} (h : OwnI w B e k v zs) (K : Lies w g t cs) (ht : t ≠ e) (i j : Nat) (x y : Value) : OwnI ((w.setCell ⟨g, i, none⟩ x).setCell ⟨g, j, none⟩ y) B e k v zs :=
  own_set (own_set h (own_ne h K ht) x) (own_ne h K ht) y
theorem rep_snoc (k : Nat) (x : Int) : List.replicate k x ++ [x] = List.replicate (k + 1) x := (List.replicate_succ' ..).symm
def repZ (k : Nat) (x : Int) : List Int := List.replicate k x
theorem repZ_len (k : Nat) (x : Int) : (repZ k x).length = k := List.length_replicate
theorem repZ_snoc (k : Nat) (x : Int) : repZ k x ++ [x] = repZ (k + 1) x := rep_snoc k x
theorem repZ_eq (k : Nat) (x : Int) : repZ k x = List.replicate k x := rfl
theorem repZ_zero (x : Int) : repZ 0 x = [] := rfl
attribute [irreducible] repZ
set_option maxHeartbeats 40000000 in
theorem Begin_ok (l : Int) (w : World) (h1 : 1 ≤ l) (h2 : l ≤ 1000) :
    Calls Try.prog 33 #[.int .i64 l] w fun e w' => ∃ A B c d, e = .returned (.agg #[.int .i32 l, .slice A 193 c, .slice B 193 d]) ∧ OwnI w' w.heap.size 21 .i32 (.slice A 193 c) (repZ 193 32768) ∧ OwnI w' w.heap.size 21 .i32 (.slice B 193 d) (repZ 193 0) ∧ Below w.heap.size w w' := by
  have hw : IntKind.i32.wrap l = l := by rw [IntKind.wrap_i32]; omega
  go_enter Try.func33, Try.ntmps33
  go_wp2_with fail
  go_loopw [4] (fun i wr => ∃ (k : Nat) (A B : Option Addr) (c d : Nat), k ≤ 193 ∧ i = .int .i64 (k : Int) ∧ (Lies (wr) (w.heap.size + 1) 24 [.int .i32 (l), .slice (A) (k) (c), .slice (B) (k) (d)]) ∧ OwnI wr (w.heap.size + 2) 21 .i32 (.slice A k c) (repZ k 32768) ∧ OwnI wr (w.heap.size + 2) 21 .i32 (.slice B k d) (repZ k 0) ∧ Apart2 (.slice A k c) (.slice B k d) ∧ (Lies (wr) (w.heap.size) 24 [.int .i32 0, .slice none 0 0, .slice none 0 0]) ∧ Below w.heap.size w wr) (fun i _ => 193 - (intOf i).toNat)
  case atStart => exact ⟨0, none, none, 0, 0, by omega, rfl, by (repeat' (first | (with_reducible assumption) | (with_reducible exact Lies.fresh _ _ _) | (with_reducible apply Lies.fresh_at; (first | (with_reducible rfl) | (simp; done))) | (with_reducible refine Lies.drew ?_) | (with_reducible refine Lies.drewN ?_ _) | (with_reducible refine Lies.alloc ?_ _) | (with_reducible apply Lies.past; case hb => (with_reducible assumption)) | (with_reducible apply Lies.keeps; (case k => (with_reducible assumption)); (case ht => decide)) | (with_reducible apply Lies.store3) | (with_reducible apply Lies.other; case hp => (first | omega | (simp; done) | (simp; omega))))), by rw [repZ_zero]; exact OwnI.nil _ _ _ _, by rw [repZ_zero]; exact OwnI.nil _ _ _ _, .inl rfl, by (repeat' (first | (with_reducible assumption) | (with_reducible exact Lies.fresh _ _ _) | (with_reducible apply Lies.fresh_at; (first | (with_reducible rfl) | (simp; done))) | (with_reducible refine Lies.drew ?_) | (with_reducible refine Lies.drewN ?_ _) | (with_reducible refine Lies.alloc ?_ _) | (with_reducible apply Lies.past; case hb => (with_reducible assumption)) | (with_reducible apply Lies.keeps; (case k => (with_reducible assumption)); (case ht => decide)) | (with_reducible apply Lies.store3) | (with_reducible apply Lies.other; case hp => (first | omega | (simp; done) | (simp; omega))))), by (repeat' (first | (with_reducible exact Below.refl _ _) | (with_reducible assumption) | (with_reducible refine below_drewN ?_ _) | (with_reducible refine below_new ?_ _) | (with_reducible refine Below.alloc ?_ ?_ _) | (with_reducible refine Below.drew ?_) | (with_reducible refine Below.setCell ?_ ?_ _) | (with_reducible apply below_at; (case k => (with_reducible assumption)); (case hB => omega)) | (with_reducible apply below_on; (with_reducible assumption)) | (go_size; done) | (with_reducible apply size_of)))⟩
  case round =>
    obtain ⟨k, A, B, c, d, hk, rfl, K, OP, ON, AP, R, W⟩ := hrel
    have HKK := Lib.hid K
    have HOP := Lib.hid OP
    have HON := Lib.hid ON
    have HAP := Lib.hid AP
    have HRR := Lib.hid R
    have HW := Lib.hid W
    have lk := K.lt
    have lr := R.lt
    obtain ⟨p0, p1, p2, f0, f1, f2⟩ := K.three
    obtain ⟨r0, r1, r2, s0, s1, s2⟩ := R.three
    by_cases hlt : k < 193
    · have HL := Lib.hid hlt
      have hki : (k : Int) < 193 := by omega
      have hk0 : 0 ≤ (k : Int) := by omega
      have hneK : Hid (∀ v : Value, v = .slice A k c ∨ v = .slice B k d → some (w.heap.size + 1) ≠ v.ownBlock ∧ some w.heap.size ≠ v.ownBlock) := Lib.hid (fun v hv => by
        rcases hv with rfl | rfl
        · exact ⟨fun e => own_ne OP K (by decide) e.symm, fun e => own_ne OP R (by decide) e.symm⟩
        · exact ⟨fun e => own_ne ON K (by decide) e.symm, fun e => own_ne ON R (by decide) e.symm⟩)
      have hneL : Hid (∀ b : Nat, wr.heap.size ≤ b → some b ≠ (Value.slice A k c).ownBlock) := Lib.hid (fun b hb e => by have := OP.blk b e.symm; omega)
      have hneN : Hid (∀ b : Nat, wr.heap.size ≤ b → some b ≠ (Value.slice B k d).ownBlock) := Lib.hid (fun b hb e => by have := ON.blk b e.symm; omega)
      clear K OP ON AP R W hlt hk
      go_wp2_with fail
      focus
        have hop := HOP.out
        have hon := HON.out
        go_region_law (first
          | (refine step_app32o (by rfl) _ _ (by rfl) (w.heap.size + 2) (.slice A k c) (repZ k 32768) (by rfl) (by (repeat' (first | (with_reducible assumption) | (with_reducible refine own_drew ?_) | (with_reducible refine own_alloc ?_ _)))) _ 1 32768 (by rfl) (by (repeat' (first | (with_reducible assumption) | (with_reducible refine has_fresh32 ?_; (focus (first | rfl | (simp; done)))) | (with_reducible refine has_drew ?_) | (with_reducible refine has_alloc ?_ _)))) (k + 1) (by rw [repZ_len]) (by have := HL.out; omega) (by first | omega | (simp; omega)) ?_; intro A1 c1 w1 own1 gr1 bl1 hb1; have K1 : Lies (w1) (w.heap.size + 1) 24 [.int .i32 (l), .slice (A) (k) (c), .slice (B) (k) (d)] := (by refine Lies.grown ?_ gr1 (hneK.out _ (.inl rfl)).1; have KZ := HKK.out; (repeat' (first | (with_reducible assumption) | (with_reducible exact Lies.fresh _ _ _) | (with_reducible apply Lies.fresh_at; (first | (with_reducible rfl) | (simp; done))) | (with_reducible refine Lies.drew ?_) | (with_reducible refine Lies.drewN ?_ _) | (with_reducible refine Lies.alloc ?_ _) | (with_reducible apply Lies.past; case hb => (with_reducible assumption)) | (with_reducible apply Lies.keeps; (case k => (with_reducible assumption)); (case ht => decide)) | (with_reducible apply Lies.store3) | (with_reducible apply Lies.other; case hp => (first | omega | (simp; done) | (simp; omega)))))); have R1 : Lies (w1) (w.heap.size) 24 [.int .i32 0, .slice none 0 0, .slice none 0 0] := (by refine Lies.grown ?_ gr1 (hneK.out _ (.inl rfl)).2; have KZ := HRR.out; (repeat' (first | (with_reducible assumption) | (with_reducible exact Lies.fresh _ _ _) | (with_reducible apply Lies.fresh_at; (first | (with_reducible rfl) | (simp; done))) | (with_reducible refine Lies.drew ?_) | (with_reducible refine Lies.drewN ?_ _) | (with_reducible refine Lies.alloc ?_ _) | (with_reducible apply Lies.past; case hb => (with_reducible assumption)) | (with_reducible apply Lies.keeps; (case k => (with_reducible assumption)); (case ht => decide)) | (with_reducible apply Lies.store3) | (with_reducible apply Lies.other; case hp => (first | omega | (simp; done) | (simp; omega)))))); have ON1 : OwnI w1 (w.heap.size + 2) 21 .i32 (.slice B k d) (repZ k 0) := (by refine OwnI.kept ?_ gr1 (apart_turn HAP.out); (repeat' (first | (with_reducible assumption) | (with_reducible refine own_drew ?_) | (with_reducible refine own_alloc ?_ _)))); have hP1 : Apart2 (.slice A1 (k + 1) c1) (.slice B k d) := (apart_new HAP.out bl1 (hneN.out _ (by first | exact Nat.le_refl _ | (simp; done) | (simp; omega)))); have hk1 := fun (b : Nat) (zs : List Int) h1 h2 h3 => has_kept (b := b) (zs := zs) h3 gr1 h2 (hneL.out b h1); have z1 := gr1.size; have hB1 : Below w.heap.size w w1 := (by have h0 := HW.out; refine Below.trans ?_ (hb1.mono (by omega)); (repeat' (first | (with_reducible exact Below.refl _ _) | (with_reducible assumption) | (with_reducible refine below_drewN ?_ _) | (with_reducible refine below_new ?_ _) | (with_reducible refine Below.alloc ?_ ?_ _) | (with_reducible refine Below.drew ?_) | (with_reducible refine Below.setCell ?_ ?_ _) | (with_reducible apply below_at; (case k => (with_reducible assumption)); (case hB => omega)) | (with_reducible apply below_on; (with_reducible assumption)) | (go_size; done) | (with_reducible apply size_of)))); have l1 := K1.lt; obtain ⟨p0, p1, p2, f0, f1, f2⟩ := K1.three)
          | (refine step_app32o (by rfl) _ _ (by rfl) (w.heap.size + 2) (.slice B k d) (repZ k 0) (by rfl) (by (repeat' (first | (with_reducible assumption) | (with_reducible refine own_drew ?_) | (with_reducible refine own_alloc ?_ _)))) _ 1 0 (by rfl) (by (repeat' (first | (with_reducible assumption) | (with_reducible refine has_fresh32 ?_; (focus (first | rfl | (simp; done)))) | (with_reducible refine has_drew ?_) | (with_reducible refine has_alloc ?_ _) | (with_reducible refine hk1 _ _ ?_ ?_ ?_; (focus (first | omega | (simp; done) | (simp; omega))); (focus (first | omega | (simp; done) | (simp; omega))))))) (k + 1) (by rw [repZ_len]) (by have := HL.out; omega) (by first | omega | (simp; omega)) ?_; intro A2 c2 w2 own2 gr2 bl2 hb2; have K2 : Lies (w2) (w.heap.size + 1) 24 [.int .i32 (l), .slice (A) (k) (c), .slice (B) (k) (d)] := (by refine Lies.grown ?_ gr2 (hneK.out _ (.inr rfl)).1; (repeat' (first | (with_reducible assumption) | (with_reducible exact Lies.fresh _ _ _) | (with_reducible apply Lies.fresh_at; (first | (with_reducible rfl) | (simp; done))) | (with_reducible refine Lies.drew ?_) | (with_reducible refine Lies.drewN ?_ _) | (with_reducible refine Lies.alloc ?_ _) | (with_reducible apply Lies.past; case hb => (with_reducible assumption)) | (with_reducible apply Lies.keeps; (case k => (with_reducible assumption)); (case ht => decide)) | (with_reducible apply Lies.store3) | (with_reducible apply Lies.other; case hp => (first | omega | (simp; done) | (simp; omega)))))); have R2 : Lies (w2) (w.heap.size) 24 [.int .i32 0, .slice none 0 0, .slice none 0 0] := (by refine Lies.grown ?_ gr2 (hneK.out _ (.inr rfl)).2; (repeat' (first | (with_reducible assumption) | (with_reducible exact Lies.fresh _ _ _) | (with_reducible apply Lies.fresh_at; (first | (with_reducible rfl) | (simp; done))) | (with_reducible refine Lies.drew ?_) | (with_reducible refine Lies.drewN ?_ _) | (with_reducible refine Lies.alloc ?_ _) | (with_reducible apply Lies.past; case hb => (with_reducible assumption)) | (with_reducible apply Lies.keeps; (case k => (with_reducible assumption)); (case ht => decide)) | (with_reducible apply Lies.store3) | (with_reducible apply Lies.other; case hp => (first | omega | (simp; done) | (simp; omega)))))); have OP2 : OwnI w2 (w.heap.size + 2) 21 .i32 (.slice A1 (k + 1) c1) (repZ k 32768 ++ [32768]) := (by refine OwnI.kept ?_ gr2 hP1; (repeat' (first | (with_reducible assumption) | (with_reducible refine own_drew ?_) | (with_reducible refine own_alloc ?_ _)))); have AP2 : Apart2 (.slice A1 (k + 1) c1) (.slice A2 (k + 1) c2) := (apart_next hP1 bl2 (fun e => by have := own1.blk _ e.symm; first | omega | (simp at this; omega))); have hB2 : Below w.heap.size w w2 := (by refine Below.trans ?_ (hb2.mono (by omega)); (repeat' (first | (with_reducible exact Below.refl _ _) | (with_reducible assumption) | (with_reducible refine below_drewN ?_ _) | (with_reducible refine below_new ?_ _) | (with_reducible refine Below.alloc ?_ ?_ _) | (with_reducible refine Below.drew ?_) | (with_reducible refine Below.setCell ?_ ?_ _) | (with_reducible apply below_at; (case k => (with_reducible assumption)); (case hB => omega)) | (with_reducible apply below_on; (with_reducible assumption)) | (go_size; done) | (with_reducible apply size_of)))); have l2 := K2.lt; obtain ⟨p0, p1, p2, f0, f1, f2⟩ := K2.three))
        all_goals
          go_wp2_with fail
          go_roundw
          case rel =>
            refine ⟨k + 1, A1, A2, c1, c2, by have := HL.out; omega, by go_num, (K2.set 1 _).set 2 _, ?_, ?_, AP2, (R2.other (by simp) _).other (by simp) _, ?_⟩
            · have h := own_set2 OP2 K2 (by decide) 1 2 (.slice A1 (k + 1) c1) (.slice A2 (k + 1) c2)
              rw [repZ_snoc] at h
              exact h
            · have h := own_set2 own2 K2 (by decide) 1 2 (.slice A1 (k + 1) c1) (.slice A2 (k + 1) c2)
              rw [repZ_snoc] at h
              exact h
            · (repeat' (first | (with_reducible exact Below.refl _ _) | (with_reducible assumption) | (with_reducible refine below_drewN ?_ _) | (with_reducible refine below_new ?_ _) | (with_reducible refine Below.alloc ?_ ?_ _) | (with_reducible refine Below.drew ?_) | (with_reducible refine Below.setCell ?_ ?_ _) | (with_reducible apply below_at; (case k => (with_reducible assumption)); (case hB => omega)) | (with_reducible apply below_on; (with_reducible assumption)) | (go_size; done) | (with_reducible apply size_of)))
          case measure => have := HL.out; simp [intOf]; omega
    · have hki : ¬ ((k : Int) < 193) := by omega
      have HE : Hid (k = 193) := Lib.hid (by omega)
      clear K OP ON AP R W hlt hk
      go_wp2
      obtain ⟨t0, t1, t2, -, -, -⟩ := (HRR.out.store3 (a := .int .i32 l) (b := .slice A k c) (c := .slice B k d)).three
      refine bodyPost_ret (by simp [results, Try.results33, go_sem, t0, t1, t2]; try rfl) rfl ?_
      have o1 := own_set (own_set2 HOP.out HRR.out (by decide) 0 1 (.int .i32 l) (.slice A k c)) (fun e => by have h := own_ne HOP.out HRR.out (by decide); exact h e) (.slice B k d) (p := ⟨w.heap.size, 2, none⟩)
      have o2 := own_set (own_set2 HON.out HRR.out (by decide) 0 1 (.int .i32 l) (.slice A k c)) (fun e => by have h := own_ne HON.out HRR.out (by decide); exact h e) (.slice B k d) (p := ⟨w.heap.size, 2, none⟩)
      have he := HE.out
      subst he
      exact ⟨A, B, c, d, rfl, OwnI.mono o1 (by omega), OwnI.mono o2 (by omega), by have := HW.out; (repeat' (first | (with_reducible exact Below.refl _ _) | (with_reducible assumption) | (with_reducible refine below_drewN ?_ _) | (with_reducible refine below_new ?_ _) | (with_reducible refine Below.alloc ?_ ?_ _) | (with_reducible refine Below.drew ?_) | (with_reducible refine Below.setCell ?_ ?_ _) | (with_reducible apply below_at; (case k => (with_reducible assumption)); (case hB => omega)) | (with_reducible apply below_on; (with_reducible assumption)) | (go_size; done) | (with_reducible apply size_of)))⟩
end Go.Proofs.Ytipbafcjmeibpaa.adW
