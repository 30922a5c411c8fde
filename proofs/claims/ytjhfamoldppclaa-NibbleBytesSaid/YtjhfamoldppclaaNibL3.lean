/- NibbleBytes, by a walk. -/
import Derived.Test.YtjhfamoldppclaaNibL
import Derived.IntWalk
namespace Go.Proofs.Ytjhfamoldppclaa.nibL
open Go.RowKit Go.Proofs.Ytjhfamoldppclaa.base Go.Proofs.Ytjhfamoldppclaa.nibP Go.Proofs.Ytjhfamoldppclaa.nibW
set_option linter.unusedVariables false
set_option linter.unusedSimpArgs false

/-- The walk after k bits of a byte. -/
def wk (b k : Nat) : Nat := if k < 8 then prt ((rd (256 + b)).take k) else 1
theorem byte_facts : ∀ b : Nat, b < 256 → ∀ k, k < 8 → 1 ≤ wk b k ∧ wk b k < 256 ∧ (16 ≤ wk b k ↔ 4 ≤ k) ∧ (128 ≤ wk b k ↔ k = 7) ∧ pn b k = nd (wk b k) ∧ (k < 7 → wk b (k + 1) = 2 * wk b k + ((rd (256 + b)).getD k false).toNat) ∧ (k = 7 → 2 * wk b k + ((rd (256 + b)).getD k false).toNat = 256 + b) := by decide +kernel
set_option maxRecDepth 100000 in
set_option maxHeartbeats 8000000 in
theorem bytes (b : Int) (w : World) (b1 : 0 ≤ b) (b2 : b ≤ 255) : Calls Try.prog 6 #[.int .u8 b] w fun e w' => e = .returned (.bool true) ∧ Below w.heap.size w w' := by
  obtain ⟨c, rfl⟩ : ∃ c : Nat, b = c := ⟨b.toNat, by omega⟩
  have hc : c < 256 := by omega
  have HF := Lib.hid (byte_facts c hc)
  have HBB := Lib.hid (byte_bit c hc)
  have hP1 : ∀ v ∈ (pvals c).toArray.toList, v.oneCell' = true := by
    intro v hv
    simp only [pvals, List.mem_map] at hv
    obtain ⟨i, _, rfl⟩ := hv
    rfl
  have HP1 := Lib.hid hP1
  have HPG : Hid (∀ k, k < 8 → (pvals c)[k]? = some (.int .i64 (pn c k))) := Lib.hid (fun k hk => by simp [pvals, hk])
  have W0 : Hid (wk c 0 = 1) := Lib.hid rfl
  clear hP1
  go_enter Try.func6, Try.ntmps6
  go_wp2_with fail
  refine (alive _).mono ?_
  rintro e w1 ⟨rfl, hb1⟩
  have acc : Below w.heap.size w w1 := by (repeat' (first | (with_reducible exact Below.refl _ _) | (with_reducible assumption) | (with_reducible refine below_drewN ?_ _) | (with_reducible refine below_new ?_ _) | (with_reducible refine Below.alloc ?_ ?_ _) | (with_reducible refine Below.drew ?_) | (with_reducible refine Below.setCell ?_ ?_ _) | (with_reducible apply below_on; (with_reducible assumption)) | (go_size; done) | (with_reducible apply size_of)))
  go_wp2_with fail
  refine (Path_any c _ hc).mono ?_
  rintro e w2 ⟨rfl, hb2⟩
  unfold pagg
  replace acc : Below w.heap.size w w2 := by (repeat' (first | (with_reducible exact Below.refl _ _) | (with_reducible assumption) | (with_reducible refine below_drewN ?_ _) | (with_reducible refine below_new ?_ _) | (with_reducible refine Below.alloc ?_ ?_ _) | (with_reducible refine Below.drew ?_) | (with_reducible refine Below.setCell ?_ ?_ _) | (with_reducible apply below_on; (with_reducible assumption)) | (go_size; done) | (with_reducible apply size_of)))
  clear hb1 hb2
  go_wp2_with (show wpList _ _ _ ({ dst := none, op := Op.store _ _ _, type := _, pos := _, after := _, guard := none } :: _) _ _; go_must (refine wpList_store_arr (P := Try.prog) rfl 50 (.tmp 4) (.tmp 17) rfl w2.heap.size ?c4 (pvals c).toArray ?c0 50 _ (heap_alloc_new _ _) (by rfl) HP1.out info50 ?_); (case c4 => rfl); (case c0 => rfl); intro w3 hR3 hb3 hz3)
  have R3 : Hid (Lies w3 w2.heap.size 50 (pvals c)) := Lib.hid hR3
  have z3 : w3.heap.size = w2.heap.size + 1 := by rw [hz3]; simp
  have Z3 := Lib.hid z3
  have lt3 : w2.heap.size < w3.heap.size := by omega
  have acc3 : Below w.heap.size w w3 := (acc.alloc (by have := acc.size; omega) _).trans (hb3.mono acc.size)
  clear hR3 hb3 hz3 z3 acc
  refine (New_any _).mono ?_
  rintro e w4 ⟨rfl, hb4⟩
  have R4 := Lib.hid (R3.out.past hb4)
  have acc : Below w.heap.size w w4 := by (repeat' (first | (with_reducible exact Below.refl _ _) | (with_reducible assumption) | (with_reducible refine below_drewN ?_ _) | (with_reducible refine below_new ?_ _) | (with_reducible refine Below.alloc ?_ ?_ _) | (with_reducible refine Below.drew ?_) | (with_reducible refine Below.setCell ?_ ?_ _) | (with_reducible apply below_on; (with_reducible assumption)) | (go_size; done) | (with_reducible apply size_of)))
  have lt4 := R4.out.lt
  clear hb4 acc3 R3 Z3
  go_wp2_with fail
  go_loopw [6] (fun i wr => ∃ k : Nat, k ≤ 8 ∧ i = .int .i64 k ∧ Lies wr w4.heap.size 23 [.int .i64 (wk c k : Nat)] ∧ Below w4.heap.size w4 wr) (fun i _ => 8 - (intOf i).toNat)
  case atStart => exact ⟨0, by omega, rfl, by rw [W0.out]; exact Lies.fresh _ _ _, by (repeat' (first | (with_reducible exact Below.refl _ _) | (with_reducible assumption) | (with_reducible refine below_drewN ?_ _) | (with_reducible refine below_new ?_ _) | (with_reducible refine Below.alloc ?_ ?_ _) | (with_reducible refine Below.drew ?_) | (with_reducible refine Below.setCell ?_ ?_ _) | (with_reducible apply below_on; (with_reducible assumption)) | (go_size; done) | (with_reducible apply size_of)))⟩
  case round =>
    obtain ⟨k, hk, rfl, K, hbw⟩ := hrel
    have HK := Lib.hid K
    have HW := Lib.hid hbw
    obtain ⟨p0, f0⟩ := K.one
    have zk := K.lt
    clear K hbw
    by_cases hlt : k < 8
    · obtain ⟨s1, s2, s3, s4, s5, s6, s7⟩ := HF.out k hlt
      have HBK := Lib.hid (HBB.out k hlt)
      have R5 := Lib.hid (R4.out.past HW.out)
      have HGK := Lib.hid (HPG.out k hlt)
      obtain ⟨m, hm⟩ : ∃ m, m = wk c k := ⟨_, rfl⟩
      rw [← hm] at s1 s2 s3 s4 s5 s6 s7 p0 HK
      have HM := Lib.hid hm
      obtain ⟨x, hx⟩ : ∃ x, x = (rd (256 + c)).getD k false := ⟨_, rfl⟩
      rw [← hx] at HBK s6 s7
      have HX := Lib.hid hx
      have a : wOk m = true := (wOk_iff _).2 (by omega)
      have E : Hid (wE m = 0 ∧ ndV m = pn c k ∧ scV m = decide (4 ≤ (k : Int))) := Lib.hid ⟨wE_yes a, by rw [ndV, if_pos a, s5]; simp, by rw [scV, a, Bool.true_and]; exact decide_eq_decide.2 (by omega)⟩
      have S6 := Lib.hid s6
      have S7 := Lib.hid s7
      have S4 := Lib.hid s4
      clear hm hx s3 s4 s5 s6 s7
      go_wp2_with fail
      refine (Node_any m _).mono ?_
      rintro e v1 ⟨rfl, hv1⟩
      rw [E.out.1, E.out.2.1]
      have K1 := Lib.hid (HK.out.past hv1)
      have R6 := Lib.hid (R5.out.past hv1)
      obtain ⟨p0, f0⟩ := K1.out.one
      have W1 := Lib.hid (HW.out.trans (hv1.mono HW.out.size))
      clear hv1
      go_wp2_with fail
      refine (Second_any m _).mono ?_
      rintro e v2 ⟨rfl, hv2⟩
      rw [E.out.1, E.out.2.2]
      have K2 := Lib.hid (K1.out.past hv2)
      have R7 := Lib.hid (R6.out.past hv2)
      obtain ⟨p0, f0⟩ := K2.out.one
      have W2 := Lib.hid (W1.out.trans (hv2.mono W1.out.size))
      have q0 := (R7.out.cell k).trans HGK.out
      have zk2 := K2.out.lt
      clear hv2 K1 R6 W1 R5 HK
      obtain ⟨j, hj⟩ : ∃ j : Nat, j = 7 - k := ⟨_, rfl⟩
      rw [← hj] at HBK
      have ej : (7 : Int) - k = (j : Int) := by omega
      have ew : IntKind.i64.wrap (j : Int) = (j : Int) := IntWalk.i64_in _ (by omega)
      have ew0 : (0 : Int) ≤ j := by omega
      clear hj
      go_upto_region 11 with fail
      go_cut [11, 12, 13, 14] (fun s11 s12 s13 s14 wx => ∃ g, s11 = .pointer (some ⟨g, 0, none⟩) ∧ s12 = .bool (stD m) ∧ s13 = .int .u8 (stB m x) ∧ s14 = .int .i64 0 ∧ Lies wx g 23 [.int .i64 (stP m x)] ∧ g ≠ w4.heap.size ∧ Lies wx w4.heap.size 23 [.int .i64 m] ∧ Below w4.heap.size w4 wx)
      case first =>
        go_region_held3 (fun x' => x'.cell? ⟨w4.heap.size, 0, none⟩ = some (.int .i64 m)) ((exact (show Lies _ w4.heap.size 23 [.int .i64 m] from (by have := K2.out; (repeat' (first | (with_reducible assumption) | (with_reducible exact Lies.fresh _ _ _) | (with_reducible apply Lies.fresh_at; (first | (with_reducible rfl) | (simp; done))) | (with_reducible refine Lies.drew ?_) | (with_reducible refine Lies.drewN ?_ _) | (with_reducible refine Lies.alloc ?_ _) | (with_reducible apply Lies.past; case hb => (with_reducible assumption)) | (with_reducible apply Lies.store3) | (with_reducible apply Lies.other; case hp => (first | omega | (simp; done) | (simp; omega))))))).cell 0))
          (first | (go_at_call 8; refine (Step_any m _ _).mono ?_; rintro e v3 ⟨rfl, hv3⟩; have zv : v2.heap.size ≤ v3.heap.size := (by have := hv3.size; (try simp at this); omega); rw [E.out.1]; (try (refine lay (P := Lies v3 v2.heap.size 23 [.int .i64 0]) ?_ ?_; (focus ((repeat' (first | (with_reducible assumption) | (with_reducible exact Lies.fresh _ _ _) | (with_reducible apply Lies.fresh_at; (first | (with_reducible rfl) | (simp; done))) | (with_reducible refine Lies.drew ?_) | (with_reducible refine Lies.drewN ?_ _) | (with_reducible refine Lies.alloc ?_ _) | (with_reducible apply Lies.past; case hb => (with_reducible assumption)) | (with_reducible apply Lies.store3) | (with_reducible apply Lies.other; case hp => (first | omega | (simp; done) | (simp; omega))))); done)); intro L9; obtain ⟨b0, g0⟩ := L9.one; have lb := L9.lt))))
        all_goals
          go_wp2_with fail
          go_meet
          rw [HBK.out]
          first
          | exact ⟨_, rfl, rfl, rfl, rfl, L9.set 0 _, by omega, by have := K2.out; (repeat' (first | (with_reducible assumption) | (with_reducible exact Lies.fresh _ _ _) | (with_reducible apply Lies.fresh_at; (first | (with_reducible rfl) | (simp; done))) | (with_reducible refine Lies.drew ?_) | (with_reducible refine Lies.drewN ?_ _) | (with_reducible refine Lies.alloc ?_ _) | (with_reducible apply Lies.past; case hb => (with_reducible assumption)) | (with_reducible apply Lies.store3) | (with_reducible apply Lies.other; case hp => (first | omega | (simp; done) | (simp; omega))))), by have := W2.out; (repeat' (first | (with_reducible exact Below.refl _ _) | (with_reducible assumption) | (with_reducible refine below_drewN ?_ _) | (with_reducible refine below_new ?_ _) | (with_reducible refine Below.alloc ?_ ?_ _) | (with_reducible refine Below.drew ?_) | (with_reducible refine Below.setCell ?_ ?_ _) | (with_reducible apply below_on; (with_reducible assumption)) | (go_size; done) | (with_reducible apply size_of)))⟩
          | exact ⟨_, rfl, rfl, rfl, rfl, by (repeat' (first | (with_reducible assumption) | (with_reducible exact Lies.fresh _ _ _) | (with_reducible apply Lies.fresh_at; (first | (with_reducible rfl) | (simp; done))) | (with_reducible refine Lies.drew ?_) | (with_reducible refine Lies.drewN ?_ _) | (with_reducible refine Lies.alloc ?_ _) | (with_reducible apply Lies.past; case hb => (with_reducible assumption)) | (with_reducible apply Lies.store3) | (with_reducible apply Lies.other; case hp => (first | omega | (simp; done) | (simp; omega))))), by omega, by have := K2.out; (repeat' (first | (with_reducible assumption) | (with_reducible exact Lies.fresh _ _ _) | (with_reducible apply Lies.fresh_at; (first | (with_reducible rfl) | (simp; done))) | (with_reducible refine Lies.drew ?_) | (with_reducible refine Lies.drewN ?_ _) | (with_reducible refine Lies.alloc ?_ _) | (with_reducible apply Lies.past; case hb => (with_reducible assumption)) | (with_reducible apply Lies.store3) | (with_reducible apply Lies.other; case hp => (first | omega | (simp; done) | (simp; omega))))), by have := W2.out; (repeat' (first | (with_reducible exact Below.refl _ _) | (with_reducible assumption) | (with_reducible refine below_drewN ?_ _) | (with_reducible refine below_new ?_ _) | (with_reducible refine Below.alloc ?_ ?_ _) | (with_reducible refine Below.drew ?_) | (with_reducible refine Below.setCell ?_ ?_ _) | (with_reducible apply below_on; (with_reducible assumption)) | (go_size; done) | (with_reducible apply size_of)))⟩
      case rest =>
        obtain ⟨g, rfl, rfl, rfl, rfl, hg, hne, hk4, hbel⟩ := hcut
        obtain ⟨p0, f0⟩ := hk4.one
        obtain ⟨q0, f1⟩ := hg.one
        have HK4 := Lib.hid hk4
        have HBE := Lib.hid hbel
        clear hg hk4 hbel ej ew ew0
        by_cases h7 : k = 7
        · have ED : stD m = true := by rw [stD, a, decide_eq_true (by have := S4.out.2 h7; omega)]; rfl
          have EB : stB m x = c := by
            rw [stB, if_pos a, if_neg (by have := S4.out.2 h7; omega)]
            have := S7.out h7
            have : x.toInt = (x.toNat : Int) := by cases x <;> rfl
            omega
          have EP : stP m x = 1 := by rw [stP, if_pos a, if_neg (by have := S4.out.2 h7; omega)]
          have HEP := Lib.hid EP
          rw [ED, EB]
          have HA := Lib.hid a
          subst h7
          clear ED EB EP a
          go_wp2_with fail
          go_roundw
          case rel => exact ⟨8, by omega, by rfl, by rw [show ((wk c 8 : Nat) : Int) = stP m x from by rw [HEP.out]; rfl]; exact HK4.out.set 0 _, by have := HBE.out; (repeat' (first | (with_reducible exact Below.refl _ _) | (with_reducible assumption) | (with_reducible refine below_drewN ?_ _) | (with_reducible refine below_new ?_ _) | (with_reducible refine Below.alloc ?_ ?_ _) | (with_reducible refine Below.drew ?_) | (with_reducible refine Below.setCell ?_ ?_ _) | (with_reducible apply below_on; (with_reducible assumption)) | (go_size; done) | (with_reducible apply size_of)))⟩
          case measure => simp [intOf]
        · have h7' : ¬ (k : Int) = 7 := by omega
          have h7'' : ((k : Int) == 7) = false := by simpa using h7'
          have ED : stD m = false := by rw [stD, a, decide_eq_false (by have := S4.out; omega)]; rfl
          have EB : stB m x = 0 := by rw [stB, if_pos a, if_pos (by have := S4.out; omega)]
          have EP : stP m x = ((wk c (k + 1) : Nat) : Int) := by
            rw [stP, if_pos a, if_pos (by have := S4.out; omega), S6.out (by omega)]
            cases x <;> simp
          have HEP := Lib.hid EP
          rw [ED, EB]
          have HA := Lib.hid a
          clear ED EB EP a
          go_wp2_with fail
          go_roundw
          case rel => exact ⟨k + 1, by omega, by go_num, by rw [← HEP.out]; exact HK4.out.set 0 _, by have := HBE.out; (repeat' (first | (with_reducible exact Below.refl _ _) | (with_reducible assumption) | (with_reducible refine below_drewN ?_ _) | (with_reducible refine below_new ?_ _) | (with_reducible refine Below.alloc ?_ ?_ _) | (with_reducible refine Below.drew ?_) | (with_reducible refine Below.setCell ?_ ?_ _) | (with_reducible apply below_on; (with_reducible assumption)) | (go_size; done) | (with_reducible apply size_of)))⟩
          case measure => simp [intOf]; omega
    · have e8 : k = 8 := by omega
      have EW : wk c k = 1 := by rw [e8]; rfl
      rw [EW] at HK p0
      have HK : Hid (Lies wr w4.heap.size 23 [.int .i64 1]) := HK
      have p0 : wr.cell? ⟨w4.heap.size, 0, none⟩ = some (.int .i64 1) := p0
      have HA := Lib.hid (acc.trans (HW.out.mono acc.size))
      clear EW e8 acc
      go_wp2_with fail
      go_region_held3 (fun x' => x'.cell? ⟨w4.heap.size, 0, none⟩ = some (.int .i64 1)) ((exact (show Lies _ w4.heap.size 23 [.int .i64 1] from (by have := HK.out; (repeat' (first | (with_reducible assumption) | (with_reducible exact Lies.fresh _ _ _) | (with_reducible apply Lies.fresh_at; (first | (with_reducible rfl) | (simp; done))) | (with_reducible refine Lies.drew ?_) | (with_reducible refine Lies.drewN ?_ _) | (with_reducible refine Lies.alloc ?_ _) | (with_reducible apply Lies.past; case hb => (with_reducible assumption)) | (with_reducible apply Lies.store3) | (with_reducible apply Lies.other; case hp => (first | omega | (simp; done) | (simp; omega))))))).cell 0))
        (first | (go_at_call 18; refine (New_any _).mono ?_; rintro e v3 ⟨rfl, hv3⟩))
      all_goals
        go_wp2
        go_ret
        exact ⟨rfl, by have := HA.out; (repeat' (first | (with_reducible exact Below.refl _ _) | (with_reducible assumption) | (with_reducible refine below_drewN ?_ _) | (with_reducible refine below_new ?_ _) | (with_reducible refine Below.alloc ?_ ?_ _) | (with_reducible refine Below.drew ?_) | (with_reducible refine Below.setCell ?_ ?_ _) | (with_reducible apply below_on; (with_reducible assumption)) | (go_size; done) | (with_reducible apply size_of)))⟩
end Go.Proofs.Ytjhfamoldppclaa.nibL
