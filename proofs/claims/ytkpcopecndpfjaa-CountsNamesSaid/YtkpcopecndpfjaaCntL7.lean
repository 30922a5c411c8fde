/- CountsNames, by a walk: the first loop. -/
import Derived.Test.YtkpcopecndpfjaaCntL
import Derived.Test.YtkpcopecndpfjaaCntL5
import Derived.Laws.MakeOwn
import Derived.Deep.RegionHeld3
import Derived.Deep.DrawnRows
import Derived.Deep.DeepCutAuto
namespace Go.Proofs.Ytkpcopecndpfjaa.cntL
open Go.RowKit Go.Proofs.Ytkpcopecndpfjaa.base Go.Proofs.Ytkpcopecndpfjaa.cntP Go.Proofs.Ytkpcopecndpfjaa.cntW
set_option linter.unusedVariables false
set_option linter.unusedSimpArgs false
/-- Run of a count that is not valid: whatever the bits are. -/
theorem Run_bad (c0 : Cnt) (A : Option Addr) (len cap : Nat) (w : World) (hc : CntIn c0) (hok : ok c0 = false) :
    Calls Try.prog 17 #[.agg #[.int .i32 (c0).a, .int .i32 (c0).b, .int .u8 (c0).l], .slice A len cap] w fun e w' => e = .returned (.tuple #[.agg #[.int .i32 (0), .int .i32 (0), .int .u8 (0)], .int .i64 8]) ∧ Below w.heap.size w w' := by
  have E' : chk ⟨c0.a, c0.b, c0.l⟩ = 8 := chk_no hok
  clear hok
  go_enter Try.func17, Try.ntmps17
  go_wp2_with (first | (go_at_call 20; refine (check_any ⟨_, _, _⟩ _ hc).mono ?_; rintro e w1 ⟨rfl, hb⟩; obtain ⟨cl1, fr1⟩ := bcell hb; have sz1 := hb.size; (try simp at sz1); (try have sy1 : w.heap.size + 1 < (w1).heap.size := (by omega)); have sx1 : w.heap.size < (w1).heap.size := (by omega)))
  refine bodyPost_ret (by simp [results, Try.results17, go_sem, cl1, sy1]; try rfl) rfl ?_
  exact ⟨rfl, by (repeat' (first | (with_reducible exact Below.refl _ _) | (with_reducible assumption) | (with_reducible refine below_drewN ?_ _) | (with_reducible refine below_new ?_ _) | (with_reducible refine Below.alloc ?_ ?_ _) | (with_reducible refine Below.drew ?_) | (with_reducible refine Below.setCell ?_ ?_ _) | (with_reducible apply below_on; (with_reducible assumption)) | (go_size; done) | (with_reducible apply size_of)))⟩
def bads : List Cnt := [⟨0, 0, 1⟩, ⟨1, 0, 1⟩, ⟨0, 1, 0⟩, ⟨13, 0, 0⟩, ⟨1, 8, 0⟩, ⟨-1, 0, 0⟩, ⟨1, -1, 0⟩, ⟨1, 1, 2⟩, ⟨8, 1, 1⟩, ⟨0, 13, 1⟩, ⟨0, 0, 255⟩]
def flat (l : List Cnt) : List Value := l.flatMap fun c => [.int .i32 c.a, .int .i32 c.b, .int .u8 c.l]
theorem flat_get : ∀ (l : List Cnt) (k : Nat) (h : k < l.length), (flat l)[k * 3]? = some (.int .i32 l[k].a) ∧ (flat l)[k * 3 + 1]? = some (.int .i32 l[k].b) ∧ (flat l)[k * 3 + 2]? = some (.int .u8 l[k].l)
  | c :: l, 0, _ => ⟨rfl, rfl, rfl⟩
  | c :: l, k + 1, h => by
    have ih := flat_get l k (by simpa using h)
    have e : flat (c :: l) = [.int .i32 c.a, .int .i32 c.b, .int .u8 c.l] ++ flat l := rfl
    rw [e]
    have e1 : (k + 1) * 3 = k * 3 + 3 := by omega
    rw [e1]
    simpa [List.getElem?_append_right] using ih
theorem bads_bad : ∀ c ∈ bads, CntIn c ∧ ok c = false := by
  intro c hc
  simp only [bads, List.mem_cons, List.not_mem_nil, or_false] at hc
  rcases hc with rfl | rfl | rfl | rfl | rfl | rfl | rfl | rfl | rfl | rfl | rfl
  all_goals exact ⟨⟨by decide, by decide, by decide, by decide, by decide, by decide⟩, by decide⟩
def shrL : List Int := [0, 1, 2, 2, 3, 3, 4, 4, 5, 5, 6, 6, 7]
theorem shrL_at (k : Nat) (h : k < 13) : (shrL.map (Value.int .i32))[k]? = some (.int .i32 (shr k)) := by
  match k, h with
  | 0, _ | 1, _ | 2, _ | 3, _ | 4, _ | 5, _ | 6, _ | 7, _ | 8, _ | 9, _ | 10, _ | 11, _ | 12, _ => rfl
theorem bits_rep {n : Nat} : bitsB (List.replicate n 0) = true := (bitsB_iff _).2 fun z h => by rw [List.eq_of_mem_replicate h]; omega
theorem rep_in {n : Nat} : ∀ z ∈ List.replicate n (0 : Int), 0 ≤ z ∧ z ≤ 255 := fun z h => by rw [List.eq_of_mem_replicate h]; omega
theorem full_12 : runC ⟨0, 0, 0⟩ (List.replicate 20000 0) = ⟨12, 0, 0⟩ := by
  rw [runC, if_pos (show ok ⟨0, 0, 0⟩ = true from rfl), if_neg (by rw [List.length_replicate]; omega), if_pos bits_rep]
  obtain ⟨r1, r2, r3⟩ := run_zeros ⟨0, 0, 0⟩ (by show (0 : Int) ≤ 12; omega) 20000
  have g : growTo 0 20000 = 12 := by unfold growTo; rw [if_neg (by omega)]
  have s0 : ∀ n : Nat, shrN n 0 = 0 := fun n => by
    induction n with
    | zero => rfl
    | succ n ih => show shr (shrN n 0) = 0; rw [ih]; rfl
  generalize run ⟨0, 0, 0⟩ (List.replicate 20000 0) = c at *
  obtain ⟨a, b, l⟩ := c
  simp only at r1 r2 r3
  rw [g] at r1
  rw [s0] at r2
  rw [r1, r2, r3 (by omega)]
set_option maxRecDepth 100000 in
set_option maxHeartbeats 12000000 in
theorem names (w : World) : Calls Try.prog 3 #[] w fun e w' => e = .returned (.bool true) ∧ Below w.heap.size w w' := by
  obtain ⟨O, hmk⟩ : ∃ O : Obj, ∀ W : World, (Instr.makeSlice 29 (.int .i64 20001) (.int .i64 20001)).run Try.prog W = .ok (.slice (some ⟨W.heap.size, 0, none⟩) 20001 20001) (W.alloc O) := by
    obtain ⟨i, hi, hz, h1, h2⟩ := info8
    exact ⟨_, fun W => run_make (P := Try.prog) (w := W) _ 5 i (.int .u8 0) Try.underlying29 hi hz .i64 .i64 20001 20001 (by omega) (by omega) (by rw [h2]; omega) (by omega)⟩
  go_enter Try.func3, Try.ntmps3
  go_wp2_with fail
  go_loopw [2] (fun i wr => ∃ k : Nat, k ≤ 11 ∧ i = .int .i64 k ∧ Lies wr w.heap.size 23 (flat bads) ∧ Below w.heap.size w wr) (fun i _ => 11 - (intOf i).toNat)
  case atStart => exact ⟨0, by omega, rfl, Lies.fresh _ _ _, by (repeat' (first | (with_reducible exact Below.refl _ _) | (with_reducible assumption) | (with_reducible refine below_drewN ?_ _) | (with_reducible refine below_new ?_ _) | (with_reducible refine Below.alloc ?_ ?_ _) | (with_reducible refine Below.drew ?_) | (with_reducible refine Below.setCell ?_ ?_ _) | (with_reducible apply below_on; (with_reducible assumption)) | (go_size; done) | (with_reducible apply size_of)))⟩
  case round =>
    obtain ⟨k, hk, rfl, K, hbel⟩ := hrel
    have HBL := Lib.hid hbel
    have HK := Lib.hid K
    have lk := K.lt
    clear hbel K
    by_cases hlt : k < 11
    · obtain ⟨e0, e1, e2⟩ := flat_get bads k hlt
      obtain ⟨hci, hbad⟩ := bads_bad _ (List.getElem_mem (l := bads) hlt)
      generalize hc : bads[k] = c at *
      have HCE : Hid (∀ x : World, Lies x w.heap.size 23 (flat bads) → x.cell? ⟨w.heap.size, k * 3, none⟩ = some (.int .i32 c.a) ∧ x.cell? ⟨w.heap.size, k * 3 + 1, none⟩ = some (.int .i32 c.b) ∧ x.cell? ⟨w.heap.size, k * 3 + 2, none⟩ = some (.int .u8 c.l)) :=
        Lib.hid fun x h => ⟨(h.cell _).trans e0, (h.cell _).trans e1, (h.cell _).trans e2⟩
      obtain ⟨p0, p1, p2⟩ := HCE.out _ HK.out
      have i1 : (0 : Int) ≤ (k : Int) := by omega
      have i2 : (k : Int) < 11 := by omega
      have HBAD := Lib.hid hbad
      have EX : Hid (nxC c 2 = ⟨0, 0, 0⟩ ∧ nxE c 2 = 8 ∧ chk c = 8 ∧ totV c = 0 ∧ trC c = ⟨0, 0, 0⟩) := Lib.hid ⟨by simp [nxC, hbad], by simp [nxE, hbad], chk_no hbad, by simp [totV, hbad], by simp [trC, hbad]⟩
      clear e0 e1 e2 hc hbad
      go_wp2_with fail
      refine (Next_any c.a c.b c.l 2 _ hci (by omega) (by omega)).mono ?_
      rintro e w1 ⟨rfl, hb1⟩
      rw [show nxC ⟨c.a, c.b, c.l⟩ 2 = ⟨0, 0, 0⟩ from EX.out.1, show nxE ⟨c.a, c.b, c.l⟩ 2 = 8 from EX.out.2.1]
      have HK1 := Lib.hid (HK.out.past hb1)
      have HW1 : Hid (Below w.heap.size w w1) := Lib.hid (by have := HBL.out; (repeat' (first | (with_reducible exact Below.refl _ _) | (with_reducible assumption) | (with_reducible refine below_drewN ?_ _) | (with_reducible refine below_new ?_ _) | (with_reducible refine Below.alloc ?_ ?_ _) | (with_reducible refine Below.drew ?_) | (with_reducible refine Below.setCell ?_ ?_ _) | (with_reducible apply below_on; (with_reducible assumption)) | (go_size; done) | (with_reducible apply size_of))))
      have K1 := HK1.out
      have lk1 := K1.lt
      clear p0 p1 p2 hb1
      obtain ⟨p0, p1, p2⟩ := HCE.out _ K1
      go_upto_region 6 with fail
      go_cut [6] (fun s6 wx => s6 = .int .i64 8 ∧ Lies wx w.heap.size 23 (flat bads) ∧ Below w.heap.size w wx)
      case first =>
        go_region_held3 (fun x => x.cell? ⟨w.heap.size, k * 3, none⟩ = some (.int .i32 c.a) ∧ x.cell? ⟨w.heap.size, k * 3 + 1, none⟩ = some (.int .i32 c.b) ∧ x.cell? ⟨w.heap.size, k * 3 + 2, none⟩ = some (.int .u8 c.l)) ((refine HCE.out _ ?_; (repeat' (first | (with_reducible assumption) | (with_reducible exact Lies.fresh _ _ _) | (with_reducible apply Lies.fresh_at; (first | (with_reducible rfl) | (simp; done))) | (with_reducible refine Lies.drew ?_) | (with_reducible refine Lies.drewN ?_ _) | (with_reducible refine Lies.alloc ?_ _) | (with_reducible apply Lies.past; case hb => (with_reducible assumption)) | (with_reducible apply Lies.store3) | (with_reducible apply Lies.other; case hp => (first | omega | (simp; done) | (simp; omega)))))))
          (first | (go_at_call 17; refine (Run_bad c _ _ _ _ hci HBAD.out).mono ?_; rintro e w2 ⟨rfl, hb2⟩; (try (refine lay (P := Lies w2 (w1.heap.size + 1) 23 [.int .i32 0, .int .i32 0, .int .u8 0]) ?_ ?_; (focus ((repeat' (first | (with_reducible assumption) | (with_reducible exact Lies.fresh _ _ _) | (with_reducible apply Lies.fresh_at; (first | (with_reducible rfl) | (simp; done))) | (with_reducible refine Lies.drew ?_) | (with_reducible refine Lies.drewN ?_ _) | (with_reducible refine Lies.alloc ?_ _) | (with_reducible apply Lies.past; case hb => (with_reducible assumption)) | (with_reducible apply Lies.store3) | (with_reducible apply Lies.other; case hp => (first | omega | (simp; done) | (simp; omega))))); done)); intro L9; obtain ⟨b0, b1, b2, g0, g1, g2⟩ := L9.three; have lb := L9.lt)); (try (refine lay (P := Lies w2 (w1.heap.size + 1 + 1) 23 [.int .i32 0, .int .i32 0, .int .u8 0]) ?_ ?_; (focus ((repeat' (first | (with_reducible assumption) | (with_reducible exact Lies.fresh _ _ _) | (with_reducible apply Lies.fresh_at; (first | (with_reducible rfl) | (simp; done))) | (with_reducible refine Lies.drew ?_) | (with_reducible refine Lies.drewN ?_ _) | (with_reducible refine Lies.alloc ?_ _) | (with_reducible apply Lies.past; case hb => (with_reducible assumption)) | (with_reducible apply Lies.store3) | (with_reducible apply Lies.other; case hp => (first | omega | (simp; done) | (simp; omega))))); done)); intro L8; obtain ⟨b0, b1, b2, g0, g1, g2⟩ := L8.three; have lb := L8.lt))))
        all_goals
          go_wp2_with fail
          go_meet
          exact ⟨rfl, by (repeat' (first | (with_reducible assumption) | (with_reducible exact Lies.fresh _ _ _) | (with_reducible apply Lies.fresh_at; (first | (with_reducible rfl) | (simp; done))) | (with_reducible refine Lies.drew ?_) | (with_reducible refine Lies.drewN ?_ _) | (with_reducible refine Lies.alloc ?_ _) | (with_reducible apply Lies.past; case hb => (with_reducible assumption)) | (with_reducible apply Lies.store3) | (with_reducible apply Lies.other; case hp => (first | omega | (simp; done) | (simp; omega))))), by have := HW1.out; (repeat' (first | (with_reducible exact Below.refl _ _) | (with_reducible assumption) | (with_reducible refine below_drewN ?_ _) | (with_reducible refine below_new ?_ _) | (with_reducible refine Below.alloc ?_ ?_ _) | (with_reducible refine Below.drew ?_) | (with_reducible refine Below.setCell ?_ ?_ _) | (with_reducible apply below_on; (with_reducible assumption)) | (go_size; done) | (with_reducible apply size_of)))⟩
      case rest =>
        obtain ⟨rfl, K2, hW2⟩ := hcut
        clear K1 p0 p1 p2
        have lk2 := K2.lt
        obtain ⟨p0, p1, p2⟩ := HCE.out _ K2
        have HK2 := Lib.hid K2
        have HW2 := Lib.hid hW2
        clear K2 hW2
        go_wp2_with fail
        refine (Total_any c.a c.b c.l _ hci).mono ?_
        rintro e w3 ⟨rfl, hb3⟩
        rw [show totV ⟨c.a, c.b, c.l⟩ = 0 from EX.out.2.2.2.1, show chk ⟨c.a, c.b, c.l⟩ = 8 from EX.out.2.2.1]
        have HK3 := Lib.hid (HK2.out.past hb3)
        obtain ⟨q0, q1, q2⟩ := HCE.out _ HK3.out
        go_wp2_with fail
        refine (Turn_any c.a c.b c.l _ hci).mono ?_
        rintro e w4 ⟨rfl, hb4⟩
        rw [show trC ⟨c.a, c.b, c.l⟩ = ⟨0, 0, 0⟩ from EX.out.2.2.2.2, show chk ⟨c.a, c.b, c.l⟩ = 8 from EX.out.2.2.1]
        have HK4 := Lib.hid (HK3.out.past hb4)
        obtain ⟨r0, r1, r2⟩ := HCE.out _ HK4.out
        have lk4 := HK4.out.lt
        go_wp2_with fail
        refine (check_any c _ hci).mono ?_
        rintro e w5 ⟨rfl, hb5⟩
        rw [EX.out.2.2.1]
        have HK5 := Lib.hid ((HK4.out.alloc _).past hb5)
        go_wp2_with fail
        go_roundw
        case rel => exact ⟨k + 1, by omega, by go_num, HK5.out, by have := HW2.out; (repeat' (first | (with_reducible exact Below.refl _ _) | (with_reducible assumption) | (with_reducible refine below_drewN ?_ _) | (with_reducible refine below_new ?_ _) | (with_reducible refine Below.alloc ?_ ?_ _) | (with_reducible refine Below.drew ?_) | (with_reducible refine Below.setCell ?_ ?_ _) | (with_reducible apply below_on; (with_reducible assumption)) | (go_size; done) | (with_reducible apply size_of)))⟩
        case measure => simp [intOf]; omega
    · clear HK lk hmk
      obtain ⟨wo, hwo⟩ : ∃ wo : World, wo = wr := ⟨_, rfl⟩
      subst hwo
      have HG : Hid (Lies (wo.alloc (.cells (shrL.map (Value.int .i32)).toArray 21)) wo.heap.size 21 (shrL.map (Value.int .i32))) := Lib.hid (Lies.fresh _ _ _)
      have HWG : Hid (Below w.heap.size w (wo.alloc (.cells (shrL.map (Value.int .i32)).toArray 21))) := Lib.hid (by have := HBL.out; (repeat' (first | (with_reducible exact Below.refl _ _) | (with_reducible assumption) | (with_reducible refine below_drewN ?_ _) | (with_reducible refine below_new ?_ _) | (with_reducible refine Below.alloc ?_ ?_ _) | (with_reducible refine Below.drew ?_) | (with_reducible refine Below.setCell ?_ ?_ _) | (with_reducible apply below_on; (with_reducible assumption)) | (go_size; done) | (with_reducible apply size_of))))
      go_wp2_with fail
      go_loopw [12] (fun i wx => ∃ k : Nat, 1 ≤ k ∧ k ≤ 13 ∧ i = .int .i32 k ∧ Lies wx wo.heap.size 21 (shrL.map (Value.int .i32)) ∧ Below w.heap.size w wx) (fun i _ => 13 - (intOf i).toNat)
      case atStart => exact ⟨1, by omega, by omega, rfl, HG.out, HWG.out⟩
      case round =>
        obtain ⟨j, hj1, hj, rfl, K, hbel⟩ := hrel
        have HB2 := Lib.hid hbel
        have HK := Lib.hid K
        have lk := K.lt
        clear hbel K
        by_cases hlt : j < 13
        · have j1 : (1 : Int) ≤ (j : Int) := by omega
          have j2 : (j : Int) ≤ 12 := by omega
          have j3 : (0 : Int) ≤ (j : Int) := by omega
          have j4 : (j : Int) < 13 := by omega
          have hok : ok ⟨j, 0, 0⟩ = true := (ok_iff _).2 (.inr (.inl ⟨rfl, j1, j2, by show (0 : Int) ≤ 0; omega, by show (0 : Int) ≤ 7; omega⟩))
          have N1 : Hid (nxC ⟨j, 0, 0⟩ 1 = ⟨shr j, 1, 1⟩) := Lib.hid (by rw [nxC, if_pos hok, if_pos (by omega)]; rfl)
          have N2 : Hid (nxE ⟨j, 0, 0⟩ 1 = 0) := Lib.hid (by rw [nxE, if_pos hok, if_pos (by omega)])
          have HCI := Lib.hid (cin hok)
          have HSA := Lib.hid (shrL_at j hlt)
          clear hok
          go_wp2_with fail
          refine (Next_any j 0 0 1 _ HCI.out (by omega) (by omega)).mono ?_
          rintro e v1 ⟨rfl, hb1⟩
          rw [N1.out, N2.out]
          have HK1 := Lib.hid (HK.out.past hb1)
          have lk1 := HK1.out.lt
          have pj : v1.cell? ⟨wo.heap.size, j, none⟩ = some (.int .i32 (shr j)) := (HK1.out.cell j).trans HSA.out
          go_wp2
          go_quiet (fail)
          go_wp2
          go_roundw
          case rel => exact ⟨j + 1, by omega, by omega, by go_num, by have := HK1.out; (repeat' (first | (with_reducible assumption) | (with_reducible exact Lies.fresh _ _ _) | (with_reducible apply Lies.fresh_at; (first | (with_reducible rfl) | (simp; done))) | (with_reducible refine Lies.drew ?_) | (with_reducible refine Lies.drewN ?_ _) | (with_reducible refine Lies.alloc ?_ _) | (with_reducible apply Lies.past; case hb => (with_reducible assumption)) | (with_reducible apply Lies.store3) | (with_reducible apply Lies.other; case hp => (first | omega | (simp; done) | (simp; omega))))), by have := HB2.out; (repeat' (first | (with_reducible exact Below.refl _ _) | (with_reducible assumption) | (with_reducible refine below_drewN ?_ _) | (with_reducible refine below_new ?_ _) | (with_reducible refine Below.alloc ?_ ?_ _) | (with_reducible refine Below.drew ?_) | (with_reducible refine Below.setCell ?_ ?_ _) | (with_reducible apply below_on; (with_reducible assumption)) | (go_size; done) | (with_reducible apply size_of)))⟩
          case measure => simp [intOf]; omega
        · clear HK lk
          have acc := HB2.out
          have B1 : Hid (runC ⟨0, 0, 0⟩ (List.replicate 20001 0) = ⟨0, 0, 0⟩) := Lib.hid (by rw [runC, if_pos (show ok ⟨0, 0, 0⟩ = true from rfl), if_pos (by rw [List.length_replicate]; omega)])
          have B2 : Hid (runE ⟨0, 0, 0⟩ (List.replicate 20001 0) = 4) := Lib.hid (by rw [runE, if_pos (show ok ⟨0, 0, 0⟩ = true from rfl), if_pos (by rw [List.length_replicate]; omega)])
          have A1 : Hid (nxC ⟨0, 0, 0⟩ 2 = ⟨0, 0, 0⟩) := Lib.hid (by kernel_rfl)
          have A2 : Hid (nxE ⟨0, 0, 0⟩ 2 = 2) := Lib.hid (by kernel_rfl)
          have C1 : Hid (runC ⟨0, 0, 0⟩ [0, 1, 2] = ⟨0, 0, 0⟩) := Lib.hid (by kernel_rfl)
          have C2 : Hid (runE ⟨0, 0, 0⟩ [0, 1, 2] = 2) := Lib.hid (by kernel_rfl)
          have D1 : Hid (runC ⟨0, 0, 0⟩ (List.replicate 20000 0) = ⟨12, 0, 0⟩) := Lib.hid (full_12)
          have D2 : Hid (runE ⟨0, 0, 0⟩ (List.replicate 20000 0) = 0) := Lib.hid (by rw [runE, if_pos (show ok ⟨0, 0, 0⟩ = true from rfl), if_neg (by rw [List.length_replicate]; omega), if_pos bits_rep])
          have E1 : Hid (trC ⟨0, 0, 0⟩ = ⟨0, 0, 0⟩) := Lib.hid (by kernel_rfl)
          have E2 : Hid (chk ⟨0, 0, 0⟩ = 0) := Lib.hid (by kernel_rfl)
          have F1 : Hid (runC ⟨3, 7, 0⟩ [] = ⟨3, 7, 0⟩) := Lib.hid (by kernel_rfl)
          have F2 : Hid (runE ⟨3, 7, 0⟩ [] = 0) := Lib.hid (by kernel_rfl)
          have G1 : Hid (totV ⟨7, 12, 1⟩ = 19) := Lib.hid (by kernel_rfl)
          have G2 : Hid (chk ⟨7, 12, 1⟩ = 0) := Lib.hid (by kernel_rfl)
          go_wp2_with fail
          refine (Next_any 0 0 0 2 _ ⟨by decide, by decide, by decide, by decide, by decide, by decide⟩ (by omega) (by omega)).mono ?_
          rintro e v1 ⟨rfl, hb1⟩
          rw [A1.out, A2.out]
          replace acc : Below w.heap.size w v1 := by (repeat' (first | (with_reducible exact Below.refl _ _) | (with_reducible assumption) | (with_reducible refine below_drewN ?_ _) | (with_reducible refine below_new ?_ _) | (with_reducible refine Below.alloc ?_ ?_ _) | (with_reducible refine Below.drew ?_) | (with_reducible refine Below.setCell ?_ ?_ _) | (with_reducible apply below_on; (with_reducible assumption)) | (go_size; done) | (with_reducible apply size_of)))
          clear hb1
          go_wp2_with (first | (at_make; refine make8 rfl _ _ rfl _ _ 20001 rfl rfl (by omega) _ (Nat.le_refl _) ?_; intro wm own hbm; have hh := own.has; (try simp only [World.size_alloc] at hh); replace acc : Below w.heap.size w wm := (by (repeat' (first | (with_reducible exact Below.refl _ _) | (with_reducible assumption) | (with_reducible refine below_drewN ?_ _) | (with_reducible refine below_new ?_ _) | (with_reducible refine Below.alloc ?_ ?_ _) | (with_reducible refine Below.drew ?_) | (with_reducible refine Below.setCell ?_ ?_ _) | (with_reducible apply below_on; (with_reducible assumption)) | (go_size; done) | (with_reducible apply size_of)))); clear own hbm))
          refine (Run_any ⟨0, 0, 0⟩ _ _ _ (List.replicate 20001 0) _ ⟨by decide, by decide, by decide, by decide, by decide, by decide⟩ rep_in hh List.length_replicate (by omega)).mono ?_
          rintro e v2 ⟨rfl, hb2⟩
          rw [B1.out, B2.out]
          replace acc : Below w.heap.size w v2 := by (repeat' (first | (with_reducible exact Below.refl _ _) | (with_reducible assumption) | (with_reducible refine below_drewN ?_ _) | (with_reducible refine below_new ?_ _) | (with_reducible refine Below.alloc ?_ ?_ _) | (with_reducible refine Below.drew ?_) | (with_reducible refine Below.setCell ?_ ?_ _) | (with_reducible apply below_on; (with_reducible assumption)) | (go_size; done) | (with_reducible apply size_of)))
          clear hb2
          clear hh
          go_wp2_with fail
          refine (Run_any ⟨0, 0, 0⟩ _ 3 3 [0, 1, 2] _ ⟨by decide, by decide, by decide, by decide, by decide, by decide⟩ (by decide) (has_lit (by simp) (by decide)) rfl (by omega)).mono ?_
          rintro e v3 ⟨rfl, hb3⟩
          rw [C1.out, C2.out]
          replace acc : Below w.heap.size w v3 := by (repeat' (first | (with_reducible exact Below.refl _ _) | (with_reducible assumption) | (with_reducible refine below_drewN ?_ _) | (with_reducible refine below_new ?_ _) | (with_reducible refine Below.alloc ?_ ?_ _) | (with_reducible refine Below.drew ?_) | (with_reducible refine Below.setCell ?_ ?_ _) | (with_reducible apply below_on; (with_reducible assumption)) | (go_size; done) | (with_reducible apply size_of)))
          clear hb3
          go_wp2_with (first | (at_make; refine make8 rfl _ _ rfl _ _ 20000 rfl rfl (by omega) _ (Nat.le_refl _) ?_; intro wm own hbm; have hh := own.has; (try simp only [World.size_alloc] at hh); replace acc : Below w.heap.size w wm := (by (repeat' (first | (with_reducible exact Below.refl _ _) | (with_reducible assumption) | (with_reducible refine below_drewN ?_ _) | (with_reducible refine below_new ?_ _) | (with_reducible refine Below.alloc ?_ ?_ _) | (with_reducible refine Below.drew ?_) | (with_reducible refine Below.setCell ?_ ?_ _) | (with_reducible apply below_on; (with_reducible assumption)) | (go_size; done) | (with_reducible apply size_of)))); clear own hbm))
          refine (Run_any ⟨0, 0, 0⟩ _ _ _ (List.replicate 20000 0) _ ⟨by decide, by decide, by decide, by decide, by decide, by decide⟩ rep_in hh List.length_replicate (by omega)).mono ?_
          rintro e v4 ⟨rfl, hb4⟩
          rw [D1.out, D2.out]
          replace acc : Below w.heap.size w v4 := by (repeat' (first | (with_reducible exact Below.refl _ _) | (with_reducible assumption) | (with_reducible refine below_drewN ?_ _) | (with_reducible refine below_new ?_ _) | (with_reducible refine Below.alloc ?_ ?_ _) | (with_reducible refine Below.drew ?_) | (with_reducible refine Below.setCell ?_ ?_ _) | (with_reducible apply below_on; (with_reducible assumption)) | (go_size; done) | (with_reducible apply size_of)))
          clear hb4
          clear hh
          go_wp2_with fail
          refine (Turn_any 0 0 0 _ ⟨by decide, by decide, by decide, by decide, by decide, by decide⟩).mono ?_
          rintro e v5 ⟨rfl, hb5⟩
          rw [E1.out, E2.out]
          replace acc : Below w.heap.size w v5 := by (repeat' (first | (with_reducible exact Below.refl _ _) | (with_reducible assumption) | (with_reducible refine below_drewN ?_ _) | (with_reducible refine below_new ?_ _) | (with_reducible refine Below.alloc ?_ ?_ _) | (with_reducible refine Below.drew ?_) | (with_reducible refine Below.setCell ?_ ?_ _) | (with_reducible apply below_on; (with_reducible assumption)) | (go_size; done) | (with_reducible apply size_of)))
          have X1 := Lib.hid (Lies.past (Lies.fresh v4 23 [.int .i32 12, .int .i32 0, .int .u8 0]) hb5)
          clear hb5
          go_wp2_with fail
          refine (Run_any ⟨3, 7, 0⟩ _ 0 0 [] _ ⟨by decide, by decide, by decide, by decide, by decide, by decide⟩ (by decide) (.inl rfl) rfl (by omega)).mono ?_
          rintro e v6 ⟨rfl, hb6⟩
          rw [F1.out, F2.out]
          replace acc : Below w.heap.size w v6 := by (repeat' (first | (with_reducible exact Below.refl _ _) | (with_reducible assumption) | (with_reducible refine below_drewN ?_ _) | (with_reducible refine below_new ?_ _) | (with_reducible refine Below.alloc ?_ ?_ _) | (with_reducible refine Below.drew ?_) | (with_reducible refine Below.setCell ?_ ?_ _) | (with_reducible apply below_on; (with_reducible assumption)) | (go_size; done) | (with_reducible apply size_of)))
          have X1 := Lib.hid ((X1.out.alloc _).past hb6)
          have X2 := Lib.hid (Lies.past (Lies.fresh v5 23 [.int .i32 0, .int .i32 0, .int .u8 0]) hb6)
          clear hb6
          go_wp2_with fail
          refine (Total_any 7 12 1 _ ⟨by decide, by decide, by decide, by decide, by decide, by decide⟩).mono ?_
          rintro e v7 ⟨rfl, hb7⟩
          rw [G1.out, G2.out]
          replace acc : Below w.heap.size w v7 := by (repeat' (first | (with_reducible exact Below.refl _ _) | (with_reducible assumption) | (with_reducible refine below_drewN ?_ _) | (with_reducible refine below_new ?_ _) | (with_reducible refine Below.alloc ?_ ?_ _) | (with_reducible refine Below.drew ?_) | (with_reducible refine Below.setCell ?_ ?_ _) | (with_reducible apply below_on; (with_reducible assumption)) | (go_size; done) | (with_reducible apply size_of)))
          have X1 := Lib.hid ((X1.out.alloc _).past hb7)
          have X2 := Lib.hid ((X2.out.alloc _).past hb7)
          have X3 := Lib.hid (Lies.past (Lies.fresh v6 23 [.int .i32 3, .int .i32 7, .int .u8 0]) hb7)
          clear hb7
          obtain ⟨a0, a1, a2, f0, f1, f2⟩ := X1.out.three
          obtain ⟨b0, b1, b2, g0, g1, g2⟩ := X2.out.three
          obtain ⟨c0, c1, c2, h0, h1, h2⟩ := X3.out.three
          go_wp2_with (first | (go_at_call 21; refine (alive _).mono ?_; rintro e w' ⟨rfl, hbz⟩))
          go_ret
          exact ⟨rfl, by (repeat' (first | (with_reducible exact Below.refl _ _) | (with_reducible assumption) | (with_reducible refine below_drewN ?_ _) | (with_reducible refine below_new ?_ _) | (with_reducible refine Below.alloc ?_ ?_ _) | (with_reducible refine Below.drew ?_) | (with_reducible refine Below.setCell ?_ ?_ _) | (with_reducible apply below_on; (with_reducible assumption)) | (go_size; done) | (with_reducible apply size_of)))⟩
end Go.Proofs.Ytkpcopecndpfjaa.cntL
