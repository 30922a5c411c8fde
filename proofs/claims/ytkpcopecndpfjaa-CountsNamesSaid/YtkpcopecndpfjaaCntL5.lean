/- CountsParts, by a walk. -/
import Derived.Test.YtkpcopecndpfjaaCntL
import Derived.Test.YtkpcopecndpfjaaCntL3
import Derived.Test.YtkpcopecndpfjaaCntL1
import Derived.Test.YtkpcopecndpfjaaCntPlain2
import Derived.Deep.RegionHeld3
import Derived.Deep.DrawnRows
import Derived.Deep.DeepCutAuto
namespace Go.Proofs.Ytkpcopecndpfjaa.cntL
open Go.RowKit Go.Proofs.Ytkpcopecndpfjaa.base Go.Proofs.Ytkpcopecndpfjaa.cntP Go.Proofs.Ytkpcopecndpfjaa.cntW
set_option linter.unusedVariables false
set_option linter.unusedSimpArgs false
set_option maxHeartbeats 1000000 in
theorem parts_bad (c : Cnt) (A : Option Addr) (cap : Nat) (zs : List Int) (at_ : Int) (w : World) (hc : CntIn c) (hr : Has .u8 w A zs) (hz : ∀ z ∈ zs, 0 ≤ z ∧ z ≤ 255) (hl : zs.length ≤ 9223372036854775807)
    (h : ok c = false ∨ ok c = true ∧ 100 < zs.length ∨ ok c = true ∧ ¬ 100 < zs.length ∧ bitsB zs = false ∨ ok c = true ∧ ¬ 100 < zs.length ∧ bitsB zs = true ∧ at_ < 0 ∨ ok c = true ∧ ¬ 100 < zs.length ∧ bitsB zs = true ∧ 0 ≤ at_ ∧ (zs.length : Int) < at_) :
    Calls Try.prog 8 #[.agg #[.int .i32 (c).a, .int .i32 (c).b, .int .u8 (c).l], .slice A zs.length cap, .int .i64 at_] w fun e w' => e = .returned (.bool true) ∧ Below w.heap.size w w' := by
  have HC := Lib.hid hr
  have HZ := Lib.hid hz
  clear hr hz
  rcases h with h | ⟨h, h1⟩ | ⟨h, h1, h2⟩ | ⟨h, h1, h2, h3⟩ | ⟨h, h1, h2, h3, h4⟩
  · have E' : chk ⟨c.a, c.b, c.l⟩ = 8 := chk_no h
    clear h
    go_enter Try.func8, Try.ntmps8
    go_wp2_with (first | (go_at_call 25; refine (rcheck_any ⟨_, _, _⟩ _ hc).mono ?_; rintro e w1 ⟨rfl, hb⟩; obtain ⟨cl1, fr1⟩ := bcell hb; have sz1 := hb.size; (try simp at sz1); (try have sy1 : w.heap.size + 1 < (w1).heap.size := (by omega)); have sx1 : w.heap.size < (w1).heap.size := (by omega)) | (go_at_call 21; refine (alive _).mono ?_; rintro e w' ⟨rfl, hb3⟩))
    go_ret
    exact ⟨rfl, by (repeat' (first | (with_reducible exact Below.refl _ _) | (with_reducible assumption) | (with_reducible refine below_drewN ?_ _) | (with_reducible refine below_new ?_ _) | (with_reducible refine Below.alloc ?_ ?_ _) | (with_reducible refine Below.drew ?_) | (with_reducible refine Below.setCell ?_ ?_ _) | (with_reducible apply below_on; (with_reducible assumption)) | (go_size; done) | (with_reducible apply size_of)))⟩
  all_goals
    have E' : chk ⟨c.a, c.b, c.l⟩ = 0 := chk_yes h
    clear h
    go_enter Try.func8, Try.ntmps8
    go_wp2_with (first | (go_at_call 25; refine (rcheck_any ⟨_, _, _⟩ _ hc).mono ?_; rintro e w1 ⟨rfl, hb⟩; obtain ⟨cl1, fr1⟩ := bcell hb; have sz1 := hb.size; (try simp at sz1); (try have sy1 : w.heap.size + 1 < (w1).heap.size := (by omega)); have sx1 : w.heap.size < (w1).heap.size := (by omega)) | (go_at_call 27; refine (bits_any _ _ _ zs _ HZ.out (HC.out.below (by (repeat' (first | (with_reducible exact Below.refl _ _) | (with_reducible assumption) | (with_reducible refine below_drewN ?_ _) | (with_reducible refine below_new ?_ _) | (with_reducible refine Below.alloc ?_ ?_ _) | (with_reducible refine Below.drew ?_) | (with_reducible refine Below.setCell ?_ ?_ _) | (with_reducible apply below_on; (with_reducible assumption)) | (go_size; done) | (with_reducible apply size_of)))) (Nat.le_refl _)) rfl hl).mono ?_; rintro e w' ⟨rfl, rfl⟩) | (go_at_call 21; refine (alive _).mono ?_; rintro e w' ⟨rfl, hb3⟩))
    go_ret
    exact ⟨rfl, by (repeat' (first | (with_reducible exact Below.refl _ _) | (with_reducible assumption) | (with_reducible refine below_drewN ?_ _) | (with_reducible refine below_new ?_ _) | (with_reducible refine Below.alloc ?_ ?_ _) | (with_reducible refine Below.drew ?_) | (with_reducible refine Below.setCell ?_ ?_ _) | (with_reducible apply below_on; (with_reducible assumption)) | (go_size; done) | (with_reducible apply size_of)))⟩
theorem cells2 {w0 w : World} {g : Nat} {c : Cnt} {p : Addr} {v : Value} (h : Lies w g 23 [.int .i32 (c).a, .int .i32 (c).b, .int .u8 (c).l]) (hb : Below w0.heap.size w0 w) (hp : p.block < w0.heap.size) (hc : w0.cell? p = some v) : ((w).cell? ⟨g, 0, none⟩ = some (.int .i32 (c).a) ∧ (w).cell? ⟨g, 1, none⟩ = some (.int .i32 (c).b) ∧ (w).cell? ⟨g, 2, none⟩ = some (.int .u8 (c).l)) ∧ w.cell? p = some v :=
  ⟨⟨h.cell 0, h.cell 1, h.cell 2⟩, (hb.cell hp).trans hc⟩
theorem cells1 {w : World} {g : Nat} {c : Cnt} (h : Lies w g 23 [.int .i32 (c).a, .int .i32 (c).b, .int .u8 (c).l]) : (w).cell? ⟨g, 0, none⟩ = some (.int .i32 (c).a) ∧ (w).cell? ⟨g, 1, none⟩ = some (.int .i32 (c).b) ∧ (w).cell? ⟨g, 2, none⟩ = some (.int .u8 (c).l) := ⟨h.cell 0, h.cell 1, h.cell 2⟩
attribute [local go_sem ↓] Go.wp_at_zero Go.wp_at_succ
set_option maxRecDepth 100000 in
set_option maxHeartbeats 2000000 in
theorem parts_main (c m d : Cnt) (A : Option Addr) (cap n : Nat) (zs : List Int) (w : World) (hc : CntIn c) (hmi : CntIn m) (hr : Has .u8 w A zs)
    (hz : ∀ z ∈ zs, 0 ≤ z ∧ z ≤ 255) (hl : zs.length ≤ 100) (hcap : zs.length ≤ cap) (hcm : cap ≤ 9223372036854775807) (hn : n ≤ zs.length) (hb : bitsB zs = true) (e0 : chk c = 0) (hok : ok c = true)
    (r0 : run c zs = d) (r1 : runC c zs = d) (r2 : runC c (zs.take n) = m) (r3 : runC m (zs.drop n) = d) (s1 : runE c zs = 0) (s2 : runE c (zs.take n) = 0) (s3 : runE m (zs.drop n) = 0) :
    Calls Try.prog 8 #[.agg #[.int .i32 (c).a, .int .i32 (c).b, .int .u8 (c).l], .slice A zs.length cap, .int .i64 n] w fun e w' => e = .returned (.bool true) ∧ Below w.heap.size w w' := by
  have HC := Lib.hid hr
  have HZ := Lib.hid hz
  have HB := Lib.hid hb
  have R0 := Lib.hid r0
  have R1 := Lib.hid r1
  have R2 := Lib.hid r2
  have R3 := Lib.hid r3
  have S1 := Lib.hid s1
  have S2 := Lib.hid s2
  have S3 := Lib.hid s3
  have HK := Lib.hid hok
  have E' : chk ⟨c.a, c.b, c.l⟩ = 0 := e0
  clear hz hr r0 r1 r2 r3 s1 s2 s3 e0 hok
  have hcc := HC.out.cut hn hcap
  by_cases hcn : cap = n
  all_goals
    first
    | rw [if_pos hcn] at hcc
    | rw [if_neg hcn] at hcc
    have HCC := Lib.hid hcc
    clear hcc
    have hnc : n ≤ cap := by omega
    have hl0 : ¬ (100 : Int) < zs.length := by omega
    go_enter Try.func8, Try.ntmps8
    go_wp2_with (first | (go_at_call 25; refine (rcheck_any ⟨_, _, _⟩ _ hc).mono ?_; rintro e w1 ⟨rfl, hb⟩; obtain ⟨cl1, fr1⟩ := bcell hb; have sz1 := hb.size; (try simp at sz1); (try have sy1 : w.heap.size + 1 < (w1).heap.size := (by omega)); have sx1 : w.heap.size < (w1).heap.size := (by omega)) | (go_at_call 27; refine (bits_any _ _ _ zs _ HZ.out (HC.out.below (by (repeat' (first | (with_reducible exact Below.refl _ _) | (with_reducible assumption) | (with_reducible refine below_drewN ?_ _) | (with_reducible refine below_new ?_ _) | (with_reducible refine Below.alloc ?_ ?_ _) | (with_reducible refine Below.drew ?_) | (with_reducible refine Below.setCell ?_ ?_ _) | (with_reducible apply below_on; (with_reducible assumption)) | (go_size; done) | (with_reducible apply size_of)))) (Nat.le_refl _)) rfl (by omega)).mono ?_; rintro e w' ⟨rfl, rfl⟩))
    have HA1 : Hid (Lies w1 w.heap.size 23 [.int .i32 (c).a, .int .i32 (c).b, .int .u8 (c).l]) := Lib.hid (Lies.past (Lies.fresh _ _ _) hb)
    have HW : Hid (Below w.heap.size w w1) := Lib.hid (by (repeat' (first | (with_reducible exact Below.refl _ _) | (with_reducible assumption) | (with_reducible refine below_drewN ?_ _) | (with_reducible refine below_new ?_ _) | (with_reducible refine Below.alloc ?_ ?_ _) | (with_reducible refine Below.drew ?_) | (with_reducible refine Below.setCell ?_ ?_ _) | (with_reducible apply below_on; (with_reducible assumption)) | (go_size; done) | (with_reducible apply size_of))))
    have HE := Lib.hid E'
    clear cl1 fr1 E' hb sz1 sx1
    obtain ⟨a0, a1, a2, f0, f1, f2⟩ := Lies.three HA1.out; have la := Lies.lt HA1.out
    refine (Run_any c _ _ _ zs _ hc HZ.out (HC.out.below HW.out (Nat.le_refl _)) rfl (by omega)).mono ?_
    rintro e w2 ⟨rfl, hb2⟩
    rw [R1.out, S1.out]
    have HA2 := Lib.hid (HA1.out.past hb2)
    have HW2 : Hid (Below w.heap.size w w2) := Lib.hid (by have := HW.out; (repeat' (first | (with_reducible exact Below.refl _ _) | (with_reducible assumption) | (with_reducible refine below_drewN ?_ _) | (with_reducible refine below_new ?_ _) | (with_reducible refine Below.alloc ?_ ?_ _) | (with_reducible refine Below.drew ?_) | (with_reducible refine Below.setCell ?_ ?_ _) | (with_reducible apply below_on; (with_reducible assumption)) | (go_size; done) | (with_reducible apply size_of))))
    obtain ⟨a0, a1, a2, f0, f1, f2⟩ := Lies.three HA2.out; have la := Lies.lt HA2.out
    have HA2' := HA2.out
    go_upto_region 4 with fail
    go_cut [9, 10] (fun s9 s10 wx => ∃ g : Nat, s9 = .pointer (some ⟨g, 0, none⟩) ∧ s10 = .int .i64 0 ∧ (Lies wx g 23 [.int .i32 (m).a, .int .i32 (m).b, .int .u8 (m).l]) ∧ (Lies wx w.heap.size 23 [.int .i32 (c).a, .int .i32 (c).b, .int .u8 (c).l]) ∧ (Lies wx w2.heap.size 23 [.int .i32 (d).a, .int .i32 (d).b, .int .u8 (d).l]) ∧ Below w.heap.size w wx)
    case first =>
      go_region_held3 (fun w' => (w').cell? ⟨w.heap.size, 0, none⟩ = some (.int .i32 (c).a) ∧ (w').cell? ⟨w.heap.size, 1, none⟩ = some (.int .i32 (c).b) ∧ (w').cell? ⟨w.heap.size, 2, none⟩ = some (.int .u8 (c).l)) ((refine cells1 (c := c) ?_; (repeat' (first | (with_reducible assumption) | (with_reducible exact Lies.fresh _ _ _) | (with_reducible apply Lies.fresh_at; (first | (with_reducible rfl) | (simp; done))) | (with_reducible refine Lies.drew ?_) | (with_reducible refine Lies.drewN ?_ _) | (with_reducible refine Lies.alloc ?_ _) | (with_reducible apply Lies.past; case hb => (with_reducible assumption)) | (with_reducible apply Lies.store3) | (with_reducible apply Lies.other; case hp => (first | omega | (simp; done) | (simp; omega)))))))
        (first | (go_at_call 17; refine (Run_any c _ _ _ (zs.take n) _ hc (fun z h => HZ.out z (List.mem_of_mem_take h)) ((HC.out.front n).below (by have := HW2.out; (repeat' (first | (with_reducible exact Below.refl _ _) | (with_reducible assumption) | (with_reducible refine below_drewN ?_ _) | (with_reducible refine below_new ?_ _) | (with_reducible refine Below.alloc ?_ ?_ _) | (with_reducible refine Below.drew ?_) | (with_reducible refine Below.setCell ?_ ?_ _) | (with_reducible apply below_on; (with_reducible assumption)) | (go_size; done) | (with_reducible apply size_of)))) (Nat.le_refl _)) (by simp; omega) (by omega)).mono ?_; rintro e w3 ⟨rfl, hb3⟩; rw [R2.out, S2.out]; try (refine lay (P := Lies w3 (w2.heap.size + 1) 23 [.int .i32 0, .int .i32 0, .int .u8 0]) ?_ ?_; (focus ((repeat' (first | (with_reducible assumption) | (with_reducible exact Lies.fresh _ _ _) | (with_reducible apply Lies.fresh_at; (first | (with_reducible rfl) | (simp; done))) | (with_reducible refine Lies.drew ?_) | (with_reducible refine Lies.drewN ?_ _) | (with_reducible refine Lies.alloc ?_ _) | (with_reducible apply Lies.past; case hb => (with_reducible assumption)) | (with_reducible apply Lies.store3) | (with_reducible apply Lies.other; case hp => (first | omega | (simp; done) | (simp; omega))))); done)); intro L9; obtain ⟨b0, b1, b2, g0, g1, g2⟩ := L9.three; have lb := L9.lt)))
      all_goals
        go_wp2_with fail
        go_meet
        first
        | exact ⟨w2.heap.size + 1, rfl, rfl, by (repeat' (first | (with_reducible assumption) | (with_reducible exact Lies.fresh _ _ _) | (with_reducible apply Lies.fresh_at; (first | (with_reducible rfl) | (simp; done))) | (with_reducible refine Lies.drew ?_) | (with_reducible refine Lies.drewN ?_ _) | (with_reducible refine Lies.alloc ?_ _) | (with_reducible apply Lies.past; case hb => (with_reducible assumption)) | (with_reducible apply Lies.store3) | (with_reducible apply Lies.other; case hp => (first | omega | (simp; done) | (simp; omega))))), by (repeat' (first | (with_reducible assumption) | (with_reducible exact Lies.fresh _ _ _) | (with_reducible apply Lies.fresh_at; (first | (with_reducible rfl) | (simp; done))) | (with_reducible refine Lies.drew ?_) | (with_reducible refine Lies.drewN ?_ _) | (with_reducible refine Lies.alloc ?_ _) | (with_reducible apply Lies.past; case hb => (with_reducible assumption)) | (with_reducible apply Lies.store3) | (with_reducible apply Lies.other; case hp => (first | omega | (simp; done) | (simp; omega))))), by (repeat' (first | (with_reducible assumption) | (with_reducible exact Lies.fresh _ _ _) | (with_reducible apply Lies.fresh_at; (first | (with_reducible rfl) | (simp; done))) | (with_reducible refine Lies.drew ?_) | (with_reducible refine Lies.drewN ?_ _) | (with_reducible refine Lies.alloc ?_ _) | (with_reducible apply Lies.past; case hb => (with_reducible assumption)) | (with_reducible apply Lies.store3) | (with_reducible apply Lies.other; case hp => (first | omega | (simp; done) | (simp; omega))))), by have := HW2.out; (repeat' (first | (with_reducible exact Below.refl _ _) | (with_reducible assumption) | (with_reducible refine below_drewN ?_ _) | (with_reducible refine below_new ?_ _) | (with_reducible refine Below.alloc ?_ ?_ _) | (with_reducible refine Below.drew ?_) | (with_reducible refine Below.setCell ?_ ?_ _) | (with_reducible apply below_on; (with_reducible assumption)) | (go_size; done) | (with_reducible apply size_of)))⟩
        | exact ⟨w3.heap.size, rfl, rfl, by (repeat' (first | (with_reducible assumption) | (with_reducible exact Lies.fresh _ _ _) | (with_reducible apply Lies.fresh_at; (first | (with_reducible rfl) | (simp; done))) | (with_reducible refine Lies.drew ?_) | (with_reducible refine Lies.drewN ?_ _) | (with_reducible refine Lies.alloc ?_ _) | (with_reducible apply Lies.past; case hb => (with_reducible assumption)) | (with_reducible apply Lies.store3) | (with_reducible apply Lies.other; case hp => (first | omega | (simp; done) | (simp; omega))))), by (repeat' (first | (with_reducible assumption) | (with_reducible exact Lies.fresh _ _ _) | (with_reducible apply Lies.fresh_at; (first | (with_reducible rfl) | (simp; done))) | (with_reducible refine Lies.drew ?_) | (with_reducible refine Lies.drewN ?_ _) | (with_reducible refine Lies.alloc ?_ _) | (with_reducible apply Lies.past; case hb => (with_reducible assumption)) | (with_reducible apply Lies.store3) | (with_reducible apply Lies.other; case hp => (first | omega | (simp; done) | (simp; omega))))), by (repeat' (first | (with_reducible assumption) | (with_reducible exact Lies.fresh _ _ _) | (with_reducible apply Lies.fresh_at; (first | (with_reducible rfl) | (simp; done))) | (with_reducible refine Lies.drew ?_) | (with_reducible refine Lies.drewN ?_ _) | (with_reducible refine Lies.alloc ?_ _) | (with_reducible apply Lies.past; case hb => (with_reducible assumption)) | (with_reducible apply Lies.store3) | (with_reducible apply Lies.other; case hp => (first | omega | (simp; done) | (simp; omega))))), by have := HW2.out; (repeat' (first | (with_reducible exact Below.refl _ _) | (with_reducible assumption) | (with_reducible refine below_drewN ?_ _) | (with_reducible refine below_new ?_ _) | (with_reducible refine Below.alloc ?_ ?_ _) | (with_reducible refine Below.drew ?_) | (with_reducible refine Below.setCell ?_ ?_ _) | (with_reducible apply below_on; (with_reducible assumption)) | (go_size; done) | (with_reducible apply size_of)))⟩
    case rest =>
      obtain ⟨g, rfl, rfl, LM, LA, LD, hW⟩ := hcut
      clear HA2' hb2 a0 a1 a2 f0 f1 f2 la
      have HLM := Lib.hid LM
      have HLA := Lib.hid LA
      have HLD := Lib.hid LD
      have HWc := Lib.hid hW
      have hg := LM.lt
      have LM' := LM
      clear LM LA LD hW
      go_upto_region 5 with fail
      go_cut [11, 12] (fun s11 s12 wx => ∃ g2 : Nat, s11 = .pointer (some ⟨g2, 0, none⟩) ∧ s12 = .int .i64 0 ∧ (Lies wx g2 23 [.int .i32 (d).a, .int .i32 (d).b, .int .u8 (d).l]) ∧ (Lies wx w.heap.size 23 [.int .i32 (c).a, .int .i32 (c).b, .int .u8 (c).l]) ∧ (Lies wx w2.heap.size 23 [.int .i32 (d).a, .int .i32 (d).b, .int .u8 (d).l]) ∧ Below w.heap.size w wx ∧ g2 ≠ w.heap.size)
      case first =>
        go_region_held3 (fun w' => (w').cell? ⟨g, 0, none⟩ = some (.int .i32 (m).a) ∧ (w').cell? ⟨g, 1, none⟩ = some (.int .i32 (m).b) ∧ (w').cell? ⟨g, 2, none⟩ = some (.int .u8 (m).l)) ((refine cells1 (c := m) ?_; (repeat' (first | (with_reducible assumption) | (with_reducible exact Lies.fresh _ _ _) | (with_reducible apply Lies.fresh_at; (first | (with_reducible rfl) | (simp; done))) | (with_reducible refine Lies.drew ?_) | (with_reducible refine Lies.drewN ?_ _) | (with_reducible refine Lies.alloc ?_ _) | (with_reducible apply Lies.past; case hb => (with_reducible assumption)) | (with_reducible apply Lies.store3) | (with_reducible apply Lies.other; case hp => (first | omega | (simp; done) | (simp; omega)))))))
          (first | (go_at_call 17; refine (Run_any m _ _ _ (zs.drop n) _ hmi (fun z h => HZ.out z (List.mem_of_mem_drop h)) (HCC.out.below (by have := HWc.out; (repeat' (first | (with_reducible exact Below.refl _ _) | (with_reducible assumption) | (with_reducible refine below_drewN ?_ _) | (with_reducible refine below_new ?_ _) | (with_reducible refine Below.alloc ?_ ?_ _) | (with_reducible refine Below.drew ?_) | (with_reducible refine Below.setCell ?_ ?_ _) | (with_reducible apply below_on; (with_reducible assumption)) | (go_size; done) | (with_reducible apply size_of)))) (Nat.le_refl _)) (by simp) (by omega)).mono ?_; rintro e w4 ⟨rfl, hb4⟩; rw [R3.out, S3.out]; try (refine lay (P := Lies w4 wc.heap.size 23 [.int .i32 0, .int .i32 0, .int .u8 0]) ?_ ?_; (focus ((repeat' (first | (with_reducible assumption) | (with_reducible exact Lies.fresh _ _ _) | (with_reducible apply Lies.fresh_at; (first | (with_reducible rfl) | (simp; done))) | (with_reducible refine Lies.drew ?_) | (with_reducible refine Lies.drewN ?_ _) | (with_reducible refine Lies.alloc ?_ _) | (with_reducible apply Lies.past; case hb => (with_reducible assumption)) | (with_reducible apply Lies.store3) | (with_reducible apply Lies.other; case hp => (first | omega | (simp; done) | (simp; omega))))); done)); intro L9; obtain ⟨b0, b1, b2, g0, g1, g2⟩ := L9.three; have lb := L9.lt)))
        all_goals
          go_wp2_with fail
          go_meet
          have LA1 := HLA.out
          have LD1 := HLD.out
          have lt1 := LA1.lt
          have lt2 := LD1.lt
          first
          | exact ⟨w4.heap.size, rfl, rfl, by (repeat' (first | (with_reducible assumption) | (with_reducible exact Lies.fresh _ _ _) | (with_reducible apply Lies.fresh_at; (first | (with_reducible rfl) | (simp; done))) | (with_reducible refine Lies.drew ?_) | (with_reducible refine Lies.drewN ?_ _) | (with_reducible refine Lies.alloc ?_ _) | (with_reducible apply Lies.past; case hb => (with_reducible assumption)) | (with_reducible apply Lies.store3) | (with_reducible apply Lies.other; case hp => (first | omega | (simp; done) | (simp; omega))))), by (repeat' (first | (with_reducible assumption) | (with_reducible exact Lies.fresh _ _ _) | (with_reducible apply Lies.fresh_at; (first | (with_reducible rfl) | (simp; done))) | (with_reducible refine Lies.drew ?_) | (with_reducible refine Lies.drewN ?_ _) | (with_reducible refine Lies.alloc ?_ _) | (with_reducible apply Lies.past; case hb => (with_reducible assumption)) | (with_reducible apply Lies.store3) | (with_reducible apply Lies.other; case hp => (first | omega | (simp; done) | (simp; omega))))), by (repeat' (first | (with_reducible assumption) | (with_reducible exact Lies.fresh _ _ _) | (with_reducible apply Lies.fresh_at; (first | (with_reducible rfl) | (simp; done))) | (with_reducible refine Lies.drew ?_) | (with_reducible refine Lies.drewN ?_ _) | (with_reducible refine Lies.alloc ?_ _) | (with_reducible apply Lies.past; case hb => (with_reducible assumption)) | (with_reducible apply Lies.store3) | (with_reducible apply Lies.other; case hp => (first | omega | (simp; done) | (simp; omega))))), by have := HWc.out; (repeat' (first | (with_reducible exact Below.refl _ _) | (with_reducible assumption) | (with_reducible refine below_drewN ?_ _) | (with_reducible refine below_new ?_ _) | (with_reducible refine Below.alloc ?_ ?_ _) | (with_reducible refine Below.drew ?_) | (with_reducible refine Below.setCell ?_ ?_ _) | (with_reducible apply below_on; (with_reducible assumption)) | (go_size; done) | (with_reducible apply size_of))), by have := hb4.size; simp at this; omega⟩
          | exact ⟨wc.heap.size, rfl, rfl, by (repeat' (first | (with_reducible assumption) | (with_reducible exact Lies.fresh _ _ _) | (with_reducible apply Lies.fresh_at; (first | (with_reducible rfl) | (simp; done))) | (with_reducible refine Lies.drew ?_) | (with_reducible refine Lies.drewN ?_ _) | (with_reducible refine Lies.alloc ?_ _) | (with_reducible apply Lies.past; case hb => (with_reducible assumption)) | (with_reducible apply Lies.store3) | (with_reducible apply Lies.other; case hp => (first | omega | (simp; done) | (simp; omega))))), by (repeat' (first | (with_reducible assumption) | (with_reducible exact Lies.fresh _ _ _) | (with_reducible apply Lies.fresh_at; (first | (with_reducible rfl) | (simp; done))) | (with_reducible refine Lies.drew ?_) | (with_reducible refine Lies.drewN ?_ _) | (with_reducible refine Lies.alloc ?_ _) | (with_reducible apply Lies.past; case hb => (with_reducible assumption)) | (with_reducible apply Lies.store3) | (with_reducible apply Lies.other; case hp => (first | omega | (simp; done) | (simp; omega))))), by (repeat' (first | (with_reducible assumption) | (with_reducible exact Lies.fresh _ _ _) | (with_reducible apply Lies.fresh_at; (first | (with_reducible rfl) | (simp; done))) | (with_reducible refine Lies.drew ?_) | (with_reducible refine Lies.drewN ?_ _) | (with_reducible refine Lies.alloc ?_ _) | (with_reducible apply Lies.past; case hb => (with_reducible assumption)) | (with_reducible apply Lies.store3) | (with_reducible apply Lies.other; case hp => (first | omega | (simp; done) | (simp; omega))))), by have := HWc.out; (repeat' (first | (with_reducible exact Below.refl _ _) | (with_reducible assumption) | (with_reducible refine below_drewN ?_ _) | (with_reducible refine below_new ?_ _) | (with_reducible refine Below.alloc ?_ ?_ _) | (with_reducible refine Below.drew ?_) | (with_reducible refine Below.setCell ?_ ?_ _) | (with_reducible apply below_on; (with_reducible assumption)) | (go_size; done) | (with_reducible apply size_of))), by omega⟩
      case rest =>
        obtain ⟨g2, rfl, rfl, L2, LA, LD, hW, hne⟩ := hcut
        have hla := HA2.out.lt
        clear LM'
        have HL2 := Lib.hid L2
        have HLA := Lib.hid LA
        have HLD := Lib.hid LD
        have HWx := Lib.hid hW
        clear L2 LA LD hW
        go_wp2_with fail
        go_loopw [13] (fun i wr => ∃ k : Nat, k ≤ zs.length ∧ i = .int .i64 k ∧ (Lies wr w.heap.size 23 [.int .i32 (run c (zs.take k)).a, .int .i32 (run c (zs.take k)).b, .int .u8 (run c (zs.take k)).l]) ∧ (Lies wr g2 23 [.int .i32 (d).a, .int .i32 (d).b, .int .u8 (d).l]) ∧ (Lies wr w2.heap.size 23 [.int .i32 (d).a, .int .i32 (d).b, .int .u8 (d).l]) ∧ Below w.heap.size w wr) (fun i _ => zs.length - (intOf i).toNat)
        case atStart => exact ⟨0, Nat.zero_le _, rfl, HLA.out, HL2.out, HLD.out, HWx.out⟩
        case round =>
          obtain ⟨k, hk, rfl, K1, K2, K3, hbel⟩ := hrel
          obtain ⟨p0, p1, p2, f0, f1, f2⟩ := K1.three
          have lt1 := K1.lt
          have lt2 := K2.lt
          have lt3 := K3.lt
          have HK1 := Lib.hid K1
          have HK2 := Lib.hid K2
          have HK3 := Lib.hid K3
          have HBL := Lib.hid hbel
          clear K1 K2 K3 hbel
          by_cases hlt : k < zs.length
          · obtain ⟨b, off, rfl, hB, hr⟩ := has_some HC.out (by omega)
            have HCELL := Lib.hid (hr k hlt)
            obtain ⟨⟨v1, v2⟩, hv⟩ := bit_in HZ.out HB.out hlt
            have hok := run_in HK.out HZ.out HB.out k
            have HOK := Lib.hid hok
            have HCI := Lib.hid (cin hok)
            have HS := Lib.hid (run_next c hlt)
            have i1 : (0 : Int) ≤ (k : Int) := by omega
            have i2 : (k : Int) < zs.length := by omega
            clear hok hv hr
            generalize hv : zs.getD k 0 = v at *
            generalize hs : run c (zs.take k) = s at *
            have HG := Lib.hid hv
            have HG2 := Lib.hid hs
            have e1 := nxC_ok (bit := v) HOK.out v2
            have e2 := nxE_ok (bit := v) HOK.out v2
            clear hv hs
            have KK1 := HK1.out
            have BB1 := HBL.out
            go_wp2_with fail
            go_region_held3 (fun w' => ((w').cell? ⟨w.heap.size, 0, none⟩ = some (.int .i32 (s).a) ∧ (w').cell? ⟨w.heap.size, 1, none⟩ = some (.int .i32 (s).b) ∧ (w').cell? ⟨w.heap.size, 2, none⟩ = some (.int .u8 (s).l)) ∧ w'.cell? ⟨b, off + k, none⟩ = some (.int .u8 v)) ((refine cells2 (c := s) ?_ ?_ hB HCELL.out; (focus ((repeat' (first | (with_reducible assumption) | (with_reducible exact Lies.fresh _ _ _) | (with_reducible apply Lies.fresh_at; (first | (with_reducible rfl) | (simp; done))) | (with_reducible refine Lies.drew ?_) | (with_reducible refine Lies.drewN ?_ _) | (with_reducible refine Lies.alloc ?_ _) | (with_reducible apply Lies.past; case hb => (with_reducible assumption)) | (with_reducible apply Lies.store3) | (with_reducible apply Lies.other; case hp => (first | omega | (simp; done) | (simp; omega))))); done)); (focus ((repeat' (first | (with_reducible exact Below.refl _ _) | (with_reducible assumption) | (with_reducible refine below_drewN ?_ _) | (with_reducible refine below_new ?_ _) | (with_reducible refine Below.alloc ?_ ?_ _) | (with_reducible refine Below.drew ?_) | (with_reducible refine Below.setCell ?_ ?_ _) | (with_reducible apply below_on; (with_reducible assumption)) | (go_size; done) | (with_reducible apply size_of))); done))))
              (first | (go_at_call 16; refine (Next_any _ _ _ _ _ HCI.out v1 (by omega)).mono ?_; rintro e w4 ⟨rfl, hb4⟩; rw [show nxC ⟨s.a, s.b, s.l⟩ v = nx s v from e1, show nxE ⟨s.a, s.b, s.l⟩ v = 0 from e2]; (refine lay (P := Lies w4 w.heap.size 23 [.int .i32 (s).a, .int .i32 (s).b, .int .u8 (s).l]) ?_ ?_; (focus ((repeat' (first | (with_reducible assumption) | (with_reducible exact Lies.fresh _ _ _) | (with_reducible apply Lies.fresh_at; (first | (with_reducible rfl) | (simp; done))) | (with_reducible refine Lies.drew ?_) | (with_reducible refine Lies.drewN ?_ _) | (with_reducible refine Lies.alloc ?_ _) | (with_reducible apply Lies.past; case hb => (with_reducible assumption)) | (with_reducible apply Lies.store3) | (with_reducible apply Lies.other; case hp => (first | omega | (simp; done) | (simp; omega))))); done)); intro L3); obtain ⟨c0, c1, c2, h0, h1, h2⟩ := L3.three; have lc := L3.lt; try (refine lay (P := Lies w4 wr.heap.size 23 [.int .i32 0, .int .i32 0, .int .u8 0]) ?_ ?_; (focus ((repeat' (first | (with_reducible assumption) | (with_reducible exact Lies.fresh _ _ _) | (with_reducible apply Lies.fresh_at; (first | (with_reducible rfl) | (simp; done))) | (with_reducible refine Lies.drew ?_) | (with_reducible refine Lies.drewN ?_ _) | (with_reducible refine Lies.alloc ?_ _) | (with_reducible apply Lies.past; case hb => (with_reducible assumption)) | (with_reducible apply Lies.store3) | (with_reducible apply Lies.other; case hp => (first | omega | (simp; done) | (simp; omega))))); done)); intro L9; obtain ⟨b0, b1, b2, g0, g1, g2'⟩ := L9.three; have lb := L9.lt)))
            all_goals
              go_wp2_with fail
              go_roundw
              case rel =>
                have KK2 := HK2.out
                have KK3 := HK3.out
                refine ⟨k + 1, by omega, by go_num, ?_, by (repeat' (first | (with_reducible assumption) | (with_reducible exact Lies.fresh _ _ _) | (with_reducible apply Lies.fresh_at; (first | (with_reducible rfl) | (simp; done))) | (with_reducible refine Lies.drew ?_) | (with_reducible refine Lies.drewN ?_ _) | (with_reducible refine Lies.alloc ?_ _) | (with_reducible apply Lies.past; case hb => (with_reducible assumption)) | (with_reducible apply Lies.store3) | (with_reducible apply Lies.other; case hp => (first | omega | (simp; done) | (simp; omega))))), by (repeat' (first | (with_reducible assumption) | (with_reducible exact Lies.fresh _ _ _) | (with_reducible apply Lies.fresh_at; (first | (with_reducible rfl) | (simp; done))) | (with_reducible refine Lies.drew ?_) | (with_reducible refine Lies.drewN ?_ _) | (with_reducible refine Lies.alloc ?_ _) | (with_reducible apply Lies.past; case hb => (with_reducible assumption)) | (with_reducible apply Lies.store3) | (with_reducible apply Lies.other; case hp => (first | omega | (simp; done) | (simp; omega))))), by (repeat' (first | (with_reducible exact Below.refl _ _) | (with_reducible assumption) | (with_reducible refine below_drewN ?_ _) | (with_reducible refine below_new ?_ _) | (with_reducible refine Below.alloc ?_ ?_ _) | (with_reducible refine Below.drew ?_) | (with_reducible refine Below.setCell ?_ ?_ _) | (with_reducible apply below_on; (with_reducible assumption)) | (go_size; done) | (with_reducible apply size_of)))⟩
                rw [HS.out]
                (repeat' (first | (with_reducible assumption) | (with_reducible exact Lies.fresh _ _ _) | (with_reducible apply Lies.fresh_at; (first | (with_reducible rfl) | (simp; done))) | (with_reducible refine Lies.drew ?_) | (with_reducible refine Lies.drewN ?_ _) | (with_reducible refine Lies.alloc ?_ _) | (with_reducible apply Lies.past; case hb => (with_reducible assumption)) | (with_reducible apply Lies.store3) | (with_reducible apply Lies.other; case hp => (first | omega | (simp; done) | (simp; omega)))))
              case measure => simp [intOf]; omega
          · have HT : Hid (run c (zs.take k) = d) := Lib.hid (by rw [List.take_of_length_le (by omega)]; exact R0.out)
            rw [HT.out] at p0 p1 p2
            obtain ⟨q0, q1, q2, _, _, _⟩ := HK2.out.three
            obtain ⟨r0, r1, r2, _, _, _⟩ := HK3.out.three
            go_wp2_with (first | (go_at_call 21; refine (alive _).mono ?_; rintro e w' ⟨rfl, hb8⟩))
            go_ret
            exact ⟨rfl, by have := HBL.out; (repeat' (first | (with_reducible exact Below.refl _ _) | (with_reducible assumption) | (with_reducible refine below_drewN ?_ _) | (with_reducible refine below_new ?_ _) | (with_reducible refine Below.alloc ?_ ?_ _) | (with_reducible refine Below.drew ?_) | (with_reducible refine Below.setCell ?_ ?_ _) | (with_reducible apply below_on; (with_reducible assumption)) | (go_size; done) | (with_reducible apply size_of)))⟩
theorem runC_yes {c : Cnt} {l : List Int} (h : ok c = true) (hl : l.length ≤ 20000) (hb : bitsB l = true) : runC c l = run c l := by
  rw [runC, if_pos h, if_neg (by omega), if_pos hb]
theorem runE_yes {c : Cnt} {l : List Int} (h : ok c = true) (hl : l.length ≤ 20000) (hb : bitsB l = true) : runE c l = 0 := by
  rw [runE, if_pos h, if_neg (by omega), if_pos hb]
theorem parts (c : Cnt) (A : Option Addr) (len cap : Nat) (z : List Int) (at_ : Int) (w : World) (hc : CntIn c) (hr : IsRow .u8 w A len cap z) (_ : -9223372036854775808 ≤ at_) (_ : at_ ≤ 9223372036854775807) :
    Calls Try.prog 8 #[.agg #[.int .i32 (c).a, .int .i32 (c).b, .int .u8 (c).l], .slice A len cap, .int .i64 at_] w fun e w' => e = .returned (.bool true) ∧ Below w.heap.size w w' := by
  have hcap : len ≤ cap ∧ cap ≤ maxLen := by
    rcases hr with ⟨_, rfl, rfl, _⟩ | ⟨x, _, h1, h2, _⟩
    · exact ⟨Nat.le_refl _, Nat.zero_le _⟩
    · exact ⟨h1, h2⟩
  obtain ⟨hh, hlen, hm, hw⟩ := has_of_row hr
  have hz := wf8 hw
  generalize hzs : z.take len = zs at *
  subst hlen
  unfold maxLen at hm hcap
  have hm' : zs.length ≤ 9223372036854775807 := by omega
  cases hok : ok c
  · exact parts_bad c A cap zs at_ w hc hh hz hm' (.inl hok)
  · by_cases h1 : 100 < zs.length
    · exact parts_bad c A cap zs at_ w hc hh hz hm' (.inr (.inl ⟨hok, h1⟩))
    · cases hb : bitsB zs
      · exact parts_bad c A cap zs at_ w hc hh hz hm' (.inr (.inr (.inl ⟨hok, h1, hb⟩)))
      · by_cases h2 : at_ < 0
        · exact parts_bad c A cap zs at_ w hc hh hz hm' (.inr (.inr (.inr (.inl ⟨hok, h1, hb, h2⟩))))
        · by_cases h3 : (zs.length : Int) < at_
          · exact parts_bad c A cap zs at_ w hc hh hz hm' (.inr (.inr (.inr (.inr ⟨hok, h1, hb, by omega, h3⟩))))
          · obtain ⟨n, rfl⟩ := Int.eq_ofNat_of_zero_le (show 0 ≤ at_ by omega)
            have hall := (bitsB_iff zs).1 hb
            have b1 : bitsB (zs.take n) = true := (bitsB_iff _).2 fun z h => hall z (List.mem_of_mem_take h)
            have b2 : bitsB (zs.drop n) = true := (bitsB_iff _).2 fun z h => hall z (List.mem_of_mem_drop h)
            have okm := run_in hok hz hb n
            exact parts_main c (run c (zs.take n)) (run c zs) A cap n zs w hc (cin okm) hh hz (by omega) hcap.1 (by omega) (by omega) hb (chk_yes hok) hok rfl
              (runC_yes hok (by omega) hb) (runC_yes hok (by rw [List.length_take]; omega) b1) ((runC_yes okm (by rw [List.length_drop]; omega) b2).trans (run_cut c zs n))
              (runE_yes hok (by omega) hb) (runE_yes hok (by rw [List.length_take]; omega) b1) (runE_yes okm (by rw [List.length_drop]; omega) b2)
end Go.Proofs.Ytkpcopecndpfjaa.cntL
