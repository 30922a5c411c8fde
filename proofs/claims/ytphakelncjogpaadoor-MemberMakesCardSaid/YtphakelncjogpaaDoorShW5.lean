/- Blocks done one after the other, by a walk. -/
import Derived.Test.YtphakelncjogpaaDoorShW4
namespace Go.Proofs.YtphakelncjogpaaDoor.shW
set_option maxRecDepth 100000
open Go.RowKit Go.Proofs.YtphakelncjogpaaDoor.base Go.Proofs.YtphakelncjogpaaDoor.shP
set_option linter.unusedVariables false
set_option linter.unusedSimpArgs false
theorem dn_in (h : W5) (b : List Int) : In5 (dn h b) := addW_in _ _
theorem blks_in {l : List Int} {h : W5} (hh : In5 h) : ∀ k, In5 (blks l k h)
  | 0 => hh
  | k + 1 => dn_in _ _
theorem bd_cut {b : List Int} (hb : ∀ z ∈ b, 0 ≤ z ∧ z ≤ 255) (i n : Nat) : ∀ z ∈ (b.drop i).take n, 0 ≤ z ∧ z ≤ 255 := fun z h => hb z (List.mem_of_mem_drop (List.mem_of_mem_take h))
theorem doBlock' (h : W5) (b : List Int) (A : Option Addr) (d : Nat) (w : World) (hA : Has .u8 w A b) (hl : b.length = 64) (hd : 64 ≤ d) (hb : ∀ z ∈ b, 0 ≤ z ∧ z ≤ 255) (hh : In5 h) :
    Calls Tryd.prog 64 #[.agg #[.int .u32 h.a, .int .u32 h.b, .int .u32 h.c, .int .u32 h.d, .int .u32 h.e], .slice A 64 d] w fun e w' => e = .returned (.agg #[.int .u32 (dn h b).a, .int .u32 (dn h b).b, .int .u32 (dn h b).c, .int .u32 (dn h b).d, .int .u32 (dn h b).e]) ∧ Below w.heap.size w w' := doBlock h b A d w hA hl hd hb hh
set_option maxRecDepth 100000 in
set_option maxHeartbeats 4000000 in
theorem doBlocks (h : W5) (b : List Int) (A : Option Addr) (m d : Nat) (w : World) (hA : Has .u8 w A b) (hl : b.length = 64 * m) (hd : 64 * m ≤ d) (hm : 64 * m ≤ 1000000) (hb : ∀ z ∈ b, 0 ≤ z ∧ z ≤ 255) (hh : In5 h) :
    Calls Tryd.prog 53 #[a5 h, .slice A (64 * m) d] w fun e w' => e = .returned (a5 (blks b m h)) ∧ Below w.heap.size w w' := by
  have HA := Lib.hid hA
  have HL := Lib.hid hl
  have HB := Lib.hid hb
  have HH := Lib.hid hh
  clear hA hl hb hh
  simp only [a5, c5, l5, List.map_cons, List.map_nil]
  obtain ⟨n, hn⟩ : ∃ n, 64 * m = n := ⟨_, rfl⟩
  rw [hn] at hd hm ⊢
  have HN := Lib.hid hn
  clear hn
  have n1 : (n : Int) ≤ 1000000 := by omega
  go_enter Tryd.func53, Tryd.ntmps53
  go_wp2_with fail
  go_loopw [5] (fun i wr => ∃ t j : Nat, i = .int .i64 (t : Int) ∧ 64 * j = t ∧ j ≤ m ∧ Lies (wr) (w.heap.size) 98 (c5 (blks b j h)) ∧ Lies wr (w.heap.size + 1) 98 (c5 ⟨0, 0, 0, 0, 0⟩) ∧ Below w.heap.size w wr) (fun i _ => n - (intOf i).toNat)
  case atStart => exact ⟨0, 0, rfl, rfl, by omega, (Lies.fresh _ _ (c5 h)).alloc _, Lies.fresh_at (cs := c5 ⟨0, 0, 0, 0, 0⟩) (by simp), by (repeat' (first | (with_reducible exact Below.refl _ _) | (with_reducible assumption) | (with_reducible refine below_drewN ?_ _) | (with_reducible refine below_new ?_ _) | (with_reducible refine Below.alloc ?_ ?_ _) | (with_reducible refine Below.drew ?_) | (with_reducible refine Below.setCell ?_ ?_ _) | (with_reducible apply below_at; (case k => (with_reducible assumption)); (case hB => omega)) | (with_reducible apply below_on; (with_reducible assumption)) | (go_size; done) | (with_reducible apply size_of)))⟩
  case round =>
    obtain ⟨t, j, rfl, ht, hj, K, Z, acc⟩ := hrel
    have HK := Lib.hid K
    have HZ := Lib.hid Z
    have HACC := Lib.hid acc
    have HT := Lib.hid ht
    obtain ⟨p0, p1, p2, p3, p4⟩ := five K
    by_cases hlt : j < m
    · have t1 : (t : Int) < n := by have := HN.out; omega
      have t2 : (t : Int) + 64 ≤ n := by have := HN.out; omega
      have t3 : (t : Int) + 64 ≤ d := by have := HN.out; omega
      have t4 : (n : Int) ≤ d := by omega
      obtain ⟨B, off, rfl, hB, -⟩ := has_some HA.out (by rw [HL.out, HN.out]; omega)
      have HLT := Lib.hid hlt
      have HS : Hid (blks b (j + 1) h = dn (blks b j h) ((b.drop t).take 64)) := Lib.hid (by rw [← ht]; rfl)
      have HI := Lib.hid (blks_in (l := b) HH.out j)
      have HLN : Hid (((b.drop t).take 64).length = 64) := Lib.hid (by rw [List.length_take, List.length_drop, HL.out, HN.out]; omega)
      have HD : Hid (64 ≤ d - t) := Lib.hid (by omega)
      have zk := K.lt
      have s1 : IntKind.i64.wrap ((t : Int) + 64) = (t : Int) + 64 := IntWalk.i64_in _ (by omega)
      have s2 : ((t : Int) + 64).toNat = t + 64 := by omega
      have s3 : 0 ≤ (t : Int) + 64 := by omega
      have s4 : ¬ d = t := by omega
      have s5 : t + 64 - t = 64 := by omega
      have s6 : t ≤ t + 64 := by omega
      clear K Z acc hj hlt ht
      generalize blks b j h = v at *
      go_wp2_with fail
      go_region_law (first | (go_simp; go_at_call 64; refine (doBlock' v ((b.drop t).take 64) _ _ _ (((HA.out.below (by have := HACC.out; (repeat' (first | (with_reducible exact Below.refl _ _) | (with_reducible assumption) | (with_reducible refine below_drewN ?_ _) | (with_reducible refine below_new ?_ _) | (with_reducible refine Below.alloc ?_ ?_ _) | (with_reducible refine Below.drew ?_) | (with_reducible refine Below.setCell ?_ ?_ _) | (with_reducible apply below_at; (case k => (with_reducible assumption)); (case hB => omega)) | (with_reducible apply below_on; (with_reducible assumption)) | (go_size; done) | (with_reducible apply size_of)))) (Nat.le_refl _)).dropAt t).front 64) HLN.out HD.out (bd_cut HB.out _ _) HI.out).mono ?_; rintro e w3 ⟨rfl, hb3⟩; have k3 : Lies (w3) (w.heap.size) 98 (c5 (v)) := (HK.out.drew).past hb3; obtain ⟨x0, x1, x2, x3, x4⟩ := five k3; obtain ⟨f0, f1, f2, f3, f4⟩ := free5 k3; have lt3 := k3.lt; have HK3 := Lib.hid k3; have HB3 := Lib.hid hb3; clear k3 hb3))
      all_goals
        go_wp2_with fail
        refine ⟨⟨t + 64, j + 1, by go_num, by have := HT.out; omega, by have := HLT.out; omega, ?_, ?_, ?_⟩, ?_⟩
        · rw [HS.out]; exact lies_set5 HK3.out _
        · have hne : w.heap.size ≠ w.heap.size + 1 := by omega
          exact ((((((HZ.out.drew).past HB3.out).other hne _).other hne _).other hne _).other hne _).other hne _
        · have := HACC.out; have := HB3.out; (repeat' (first | (with_reducible exact Below.refl _ _) | (with_reducible assumption) | (with_reducible refine below_drewN ?_ _) | (with_reducible refine below_new ?_ _) | (with_reducible refine Below.alloc ?_ ?_ _) | (with_reducible refine Below.drew ?_) | (with_reducible refine Below.setCell ?_ ?_ _) | (with_reducible apply below_at; (case k => (with_reducible assumption)); (case hB => omega)) | (with_reducible apply below_on; (with_reducible assumption)) | (go_size; done) | (with_reducible apply size_of)))
        · simp [intOf]; omega
    · have e : j = m := by omega
      have tn : ¬ (t : Int) < n := by have := HN.out; omega
      have HM := Lib.hid e
      clear K Z acc hj hlt ht e
      obtain ⟨f0, f1, f2, f3, f4⟩ := free5 HZ.out
      obtain ⟨z0, z1, z2, z3, z4⟩ := five (v := ⟨0, 0, 0, 0, 0⟩) HZ.out
      have zk := HK.out.lt
      have zz := HZ.out.lt
      generalize hu : blks b j h = u at *
      have HU := Lib.hid hu
      clear hu
      go_wp2_with fail
      obtain ⟨t0, t1, t2, t3, t4⟩ := five (lies_set5 HZ.out u)
      clear p0 p1 p2 p3 p4 z0 z1 z2 z3 z4 f0 f1 f2 f3 f4
      refine bodyPost_ret (by simp [results, Tryd.results53, go_sem, t0, t1, t2, t3, t4]; try rfl) rfl ?_
      exact ⟨by rw [← HM.out, HU.out], by have := HACC.out; (repeat' (first | (with_reducible exact Below.refl _ _) | (with_reducible assumption) | (with_reducible refine below_drewN ?_ _) | (with_reducible refine below_new ?_ _) | (with_reducible refine Below.alloc ?_ ?_ _) | (with_reducible refine Below.drew ?_) | (with_reducible refine Below.setCell ?_ ?_ _) | (with_reducible apply below_at; (case k => (with_reducible assumption)); (case hB => omega)) | (with_reducible apply below_on; (with_reducible assumption)) | (go_size; done) | (with_reducible apply size_of)))⟩
end Go.Proofs.YtphakelncjogpaaDoor.shW
