/- StatesParts, by a walk. -/
import Derived.Test.YtkpcopecndpfjaaStL
import Derived.Test.YtkpcopecndpfjaaStL3
import Derived.Test.YtkpcopecndpfjaaMem8
namespace Go.Proofs.Ytkpcopecndpfjaa.stL
open Go.RowKit Go.Proofs.Ytkpcopecndpfjaa.base Go.Proofs.Ytkpcopecndpfjaa.cntP Go.Proofs.Ytkpcopecndpfjaa.stP Go.Proofs.Ytkpcopecndpfjaa.cntW Go.Proofs.Ytkpcopecndpfjaa.stW
set_option linter.unusedVariables false
set_option linter.unusedSimpArgs false
set_option maxHeartbeats 1000000 in
theorem parts_bad (s : Int) (A : Option Addr) (cap : Nat) (zs : List Int) (at_ : Int) (w : World) (hr : Has .u8 w A zs) (hz : ∀ z ∈ zs, 0 ≤ z ∧ z ≤ 255) (hl : zs.length ≤ 9223372036854775807)
    (h : decide (s < 193) = false ∨ decide (s < 193) = true ∧ 100 < zs.length ∨ decide (s < 193) = true ∧ ¬ 100 < zs.length ∧ bitsB zs = false ∨ decide (s < 193) = true ∧ ¬ 100 < zs.length ∧ bitsB zs = true ∧ at_ < 0 ∨ decide (s < 193) = true ∧ ¬ 100 < zs.length ∧ bitsB zs = true ∧ 0 ≤ at_ ∧ (zs.length : Int) < at_) :
    Calls Try.prog 15 #[.int .u8 s, .slice A zs.length cap, .int .i64 at_] w fun e w' => e = .returned (.bool true) ∧ Below w.heap.size w w' := by
  have HC := Lib.hid hr
  have HZ := Lib.hid hz
  clear hr hz
  rcases h with h | ⟨h, h1⟩ | ⟨h, h1, h2⟩ | ⟨h, h1, h2, h3⟩ | ⟨h, h1, h2, h3, h4⟩
  all_goals
    go_enter Try.func15, Try.ntmps15
    go_wp2_with (first | (go_at_call 40; refine (rState_any _ _).mono ?_; rintro e w' ⟨rfl, rfl⟩) | (go_at_call 27; refine (bits_any _ _ _ zs _ HZ.out HC.out rfl hl).mono ?_; rintro e w' ⟨rfl, rfl⟩) | (go_at_call 34; refine (alive _).mono ?_; rintro e w' ⟨rfl, hb3⟩))
    go_ret
    exact ⟨rfl, by (repeat' (first | (with_reducible exact Below.refl _ _) | (with_reducible assumption) | (with_reducible refine below_drewN ?_ _) | (with_reducible refine below_new ?_ _) | (with_reducible refine Below.alloc ?_ ?_ _) | (with_reducible refine Below.drew ?_) | (with_reducible refine Below.setCell ?_ ?_ _) | (with_reducible apply below_on; (with_reducible assumption)) | (go_size; done) | (with_reducible apply size_of)))⟩
set_option maxRecDepth 100000 in
set_option maxHeartbeats 4000000 in
theorem parts_main (s m t : Int) (c d : Cnt) (A : Option Addr) (cap n : Nat) (zs : List Int) (w : World) (h1 : 0 ≤ s) (c1 : s < 193) (m1 : 0 ≤ m) (m2 : m < 193) (hci : CntIn c) (hdi : CntIn d) (hr : Has .u8 w A zs)
    (hz : ∀ z ∈ zs, 0 ≤ z ∧ z ≤ 255) (hl : zs.length ≤ 100) (hcap : zs.length ≤ cap) (hcm : cap ≤ 9223372036854775807) (hn : n ≤ zs.length) (hb : bitsB zs = true)
    (r0 : sRun s zs = t) (r1 : stR s zs = t) (r2 : stR s (zs.take n) = m) (r3 : stR m (zs.drop n) = t) (r4 : cntC s = c) (r5 : runC c zs = d) (r6 : numV d = t) (s1 : stRE s zs = 0) (s2 : stRE s (zs.take n) = 0) (s3 : stRE m (zs.drop n) = 0) (s4 : cntE s = 0) (s5 : runE c zs = 0) (s6 : chk d = 0) :
    Calls Try.prog 15 #[.int .u8 s, .slice A zs.length cap, .int .i64 n] w fun e w' => e = .returned (.bool true) ∧ Below w.heap.size w w' := by
  have hd : decide (s < 193) = true := decide_eq_true c1
  have h2 : s ≤ 255 := by omega
  have m3 : m ≤ 255 := by omega
  have HC := Lib.hid hr
  have HZ := Lib.hid hz
  have HB := Lib.hid hb
  have R0 := Lib.hid r0
  have R1 := Lib.hid r1
  have R2 := Lib.hid r2
  have R3 := Lib.hid r3
  have R4 := Lib.hid r4
  have R5 := Lib.hid r5
  have R6 := Lib.hid r6
  have S1 := Lib.hid s1
  have S2 := Lib.hid s2
  have S3 := Lib.hid s3
  have S4 := Lib.hid s4
  have S5 := Lib.hid s5
  have S6 := Lib.hid s6
  have hcc := hr.cut hn hcap
  have hff := hr.front n
  have HZT : Hid (∀ z ∈ zs.take n, 0 ≤ z ∧ z ≤ 255) := Lib.hid fun z h => hz z (List.mem_of_mem_take h)
  have HZD : Hid (∀ z ∈ zs.drop n, 0 ≤ z ∧ z ≤ 255) := Lib.hid fun z h => hz z (List.mem_of_mem_drop h)
  have HF := Lib.hid hff
  clear hz hr r0 r1 r2 r3 r4 r5 r6 s1 s2 s3 s4 s5 s6 hff
  by_cases hcn : cap = n
  all_goals
    first
    | rw [if_pos hcn] at hcc
    | (rw [if_neg hcn] at hcc; generalize hA2 : Option.map (fun x => x.add n) A = A2 at hcc)
    have HCC := Lib.hid hcc
    clear hcc
    have hnc : n ≤ cap := by omega
    have hl0 : ¬ (100 : Int) < zs.length := by omega
    go_enter Try.func15, Try.ntmps15
    go_wp2_with (first | (go_at_call 40; refine (rState_any _ _).mono ?_; rintro e w' ⟨rfl, rfl⟩) | (go_at_call 27; refine (bits_any _ _ _ zs _ HZ.out HC.out rfl (by omega)).mono ?_; rintro e w' ⟨rfl, rfl⟩))
    clear hb
    refine (RunS_any s _ _ _ zs _ h1 h2 HZ.out HC.out rfl (by omega)).mono ?_
    rintro e w1 ⟨rfl, hb1⟩
    rw [R1.out, S1.out]
    go_wp2_with fail
    refine (RunS_any s _ _ _ (zs.take n) _ h1 h2 HZT.out (HF.out.below hb1 (Nat.le_refl _)) (by simp; omega) (by omega)).mono ?_
    rintro e w2 ⟨rfl, hb2⟩
    rw [R2.out, S2.out]
    go_wp2_with fail
    refine (RunS_any m _ _ _ (zs.drop n) _ m1 m3 HZD.out (HCC.out.below (by (repeat' (first | (with_reducible exact Below.refl _ _) | (with_reducible assumption) | (with_reducible refine below_drewN ?_ _) | (with_reducible refine below_new ?_ _) | (with_reducible refine Below.alloc ?_ ?_ _) | (with_reducible refine Below.drew ?_) | (with_reducible refine Below.setCell ?_ ?_ _) | (with_reducible apply below_on; (with_reducible assumption)) | (go_size; done) | (with_reducible apply size_of)))) (Nat.le_refl _)) (by simp) (by omega)).mono ?_
    rintro e w3 ⟨rfl, hb3⟩
    rw [R3.out, S3.out]
    go_wp2_with fail
    refine (Count_any s _ h1 h2).mono ?_
    rintro e w4 ⟨rfl, hb4⟩
    rw [R4.out, S4.out]
    go_wp2_with fail
    refine (Run_any c _ _ _ zs _ hci HZ.out (HC.out.below (by (repeat' (first | (with_reducible exact Below.refl _ _) | (with_reducible assumption) | (with_reducible refine below_drewN ?_ _) | (with_reducible refine below_new ?_ _) | (with_reducible refine Below.alloc ?_ ?_ _) | (with_reducible refine Below.drew ?_) | (with_reducible refine Below.setCell ?_ ?_ _) | (with_reducible apply below_on; (with_reducible assumption)) | (go_size; done) | (with_reducible apply size_of)))) (Nat.le_refl _)) rfl (by omega)).mono ?_
    rintro e w5 ⟨rfl, hb5⟩
    rw [R5.out, S5.out]
    go_wp2_with fail
    refine (Number_any d _ hdi).mono ?_
    rintro e w6 ⟨rfl, hb6⟩
    rw [R6.out, S6.out]
    have HW : Hid (Below w.heap.size w w6) := Lib.hid (by (repeat' (first | (with_reducible exact Below.refl _ _) | (with_reducible assumption) | (with_reducible refine below_drewN ?_ _) | (with_reducible refine below_new ?_ _) | (with_reducible refine Below.alloc ?_ ?_ _) | (with_reducible refine Below.drew ?_) | (with_reducible refine Below.setCell ?_ ?_ _) | (with_reducible apply below_on; (with_reducible assumption)) | (go_size; done) | (with_reducible apply size_of))))
    clear hb1 hb2 hb3 hb4 hb5 hb6
    go_wp2_with fail
    try clear hA2
    go_loopw [0, 19] (fun x i wr => ∃ k : Nat, k ≤ zs.length ∧ i = .int .i64 k ∧ x = .int .u8 (sRun s (zs.take k)) ∧ Below w.heap.size w wr) (fun _ i _ => zs.length - (intOf i).toNat)
    case atStart => exact ⟨0, Nat.zero_le _, rfl, rfl, HW.out⟩
    case round =>
      obtain ⟨k, hk, rfl, rfl, hbel⟩ := hrel
      have HBL := Lib.hid hbel
      clear hbel
      have hall : ∀ z ∈ zs.take k, z = 0 ∨ z = 1 := fun z hm => by
        have := HZ.out z (List.mem_of_mem_take hm)
        have := (bitsB_iff zs).1 HB.out z (List.mem_of_mem_take hm)
        omega
      obtain ⟨t1, t2⟩ := sRun_bd (zs.take k) h1 c1 hall
      clear hall
      by_cases hlt : k < zs.length
      · obtain ⟨b, off, rfl, hB, hr⟩ := has_some HC.out (by omega)
        have hcell : wr.cell? ⟨b, off + k, none⟩ = some (.int .u8 (zs.getD k 0)) := by rw [(bcell HBL.out).1 b _ hB]; exact hr k hlt
        obtain ⟨⟨v1, v2⟩, hv⟩ := bit_in HZ.out HB.out hlt
        have HV := Lib.hid hv
        have HS := Lib.hid (sRun_next s hlt)
        clear hv hr
        generalize hv : zs.getD k 0 = v at *
        generalize hs : sRun s (zs.take k) = x at *
        have t3 : x ≤ 255 := by omega
        have HSN : Hid (stN x v = sNext x v ∧ stE x v = 0) := Lib.hid ⟨by rw [stN, if_pos t2, if_pos v2], by rw [stE, if_pos t2, if_pos v2]⟩
        clear hv hs
        go_wp2_with fail
        refine (NextS_any x v _ t1 t3 v1 (by omega)).mono ?_
        rintro e w7 ⟨rfl, hb7⟩
        rw [HSN.out.1, HSN.out.2]
        go_wp2_with fail
        go_roundw
        case rel => exact ⟨k + 1, by omega, by go_num, by rw [HS.out], by have := HBL.out; (repeat' (first | (with_reducible exact Below.refl _ _) | (with_reducible assumption) | (with_reducible refine below_drewN ?_ _) | (with_reducible refine below_new ?_ _) | (with_reducible refine Below.alloc ?_ ?_ _) | (with_reducible refine Below.drew ?_) | (with_reducible refine Below.setCell ?_ ?_ _) | (with_reducible apply below_on; (with_reducible assumption)) | (go_size; done) | (with_reducible apply size_of)))⟩
        case measure => simp [intOf]; omega
      · have HT : Hid (sRun s (zs.take k) = t) := Lib.hid (by rw [List.take_of_length_le (by omega)]; exact R0.out)
        rw [HT.out]
        go_wp2_with (first | (go_at_call 34; refine (alive _).mono ?_; rintro e w' ⟨rfl, hb8⟩))
        go_ret
        exact ⟨rfl, by have := HBL.out; (repeat' (first | (with_reducible exact Below.refl _ _) | (with_reducible assumption) | (with_reducible refine below_drewN ?_ _) | (with_reducible refine below_new ?_ _) | (with_reducible refine Below.alloc ?_ ?_ _) | (with_reducible refine Below.drew ?_) | (with_reducible refine Below.setCell ?_ ?_ _) | (with_reducible apply below_on; (with_reducible assumption)) | (go_size; done) | (with_reducible apply size_of)))⟩
theorem stR_yes {s : Int} {l : List Int} (c1 : s < 193) (hl : l.length ≤ 20000) (hb : bitsB l = true) : stR s l = sRun s l := by
  rw [stR, if_pos c1, if_neg (by omega), if_pos hb]
theorem stRE_yes {s : Int} {l : List Int} (c1 : s < 193) (hl : l.length ≤ 20000) (hb : bitsB l = true) : stRE s l = 0 := by
  rw [stRE, if_pos c1, if_neg (by omega), if_pos hb]
theorem parts (s : Int) (A : Option Addr) (len cap : Nat) (z : List Int) (at_ : Int) (w : World) (h1 : 0 ≤ s) (h2 : s ≤ 255) (hr : IsRow .u8 w A len cap z) (_ : -9223372036854775808 ≤ at_) (_ : at_ ≤ 9223372036854775807) :
    Calls Try.prog 15 #[.int .u8 s, .slice A len cap, .int .i64 at_] w fun e w' => e = .returned (.bool true) ∧ Below w.heap.size w w' := by
  have hcap : len ≤ cap ∧ cap ≤ maxLen := by
    rcases hr with ⟨_, rfl, rfl, _⟩ | ⟨x, _, h1, h2, _⟩
    · exact ⟨Nat.le_refl _, Nat.zero_le _⟩
    · exact ⟨h1, h2⟩
  obtain ⟨hh, hlen, hm, hw⟩ := has_of_row hr
  have hz := wf8 hw
  generalize hzs : z.take len = zs at *
  subst hlen
  unfold maxLen at hm hcap
  have hm' : zs.length ≤ 9223372036854775807 := by omega
  by_cases c1 : s < 193
  · have hd : decide (s < 193) = true := decide_eq_true c1
    by_cases h1' : 100 < zs.length
    · exact parts_bad s A cap zs at_ w hh hz hm' (.inr (.inl ⟨hd, h1'⟩))
    · cases hb : bitsB zs
      · exact parts_bad s A cap zs at_ w hh hz hm' (.inr (.inr (.inl ⟨hd, h1', hb⟩)))
      · by_cases h2' : at_ < 0
        · exact parts_bad s A cap zs at_ w hh hz hm' (.inr (.inr (.inr (.inl ⟨hd, h1', hb, h2'⟩))))
        · by_cases h3 : (zs.length : Int) < at_
          · exact parts_bad s A cap zs at_ w hh hz hm' (.inr (.inr (.inr (.inr ⟨hd, h1', hb, by omega, h3⟩))))
          · obtain ⟨n, rfl⟩ := Int.eq_ofNat_of_zero_le (show 0 ≤ at_ by omega)
            have hall := (bitsB_iff zs).1 hb
            have hbits : ∀ z ∈ zs, z = 0 ∨ z = 1 := fun z h => by
              have a := hz z h
              have b := hall z h
              omega
            have b1 : bitsB (zs.take n) = true := (bitsB_iff _).2 fun z h => hall z (List.mem_of_mem_take h)
            have b2 : bitsB (zs.drop n) = true := (bitsB_iff _).2 fun z h => hall z (List.mem_of_mem_drop h)
            obtain ⟨m1, m2⟩ := sRun_bd (zs.take n) h1 c1 fun z h => hbits z (List.mem_of_mem_take h)
            have hok := sBack_ok h1 c1
            have okd := run_ok zs hok hbits
            have e0 : sOf (run (sBack s) zs) = sRun s zs := by rw [← sRun_of zs _ hok hbits, sOf_sBack h1 c1]
            have l1 : zs.length ≤ 20000 := by omega
            refine parts_main s (sRun s (zs.take n)) (sRun s zs) (sBack s) (run (sBack s) zs) A cap n zs w h1 c1 m1 m2 (cin' hok) (cin' okd) hh hz (by omega) hcap.1 (by omega) (by omega) hb rfl
              (stR_yes c1 l1 hb) (stR_yes c1 (by rw [List.length_take]; omega) b1) ?_ (by rw [cntC, if_pos c1]) (by rw [runC, if_pos hok, if_neg (by omega), if_pos hb]) (by rw [numV, if_pos okd, e0])
              (stRE_yes c1 l1 hb) (stRE_yes c1 (by rw [List.length_take]; omega) b1) (stRE_yes m2 (by rw [List.length_drop]; omega) b2) (by rw [cntE, if_pos c1]) (by rw [runE, if_pos hok, if_neg (by omega), if_pos hb]) (chk_yes okd)
            rw [stR_yes m2 (by rw [List.length_drop]; omega) b2]
            show (zs.drop n).foldl sNext ((zs.take n).foldl sNext s) = zs.foldl sNext s
            rw [← List.foldl_append, List.take_append_drop]
  · exact parts_bad s A cap zs at_ w hh hz hm' (.inl (decide_eq_false c1))
end Go.Proofs.Ytkpcopecndpfjaa.stL
