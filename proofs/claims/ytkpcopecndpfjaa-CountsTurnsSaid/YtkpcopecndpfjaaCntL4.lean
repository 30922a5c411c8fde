/- CountsTurns, by a walk. -/
import Derived.Test.YtkpcopecndpfjaaCntL
import Derived.Test.YtkpcopecndpfjaaCntL3
import Derived.Test.YtkpcopecndpfjaaCntPlain2
namespace Go.Proofs.Ytkpcopecndpfjaa.cntL
open Go.RowKit Go.Proofs.Ytkpcopecndpfjaa.base Go.Proofs.Ytkpcopecndpfjaa.cntP Go.Proofs.Ytkpcopecndpfjaa.cntW
set_option linter.unusedVariables false
set_option linter.unusedSimpArgs false
set_option maxHeartbeats 1000000 in
theorem turns_bad (c : Cnt) (A : Option Addr) (cap : Nat) (zs : List Int) (w : World) (hc : CntIn c) (hr : Has .u8 w A zs) (hz : ∀ z ∈ zs, 0 ≤ z ∧ z ≤ 255) (hl : zs.length ≤ 9223372036854775807)
    (h : ok c = false ∨ ok c = true ∧ 100 < zs.length ∨ ok c = true ∧ ¬ 100 < zs.length ∧ bitsB zs = false) :
    Calls Try.prog 7 #[.agg #[.int .i32 (c).a, .int .i32 (c).b, .int .u8 (c).l], .slice A zs.length cap] w fun e w' => e = .returned (.bool true) ∧ Below w.heap.size w w' := by
  have HC := Lib.hid hr
  have HZ := Lib.hid hz
  clear hr hz
  rcases h with h | ⟨h, h1⟩ | ⟨h, h1, h2⟩
  · have E' : chk ⟨c.a, c.b, c.l⟩ = 8 := chk_no h
    clear h
    go_enter Try.func7, Try.ntmps7
    go_wp2_with (first | (go_at_call 25; refine (rcheck_any ⟨_, _, _⟩ _ hc).mono ?_; rintro e w1 ⟨rfl, hb⟩; obtain ⟨cl1, fr1⟩ := bcell hb; have sz1 := hb.size; (try simp at sz1); (try have sy1 : w.heap.size + 1 < (w1).heap.size := (by omega)); have sx1 : w.heap.size < (w1).heap.size := (by omega)) | (go_at_call 21; refine (alive _).mono ?_; rintro e w' ⟨rfl, hb3⟩))
    go_ret
    exact ⟨rfl, by (repeat' (first | (with_reducible exact Below.refl _ _) | (with_reducible assumption) | (with_reducible refine below_drewN ?_ _) | (with_reducible refine below_new ?_ _) | (with_reducible refine Below.alloc ?_ ?_ _) | (with_reducible refine Below.drew ?_) | (with_reducible refine Below.setCell ?_ ?_ _) | (with_reducible apply below_on; (with_reducible assumption)) | (go_size; done) | (with_reducible apply size_of)))⟩
  · have E' : chk ⟨c.a, c.b, c.l⟩ = 0 := chk_yes h
    clear h
    go_enter Try.func7, Try.ntmps7
    go_wp2_with (first | (go_at_call 25; refine (rcheck_any ⟨_, _, _⟩ _ hc).mono ?_; rintro e w1 ⟨rfl, hb⟩; obtain ⟨cl1, fr1⟩ := bcell hb; have sz1 := hb.size; (try simp at sz1); (try have sy1 : w.heap.size + 1 < (w1).heap.size := (by omega)); have sx1 : w.heap.size < (w1).heap.size := (by omega)) | (go_at_call 21; refine (alive _).mono ?_; rintro e w' ⟨rfl, hb3⟩))
    go_ret
    exact ⟨rfl, by (repeat' (first | (with_reducible exact Below.refl _ _) | (with_reducible assumption) | (with_reducible refine below_drewN ?_ _) | (with_reducible refine below_new ?_ _) | (with_reducible refine Below.alloc ?_ ?_ _) | (with_reducible refine Below.drew ?_) | (with_reducible refine Below.setCell ?_ ?_ _) | (with_reducible apply below_on; (with_reducible assumption)) | (go_size; done) | (with_reducible apply size_of)))⟩
  · have E' : chk ⟨c.a, c.b, c.l⟩ = 0 := chk_yes h
    clear h
    go_enter Try.func7, Try.ntmps7
    go_wp2_with (first | (go_at_call 25; refine (rcheck_any ⟨_, _, _⟩ _ hc).mono ?_; rintro e w1 ⟨rfl, hb⟩; obtain ⟨cl1, fr1⟩ := bcell hb; have sz1 := hb.size; (try simp at sz1); (try have sy1 : w.heap.size + 1 < (w1).heap.size := (by omega)); have sx1 : w.heap.size < (w1).heap.size := (by omega)) | (go_at_call 27; refine (bits_any _ _ _ zs _ HZ.out (HC.out.below (by (repeat' (first | (with_reducible exact Below.refl _ _) | (with_reducible assumption) | (with_reducible refine below_drewN ?_ _) | (with_reducible refine below_new ?_ _) | (with_reducible refine Below.alloc ?_ ?_ _) | (with_reducible refine Below.drew ?_) | (with_reducible refine Below.setCell ?_ ?_ _) | (with_reducible apply below_on; (with_reducible assumption)) | (go_size; done) | (with_reducible apply size_of)))) (Nat.le_refl _)) rfl hl).mono ?_; rintro e w' ⟨rfl, rfl⟩) | (go_at_call 21; refine (alive _).mono ?_; rintro e w' ⟨rfl, hb3⟩))
    go_ret
    exact ⟨rfl, by (repeat' (first | (with_reducible exact Below.refl _ _) | (with_reducible assumption) | (with_reducible refine below_drewN ?_ _) | (with_reducible refine below_new ?_ _) | (with_reducible refine Below.alloc ?_ ?_ _) | (with_reducible refine Below.drew ?_) | (with_reducible refine Below.setCell ?_ ?_ _) | (with_reducible apply below_on; (with_reducible assumption)) | (go_size; done) | (with_reducible apply size_of)))⟩
theorem others_next (zs : List Int) {k : Nat} (hk : k < zs.length) : (zs.take k).map (1 - ·) ++ [1 - zs.getD k 0] = (zs.take (k + 1)).map (1 - ·) := by
  rw [take_snoc 0 zs k hk, List.map_append]; rfl
set_option maxHeartbeats 2000000 in
theorem turns_main (c tc d td : Cnt) (A : Option Addr) (cap : Nat) (zs : List Int) (w : World) (hc : CntIn c) (htc : CntIn tc) (hd : CntIn d) (hr : Has .u8 w A zs)
    (hz : ∀ z ∈ zs, 0 ≤ z ∧ z ≤ 255) (hl : zs.length ≤ 100) (hb : bitsB zs = true) (e0 : chk c = 0)
    (r1 : trC c = tc) (r2 : runC tc (zs.map (1 - ·)) = td) (r3 : runC c zs = d) (r4 : trC d = td) (r5 : trC tc = c) (s2 : runE tc (zs.map (1 - ·)) = 0) (s3 : runE c zs = 0) (s4 : chk d = 0) (s5 : chk tc = 0) (hzo : ∀ z ∈ zs.map (1 - ·), 0 ≤ z ∧ z ≤ 255) :
    Calls Try.prog 7 #[.agg #[.int .i32 (c).a, .int .i32 (c).b, .int .u8 (c).l], .slice A zs.length cap] w fun e w' => e = .returned (.bool true) ∧ Below w.heap.size w w' := by
  have HC := Lib.hid hr
  have HZ := Lib.hid hz
  have HB := Lib.hid hb
  have HZO := Lib.hid hzo
  have R1 := Lib.hid r1
  have R2 := Lib.hid r2
  have R3 := Lib.hid r3
  have R4 := Lib.hid r4
  have R5 := Lib.hid r5
  have S2 := Lib.hid s2
  have S3 := Lib.hid s3
  have S4 := Lib.hid s4
  have S5 := Lib.hid s5
  have E0 := Lib.hid e0
  have E' : chk ⟨c.a, c.b, c.l⟩ = 0 := e0
  clear hz hr r1 r2 r3 r4 r5 s2 s3 s4 s5 e0 hzo
  go_enter Try.func7, Try.ntmps7
  go_wp2_with (first | (go_at_call 25; refine (rcheck_any ⟨_, _, _⟩ _ hc).mono ?_; rintro e w1 ⟨rfl, hb⟩; obtain ⟨cl1, fr1⟩ := bcell hb; have sz1 := hb.size; (try simp at sz1); (try have sy1 : w.heap.size + 1 < (w1).heap.size := (by omega)); have sx1 : w.heap.size < (w1).heap.size := (by omega)) | (go_at_call 27; refine (bits_any _ _ _ zs _ HZ.out (HC.out.below (by (repeat' (first | (with_reducible exact Below.refl _ _) | (with_reducible assumption) | (with_reducible refine below_drewN ?_ _) | (with_reducible refine below_new ?_ _) | (with_reducible refine Below.alloc ?_ ?_ _) | (with_reducible refine Below.drew ?_) | (with_reducible refine Below.setCell ?_ ?_ _) | (with_reducible apply below_on; (with_reducible assumption)) | (go_size; done) | (with_reducible apply size_of)))) (Nat.le_refl _)) rfl (by omega)).mono ?_; rintro e w' ⟨rfl, rfl⟩))
  have HA1 : Hid (Lies w1 w.heap.size 23 [.int .i32 (c).a, .int .i32 (c).b, .int .u8 (c).l]) := Lib.hid (Lies.past (Lies.fresh _ _ _) hb)
  have HW : Hid (Below w.heap.size w w1) := Lib.hid (by (repeat' (first | (with_reducible exact Below.refl _ _) | (with_reducible assumption) | (with_reducible refine below_drewN ?_ _) | (with_reducible refine below_new ?_ _) | (with_reducible refine Below.alloc ?_ ?_ _) | (with_reducible refine Below.drew ?_) | (with_reducible refine Below.setCell ?_ ?_ _) | (with_reducible apply below_on; (with_reducible assumption)) | (go_size; done) | (with_reducible apply size_of))))
  have HE := Lib.hid E'
  clear cl1 fr1 E' hb sz1 sx1
  go_loopw [5, 6] (fun v i wr => ∃ (k : Nat) (V : Option Addr) (cp : Nat), k ≤ zs.length ∧ i = .int .i64 k ∧ v = .slice V k cp ∧ OwnI wr w1.heap.size 5 .u8 (.slice V k cp) ((zs.take k).map (1 - ·)) ∧ Below w1.heap.size w1 wr) (fun v i _ => zs.length - (intOf i).toNat)
  case atStart => exact ⟨0, none, 0, Nat.zero_le _, rfl, rfl, OwnI.nil _ _ _ _, Below.refl _ _⟩
  case round =>
    obtain ⟨k, V, cp, hk, rfl, rfl, hown, hbel⟩ := hrel
    have HO := Lib.hid hown
    have hgrow := hbel.size
    clear hown
    by_cases hlt : k < zs.length
    · obtain ⟨b, off, rfl, hB, hr⟩ := has_some HC.out (by omega)
      have HR := Lib.hid hr
      clear hr
      have hcell : wr.cell? ⟨b, off + k, none⟩ = some (.int .u8 (zs.getD k 0)) := by
        have hB1 := HW.out.size
        rw [hbel.cell (p := ⟨b, off + k, none⟩) (by show b < w1.heap.size; omega), HW.out.cell (p := ⟨b, off + k, none⟩) hB]
        exact HR.out k hlt
      obtain ⟨⟨v1, v2⟩, hv⟩ := bit_in HZ.out HB.out hlt
      have HN := Lib.hid (others_next zs hlt)
      have HLN : Hid (((zs.take k).map (1 - ·)).length + 1 = k + 1) := Lib.hid (by simp; omega)
      clear hv
      generalize hv : zs.getD k 0 = v at *
      have HG := Lib.hid hv
      clear hv
      have HNEW : Hid (Has .u8 (wr.alloc (.cells #[.int .u8 (1 - v)] 5)) (some ⟨wr.heap.size, 0, none⟩) [1 - v]) := Lib.hid (has_lit rfl (by simp [maxLen]))
      have HOA := Lib.hid (HO.out.below (C := wr.heap.size) ((Below.refl _ _).alloc (Nat.le_refl _) (.cells #[.int .u8 (1 - v)] 5)) (Nat.le_refl _))
      go_wp2_with (first | (at_builtin; refine app8 rfl _ _ rfl w1.heap.size _ _ rfl HOA.out (some ⟨wr.heap.size, 0, none⟩) 1 1 [1 - v] rfl rfl HNEW.out (k + 1) HLN.out (by omega) (by simp; omega) ?_; intro A' c' w2 ho2 hg2 hb2))
      go_roundw
      case rel =>
        refine ⟨k + 1, A', c', by omega, by go_num, rfl, ?_, ?_⟩
        · rw [← HN.out]; exact ho2
        · exact (hbel.alloc hgrow _).trans hb2
      case measure => simp [intOf]; omega
    · have hkk : k = zs.length := by omega
      subst hkk
      have HT : Hid ((zs.take zs.length).map (1 - ·) = zs.map (1 - ·)) := Lib.hid (by rw [List.take_length])
      have hh := HO.out.has
      rw [HT.out] at hh
      have HHO := Lib.hid hh
      have HK := Lib.hid (HA1.out.below hbel (HA1.out.lt))
      have HWR : Hid (Below w.heap.size w wr) := Lib.hid (HW.out.trans (hbel.mono HW.out.size))
      clear hh
      obtain ⟨a0, a1, a2, f0, f1, f2⟩ := Lies.three HK.out; have la := Lies.lt HK.out
      go_wp2_with fail
      refine (Turn_any _ _ _ _ hc).mono ?_
      rintro e w3 ⟨rfl, hb3⟩
      rw [show trC ⟨c.a, c.b, c.l⟩ = tc from R1.out, show chk ⟨c.a, c.b, c.l⟩ = 0 from E0.out]
      have HHO3 := Lib.hid (HHO.out.below hb3 (Nat.le_refl _))
      have HK3 := Lib.hid (HK.out.past hb3)
      have HW3 : Hid (Below w.heap.size w w3) := Lib.hid (HWR.out.trans (hb3.mono HWR.out.size))
      go_wp2_with fail
      refine (Run_any tc _ _ _ (zs.map (1 - ·)) _ htc HZO.out (HHO3.out.below ((Below.refl _ _).alloc (Nat.le_refl _) _) (Nat.le_refl _)) (by simp) (by omega)).mono ?_
      rintro e w4 ⟨rfl, hb4⟩
      rw [R2.out, S2.out]
      have HK4 := Lib.hid ((HK3.out.alloc _).past hb4)
      have HA4 := Lib.hid (Lies.past (Lies.fresh w3 23 _) hb4)
      have HW4 : Hid (Below w.heap.size w w4) := Lib.hid (by have := HW3.out; (repeat' (first | (with_reducible exact Below.refl _ _) | (with_reducible assumption) | (with_reducible refine below_drewN ?_ _) | (with_reducible refine below_new ?_ _) | (with_reducible refine Below.alloc ?_ ?_ _) | (with_reducible refine Below.drew ?_) | (with_reducible refine Below.setCell ?_ ?_ _) | (with_reducible apply below_on; (with_reducible assumption)) | (go_size; done) | (with_reducible apply size_of))))
      obtain ⟨a0, a1, a2, f0, f1, f2⟩ := Lies.three HK4.out; have la := Lies.lt HK4.out
      go_wp2_with fail
      refine (Run_any c _ _ _ zs _ hc HZ.out (HC.out.below (HW4.out.alloc HW4.out.size _) (Nat.le_refl _)) rfl (by omega)).mono ?_
      rintro e w5 ⟨rfl, hb5⟩
      rw [R3.out, S3.out]
      have HK5 := Lib.hid ((HK4.out.alloc _).past hb5)
      have HA5 := Lib.hid ((HA4.out.alloc _).past hb5)
      have HC5 := Lib.hid (Lies.past (Lies.fresh w4 23 _) hb5)
      have HW5 : Hid (Below w.heap.size w w5) := Lib.hid (by have := HW4.out; (repeat' (first | (with_reducible exact Below.refl _ _) | (with_reducible assumption) | (with_reducible refine below_drewN ?_ _) | (with_reducible refine below_new ?_ _) | (with_reducible refine Below.alloc ?_ ?_ _) | (with_reducible refine Below.drew ?_) | (with_reducible refine Below.setCell ?_ ?_ _) | (with_reducible apply below_on; (with_reducible assumption)) | (go_size; done) | (with_reducible apply size_of))))
      go_wp2_with fail
      refine (Turn_any _ _ _ _ hd).mono ?_
      rintro e w6 ⟨rfl, hb6⟩
      rw [show trC ⟨d.a, d.b, d.l⟩ = td from R4.out, show chk ⟨d.a, d.b, d.l⟩ = 0 from S4.out]
      have HK6 := Lib.hid ((HK5.out.alloc _).past hb6)
      have HA6 := Lib.hid ((HA5.out.alloc _).past hb6)
      have HC6 := Lib.hid ((HC5.out.alloc _).past hb6)
      have HW6 : Hid (Below w.heap.size w w6) := Lib.hid (by have := HW5.out; (repeat' (first | (with_reducible exact Below.refl _ _) | (with_reducible assumption) | (with_reducible refine below_drewN ?_ _) | (with_reducible refine below_new ?_ _) | (with_reducible refine Below.alloc ?_ ?_ _) | (with_reducible refine Below.drew ?_) | (with_reducible refine Below.setCell ?_ ?_ _) | (with_reducible apply below_on; (with_reducible assumption)) | (go_size; done) | (with_reducible apply size_of))))
      obtain ⟨a0, a1, a2, f0, f1, f2⟩ := Lies.three HA6.out; have la := Lies.lt HA6.out
      go_wp2_with fail
      refine (Turn_any _ _ _ _ htc).mono ?_
      rintro e w7 ⟨rfl, hb7⟩
      rw [show trC ⟨tc.a, tc.b, tc.l⟩ = c from R5.out, show chk ⟨tc.a, tc.b, tc.l⟩ = 0 from S5.out]
      have HK7 := Lib.hid ((HK6.out.alloc _).past hb7)
      have HC7 := Lib.hid ((HC6.out.alloc _).past hb7)
      have HD7 := Lib.hid (Lies.past (Lies.fresh w6 23 _) hb7)
      have HW7 : Hid (Below w.heap.size w w7) := Lib.hid (by have := HW6.out; (repeat' (first | (with_reducible exact Below.refl _ _) | (with_reducible assumption) | (with_reducible refine below_drewN ?_ _) | (with_reducible refine below_new ?_ _) | (with_reducible refine Below.alloc ?_ ?_ _) | (with_reducible refine Below.drew ?_) | (with_reducible refine Below.setCell ?_ ?_ _) | (with_reducible apply below_on; (with_reducible assumption)) | (go_size; done) | (with_reducible apply size_of))))
      obtain ⟨a0, a1, a2, f0, f1, f2⟩ := HK7.out.three
      obtain ⟨c0, c1, c2, g0, g1, g2⟩ := HC7.out.three
      obtain ⟨d0, d1, d2, i0, i1, i2⟩ := HD7.out.three
      have la := HK7.out.lt
      have lc := HC7.out.lt
      have ld := HD7.out.lt
      go_wp2_with (first | (go_at_call 21; refine (alive _).mono ?_; rintro e w' ⟨rfl, hb8⟩))
      go_ret
      exact ⟨rfl, by have := HW7.out; (repeat' (first | (with_reducible exact Below.refl _ _) | (with_reducible assumption) | (with_reducible refine below_drewN ?_ _) | (with_reducible refine below_new ?_ _) | (with_reducible refine Below.alloc ?_ ?_ _) | (with_reducible refine Below.drew ?_) | (with_reducible refine Below.setCell ?_ ?_ _) | (with_reducible apply below_on; (with_reducible assumption)) | (go_size; done) | (with_reducible apply size_of)))⟩
theorem turns (c : Cnt) (A : Option Addr) (len cap : Nat) (z : List Int) (w : World) (hc : CntIn c) (hr : IsRow .u8 w A len cap z) :
    Calls Try.prog 7 #[.agg #[.int .i32 (c).a, .int .i32 (c).b, .int .u8 (c).l], .slice A len cap] w fun e w' => e = .returned (.bool true) ∧ Below w.heap.size w w' := by
  obtain ⟨hh, hlen, hm, hw⟩ := has_of_row hr
  have hz := wf8 hw
  generalize hzs : z.take len = zs at *
  subst hlen
  have hm' : zs.length ≤ 9223372036854775807 := by unfold maxLen at hm; omega
  cases hok : ok c
  · exact turns_bad c A cap zs w hc hh hz hm' (.inl hok)
  · by_cases h1 : 100 < zs.length
    · exact turns_bad c A cap zs w hc hh hz hm' (.inr (.inl ⟨hok, h1⟩))
    · cases hb : bitsB zs
      · exact turns_bad c A cap zs w hc hh hz hm' (.inr (.inr ⟨hok, h1, hb⟩))
      · have hall : ∀ z ∈ zs, z = 0 ∨ z = 1 := fun z hz' => by
          have a1 := hz z hz'
          have a2 := (bitsB_iff zs).1 hb z hz'
          omega
        have hzo : ∀ z ∈ zs.map (1 - ·), 0 ≤ z ∧ z ≤ 1 := fun z hz' => by
          obtain ⟨y, hy, rfl⟩ := List.mem_map.1 hz'
          have := hall y hy
          omega
        have hbo : bitsB (zs.map (1 - ·)) = true := (bitsB_iff _).2 fun z h => (hzo z h).2
        have okt := turn_ok hok
        have okd := run_ok zs hok hall
        have lo : ¬ 20000 < (zs.map (1 - ·)).length := by simp; omega
        have lz : ¬ 20000 < zs.length := by omega
        refine turns_main c (turn c) (run c zs) (turn (run c zs)) A cap zs w hc (cin okt) (cin okd) hh hz (by omega) hb (chk_yes hok) ?_ ?_ ?_ ?_ ?_ ?_ ?_ (chk_yes okd) (chk_yes okt) (fun z h => ⟨(hzo z h).1, by have := (hzo z h).2; omega⟩)
        · rw [trC, if_pos hok]
        · rw [runC, if_pos okt, if_neg lo, if_pos hbo]; exact run_turn zs hok hall
        · rw [runC, if_pos hok, if_neg lz, if_pos hb]
        · rw [trC, if_pos okd]
        · rw [trC, if_pos okt]; exact turn_turn hok
        · rw [runE, if_pos okt, if_neg lo, if_pos hbo]
        · rw [runE, if_pos hok, if_neg lz, if_pos hb]
end Go.Proofs.Ytkpcopecndpfjaa.cntL
