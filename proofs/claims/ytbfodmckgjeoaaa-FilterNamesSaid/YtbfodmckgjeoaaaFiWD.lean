/- Filters: runs spelled again, of the program, by a walk. -/
import Derived.Test.YtbfodmckgjeoaaaFiWC
namespace Go.Proofs.Ytbfodmckgjeoaaa.fiW
set_option maxRecDepth 100000
open Go.RowKit Go.Proofs.Ytbfodmckgjeoaaa.base Go.Proofs.Ytbfodmckgjeoaaa.fiP
set_option linter.unusedVariables false
set_option linter.unusedSimpArgs false
set_option maxRecDepth 100000
/-- What a call gives back: bytes of its own, or an error. -/
def Res (w' : World) (B : Nat) (r : Option (List Int)) (er : Int) (e : Ending) : Prop :=
  (∃ s A c, r = some s ∧ e = .returned (.tuple #[.slice A s.length c, .int .i64 0]) ∧ OwnZ w' B (.slice A s.length c) s) ∨ (r = none ∧ e = .returned (.tuple #[.slice none 0 0, .int .i64 er]))
theorem byt_rep {zs : List Int} {n : Nat} {x : Int} (h : Byt zs) (x0 : 0 ≤ x) (x1 : x ≤ 255) : Byt (zs ++ List.replicate n x) := by
  intro z hz
  rcases List.mem_append.1 hz with hz | hz
  · exact h z hz
  · rw [(List.mem_replicate.1 hz).2]; exact ⟨x0, x1⟩
set_option maxHeartbeats 4000000 in
theorem unrolled_any (b : List Int) (A : Option Addr) (n c : Nat) (w : World) (h : Ib w A n c b) (hl : n ≤ 10125) :
    Calls Try.prog 32 #[.slice A n c] w fun e w' => Res w' w.heap.size (un b) 12 e ∧ Below w.heap.size w w' := by
  have HH := Lib.hid h
  have hn : b.length = n := h.e
  have HN := Lib.hid hn
  have HL := Lib.hid hl
  have n9 : (n : Int) ≤ 10125 := by omega
  have HC := Lib.hid h.c1
  have nc : (n : Int) ≤ c := by have := h.c1; omega
  clear h hn hl
  go_enter Try.func32, Try.ntmps32
  go_wp2_with fail
  go_loopw [4, 5] (fun v j wr => ∃ (k t : Nat) (B : Option Addr) (d : Nat) (zs : List Int), k ≤ n ∧ j = .int .i64 k ∧ v = .slice B t d ∧ t = zs.length ∧ t ≤ 10125 ∧ Tr b zs k ∧ Byt zs ∧ OwnI wr w.heap.size 5 .u8 (.slice B t d) zs ∧ Below w.heap.size w wr) (fun _ j _ => n - (intOf j).toNat)
  case atStart => exact ⟨0, 0, none, 0, [], Nat.zero_le _, rfl, rfl, rfl, Nat.zero_le _, Tr.start b, (by intro z hz; cases hz), OwnI.nil _ _ _ _, Below.refl _ _⟩
  case round =>
    obtain ⟨k, t, B, d, zs, hk, rfl, rfl, ht, htm, hT, hby, own, acc⟩ := hrel
    have HT : Hid (zs.length = t) := Lib.hid ht.symm
    have HTM := Lib.hid htm
    have HTR := Lib.hid hT
    have HBY := Lib.hid hby
    have HO := Lib.hid own
    have HACC := Lib.hid acc
    have t9 : (t : Int) ≤ 10125 := by omega
    by_cases hlt : k < n
    · obtain ⟨bb, off, rfl, hbb, hc⟩ := in_at HH.out acc hlt
      have px := hc k hlt
      have HK := Lib.hid hlt
      have k1 : (k : Int) < n := by omega
      have k2 : k < n := hlt
      have k3 : ¬ c = k := by have := HC.out; omega
      have k4 : (k : Int) + 1 ≤ c := by omega
      have k5 : k + 1 ≤ c := by have := HC.out; omega
      have k6 : (k : Int) + 1 - k = 1 := by omega
      have k7 : k + 1 - k = 1 := by omega
      have u1 : IntKind.i64.wrap ((k : Int) + 1) = (k : Int) + 1 := IntWalk.i64_in _ (by omega)
      have u3 : ((k : Int) + 1).toNat = k + 1 := by omega
      have HONE := Lib.hid (fun hh => HTR.out.one (k := k) (by rw [HN.out]; exact hlt) (by rw [HN.out]; exact hh))
      obtain ⟨x1, x2⟩ := at_bd HH.out.bd k
      by_cases c1 : k + 1 < n
      · have py := hc (k + 1) c1
        have q1 : (k : Int) + 1 < n := by omega
        have q2 : decide ((k : Int) + 1 < n) = true := decide_eq_true q1
        by_cases hxy : b.getD (k + 1) 0 = b.getD k 0
        · have HEQ := Lib.hid hxy
          rw [hxy] at py
          by_cases c2 : k + 2 = n
          · have HUN : Hid (un b = none) := Lib.hid (un_none fun s _ => HTR.out.none (by rw [HN.out]; exact c2) HEQ.out s)
            have q3 : (k : Int) + 2 = n := by omega
            have q4 : ((k : Int) + 2 == n) = true := by simpa using q3
            have u2 : IntKind.i64.wrap ((k : Int) + 2) = (k : Int) + 2 := IntWalk.i64_in _ (by omega)
            generalize b.getD k 0 = x at *
            clear hk ht htm hT hby own acc hlt hc hxy c1 c2 HONE
            go_wp2_with fail
            go_quiet (fail)
            clear u1 u3 py px
            go_wp2_with fail
            go_ret2
            exact ⟨.inr ⟨HUN.out, rfl⟩, by have := HACC.out; (repeat' (first | (with_reducible exact Below.refl _ _) | (with_reducible assumption) | (with_reducible refine below_drewN ?_ _) | (with_reducible refine below_new ?_ _) | (with_reducible refine Below.alloc ?_ ?_ _) | (with_reducible refine Below.drew ?_) | (with_reducible refine Below.setCell ?_ ?_ _) | (with_reducible apply below_at; (case k => (with_reducible assumption)); (case hB => omega)) | (with_reducible apply below_on; (with_reducible assumption)) | (go_size; done) | (with_reducible apply size_of)))⟩
          · have c3 : k + 2 < n := by omega
            have pz := hc (k + 2) c3
            obtain ⟨z1, z2⟩ := at_bd HH.out.bd (k + 2)
            obtain ⟨z, hz⟩ := Int.eq_ofNat_of_zero_le z1
            have HTT := Lib.hid (HTR.out.two (by rw [HN.out]; exact c3) HEQ.out hz)
            rw [hz] at pz z2
            have q3 : ¬ (k : Int) + 2 = n := by omega
            have q4 : ((k : Int) + 2 == n) = false := by simpa using q3
            have q5 : (k : Int) + 2 < n := by omega
            have u2 : IntKind.i64.wrap ((k : Int) + 2) = (k : Int) + 2 := IntWalk.i64_in _ (by omega)
            have u4 : ((k : Int) + 2).toNat = k + 2 := by omega
            obtain ⟨q, hq⟩ : ∃ q, z + 2 = q := ⟨_, rfl⟩
            rw [hq] at HTT
            have u5 : IntKind.i64.wrap ((z : Int) + 2) = (q : Int) := by rw [IntWalk.i64_in _ (by omega)]; omega
            have u6 : (1 : Int) ≤ q := by omega
            have u7 : (q : Int) ≤ 257 := by omega
            clear hq
            have HK := Lib.hid c3
            generalize b.getD k 0 = x at *
            have HPZ := Lib.hid pz
            clear hk ht htm hT hby own acc hlt hc hxy c1 c2 HONE hz z1 pz
            go_wp2_with fail
            go_quiet (fail)
            clear u1 u3 py
            have pz : (wr.drewN nq).cell? ⟨bb, off + (k + 2), none⟩ = some (.int .u8 (z : Int)) := by simpa using HPZ.out
            ((have HPX : Hid ((wr.drewN nq).cell? ⟨bb, off + k, none⟩ = some (.int .u8 x)) := Lib.hid (by simpa using px)); (have HOQ := Lib.hid (HO.out.below (w' := wr.drewN nq) (below_drewN (Below.refl _ _) _) (Nat.le_refl _))); (have HAQ := Lib.hid (HACC.out.trans ((below_drewN (w := wr) (Below.refl _ _) nq).mono HACC.out.size))); clear px)
            generalize wr.drewN nq = wq at *
            (have HLN : Hid ((zs ++ List.replicate (q) x).length = t + (q)) := Lib.hid (by rw [List.length_append, List.length_replicate, HT.out]); by_cases hL : t + (q) ≤ 10125; (case pos => ((have HLL := Lib.hid hL); (have v1 : ¬ (10125 : Int) < (t : Int) + ((q : Nat) : Int) := (by omega)); (have v2 : IntKind.i64.wrap ((t : Int) + ((q : Nat) : Int)) = (t : Int) + ((q : Nat) : Int) := (IntWalk.i64_in _ (by omega))); (have v3 : IntKind.i64.wrap ((k : Int) + 1) = (k : Int) + 1 := (IntWalk.i64_in _ (by omega))); (have v4 : ((k : Int) + 1).toNat = k + 1 := (by omega)); (have v5 : IntKind.i64.wrap ((k : Int) + 3) = (k : Int) + 3 := (IntWalk.i64_in _ (by omega))); clear hL; go_wp2_with (first | (go_at_call 44; refine (Repeat_one bb (off + k) _ (q) x _ HPX.out (by omega) (by have := HLL.out; omega)).mono ?_; rintro e w5 ⟨A5, rfl, h5, b5⟩; have H5 := Lib.hid h5; have HB5 := Lib.hid (HAQ.out.trans (b5.mono HAQ.out.size)); have HO5 := Lib.hid (HOQ.out.below b5 (Nat.le_refl _)); clear h5 b5) | (at_builtin; refine app8 rfl _ _ rfl w.heap.size _ zs rfl HO5.out A5 _ _ (List.replicate (q) x) rfl (by rw [List.length_replicate]) H5.out (t + (q)) (by rw [HT.out]) (by have := HLL.out; omega) HB5.out.size ?_; intro A6 c6 w6 ho6 hg6 hb6; have HO6 := Lib.hid ho6; have HB6 := Lib.hid (HB5.out.trans hb6); clear ho6 hg6 hb6)); go_roundw; (case rel => exact ⟨k + 3, t + (q), A6, c6, zs ++ List.replicate (q) x, by have := HK.out; omega, by go_num, rfl, HLN.out.symm, HLL.out, HTT.out, byt_rep HBY.out x1 x2, HO6.out, HB6.out⟩); (case measure => simp [intOf]; have := HK.out; omega))); (case neg => ((have v1 : (10125 : Int) < (t : Int) + ((q : Nat) : Int) := (by omega)); (have v2 : IntKind.i64.wrap ((t : Int) + ((q : Nat) : Int)) = (t : Int) + ((q : Nat) : Int) := (IntWalk.i64_in _ (by omega))); (have HUN : Hid (un b = none) := Lib.hid (HTT.out.long (by have := HLN.out; simp only [List.length_append, List.length_replicate, List.length_cons, List.length_nil] at this ⊢; omega))); clear hL; go_wp2_with fail; go_ret2; exact ⟨.inr ⟨HUN.out, rfl⟩, HAQ.out⟩)))
        · have hne : (b.getD (k + 1) 0 == b.getD k 0) = false := by simpa using hxy
          have HTT := Lib.hid (HONE.out (fun hh => hxy hh.2))
          generalize b.getD (k + 1) 0 = y at *
          generalize b.getD k 0 = x at *
          clear hk ht htm hT hby own acc hlt hc hxy c1 HONE
          go_wp2_with fail
          go_quiet (fail)
          clear u1 u3 py
          ((have HPX : Hid ((wr.drewN nq).cell? ⟨bb, off + k, none⟩ = some (.int .u8 x)) := Lib.hid (by simpa using px)); (have HOQ := Lib.hid (HO.out.below (w' := wr.drewN nq) (below_drewN (Below.refl _ _) _) (Nat.le_refl _))); (have HAQ := Lib.hid (HACC.out.trans ((below_drewN (w := wr) (Below.refl _ _) nq).mono HACC.out.size))); clear px)
          generalize wr.drewN nq = wq at *
          (have HLN : Hid ((zs ++ List.replicate (1) x).length = t + (1)) := Lib.hid (by rw [List.length_append, List.length_replicate, HT.out]); by_cases hL : t + (1) ≤ 10125; (case pos => ((have HLL := Lib.hid hL); (have v1 : ¬ (10125 : Int) < (t : Int) + ((1 : Nat) : Int) := (by omega)); (have v2 : IntKind.i64.wrap ((t : Int) + ((1 : Nat) : Int)) = (t : Int) + ((1 : Nat) : Int) := (IntWalk.i64_in _ (by omega))); (have v3 : IntKind.i64.wrap ((k : Int) + 1) = (k : Int) + 1 := (IntWalk.i64_in _ (by omega))); (have v4 : ((k : Int) + 1).toNat = k + 1 := (by omega)); (have v5 : IntKind.i64.wrap ((k : Int) + 1) = (k : Int) + 1 := (IntWalk.i64_in _ (by omega))); clear hL; go_wp2_with (first | (go_at_call 44; refine (Repeat_one bb (off + k) _ (1) x _ HPX.out (by omega) (by have := HLL.out; omega)).mono ?_; rintro e w5 ⟨A5, rfl, h5, b5⟩; have H5 := Lib.hid h5; have HB5 := Lib.hid (HAQ.out.trans (b5.mono HAQ.out.size)); have HO5 := Lib.hid (HOQ.out.below b5 (Nat.le_refl _)); clear h5 b5) | (at_builtin; refine app8 rfl _ _ rfl w.heap.size _ zs rfl HO5.out A5 _ _ (List.replicate (1) x) rfl (by rw [List.length_replicate]) H5.out (t + (1)) (by rw [HT.out]) (by have := HLL.out; omega) HB5.out.size ?_; intro A6 c6 w6 ho6 hg6 hb6; have HO6 := Lib.hid ho6; have HB6 := Lib.hid (HB5.out.trans hb6); clear ho6 hg6 hb6)); go_roundw; (case rel => exact ⟨k + 1, t + (1), A6, c6, zs ++ List.replicate (1) x, by have := HK.out; omega, by go_num, rfl, HLN.out.symm, HLL.out, HTT.out, byt_rep HBY.out x1 x2, HO6.out, HB6.out⟩); (case measure => simp [intOf]; have := HK.out; omega))); (case neg => ((have v1 : (10125 : Int) < (t : Int) + ((1 : Nat) : Int) := (by omega)); (have v2 : IntKind.i64.wrap ((t : Int) + ((1 : Nat) : Int)) = (t : Int) + ((1 : Nat) : Int) := (IntWalk.i64_in _ (by omega))); (have HUN : Hid (un b = none) := Lib.hid (HTT.out.long (by have := HLN.out; simp only [List.length_append, List.length_replicate, List.length_cons, List.length_nil] at this ⊢; omega))); clear hL; go_wp2_with fail; go_ret2; exact ⟨.inr ⟨HUN.out, rfl⟩, HAQ.out⟩)))
      · have HTT := Lib.hid (HONE.out (fun hh => c1 hh.1))
        have q1 : ¬ (k : Int) + 1 < n := by omega
        have q2 : decide ((k : Int) + 1 < n) = false := decide_eq_false q1
        generalize b.getD k 0 = x at *
        clear hk ht htm hT hby own acc hlt hc c1 HONE
        go_wp2_with fail
        go_quiet (fail)
        clear u1 u3
        ((have HPX : Hid ((wr.drewN nq).cell? ⟨bb, off + k, none⟩ = some (.int .u8 x)) := Lib.hid (by simpa using px)); (have HOQ := Lib.hid (HO.out.below (w' := wr.drewN nq) (below_drewN (Below.refl _ _) _) (Nat.le_refl _))); (have HAQ := Lib.hid (HACC.out.trans ((below_drewN (w := wr) (Below.refl _ _) nq).mono HACC.out.size))); clear px)
        generalize wr.drewN nq = wq at *
        (have HLN : Hid ((zs ++ List.replicate (1) x).length = t + (1)) := Lib.hid (by rw [List.length_append, List.length_replicate, HT.out]); by_cases hL : t + (1) ≤ 10125; (case pos => ((have HLL := Lib.hid hL); (have v1 : ¬ (10125 : Int) < (t : Int) + ((1 : Nat) : Int) := (by omega)); (have v2 : IntKind.i64.wrap ((t : Int) + ((1 : Nat) : Int)) = (t : Int) + ((1 : Nat) : Int) := (IntWalk.i64_in _ (by omega))); (have v3 : IntKind.i64.wrap ((k : Int) + 1) = (k : Int) + 1 := (IntWalk.i64_in _ (by omega))); (have v4 : ((k : Int) + 1).toNat = k + 1 := (by omega)); (have v5 : IntKind.i64.wrap ((k : Int) + 1) = (k : Int) + 1 := (IntWalk.i64_in _ (by omega))); clear hL; go_wp2_with (first | (go_at_call 44; refine (Repeat_one bb (off + k) _ (1) x _ HPX.out (by omega) (by have := HLL.out; omega)).mono ?_; rintro e w5 ⟨A5, rfl, h5, b5⟩; have H5 := Lib.hid h5; have HB5 := Lib.hid (HAQ.out.trans (b5.mono HAQ.out.size)); have HO5 := Lib.hid (HOQ.out.below b5 (Nat.le_refl _)); clear h5 b5) | (at_builtin; refine app8 rfl _ _ rfl w.heap.size _ zs rfl HO5.out A5 _ _ (List.replicate (1) x) rfl (by rw [List.length_replicate]) H5.out (t + (1)) (by rw [HT.out]) (by have := HLL.out; omega) HB5.out.size ?_; intro A6 c6 w6 ho6 hg6 hb6; have HO6 := Lib.hid ho6; have HB6 := Lib.hid (HB5.out.trans hb6); clear ho6 hg6 hb6)); go_roundw; (case rel => exact ⟨k + 1, t + (1), A6, c6, zs ++ List.replicate (1) x, by have := HK.out; omega, by go_num, rfl, HLN.out.symm, HLL.out, HTT.out, byt_rep HBY.out x1 x2, HO6.out, HB6.out⟩); (case measure => simp [intOf]; have := HK.out; omega))); (case neg => ((have v1 : (10125 : Int) < (t : Int) + ((1 : Nat) : Int) := (by omega)); (have v2 : IntKind.i64.wrap ((t : Int) + ((1 : Nat) : Int)) = (t : Int) + ((1 : Nat) : Int) := (IntWalk.i64_in _ (by omega))); (have HUN : Hid (un b = none) := Lib.hid (HTT.out.long (by have := HLN.out; simp only [List.length_append, List.length_replicate, List.length_cons, List.length_nil] at this ⊢; omega))); clear hL; go_wp2_with fail; go_ret2; exact ⟨.inr ⟨HUN.out, rfl⟩, HAQ.out⟩)))
    · obtain rfl : k = n := by omega
      have k1 : ¬ (k : Int) < k := by omega
      clear hk ht htm hT hby own acc hlt
      have HUN := Lib.hid (HTR.out.done (by rw [HN.out]; omega) (by rw [HT.out]; exact HTM.out))
      by_cases hE : cn zs 0 = b
      · have HE := Lib.hid hE
        have hd : decide (cn zs 0 = b) = true := decide_eq_true hE
        clear hE
        go_wp2_with (first | (go_at_call 28; refine (runs_any zs B t d _ ⟨HO.out.has, HT.out, (own_cap HO.out).1, (own_cap HO.out).2, HBY.out⟩ (by have := HTM.out; omega)).mono ?_; rintro e w5 ⟨A5, n5, c5, rfl, hn5, o5, b5⟩; have H5 := Lib.hid o5; have HN5 := Lib.hid hn5; have HB5 := Lib.hid b5; clear o5 b5 hn5) | (go_at_call 45; refine (Equal_any A5 A n5 k c5 c (cn zs 0) b _ H5.out.has HN5.out.symm (HH.out.h.below (HACC.out.trans (HB5.out.mono HACC.out.size)) (Nat.le_refl _)) HN.out (cn_bd HBY.out _ 0 rfl) HH.out.bd).mono ?_; rintro e w6 ⟨rfl, rfl⟩; rw [hd]))
        go_ret2
        exact ⟨.inl ⟨zs, B, d, by rw [HUN.out, if_pos HE.out], by rw [HT.out]; rfl, by rw [HT.out]; exact .inl (HO.out.below HB5.out (Nat.le_refl _))⟩, HACC.out.trans (HB5.out.mono HACC.out.size)⟩
      · have HE := Lib.hid hE
        have hd : decide (cn zs 0 = b) = false := decide_eq_false hE
        clear hE
        go_wp2_with (first | (go_at_call 28; refine (runs_any zs B t d _ ⟨HO.out.has, HT.out, (own_cap HO.out).1, (own_cap HO.out).2, HBY.out⟩ (by have := HTM.out; omega)).mono ?_; rintro e w5 ⟨A5, n5, c5, rfl, hn5, o5, b5⟩; have H5 := Lib.hid o5; have HN5 := Lib.hid hn5; have HB5 := Lib.hid b5; clear o5 b5 hn5) | (go_at_call 45; refine (Equal_any A5 A n5 k c5 c (cn zs 0) b _ H5.out.has HN5.out.symm (HH.out.h.below (HACC.out.trans (HB5.out.mono HACC.out.size)) (Nat.le_refl _)) HN.out (cn_bd HBY.out _ 0 rfl) HH.out.bd).mono ?_; rintro e w6 ⟨rfl, rfl⟩; rw [hd]))
        go_ret2
        exact ⟨.inr ⟨by rw [HUN.out, if_neg HE.out], rfl⟩, HACC.out.trans (HB5.out.mono HACC.out.size)⟩
end Go.Proofs.Ytbfodmckgjeoaaa.fiW
