/- ParityRepairs, by a walk. -/
import Derived.Test.YtacllaeccdgnmaaPaL1
import Derived.Test.YtacllaeccdgnmaaStr
namespace Go.Proofs.Ytacllaeccdgnmaa.paL
set_option maxRecDepth 100000
open Go.RowKit Go.Proofs.Ytacllaeccdgnmaa.base Go.Proofs.Ytacllaeccdgnmaa.paP Go.Proofs.Ytacllaeccdgnmaa.paW
set_option linter.unusedVariables false
set_option linter.unusedSimpArgs false
set_option maxRecDepth 100000
theorem bs_rev (rs : List R8) : bs rs.reverse = (bs rs).reverse := by unfold bs; rw [List.map_reverse]
theorem gE_rev (l : List (List Int)) : gE l.reverse = gE l := by unfold gE; rw [wd_rev, List.length_reverse]
theorem rev_step (rs : List R8) (q : Nat) (hq : q < rs.length) : (rs.drop (q + 1)).reverse ++ [rs.getD q r80] = (rs.drop q).reverse := by
  rw [← List.getElem_cons_drop hq, List.reverse_cons]
  simp [List.getD_eq_getElem?_getD, List.getElem?_eq_getElem hq]
theorem has_drewN {w : World} {k : IntKind} {A : Option Addr} {zs : List Int} (h : Has k w A zs) (n : Nat) : Has k (w.drewN n) A zs := h
set_option maxHeartbeats 8000000 in
theorem repairs (P : Option Addr) (m d : Nat) (rs : List R8) (k : Int) (a : Option Addr) (len cap : Nat) (z : List Int) (w : World) (hr : RowsB w P m d rs) (hk1 : -9223372036854775808 ≤ k) (hk2 : k ≤ 9223372036854775807) (hz : IsRow .u8 w a len cap z) :
    Calls Try.prog 5 #[.slice P m d, .int .i64 k, .slice a len cap] w fun e w' => e = .returned (.bool true) ∧ Below w.heap.size w w' := by
  have hin := inr_of hz
  obtain ⟨p, hp⟩ : ∃ p, z.take len = p := ⟨_, rfl⟩
  rw [hp] at hin
  have HIN := Lib.hid hin
  have HR := Lib.hid hr
  have m1 : (m : Int) ≤ 9223372036854775807 := by have := hr.c1; have := hr.c2; omega
  have l1 : (len : Int) ≤ 9223372036854775807 := by have h1 := hin.c1; have h2 := hin.c2; dsimp only at h1 h2; omega
  have HK := Lib.hid (And.intro hk1 hk2)
  clear hz hp hin hr z
  go_enter Try.func5, Try.ntmps5
  go_wp2_with (go_at_call 17; refine (alive_yes _).mono ?_; rintro e w1 ⟨rfl, hb1⟩; have HB1 := Lib.hid hb1; clear hb1)
  refine (fit_any P m d rs w1 (HR.out.below HB1.out (Nat.le_refl _))).mono ?_
  rintro e w2 ⟨⟨b, rfl, hb⟩, hb2⟩
  have HB2 := Lib.hid (HB1.out.trans (hb2.mono HB1.out.size))
  clear hb2
  rcases b with _ | _
  · go_wp2_with fail
    go_ret
    exact ⟨rfl, HB2.out⟩
  have HG := Lib.hid (hb rfl)
  clear hb
  by_cases k0 : k < 0
  · go_wp2_with fail
    go_ret
    exact ⟨rfl, HB2.out⟩
  by_cases k1 : (m : Int) ≤ k
  · go_wp2_with fail
    go_ret
    exact ⟨rfl, HB2.out⟩
  by_cases l6 : 600 < (len : Int)
  · go_wp2_with fail
    go_ret
    exact ⟨rfl, HB2.out⟩
  obtain ⟨q, rfl⟩ := Int.eq_ofNat_of_zero_le (by omega : 0 ≤ k)
  have HQ : Hid (q < m ∧ m ≤ 16 ∧ len ≤ 600 ∧ p.length = len ∧ wd (bs rs) ≤ 5000) := Lib.hid (by
    have h1 := HG.out
    have h2 := bs_len HR.out
    have h3 := HIN.out.e
    dsimp only at h3
    unfold gE at h1
    split at h1
    · omega
    · exact ⟨by omega, by omega, by omega, h3, by omega⟩)
  have HBL := Lib.hid (bs_len HR.out)
  have HOF : Hid (ofV (bs rs) = parP (bs rs)) := Lib.hid (by unfold ofV; rw [if_pos HG.out])
  obtain ⟨Q, hQ⟩ : ∃ Q, parP (bs rs) = Q := ⟨_, rfl⟩
  obtain ⟨n, hn⟩ : ∃ n, Q.length = n := ⟨_, rfl⟩
  have HQQ : Hid (parP (bs rs) = Q ∧ Q.length = n ∧ n ≤ 5002 ∧ Byt Q) := Lib.hid ⟨hQ, hn, by rw [← hn, ← hQ, parP_len]; have := HQ.out.2.2.2.2; omega, by rw [← hQ]; exact parP_byt fun u hu => ⟨bs_byt HR.out u hu, Nat.le_trans (wd_le hu) HQ.out.2.2.2.2⟩⟩
  clear hQ hn
  go_wp2_with fail
  refine (Of_any P m d rs w2 (HR.out.below HB2.out (Nat.le_refl _))).mono ?_
  rw [HOF.out, HG.out, HQQ.out.1, HQQ.out.2.1]
  rintro e w3 ⟨A3, c3, rfl, ho3, hb3⟩
  have HB3 := Lib.hid (HB2.out.trans (hb3.mono HB2.out.size))
  have HO3 := Lib.hid (And.intro ho3.has (OwnZ.bounds ho3))
  clear hb3 ho3
  have HE3 : Hid (Below w3.heap.size w3 (w3.alloc (.cells #[] 36))) := Lib.hid ((Below.refl _ _).alloc (Nat.le_refl _) _)
  go_upto_region 6 with (at_builtin; go_loud (refine appZV rfl _ _ rfl (some ⟨w3.heap.size, 0, none⟩) rfl P m d rs rfl ((HR.out.below HB3.out (Nat.le_refl _)).below HE3.out (Nat.le_refl _)) (by have := HQ.out; omega) (by have := HQ.out; omega) ?_); intro A4 c4 w4 ho4 hb4)
  have HF := Lib.hid (ho4.form (by rw [HR.out.l]; have := HQ.out; omega))
  obtain ⟨g4, rfl, hg1, hg2, -, hg3, hg4⟩ := HF.out
  have hs4 := ho4.store q ⟨a, len, cap, p⟩
  have hb5 : Below w3.heap.size w3 (w4.setCell ⟨g4, q, none⟩ (.slice a len cap)) := Below.setCell (HE3.out.trans (hb4.mono HE3.out.size)) (Nat.le_trans HE3.out.size hg1) _
  have hq0 : (q : Int) < m := by have := HQ.out; omega
  have hq1 : 0 ≤ (q : Int) := by omega
  have hq2 := hg4 q (by rw [HR.out.l]; exact HQ.out.1)
  have hq3 := hg3 q
  have HR5 : Hid (RowsB (w4.setCell ⟨g4, q, none⟩ (.slice a len cap)) (some ⟨g4, 0, none⟩) m c4 (rs.set q ⟨a, len, cap, p⟩)) := Lib.hid (by
    refine OwnV.rows hs4 fun r hr => ?_
    rcases List.mem_or_eq_of_mem_set hr with hr | rfl
    · exact ((HR.out.h.all r hr).below HB3.out (Nat.le_refl _)).below hb5 (Nat.le_refl _)
    · exact (HIN.out.below HB3.out (Nat.le_refl _)).below hb5 (Nat.le_refl _))
  have HB5 := Lib.hid (HB3.out.trans (hb5.mono HB3.out.size))
  have HO5 := Lib.hid (HO3.out.1.below hb5 (Nat.le_refl _))
  have HRA : Hid (repE (bs (rs.set q ⟨a, len, cap, p⟩)) (q : Int) Q = 0 ∧ repV (bs (rs.set q ⟨a, len, cap, p⟩)) (q : Int) Q = (bs rs).getD q []) := Lib.hid (by
    rw [bs_set, ← HQQ.out.1]
    exact repairs_at (by rw [HBL.out]; exact HQ.out.1) (fun u hu => ⟨bs_byt HR.out u hu, Nat.le_trans (wd_le hu) HQ.out.2.2.2.2⟩) (by rw [HBL.out]; exact HQ.out.2.1) p)
  clear hs4 hb5 hg1 hg2 hg3 hg4 ho4 hb4
  go_upto_region 7 with fail
  clear hq2 hq3
  generalize w4.setCell ⟨g4, q, none⟩ (.slice a len cap) = w5 at *
  go_wp2_with fail
  refine (Repair_any _ A3 m c4 n c3 (q : Int) _ Q w5 HR5.out (by have := HQ.out; omega) HK.out HO5.out HQQ.out.2.1 HO3.out.2.2.1 HO3.out.2.2.2 HQQ.out.2.2.2).mono ?_
  rw [HRA.out.1, HRA.out.2]
  obtain ⟨S, hS⟩ : ∃ S, (bs rs).getD q [] = S := ⟨_, rfl⟩
  obtain ⟨t, ht⟩ : ∃ t, S.length = t := ⟨_, rfl⟩
  have HS : Hid ((bs rs).getD q [] = S ∧ S.length = t ∧ Byt S ∧ t ≤ 5000) := Lib.hid (by
    have hm : S ∈ bs rs := by
      rw [← hS, List.getD_eq_getElem?_getD, List.getElem?_eq_getElem (by rw [HBL.out]; exact HQ.out.1)]
      exact List.getElem_mem _
    exact ⟨hS, ht, bs_byt HR.out S hm, by rw [← ht]; exact Nat.le_trans (wd_le hm) HQ.out.2.2.2.2⟩)
  rw [hS, ht]
  clear hS ht
  rintro e w6 ⟨A6, c6, rfl, ho6, hb6⟩
  have HB6 := Lib.hid (HB5.out.trans (hb6.mono HB5.out.size))
  have HO6 := Lib.hid ho6.has
  have HP6 := Lib.hid (HO5.out.below hb6 (Nat.le_refl _))
  clear ho6 hb6
  have mw : IntKind.i64.wrap ((m : Int) - 1) = (m : Int) - 1 := IntWalk.i64_in _ (by omega)
  go_wp2_with fail
  go_loopw [13, 14] (fun v i wr => ∃ (j n' c' : Nat) (A' : Option Addr), j ≤ m ∧ i = .int .i64 ((j : Int) - 1) ∧ v = .slice A' n' c' ∧ n' + j = m ∧ OwnV wr w6.heap.size (.slice A' n' c') (rs.drop j).reverse ∧ Below w6.heap.size w6 wr) (fun _ i _ => (intOf i + 1).toNat)
  case atStart => exact ⟨m, 0, 0, none, Nat.le_refl _, rfl, rfl, by omega, by rw [List.drop_of_length_le (by rw [HR.out.l]; exact Nat.le_refl _)]; exact OwnV.nil _ _, Below.refl _ _⟩
  case round =>
    obtain ⟨j, n', c', A', hj, rfl, rfl, hnj, own, acc⟩ := hrel
    have HO := Lib.hid own
    have HA := Lib.hid acc
    rcases j with _ | j
    · have j1 : ¬ (0 : Int) ≤ ((0 : Nat) : Int) - 1 := by omega
      have j2 : (((0 : Nat) : Int) - 1) = -1 := by omega
      rw [j2]
      obtain rfl : n' = m := by omega
      have HRV : Hid (RowsB wr A' n' c' rs.reverse) := Lib.hid (by
        have h1 := HO.out
        rw [List.drop_zero] at h1
        exact h1.rows fun r hr => ((HR.out.h.all r (List.mem_reverse.1 hr)).below HB6.out (Nat.le_refl _)).below HA.out (Nat.le_refl _))
      clear hj hnj own acc j1 j2
      go_wp2_with fail
      refine (Of_any A' n' c' _ wr HRV.out).mono ?_
      rw [bs_rev, gE_rev, HG.out, show ofV (bs rs).reverse = Q by unfold ofV; rw [gE_rev, if_pos HG.out, parP_rev, HQQ.out.1], HQQ.out.2.1]
      rintro e w7 ⟨A7, c7, rfl, ho7, hb7⟩
      have HB7 := Lib.hid (HB6.out.trans ((HA.out.trans (hb7.mono HA.out.size)).mono HB6.out.size))
      have hb67 : Below w6.heap.size w6 w7 := HA.out.trans (hb7.mono HA.out.size)
      have HO7 := Lib.hid ho7.has
      have HO6' := Lib.hid (HO6.out.below hb67 (Nat.le_refl _))
      have HP7 := Lib.hid (HP6.out.below hb67 (Nat.le_refl _))
      have HR7 := Lib.hid (HR.out.below HB7.out (Nat.le_refl _))
      clear ho7 hb7 hb67 mw
      obtain ⟨bP, oP, rfl, hbP, hcP⟩ := rb_cell HR7.out HQ.out.1
      have hcq := hcP q HQ.out.1
      have hinr := HR7.out.h.get q (by rw [HR.out.l]; exact HQ.out.1)
      have hSr : (rs.getD q r80).b = S := by
        rw [← HS.out.1]
        unfold bs
        simp [List.getD_eq_getElem?_getD]
        rcases hx : rs[q]? with _ | x
        · rfl
        · rfl
      obtain ⟨r, hrr⟩ : ∃ r, rs.getD q r80 = r := ⟨_, rfl⟩
      rw [hrr] at hcq hinr hSr
      obtain ⟨rA, rn, rc, rb⟩ := r
      obtain rfl : rb = S := hSr
      obtain rfl : rn = t := by rw [← HS.out.2.1]; exact hinr.e.symm
      dsimp only at hcq
      have HIR := Lib.hid hinr
      have HCQ := Lib.hid (And.intro hbP hcq)
      have hd : n' ≤ d := HR.out.c1
      have hdq : ¬ d = q := by have := HQ.out.1; omega
      have HD := Lib.hid (And.intro hd HR.out.c2)
      have q2 : IntKind.i64.wrap ((q : Int) + 1) = (q : Int) + 1 := IntWalk.i64_in _ (by have := HQ.out; omega)
      have q3 : (q : Int) + 1 ≤ d := by have := HQ.out; omega
      have q4 : q + 1 - q = 1 := by omega
      have HR1 : Hid (RowsB w7 (some ⟨bP, oP + q, none⟩) 1 (d - q) [⟨rA, rn, rc, rb⟩]) := Lib.hid ⟨rfl, by have := HQ.out; have := HD.out; omega, by have := HD.out; omega, ⟨.inr ⟨bP, oP + q, rfl, hbP, fun i hi => by
        have hi0 : i = 0 := by simpa using hi
        subst hi0
        exact hcq⟩, by intro r hr; rw [List.mem_singleton.1 hr]; exact hinr⟩⟩
      clear hrr hinr hcP hbP hcq hd
      go_upto_region 14 with fail
      obtain ⟨u, hu⟩ : ∃ u, rn + 2 = u := ⟨_, rfl⟩
      have HU := Lib.hid hu
      obtain ⟨F, hF⟩ : ∃ F, fr rb rn = F := ⟨_, rfl⟩
      have HF1 : Hid (gE [rb] = 0 ∧ ofV [rb] = F ∧ F.length = u ∧ F.getD 0 0 = ((rn / 256 : Nat) : Int) ∧ F.getD 1 0 = ((rn % 256 : Nat) : Int) ∧ F.drop 2 = rb) := Lib.hid (by
        have h1 := HS.out.2.1
        have g0 : gE [rb] = 0 := by unfold gE; rw [if_neg (by simp [wd]; have := HS.out; omega)]
        refine ⟨g0, ?_, by rw [← hF, fr_len (by omega), hu], by rw [← hF, ← h1]; rfl, by rw [← hF, ← h1]; rfl, ?_⟩
        · unfold ofV
          rw [if_pos g0, par_one HS.out.2.2.1 (by have := HS.out; omega), h1, hF]
        · rw [← hF, ← h1]
          show rb ++ List.replicate (rb.length - rb.length) 0 = rb
          simp)
      clear hF hu
      go_wp2_with (go_at_call 14; go_loud (refine (Of_any _ 1 (d - q) _ w7 HR1.out).mono ?_); rw [show bs [⟨rA, rn, rc, rb⟩] = [rb] from rfl, HF1.out.1, HF1.out.2.1, HF1.out.2.2.1]; rintro e w8 ⟨A8, c8, rfl, ho8, hb8⟩)
      have HB8 := Lib.hid (HB7.out.trans (hb8.mono HB7.out.size))
      have hne : F ≠ [] := by intro e; have h1 := HF1.out.2.2.1; rw [e] at h1; have := HU.out; simp at h1; omega
      obtain ⟨g8, rfl, f0, f1, h8⟩ : ∃ g8, A8 = some ⟨g8, 0, none⟩ ∧ w8.cell? ⟨g8, 0, none⟩ = some (.int .u8 ((rn / 256 : Nat) : Int)) ∧ w8.cell? ⟨g8, 1, none⟩ = some (.int .u8 ((rn % 256 : Nat) : Int)) ∧ Has .u8 w8 (some ⟨g8, 0, none⟩) F := by
        rcases ho8 with ho8 | ⟨e, _⟩
        · obtain ⟨g8, rfl, _⟩ := ho8.form hne
          have h1 := HF1.out.2.2.1
          have h2 := HU.out
          have z0 := ho8.cell 0 (by omega)
          have z1 := ho8.cell 1 (by omega)
          rw [HF1.out.2.2.2.1] at z0
          rw [HF1.out.2.2.2.2.1] at z1
          exact ⟨g8, rfl, z0, z1, ho8.has⟩
        · exact absurd e hne
      have hc8 : u ≤ c8 := by
        obtain ⟨_, h1, _⟩ := OwnZ.bounds ho8
        exact h1
      obtain ⟨A9, hA9⟩ : ∃ A9, (if c8 = 2 then some (⟨g8, 0, none⟩ : Addr) else some ⟨g8, 2, none⟩) = A9 := ⟨_, rfl⟩
      have h9 : Has .u8 w8 A9 rb := by
        rw [← hA9]
        split
        · exact .inl (List.eq_nil_of_length_eq_zero (by rw [HS.out.2.1]; have := HU.out; omega))
        · have h := h8.dropAt 2
          rw [HF1.out.2.2.2.2.2] at h
          exact h
      have k1 : ∀ n, (convert 36 9 (.slice A6 rn c6)).run Try.prog (w8.drewN n) = .ok (.string (bstr rb)) (w8.drewN n) := fun n => conv8 (has_drewN (HO6'.out.below hb8 (Nat.le_refl _)) n) HS.out.2.1
      have k2 : ∀ n, (convert 36 9 (.slice rA rn rc)).run Try.prog (w8.drewN n) = .ok (.string (bstr rb)) (w8.drewN n) := fun n => conv8 (has_drewN (HIR.out.h.below hb8 (Nat.le_refl _)) n) HS.out.2.1
      have k3 : ∀ x, (convert 36 9 (.slice A3 n c3)).run Try.prog (w8.drewN x) = .ok (.string (bstr Q)) (w8.drewN x) := fun x => conv8 (has_drewN (HP7.out.below hb8 (Nat.le_refl _)) x) HQQ.out.2.1
      have k4 : ∀ x, (convert 36 9 (.slice A7 n c7)).run Try.prog (w8.drewN x) = .ok (.string (bstr Q)) (w8.drewN x) := fun x => conv8 (has_drewN (HO7.out.below hb8 (Nat.le_refl _)) x) HQQ.out.2.1
      have k5 : ∀ x c, (convert 36 9 (.slice A9 rn c)).run Try.prog (w8.drewN x) = .ok (.string (bstr rb)) (w8.drewN x) := fun x c => conv8 (has_drewN h9 x) HS.out.2.1
      have k6 : w8.cell? ⟨bP, oP + q, none⟩ = some (.slice rA rn rc) := by rw [hb8.cell (p := ⟨bP, oP + q, none⟩) HCQ.out.1]; exact HCQ.out.2
      have u1 : IntKind.i64.wrap ((rn : Int) + 2) = (u : Int) := by
        rw [show (rn : Int) + 2 = u by have := HU.out; omega]; exact IntWalk.i64_in _ (by have := HS.out; have := HU.out; omega)
      have u2 : u - 2 = rn := by have := HU.out; omega
      have u3 : (2 : Int) ≤ u := by have := HU.out; omega
      have u4 : (u : Int) ≤ 5002 := by have := HU.out; have := HS.out; omega
      have u5 : (u : Int) ≤ c8 := by omega
      have u6 : (0 : Int) < u := by omega
      have u7 : (1 : Int) < u := by omega
      have u8 : 2 ≤ c8 := by have := HU.out; omega
      have u9 : 2 ≤ u := by have := HU.out; omega
      have t0 : (0 : Int) ≤ ((rn / 256 : Nat) : Int) := by omega
      have t1 : ((rn / 256 : Nat) : Int) ≤ 255 := by have := HS.out; omega
      have t2 : (0 : Int) ≤ ((rn % 256 : Nat) : Int) := by omega
      have t3 : ((rn % 256 : Nat) : Int) ≤ 255 := by omega
      have t4 : 256 * ((rn / 256 : Nat) : Int) + ((rn % 256 : Nat) : Int) = (rn : Int) := by omega
      generalize ((rn / 256 : Nat) : Int) = hi8 at *
      generalize ((rn % 256 : Nat) : Int) = lo8 at *
      have t5 : IntKind.i64.wrap (256 * hi8) = 256 * hi8 := IntWalk.i64_in _ (by omega)
      have t6 : IntKind.i64.wrap (256 * hi8 + lo8) = (rn : Int) := by rw [t4]; exact IntWalk.i64_in _ (by have := HS.out; omega)
      have qm : (q : Int) < n' := by have := HQ.out; omega
      have qd : decide (n' ≤ q) = false := decide_eq_false (by have := HQ.out; omega)
      clear ho8 hb8 hne h8 h9 hc8 t4 q2 q3 q4 hdq
      go_upto_region 15 with fail
      go_quiet (fail)
      go_wp2_with fail
      go_quiet (fail)
      go_wp2_with fail
      go_ret
      exact ⟨rfl, below_drewN (below_drewN HB8.out _) _⟩
    · have e : (((j + 1 : Nat) : Int) - 1) = (j : Int) := by omega
      rw [e]
      have j1 : (0 : Int) ≤ (j : Int) := by omega
      have j2 : (j : Int) < m := by omega
      have hjm : j < rs.length := by rw [HR.out.l]; omega
      have HS2 := Lib.hid (rev_step rs j hjm)
      obtain ⟨b, off, rfl, hb, hc⟩ := rb_cell ((HR.out.below HB6.out (Nat.le_refl _)).below acc (Nat.le_refl _)) (show j < m by omega)
      have c1 := hc j (by omega)
      obtain ⟨r, hrr⟩ : ∃ r, rs.getD j r80 = r := ⟨_, rfl⟩
      rw [hrr] at c1 HS2
      obtain ⟨rA, rn, rc, rb⟩ := r
      dsimp only at c1
      have HJ : Hid (j + 1 ≤ m ∧ n' + (j + 1) = m ∧ (rs.drop (j + 1)).reverse.length = n' ∧ m ≤ 16) := Lib.hid ⟨hj, hnj, by rw [List.length_reverse, List.length_drop, HR.out.l]; omega, HQ.out.2.1⟩
      obtain ⟨n2, hn2⟩ : ∃ n2, n' + 1 = n2 := ⟨_, rfl⟩
      have HN2 := Lib.hid hn2
      have jw : IntKind.i64.wrap ((j : Int) - 1) = (j : Int) - 1 := IntWalk.i64_in _ (by omega)
      clear hj hnj own acc e hjm hc hb hrr hn2
      go_wp2_with (at_builtin; refine appV rfl _ _ rfl w6.heap.size _ _ rfl (HO.out.below ((Below.refl _ _).alloc (Nat.le_refl _) _) (Nat.le_refl _)) (by have := HA.out.size; simp; omega) wr.heap.size 1 rfl ⟨rA, rn, rc, rb⟩ (Lies.fresh wr _ [.slice rA rn rc]).one.1 n2 (by rw [HJ.out.2.2.1, HN2.out]) (by have := HJ.out; have := HN2.out; omega) ?_; intro A9 c9 w9 ho9 hb9 hg9)
      go_roundw
      case rel => exact ⟨j, n2, c9, A9, by have := HJ.out; omega, rfl, rfl, by have := HJ.out; have := HN2.out; omega, by rw [← HS2.out]; exact ho9, (HA.out.alloc HA.out.size _).trans hb9⟩
      case measure => simp [intOf]
end Go.Proofs.Ytacllaeccdgnmaa.paL
