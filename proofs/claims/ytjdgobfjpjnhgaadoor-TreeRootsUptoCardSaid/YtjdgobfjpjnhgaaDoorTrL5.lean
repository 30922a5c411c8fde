/- TreeRoots, by a walk (strings of together at most 1048576 bytes). -/
import Derived.Test.YtjdgobfjpjnhgaaDoorTrRd
import Derived.Test.YtjdgobfjpjnhgaaDoorBulk
namespace Go.Proofs.YtjdgobfjpjnhgaaDoor.trW
set_option maxRecDepth 100000
open Go.RowKit Go.Proofs.YtjdgobfjpjnhgaaDoor.base Go.Proofs.YtjdgobfjpjnhgaaDoor.shP Go.Proofs.YtjdgobfjpjnhgaaDoor.shW Go.Proofs.YtjdgobfjpjnhgaaDoor.trP
set_option linter.unusedVariables false
set_option linter.unusedSimpArgs false
set_option maxRecDepth 100000
def flat : List R8 → List Int
  | [] => []
  | r :: l => r.b ++ flat l
theorem flat_snoc : ∀ (rs : List R8) (k : Nat), k < rs.length → flat (rs.take (k + 1)) = flat (rs.take k) ++ (rs.getD k r80).b
  | [], k, h => by simp at h
  | r :: l, 0, h => by simp [flat]
  | r :: l, k + 1, h => by
    have := flat_snoc l k (by simpa using h)
    simp only [List.take_succ_cons, flat, List.append_assoc]
    rw [this]; simp
theorem flat_len : ∀ (rs : List R8), (∀ r ∈ rs, r.b.length = r.n) → (flat rs).length = sumN rs
  | [], _ => rfl
  | r :: l, h => by
    have h1 := h r (by simp)
    have h2 := flat_len l (fun x hx => h x (by simp [hx]))
    simp only [flat, sumN, List.length_append, h1, h2]
theorem flat_le {w : World} {P : Option Addr} {m d : Nat} {rs : List R8} (hr : RowsB w P m d rs) {T : Nat} (hs : sumN rs ≤ T) (k : Nat) : (flat (rs.take k)).length ≤ T := by
  rw [flat_len _ (fun r h => (hr.h.all r (List.mem_of_mem_take h)).e)]
  exact Nat.le_trans (sumN_take rs k) hs
set_option maxHeartbeats 8000000 in
theorem roots (P : Option Addr) (m d : Nat) (rs : List R8) (a : Option Addr) (len cap : Nat) (z : List Int) (n i : Int) (w : World) (hr : RowsB w P m d rs) (hsum : sumN rs ≤ 1048576) (hz : IsRow .u8 w a len cap z) (hn1 : -9223372036854775808 ≤ n) (hn2 : n ≤ 9223372036854775807) (hi1 : -9223372036854775808 ≤ i) (hi2 : i ≤ 9223372036854775807) (hT : Tab w) :
    Calls Tryd.prog 3 #[.slice P m d, .slice a len cap, .int .i64 n, .int .i64 i] w fun e w' => e = .returned (.bool true) ∧ Below w.heap.size w w' := by
  have hin := inr_of hz
  obtain ⟨p, hp⟩ : ∃ p, z.take len = p := ⟨_, rfl⟩
  rw [hp] at hin
  have HIN := Lib.hid hin
  have HR := Lib.hid hr
  have HT := Lib.hid hT
  have HNI := Lib.hid (And.intro hn1 (And.intro hn2 (And.intro hi1 hi2)))
  have l1 : (len : Int) ≤ 9223372036854775807 := by have h1 := hin.c1; have h2 := hin.c2; dsimp only at h1 h2; omega
  have m1 : (m : Int) ≤ 9223372036854775807 := by have h1 := hr.c1; have h2 := hr.c2; omega
  have HRL := Lib.hid hr.l
  have HFL := Lib.hid (fun k => flat_le hr hsum k)
  obtain ⟨xl, ql⟩ : ∃ x, lfV p = x := ⟨_, rfl⟩
  obtain ⟨el, qle⟩ : ∃ x, lfE p = x := ⟨_, rfl⟩
  have H_xl : Hid (IsD xl) := Lib.hid (by rw [← ql]; exact lfV_isD p)
  obtain ⟨xr, qr⟩ : ∃ x, rtV rs = x := ⟨_, rfl⟩
  obtain ⟨er, qre⟩ : ∃ x, chE rs = x := ⟨_, rfl⟩
  have H_xr : Hid (IsD xr) := Lib.hid (by rw [← qr]; exact rtV_isD rs)
  obtain ⟨ps, qp⟩ : ∃ x, prL rs i = x := ⟨_, rfl⟩
  obtain ⟨ep, qpe⟩ : ∃ x, prE rs i = x := ⟨_, rfl⟩
  obtain ⟨q, hq⟩ : ∃ q, ps.length = q := ⟨_, rfl⟩
  have HQL := Lib.hid hq
  have q10 : (q : Int) ≤ 10 := by have := prL_le rs i; rw [qp, hq] at this; omega
  obtain ⟨ns, qs⟩ : ∃ x, (sdL n i).length = x := ⟨_, rfl⟩
  obtain ⟨es, qse⟩ : ∃ x, sdE n i = x := ⟨_, rfl⟩
  have s10 : (ns : Int) ≤ 10 := by have := sd_len n i; rw [qs] at this; omega
  have Q := Lib.hid (And.intro ql (And.intro qle (And.intro qr qre)))
  have Q2 := Lib.hid (And.intro qp (And.intro qpe (And.intro qs qse)))
  have B := Lib.hid (Below.refl w.heap.size w)
  clear hz hp hin z hT ql qle qr qre qp qpe hq qs qse hn1 hn2 hi1 hi2 hr hsum
  go_enter Tryd.func3, Tryd.ntmps3
  go_wp2_with fail
  refine (Great_any P m d rs _ HR.out).mono ?_
  rintro e _ ⟨⟨b, rfl, hb⟩, rfl⟩
  rename World => w
  cases b
  case true =>
    go_wp2_with fail
    go_ret
    exact ⟨rfl, B.out⟩
  clear hb
  by_cases c2 : 600 < (len : Int)
  · by_cases c3 : (len : Int) ≤ 10000
    · go_wp2_with fail
      go_ret
      exact ⟨rfl, B.out⟩
    · by_cases c4 : 10100 < (len : Int)
      · go_wp2_with fail
        go_ret
        exact ⟨rfl, B.out⟩
      · go_wp2_with fail
        go_loopw [9, 10] (fun rv kv wr => ∃ (k L : Nat) (A : Option Addr) (c : Nat), k ≤ m ∧ kv = .int .i64 (k : Int) ∧ rv = .slice A L c ∧ L = (flat (rs.take k)).length ∧ OwnZ wr w.heap.size (.slice A L c) (flat (rs.take k)) ∧ Below w.heap.size w wr) (fun _ kv _ => m - (intOf kv).toNat)
        case atStart => exact ⟨0, 0, none, 0, Nat.zero_le _, rfl, rfl, by simp [flat], by rw [List.take_zero]; exact .inr ⟨rfl, none, rfl⟩, Below.refl _ _⟩
        case round =>
          obtain ⟨k, L, A, c, hk, rfl, rfl, hL, own, acc⟩ := hrel
          have HO := Lib.hid own
          have HACC := Lib.hid acc
          have HLE := Lib.hid hL
          have HL2 : Hid (L ≤ 1048576) := Lib.hid (by rw [hL]; exact HFL.out k)
          by_cases hlt : k < m
          · obtain ⟨b, off, rfl, -, -⟩ := HR.out.h.some (by rw [HRL.out]; omega)
            have cf := rowCell HR.out k hlt _ acc
            have hin := HR.out.h.get k (by rw [HRL.out]; exact hlt)
            have HS := Lib.hid (flat_snoc rs k (by rw [HRL.out]; exact hlt))
            have HF2 := Lib.hid (HFL.out (k + 1))
            rw [HS.out, List.length_append] at HF2
            have HLT := Lib.hid hlt
            have k1 : (k : Int) < m := by omega
            have k0 : 0 ≤ (k : Int) := by omega
            generalize rs.getD k r80 = r at *
            obtain ⟨rA, rn, rc, rb⟩ := r
            have HIR := Lib.hid hin
            dsimp only at cf HS HF2
            clear own acc hk hL hlt hin
            have HFB : Hid (L + rn ≤ 1048576) := Lib.hid (by have h1 := HF2.out; have h2 := HIR.out.e; have h3 := HLE.out; dsimp only at h2; omega)
            go_wp2_with (at_builtin; refine app8z rfl _ _ rfl w.heap.size _ (flat (rs.take k)) rfl HO.out rA rn rc rb rfl HIR.out.e (HIR.out.h.below (HACC.out) (Nat.le_refl _)) (L + rn) (by rw [HLE.out]) (by have := HFB.out; omega) HACC.out.size ?_; intro A4 c4 w4 ho4 hk4 hb4; have HO4 := Lib.hid ho4; have HB4 := Lib.hid (HACC.out.trans hb4); clear ho4 hk4 hb4 cf)
            go_roundw
            case rel => exact ⟨k + 1, L + rn, A4, c4, HLT.out, by go_num, rfl, by rw [HS.out, List.length_append, ← HLE.out]; congr 1; exact HIR.out.e.symm, by rw [HS.out]; exact HO4.out, HB4.out⟩
            case measure => simp [intOf]; have := HLT.out; omega
          · have k1 : ¬ (k : Int) < m := by omega
            have O9 : Hid (OwnZ wr w.heap.size (.slice A L c) (flat rs)) := Lib.hid (by rw [List.take_of_length_le (by rw [HRL.out]; omega)] at own; exact own)
            have O9L : Hid ((flat rs).length = L) := Lib.hid (by rw [List.take_of_length_le (by rw [HRL.out]; omega)] at hL; exact hL.symm)
            clear hk hlt own acc hL HO HLE HL2
            replace B := HACC
            clear HACC
            generalize hA9 : A = A9 at *
            clear hA9
            generalize hL9 : L = L9 at *
            clear hL9
            generalize hc9 : c = c9 at *
            clear hc9
            rename World => w8
            have B8 := Lib.hid (Below.refl w8.heap.size w8)
            go_wp2_with fail
            refine (Leaf_any p a len cap _ (HT.out.below B.out (Nat.le_refl _)) (HIN.out.h.below B.out (Nat.le_refl _)) HIN.out.e HIN.out.c1 HIN.out.c2 HIN.out.b).mono ?_
            rintro e w1 ⟨rfl, b⟩
            rw [Q.out.1, Q.out.2.1]
            replace B := Lib.hid (bb B.out b)
            replace B8 := Lib.hid (bb B8.out b)
            clear b
            have Y := Lib.hid (z20_at w1 rfl)
            have G := bnew w1 (.cells #[.int .u8 0, .int .u8 0, .int .u8 0, .int .u8 0, .int .u8 0, .int .u8 0, .int .u8 0, .int .u8 0, .int .u8 0, .int .u8 0, .int .u8 0, .int .u8 0, .int .u8 0, .int .u8 0, .int .u8 0, .int .u8 0, .int .u8 0, .int .u8 0, .int .u8 0, .int .u8 0] 26)
            have LEB := Lib.hid B.out.size
            have LEB8 := Lib.hid B8.out.size
            replace B := Lib.hid (bb B.out G)
            replace B8 := Lib.hid (bb B8.out G)
            clear G
            go_wp2_with (first | (show wpList _ _ _ ({ dst := none, op := Op.store 26 (.tmp 11) _, type := _, pos := _, after := _, guard := _ } :: _) _ _; go_must (refine trW.wp_st (g := w1.heap.size) (l := xl) (by rfl) _ _ rfl (Y.out) (zd_isD.len) (H_xl.out.len) rfl rfl ?_); intro w1s hR hg hb hz; have D11 := Lib.hid hR; replace B := Lib.hid (B.out.trans (hb.mono LEB.out)); replace B8 := Lib.hid (B8.out.trans (hb.mono LEB8.out)); clear hR hg hb hz Y LEB LEB8 ))
            refine (rLeaf_any p a len cap _ (HIN.out.h.below B.out (Nat.le_refl _)) HIN.out.e (by have := HIN.out.c1; have := HIN.out.c2; dsimp only at *; omega) HIN.out.b).mono ?_
            rintro e w2 ⟨rfl, b⟩
            rw [Q.out.1, Q.out.2.1]
            replace D11 := Lib.hid (D11.out.past b)
            replace B := Lib.hid (bb B.out b)
            replace B8 := Lib.hid (bb B8.out b)
            clear b
            have Y := Lib.hid (z20_at w2 rfl)
            have G := bnew w2 (.cells #[.int .u8 0, .int .u8 0, .int .u8 0, .int .u8 0, .int .u8 0, .int .u8 0, .int .u8 0, .int .u8 0, .int .u8 0, .int .u8 0, .int .u8 0, .int .u8 0, .int .u8 0, .int .u8 0, .int .u8 0, .int .u8 0, .int .u8 0, .int .u8 0, .int .u8 0, .int .u8 0] 26)
            have LEB := Lib.hid B.out.size
            have LEB8 := Lib.hid B8.out.size
            have LD11 := Lib.hid D11.out.lt
            replace D11 := Lib.hid (D11.out.past G)
            replace B := Lib.hid (bb B.out G)
            replace B8 := Lib.hid (bb B8.out G)
            clear G
            go_wp2_with (first | (show wpList _ _ _ ({ dst := none, op := Op.store 26 (.tmp 13) _, type := _, pos := _, after := _, guard := _ } :: _) _ _; go_must (refine trW.wp_st (g := w2.heap.size) (l := xl) (by rfl) _ _ rfl (Y.out) (zd_isD.len) (H_xl.out.len) rfl rfl ?_); intro w2s hR hg hb hz; have D13 := Lib.hid hR; replace D11 := Lib.hid (D11.out.far hg (show w1.heap.size ≠ w2.heap.size by have := LD11.out; omega)); replace B := Lib.hid (B.out.trans (hb.mono LEB.out)); replace B8 := Lib.hid (B8.out.trans (hb.mono LEB8.out)); clear hR hg hb hz Y LEB LEB8 LD11))
            refine (Root_any rs P m d _ (HT.out.below B.out (Nat.le_refl _)) (HR.out.below B.out (Nat.le_refl _))).mono ?_
            rintro e w3 ⟨rfl, b⟩
            rw [Q.out.2.2.1, Q.out.2.2.2]
            replace D11 := Lib.hid (D11.out.past b)
            replace D13 := Lib.hid (D13.out.past b)
            replace B := Lib.hid (bb B.out b)
            replace B8 := Lib.hid (bb B8.out b)
            clear b
            have Y := Lib.hid (z20_at w3 rfl)
            have G := bnew w3 (.cells #[.int .u8 0, .int .u8 0, .int .u8 0, .int .u8 0, .int .u8 0, .int .u8 0, .int .u8 0, .int .u8 0, .int .u8 0, .int .u8 0, .int .u8 0, .int .u8 0, .int .u8 0, .int .u8 0, .int .u8 0, .int .u8 0, .int .u8 0, .int .u8 0, .int .u8 0, .int .u8 0] 26)
            have LEB := Lib.hid B.out.size
            have LEB8 := Lib.hid B8.out.size
            have LD11 := Lib.hid D11.out.lt
            have LD13 := Lib.hid D13.out.lt
            replace D11 := Lib.hid (D11.out.past G)
            replace D13 := Lib.hid (D13.out.past G)
            replace B := Lib.hid (bb B.out G)
            replace B8 := Lib.hid (bb B8.out G)
            clear G
            go_wp2_with (first | (show wpList _ _ _ ({ dst := none, op := Op.store 26 (.tmp 15) _, type := _, pos := _, after := _, guard := _ } :: _) _ _; go_must (refine trW.wp_st (g := w3.heap.size) (l := xr) (by rfl) _ _ rfl (Y.out) (zd_isD.len) (H_xr.out.len) rfl rfl ?_); intro w3s hR hg hb hz; have D15 := Lib.hid hR; replace D11 := Lib.hid (D11.out.far hg (show w1.heap.size ≠ w3.heap.size by have := LD11.out; omega)); replace D13 := Lib.hid (D13.out.far hg (show w2.heap.size ≠ w3.heap.size by have := LD13.out; omega)); replace B := Lib.hid (B.out.trans (hb.mono LEB.out)); replace B8 := Lib.hid (B8.out.trans (hb.mono LEB8.out)); clear hR hg hb hz Y LEB LEB8 LD11 LD13))
            refine (rRoot_any rs P m d _ (HR.out.below B.out (Nat.le_refl _))).mono ?_
            rintro e w4 ⟨rfl, b⟩
            rw [Q.out.2.2.1, Q.out.2.2.2]
            replace D11 := Lib.hid (D11.out.past b)
            replace D13 := Lib.hid (D13.out.past b)
            replace D15 := Lib.hid (D15.out.past b)
            replace B := Lib.hid (bb B.out b)
            replace B8 := Lib.hid (bb B8.out b)
            clear b
            have Y := Lib.hid (z20_at w4 rfl)
            have G := bnew w4 (.cells #[.int .u8 0, .int .u8 0, .int .u8 0, .int .u8 0, .int .u8 0, .int .u8 0, .int .u8 0, .int .u8 0, .int .u8 0, .int .u8 0, .int .u8 0, .int .u8 0, .int .u8 0, .int .u8 0, .int .u8 0, .int .u8 0, .int .u8 0, .int .u8 0, .int .u8 0, .int .u8 0] 26)
            have LEB := Lib.hid B.out.size
            have LEB8 := Lib.hid B8.out.size
            have LD11 := Lib.hid D11.out.lt
            have LD13 := Lib.hid D13.out.lt
            have LD15 := Lib.hid D15.out.lt
            replace D11 := Lib.hid (D11.out.past G)
            replace D13 := Lib.hid (D13.out.past G)
            replace D15 := Lib.hid (D15.out.past G)
            replace B := Lib.hid (bb B.out G)
            replace B8 := Lib.hid (bb B8.out G)
            clear G
            go_wp2_with (first | (show wpList _ _ _ ({ dst := none, op := Op.store 26 (.tmp 17) _, type := _, pos := _, after := _, guard := _ } :: _) _ _; go_must (refine trW.wp_st (g := w4.heap.size) (l := xr) (by rfl) _ _ rfl (Y.out) (zd_isD.len) (H_xr.out.len) rfl rfl ?_); intro w4s hR hg hb hz; have D17 := Lib.hid hR; replace D11 := Lib.hid (D11.out.far hg (show w1.heap.size ≠ w4.heap.size by have := LD11.out; omega)); replace D13 := Lib.hid (D13.out.far hg (show w2.heap.size ≠ w4.heap.size by have := LD13.out; omega)); replace D15 := Lib.hid (D15.out.far hg (show w3.heap.size ≠ w4.heap.size by have := LD15.out; omega)); replace B := Lib.hid (B.out.trans (hb.mono LEB.out)); replace B8 := Lib.hid (B8.out.trans (hb.mono LEB8.out)); clear hR hg hb hz Y LEB LEB8 LD11 LD13 LD15))
            refine (Prove_any rs i P m d _ (HT.out.below B.out (Nat.le_refl _)) (HR.out.below B.out (Nat.le_refl _)) HNI.out.2.2.1 HNI.out.2.2.2).mono ?_
            rintro e w5 ⟨⟨A19, c19, rfl, o19⟩, b⟩
            rw [Q2.out.2.1]
            rw [Q2.out.1, HQL.out] at o19
            rw [Q2.out.1, HQL.out]
            have O19 := Lib.hid o19
            clear o19
            replace D11 := Lib.hid (D11.out.past b)
            replace D13 := Lib.hid (D13.out.past b)
            replace D15 := Lib.hid (D15.out.past b)
            replace D17 := Lib.hid (D17.out.past b)
            replace B := Lib.hid (bb B.out b)
            replace B8 := Lib.hid (bb B8.out b)
            clear b
            go_wp2_with fail
            refine (rProve_any rs i P m d _ (HR.out.below B.out (Nat.le_refl _)) HNI.out.2.2.1 HNI.out.2.2.2).mono ?_
            rintro e w6 ⟨⟨A21, c21, rfl, o21⟩, b⟩
            rw [Q2.out.2.1]
            rw [Q2.out.1, HQL.out] at o21
            rw [Q2.out.1, HQL.out]
            have O21 := Lib.hid o21
            clear o21
            replace D11 := Lib.hid (D11.out.past b)
            replace D13 := Lib.hid (D13.out.past b)
            replace D15 := Lib.hid (D15.out.past b)
            replace D17 := Lib.hid (D17.out.past b)
            replace O19 := Lib.hid (O19.out.past b)
            replace B := Lib.hid (bb B.out b)
            replace B8 := Lib.hid (bb B8.out b)
            clear b
            go_wp2_with fail
            refine (Steps_any n i _ HNI.out.1 HNI.out.2.1 HNI.out.2.2.1 HNI.out.2.2.2).mono ?_
            rintro e w7 ⟨rfl, b⟩
            rw [Q2.out.2.2.1, Q2.out.2.2.2]
            replace D11 := Lib.hid (D11.out.past b)
            replace D13 := Lib.hid (D13.out.past b)
            replace D15 := Lib.hid (D15.out.past b)
            replace D17 := Lib.hid (D17.out.past b)
            replace O19 := Lib.hid (O19.out.past b)
            replace O21 := Lib.hid (O21.out.past b)
            replace B := Lib.hid (bb B.out b)
            replace B8 := Lib.hid (bb B8.out b)
            clear b
            go_wp2_with fail
            refine (rSteps_any n i _ HNI.out.1 HNI.out.2.1 HNI.out.2.2.1 HNI.out.2.2.2).mono ?_
            rintro e _ ⟨rfl, rfl⟩
            rename World => w9
            rw [Q2.out.2.2.1, Q2.out.2.2.2]
            go_wp2_with fail
            go_loopw [27, 28] (fun rv kv wr => ∃ (k L : Nat) (A : Option Addr) (c : Nat), k ≤ m ∧ kv = .int .i64 (k : Int) ∧ rv = .slice A L c ∧ L = (flat (rs.take k)).length ∧ OwnZ wr w9.heap.size (.slice A L c) (flat (rs.take k)) ∧ Below w9.heap.size w9 wr) (fun _ kv _ => m - (intOf kv).toNat)
            case atStart => exact ⟨0, 0, none, 0, Nat.zero_le _, rfl, rfl, by simp [flat], by rw [List.take_zero]; exact .inr ⟨rfl, none, rfl⟩, Below.refl _ _⟩
            case round =>
              obtain ⟨k, L, A, c, hk, rfl, rfl, hL, own, acc⟩ := hrel
              have HO := Lib.hid own
              have HACC := Lib.hid acc
              have HLE := Lib.hid hL
              have HL2 : Hid (L ≤ 1048576) := Lib.hid (by rw [hL]; exact HFL.out k)
              by_cases hlt : k < m
              · obtain ⟨b, off, rfl, -, -⟩ := HR.out.h.some (by rw [HRL.out]; omega)
                have cf := rowCell HR.out k hlt _ (bb B.out acc)
                have hin := HR.out.h.get k (by rw [HRL.out]; exact hlt)
                have HS := Lib.hid (flat_snoc rs k (by rw [HRL.out]; exact hlt))
                have HF2 := Lib.hid (HFL.out (k + 1))
                rw [HS.out, List.length_append] at HF2
                have HLT := Lib.hid hlt
                have k1 : (k : Int) < m := by omega
                have k0 : 0 ≤ (k : Int) := by omega
                generalize rs.getD k r80 = r at *
                obtain ⟨rA, rn, rc, rb⟩ := r
                have HIR := Lib.hid hin
                dsimp only at cf HS HF2
                clear own acc hk hL hlt hin
                have HFB : Hid (L + rn ≤ 1048576) := Lib.hid (by have h1 := HF2.out; have h2 := HIR.out.e; have h3 := HLE.out; dsimp only at h2; omega)
                go_wp2_with (at_builtin; refine app8z rfl _ _ rfl w9.heap.size _ (flat (rs.take k)) rfl HO.out rA rn rc rb rfl HIR.out.e (HIR.out.h.below ((bb B.out HACC.out)) (Nat.le_refl _)) (L + rn) (by rw [HLE.out]) (by have := HFB.out; omega) HACC.out.size ?_; intro A4 c4 w4 ho4 hk4 hb4; have HO4 := Lib.hid ho4; have HB4 := Lib.hid (HACC.out.trans hb4); clear ho4 hk4 hb4 cf)
                go_roundw
                case rel => exact ⟨k + 1, L + rn, A4, c4, HLT.out, by go_num, rfl, by rw [HS.out, List.length_append, ← HLE.out]; congr 1; exact HIR.out.e.symm, by rw [HS.out]; exact HO4.out, HB4.out⟩
                case measure => simp [intOf]; have := HLT.out; omega
              · have k1 : ¬ (k : Int) < m := by omega
                have O27 : Hid (OwnZ wr w9.heap.size (.slice A L c) (flat rs)) := Lib.hid (by rw [List.take_of_length_le (by rw [HRL.out]; omega)] at own; exact own)
                have O27L : Hid ((flat rs).length = L) := Lib.hid (by rw [List.take_of_length_le (by rw [HRL.out]; omega)] at hL; exact hL.symm)
                clear hk hlt own acc hL HO HLE HL2
                replace D11 := Lib.hid (D11.out.past HACC.out)
                replace D13 := Lib.hid (D13.out.past HACC.out)
                replace D15 := Lib.hid (D15.out.past HACC.out)
                replace D17 := Lib.hid (D17.out.past HACC.out)
                replace O19 := Lib.hid (O19.out.past HACC.out)
                replace O21 := Lib.hid (O21.out.past HACC.out)
                replace B := Lib.hid (bb B.out HACC.out)
                replace B8 := Lib.hid (bb B8.out HACC.out)
                clear HACC
                go_wp2_with (first | (show wpList _ _ _ ({ dst := _, op := Op.load 26 (.tmp 11), type := _, pos := _, after := _, guard := _ } :: _) _ _; go_must (refine trW.wp_l0 (l := xl) (by rfl) _ rfl (D11.out) (H_xl.out.len) rfl ?_)) | (show wpList _ _ _ ({ dst := _, op := Op.load 26 (.tmp 13), type := _, pos := _, after := _, guard := _ } :: _) _ _; go_must (refine trW.wp_l0 (l := xl) (by rfl) _ rfl (D13.out) (H_xl.out.len) rfl ?_)) | (show wpList _ _ _ ({ dst := _, op := Op.load 26 (.tmp 15), type := _, pos := _, after := _, guard := _ } :: _) _ _; go_must (refine trW.wp_l0 (l := xr) (by rfl) _ rfl (D15.out) (H_xr.out.len) rfl ?_)) | (show wpList _ _ _ ({ dst := _, op := Op.load 26 (.tmp 17), type := _, pos := _, after := _, guard := _ } :: _) _ _; go_must (refine trW.wp_l0 (l := xr) (by rfl) _ rfl (D17.out) (H_xr.out.len) rfl ?_)) | (show wpList _ _ _ ({ dst := _, op := Op.binOp .eql 26 _ _ _, type := _, pos := _, after := _, guard := _ } :: _) _ _; refine trW.wp_eqs (by rfl) _ _ _ rfl ?hl rfl rfl ?_; (case hl => first | exact H_xl.out | exact H_xr.out)))
                refine (SameSums_any ps ps A19 A21 q q c19 c21 _ O19.out.has O21.out.has HQL.out HQL.out (by omega) (by omega)).mono ?_
                rintro e w8 ⟨rfl, b⟩
                rw [decide_eq_true (rfl : ps = ps)]
                replace O27 := Lib.hid (O27.out.below b (Nat.le_refl _))
                replace D11 := Lib.hid (D11.out.past b)
                replace D13 := Lib.hid (D13.out.past b)
                replace D15 := Lib.hid (D15.out.past b)
                replace D17 := Lib.hid (D17.out.past b)
                replace O19 := Lib.hid (O19.out.past b)
                replace O21 := Lib.hid (O21.out.past b)
                replace B := Lib.hid (bb B.out b)
                replace B8 := Lib.hid (bb B8.out b)
                clear b
                have cv1 := conv8 (c := c) O27.out.has O27L.out
                have cv2 := conv8 (c := c9) (O9.out.below B8.out (Nat.le_refl _)).has O9L.out
                go_wp2_with fail
                go_ret
                exact ⟨rfl, B.out⟩
  · have c4 : ¬ 10100 < (len : Int) := by omega
    go_wp2_with fail
    go_loopw [9, 10] (fun rv kv wr => ∃ (k L : Nat) (A : Option Addr) (c : Nat), k ≤ m ∧ kv = .int .i64 (k : Int) ∧ rv = .slice A L c ∧ L = (flat (rs.take k)).length ∧ OwnZ wr w.heap.size (.slice A L c) (flat (rs.take k)) ∧ Below w.heap.size w wr) (fun _ kv _ => m - (intOf kv).toNat)
    case atStart => exact ⟨0, 0, none, 0, Nat.zero_le _, rfl, rfl, by simp [flat], by rw [List.take_zero]; exact .inr ⟨rfl, none, rfl⟩, Below.refl _ _⟩
    case round =>
      obtain ⟨k, L, A, c, hk, rfl, rfl, hL, own, acc⟩ := hrel
      have HO := Lib.hid own
      have HACC := Lib.hid acc
      have HLE := Lib.hid hL
      have HL2 : Hid (L ≤ 1048576) := Lib.hid (by rw [hL]; exact HFL.out k)
      by_cases hlt : k < m
      · obtain ⟨b, off, rfl, -, -⟩ := HR.out.h.some (by rw [HRL.out]; omega)
        have cf := rowCell HR.out k hlt _ acc
        have hin := HR.out.h.get k (by rw [HRL.out]; exact hlt)
        have HS := Lib.hid (flat_snoc rs k (by rw [HRL.out]; exact hlt))
        have HF2 := Lib.hid (HFL.out (k + 1))
        rw [HS.out, List.length_append] at HF2
        have HLT := Lib.hid hlt
        have k1 : (k : Int) < m := by omega
        have k0 : 0 ≤ (k : Int) := by omega
        generalize rs.getD k r80 = r at *
        obtain ⟨rA, rn, rc, rb⟩ := r
        have HIR := Lib.hid hin
        dsimp only at cf HS HF2
        clear own acc hk hL hlt hin
        have HFB : Hid (L + rn ≤ 1048576) := Lib.hid (by have h1 := HF2.out; have h2 := HIR.out.e; have h3 := HLE.out; dsimp only at h2; omega)
        go_wp2_with (at_builtin; refine app8z rfl _ _ rfl w.heap.size _ (flat (rs.take k)) rfl HO.out rA rn rc rb rfl HIR.out.e (HIR.out.h.below (HACC.out) (Nat.le_refl _)) (L + rn) (by rw [HLE.out]) (by have := HFB.out; omega) HACC.out.size ?_; intro A4 c4 w4 ho4 hk4 hb4; have HO4 := Lib.hid ho4; have HB4 := Lib.hid (HACC.out.trans hb4); clear ho4 hk4 hb4 cf)
        go_roundw
        case rel => exact ⟨k + 1, L + rn, A4, c4, HLT.out, by go_num, rfl, by rw [HS.out, List.length_append, ← HLE.out]; congr 1; exact HIR.out.e.symm, by rw [HS.out]; exact HO4.out, HB4.out⟩
        case measure => simp [intOf]; have := HLT.out; omega
      · have k1 : ¬ (k : Int) < m := by omega
        have O9 : Hid (OwnZ wr w.heap.size (.slice A L c) (flat rs)) := Lib.hid (by rw [List.take_of_length_le (by rw [HRL.out]; omega)] at own; exact own)
        have O9L : Hid ((flat rs).length = L) := Lib.hid (by rw [List.take_of_length_le (by rw [HRL.out]; omega)] at hL; exact hL.symm)
        clear hk hlt own acc hL HO HLE HL2
        replace B := HACC
        clear HACC
        generalize hA9 : A = A9 at *
        clear hA9
        generalize hL9 : L = L9 at *
        clear hL9
        generalize hc9 : c = c9 at *
        clear hc9
        rename World => w8
        have B8 := Lib.hid (Below.refl w8.heap.size w8)
        go_wp2_with fail
        refine (Leaf_any p a len cap _ (HT.out.below B.out (Nat.le_refl _)) (HIN.out.h.below B.out (Nat.le_refl _)) HIN.out.e HIN.out.c1 HIN.out.c2 HIN.out.b).mono ?_
        rintro e w1 ⟨rfl, b⟩
        rw [Q.out.1, Q.out.2.1]
        replace B := Lib.hid (bb B.out b)
        replace B8 := Lib.hid (bb B8.out b)
        clear b
        have Y := Lib.hid (z20_at w1 rfl)
        have G := bnew w1 (.cells #[.int .u8 0, .int .u8 0, .int .u8 0, .int .u8 0, .int .u8 0, .int .u8 0, .int .u8 0, .int .u8 0, .int .u8 0, .int .u8 0, .int .u8 0, .int .u8 0, .int .u8 0, .int .u8 0, .int .u8 0, .int .u8 0, .int .u8 0, .int .u8 0, .int .u8 0, .int .u8 0] 26)
        have LEB := Lib.hid B.out.size
        have LEB8 := Lib.hid B8.out.size
        replace B := Lib.hid (bb B.out G)
        replace B8 := Lib.hid (bb B8.out G)
        clear G
        go_wp2_with (first | (show wpList _ _ _ ({ dst := none, op := Op.store 26 (.tmp 11) _, type := _, pos := _, after := _, guard := _ } :: _) _ _; go_must (refine trW.wp_st (g := w1.heap.size) (l := xl) (by rfl) _ _ rfl (Y.out) (zd_isD.len) (H_xl.out.len) rfl rfl ?_); intro w1s hR hg hb hz; have D11 := Lib.hid hR; replace B := Lib.hid (B.out.trans (hb.mono LEB.out)); replace B8 := Lib.hid (B8.out.trans (hb.mono LEB8.out)); clear hR hg hb hz Y LEB LEB8 ))
        refine (rLeaf_any p a len cap _ (HIN.out.h.below B.out (Nat.le_refl _)) HIN.out.e (by have := HIN.out.c1; have := HIN.out.c2; dsimp only at *; omega) HIN.out.b).mono ?_
        rintro e w2 ⟨rfl, b⟩
        rw [Q.out.1, Q.out.2.1]
        replace D11 := Lib.hid (D11.out.past b)
        replace B := Lib.hid (bb B.out b)
        replace B8 := Lib.hid (bb B8.out b)
        clear b
        have Y := Lib.hid (z20_at w2 rfl)
        have G := bnew w2 (.cells #[.int .u8 0, .int .u8 0, .int .u8 0, .int .u8 0, .int .u8 0, .int .u8 0, .int .u8 0, .int .u8 0, .int .u8 0, .int .u8 0, .int .u8 0, .int .u8 0, .int .u8 0, .int .u8 0, .int .u8 0, .int .u8 0, .int .u8 0, .int .u8 0, .int .u8 0, .int .u8 0] 26)
        have LEB := Lib.hid B.out.size
        have LEB8 := Lib.hid B8.out.size
        have LD11 := Lib.hid D11.out.lt
        replace D11 := Lib.hid (D11.out.past G)
        replace B := Lib.hid (bb B.out G)
        replace B8 := Lib.hid (bb B8.out G)
        clear G
        go_wp2_with (first | (show wpList _ _ _ ({ dst := none, op := Op.store 26 (.tmp 13) _, type := _, pos := _, after := _, guard := _ } :: _) _ _; go_must (refine trW.wp_st (g := w2.heap.size) (l := xl) (by rfl) _ _ rfl (Y.out) (zd_isD.len) (H_xl.out.len) rfl rfl ?_); intro w2s hR hg hb hz; have D13 := Lib.hid hR; replace D11 := Lib.hid (D11.out.far hg (show w1.heap.size ≠ w2.heap.size by have := LD11.out; omega)); replace B := Lib.hid (B.out.trans (hb.mono LEB.out)); replace B8 := Lib.hid (B8.out.trans (hb.mono LEB8.out)); clear hR hg hb hz Y LEB LEB8 LD11))
        refine (Root_any rs P m d _ (HT.out.below B.out (Nat.le_refl _)) (HR.out.below B.out (Nat.le_refl _))).mono ?_
        rintro e w3 ⟨rfl, b⟩
        rw [Q.out.2.2.1, Q.out.2.2.2]
        replace D11 := Lib.hid (D11.out.past b)
        replace D13 := Lib.hid (D13.out.past b)
        replace B := Lib.hid (bb B.out b)
        replace B8 := Lib.hid (bb B8.out b)
        clear b
        have Y := Lib.hid (z20_at w3 rfl)
        have G := bnew w3 (.cells #[.int .u8 0, .int .u8 0, .int .u8 0, .int .u8 0, .int .u8 0, .int .u8 0, .int .u8 0, .int .u8 0, .int .u8 0, .int .u8 0, .int .u8 0, .int .u8 0, .int .u8 0, .int .u8 0, .int .u8 0, .int .u8 0, .int .u8 0, .int .u8 0, .int .u8 0, .int .u8 0] 26)
        have LEB := Lib.hid B.out.size
        have LEB8 := Lib.hid B8.out.size
        have LD11 := Lib.hid D11.out.lt
        have LD13 := Lib.hid D13.out.lt
        replace D11 := Lib.hid (D11.out.past G)
        replace D13 := Lib.hid (D13.out.past G)
        replace B := Lib.hid (bb B.out G)
        replace B8 := Lib.hid (bb B8.out G)
        clear G
        go_wp2_with (first | (show wpList _ _ _ ({ dst := none, op := Op.store 26 (.tmp 15) _, type := _, pos := _, after := _, guard := _ } :: _) _ _; go_must (refine trW.wp_st (g := w3.heap.size) (l := xr) (by rfl) _ _ rfl (Y.out) (zd_isD.len) (H_xr.out.len) rfl rfl ?_); intro w3s hR hg hb hz; have D15 := Lib.hid hR; replace D11 := Lib.hid (D11.out.far hg (show w1.heap.size ≠ w3.heap.size by have := LD11.out; omega)); replace D13 := Lib.hid (D13.out.far hg (show w2.heap.size ≠ w3.heap.size by have := LD13.out; omega)); replace B := Lib.hid (B.out.trans (hb.mono LEB.out)); replace B8 := Lib.hid (B8.out.trans (hb.mono LEB8.out)); clear hR hg hb hz Y LEB LEB8 LD11 LD13))
        refine (rRoot_any rs P m d _ (HR.out.below B.out (Nat.le_refl _))).mono ?_
        rintro e w4 ⟨rfl, b⟩
        rw [Q.out.2.2.1, Q.out.2.2.2]
        replace D11 := Lib.hid (D11.out.past b)
        replace D13 := Lib.hid (D13.out.past b)
        replace D15 := Lib.hid (D15.out.past b)
        replace B := Lib.hid (bb B.out b)
        replace B8 := Lib.hid (bb B8.out b)
        clear b
        have Y := Lib.hid (z20_at w4 rfl)
        have G := bnew w4 (.cells #[.int .u8 0, .int .u8 0, .int .u8 0, .int .u8 0, .int .u8 0, .int .u8 0, .int .u8 0, .int .u8 0, .int .u8 0, .int .u8 0, .int .u8 0, .int .u8 0, .int .u8 0, .int .u8 0, .int .u8 0, .int .u8 0, .int .u8 0, .int .u8 0, .int .u8 0, .int .u8 0] 26)
        have LEB := Lib.hid B.out.size
        have LEB8 := Lib.hid B8.out.size
        have LD11 := Lib.hid D11.out.lt
        have LD13 := Lib.hid D13.out.lt
        have LD15 := Lib.hid D15.out.lt
        replace D11 := Lib.hid (D11.out.past G)
        replace D13 := Lib.hid (D13.out.past G)
        replace D15 := Lib.hid (D15.out.past G)
        replace B := Lib.hid (bb B.out G)
        replace B8 := Lib.hid (bb B8.out G)
        clear G
        go_wp2_with (first | (show wpList _ _ _ ({ dst := none, op := Op.store 26 (.tmp 17) _, type := _, pos := _, after := _, guard := _ } :: _) _ _; go_must (refine trW.wp_st (g := w4.heap.size) (l := xr) (by rfl) _ _ rfl (Y.out) (zd_isD.len) (H_xr.out.len) rfl rfl ?_); intro w4s hR hg hb hz; have D17 := Lib.hid hR; replace D11 := Lib.hid (D11.out.far hg (show w1.heap.size ≠ w4.heap.size by have := LD11.out; omega)); replace D13 := Lib.hid (D13.out.far hg (show w2.heap.size ≠ w4.heap.size by have := LD13.out; omega)); replace D15 := Lib.hid (D15.out.far hg (show w3.heap.size ≠ w4.heap.size by have := LD15.out; omega)); replace B := Lib.hid (B.out.trans (hb.mono LEB.out)); replace B8 := Lib.hid (B8.out.trans (hb.mono LEB8.out)); clear hR hg hb hz Y LEB LEB8 LD11 LD13 LD15))
        refine (Prove_any rs i P m d _ (HT.out.below B.out (Nat.le_refl _)) (HR.out.below B.out (Nat.le_refl _)) HNI.out.2.2.1 HNI.out.2.2.2).mono ?_
        rintro e w5 ⟨⟨A19, c19, rfl, o19⟩, b⟩
        rw [Q2.out.2.1]
        rw [Q2.out.1, HQL.out] at o19
        rw [Q2.out.1, HQL.out]
        have O19 := Lib.hid o19
        clear o19
        replace D11 := Lib.hid (D11.out.past b)
        replace D13 := Lib.hid (D13.out.past b)
        replace D15 := Lib.hid (D15.out.past b)
        replace D17 := Lib.hid (D17.out.past b)
        replace B := Lib.hid (bb B.out b)
        replace B8 := Lib.hid (bb B8.out b)
        clear b
        go_wp2_with fail
        refine (rProve_any rs i P m d _ (HR.out.below B.out (Nat.le_refl _)) HNI.out.2.2.1 HNI.out.2.2.2).mono ?_
        rintro e w6 ⟨⟨A21, c21, rfl, o21⟩, b⟩
        rw [Q2.out.2.1]
        rw [Q2.out.1, HQL.out] at o21
        rw [Q2.out.1, HQL.out]
        have O21 := Lib.hid o21
        clear o21
        replace D11 := Lib.hid (D11.out.past b)
        replace D13 := Lib.hid (D13.out.past b)
        replace D15 := Lib.hid (D15.out.past b)
        replace D17 := Lib.hid (D17.out.past b)
        replace O19 := Lib.hid (O19.out.past b)
        replace B := Lib.hid (bb B.out b)
        replace B8 := Lib.hid (bb B8.out b)
        clear b
        go_wp2_with fail
        refine (Steps_any n i _ HNI.out.1 HNI.out.2.1 HNI.out.2.2.1 HNI.out.2.2.2).mono ?_
        rintro e w7 ⟨rfl, b⟩
        rw [Q2.out.2.2.1, Q2.out.2.2.2]
        replace D11 := Lib.hid (D11.out.past b)
        replace D13 := Lib.hid (D13.out.past b)
        replace D15 := Lib.hid (D15.out.past b)
        replace D17 := Lib.hid (D17.out.past b)
        replace O19 := Lib.hid (O19.out.past b)
        replace O21 := Lib.hid (O21.out.past b)
        replace B := Lib.hid (bb B.out b)
        replace B8 := Lib.hid (bb B8.out b)
        clear b
        go_wp2_with fail
        refine (rSteps_any n i _ HNI.out.1 HNI.out.2.1 HNI.out.2.2.1 HNI.out.2.2.2).mono ?_
        rintro e _ ⟨rfl, rfl⟩
        rename World => w9
        rw [Q2.out.2.2.1, Q2.out.2.2.2]
        go_wp2_with fail
        go_loopw [27, 28] (fun rv kv wr => ∃ (k L : Nat) (A : Option Addr) (c : Nat), k ≤ m ∧ kv = .int .i64 (k : Int) ∧ rv = .slice A L c ∧ L = (flat (rs.take k)).length ∧ OwnZ wr w9.heap.size (.slice A L c) (flat (rs.take k)) ∧ Below w9.heap.size w9 wr) (fun _ kv _ => m - (intOf kv).toNat)
        case atStart => exact ⟨0, 0, none, 0, Nat.zero_le _, rfl, rfl, by simp [flat], by rw [List.take_zero]; exact .inr ⟨rfl, none, rfl⟩, Below.refl _ _⟩
        case round =>
          obtain ⟨k, L, A, c, hk, rfl, rfl, hL, own, acc⟩ := hrel
          have HO := Lib.hid own
          have HACC := Lib.hid acc
          have HLE := Lib.hid hL
          have HL2 : Hid (L ≤ 1048576) := Lib.hid (by rw [hL]; exact HFL.out k)
          by_cases hlt : k < m
          · obtain ⟨b, off, rfl, -, -⟩ := HR.out.h.some (by rw [HRL.out]; omega)
            have cf := rowCell HR.out k hlt _ (bb B.out acc)
            have hin := HR.out.h.get k (by rw [HRL.out]; exact hlt)
            have HS := Lib.hid (flat_snoc rs k (by rw [HRL.out]; exact hlt))
            have HF2 := Lib.hid (HFL.out (k + 1))
            rw [HS.out, List.length_append] at HF2
            have HLT := Lib.hid hlt
            have k1 : (k : Int) < m := by omega
            have k0 : 0 ≤ (k : Int) := by omega
            generalize rs.getD k r80 = r at *
            obtain ⟨rA, rn, rc, rb⟩ := r
            have HIR := Lib.hid hin
            dsimp only at cf HS HF2
            clear own acc hk hL hlt hin
            have HFB : Hid (L + rn ≤ 1048576) := Lib.hid (by have h1 := HF2.out; have h2 := HIR.out.e; have h3 := HLE.out; dsimp only at h2; omega)
            go_wp2_with (at_builtin; refine app8z rfl _ _ rfl w9.heap.size _ (flat (rs.take k)) rfl HO.out rA rn rc rb rfl HIR.out.e (HIR.out.h.below ((bb B.out HACC.out)) (Nat.le_refl _)) (L + rn) (by rw [HLE.out]) (by have := HFB.out; omega) HACC.out.size ?_; intro A4 c4 w4 ho4 hk4 hb4; have HO4 := Lib.hid ho4; have HB4 := Lib.hid (HACC.out.trans hb4); clear ho4 hk4 hb4 cf)
            go_roundw
            case rel => exact ⟨k + 1, L + rn, A4, c4, HLT.out, by go_num, rfl, by rw [HS.out, List.length_append, ← HLE.out]; congr 1; exact HIR.out.e.symm, by rw [HS.out]; exact HO4.out, HB4.out⟩
            case measure => simp [intOf]; have := HLT.out; omega
          · have k1 : ¬ (k : Int) < m := by omega
            have O27 : Hid (OwnZ wr w9.heap.size (.slice A L c) (flat rs)) := Lib.hid (by rw [List.take_of_length_le (by rw [HRL.out]; omega)] at own; exact own)
            have O27L : Hid ((flat rs).length = L) := Lib.hid (by rw [List.take_of_length_le (by rw [HRL.out]; omega)] at hL; exact hL.symm)
            clear hk hlt own acc hL HO HLE HL2
            replace D11 := Lib.hid (D11.out.past HACC.out)
            replace D13 := Lib.hid (D13.out.past HACC.out)
            replace D15 := Lib.hid (D15.out.past HACC.out)
            replace D17 := Lib.hid (D17.out.past HACC.out)
            replace O19 := Lib.hid (O19.out.past HACC.out)
            replace O21 := Lib.hid (O21.out.past HACC.out)
            replace B := Lib.hid (bb B.out HACC.out)
            replace B8 := Lib.hid (bb B8.out HACC.out)
            clear HACC
            go_wp2_with (first | (show wpList _ _ _ ({ dst := _, op := Op.load 26 (.tmp 11), type := _, pos := _, after := _, guard := _ } :: _) _ _; go_must (refine trW.wp_l0 (l := xl) (by rfl) _ rfl (D11.out) (H_xl.out.len) rfl ?_)) | (show wpList _ _ _ ({ dst := _, op := Op.load 26 (.tmp 13), type := _, pos := _, after := _, guard := _ } :: _) _ _; go_must (refine trW.wp_l0 (l := xl) (by rfl) _ rfl (D13.out) (H_xl.out.len) rfl ?_)) | (show wpList _ _ _ ({ dst := _, op := Op.load 26 (.tmp 15), type := _, pos := _, after := _, guard := _ } :: _) _ _; go_must (refine trW.wp_l0 (l := xr) (by rfl) _ rfl (D15.out) (H_xr.out.len) rfl ?_)) | (show wpList _ _ _ ({ dst := _, op := Op.load 26 (.tmp 17), type := _, pos := _, after := _, guard := _ } :: _) _ _; go_must (refine trW.wp_l0 (l := xr) (by rfl) _ rfl (D17.out) (H_xr.out.len) rfl ?_)) | (show wpList _ _ _ ({ dst := _, op := Op.binOp .eql 26 _ _ _, type := _, pos := _, after := _, guard := _ } :: _) _ _; refine trW.wp_eqs (by rfl) _ _ _ rfl ?hl rfl rfl ?_; (case hl => first | exact H_xl.out | exact H_xr.out)))
            refine (SameSums_any ps ps A19 A21 q q c19 c21 _ O19.out.has O21.out.has HQL.out HQL.out (by omega) (by omega)).mono ?_
            rintro e w8 ⟨rfl, b⟩
            rw [decide_eq_true (rfl : ps = ps)]
            replace O27 := Lib.hid (O27.out.below b (Nat.le_refl _))
            replace D11 := Lib.hid (D11.out.past b)
            replace D13 := Lib.hid (D13.out.past b)
            replace D15 := Lib.hid (D15.out.past b)
            replace D17 := Lib.hid (D17.out.past b)
            replace O19 := Lib.hid (O19.out.past b)
            replace O21 := Lib.hid (O21.out.past b)
            replace B := Lib.hid (bb B.out b)
            replace B8 := Lib.hid (bb B8.out b)
            clear b
            have cv1 := conv8 (c := c) O27.out.has O27L.out
            have cv2 := conv8 (c := c9) (O9.out.below B8.out (Nat.le_refl _)).has O9L.out
            go_wp2_with fail
            go_ret
            exact ⟨rfl, B.out⟩
end Go.Proofs.YtjdgobfjpjnhgaaDoor.trW
