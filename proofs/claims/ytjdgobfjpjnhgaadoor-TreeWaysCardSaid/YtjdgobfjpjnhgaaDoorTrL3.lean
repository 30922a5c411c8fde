/- TreeWays, by a walk. -/
import Derived.Test.YtjdgobfjpjnhgaaDoorTrB
namespace Go.Proofs.YtjdgobfjpjnhgaaDoor.trW
set_option maxRecDepth 100000
open Go.RowKit Go.Proofs.YtjdgobfjpjnhgaaDoor.base Go.Proofs.YtjdgobfjpjnhgaaDoor.shP Go.Proofs.YtjdgobfjpjnhgaaDoor.shW Go.Proofs.YtjdgobfjpjnhgaaDoor.trP
set_option linter.unusedVariables false
set_option linter.unusedSimpArgs false
set_option maxRecDepth 100000
theorem half_pow (a : Nat) : half (2 ^ (a + 1)) = 2 ^ a := by
  have h0 : 1 ≤ 2 ^ a := Nat.one_le_two_pow
  exact (half_uniq (a := a) (by rw [Nat.pow_succ]; omega) rfl (by rw [Nat.pow_succ]; omega) (by rw [Nat.pow_succ]; omega)).symm
/-- In a full tree all ways are as long. -/
theorem sides_pow : ∀ (a i : Nat), i < 2 ^ a → (sidesT (2 ^ a) i).length = a
  | 0, i, h => by rw [sides_one (by simp)]; rfl
  | a + 1, i, h => by
    have h0 : 1 ≤ 2 ^ a := Nat.one_le_two_pow
    have h2 : 2 ≤ 2 ^ (a + 1) := by rw [Nat.pow_succ]; omega
    rw [sides_step h2, half_pow]
    split
    · rename_i hc
      rw [sides_pow a i hc]; omega
    · rw [show 2 ^ (a + 1) - 2 ^ a = 2 ^ a by rw [Nat.pow_succ]; omega, sides_pow a (i - 2 ^ a) (by rw [Nat.pow_succ] at h; omega)]; omega
/-- The last way is the shortest. -/
theorem sides_last : ∀ (n i : Nat), i < n → (sidesT n (n - 1)).length ≤ (sidesT n i).length := by
  intro n
  induction n using Nat.strongRecOn with
  | _ n ih =>
    intro i hi
    by_cases h2 : 2 ≤ n
    · have k1 := half_pos n
      have k2 := half_lt h2
      have k3 := half_two h2
      rw [sides_step h2, sides_step h2 i, if_neg (by omega)]
      have e : n - 1 - half n = (n - half n) - 1 := by omega
      rw [e]
      split
      · rename_i hc
        have a1 : (sidesT (half n) i).length = Nat.log2 (n - 1) := sides_pow (Nat.log2 (n - 1)) i hc
        have a2 := sides_le (Nat.log2 (n - 1)) (n - half n) (n - half n - 1) (by have : half n = 2 ^ Nat.log2 (n - 1) := rfl; omega)
        omega
      · have := ih (n - half n) (by omega) (i - half n) (by omega)
        omega
    · rw [sides_one h2, sides_one h2]; simp
/-- A bit of a byte turned. -/
theorem xor_bd {x : Int} (h : 0 ≤ x ∧ x ≤ 255) : 0 ≤ bits .xor .u8 x 1 ∧ bits .xor .u8 x 1 ≤ 255 := by
  have H : ∀ n : Fin 256, 0 ≤ bits .xor .u8 (n.val : Int) 1 ∧ bits .xor .u8 (n.val : Int) 1 ≤ 255 := by decide +kernel
  have := H ⟨x.toNat, by omega⟩
  have e : ((⟨x.toNat, by omega⟩ : Fin 256).val : Int) = x := by show ((x.toNat : Nat) : Int) = x; omega
  rw [e] at this
  exact this
theorem set_zero_isD {d : List Int} (h : IsD d) {y : Int} (hy : 0 ≤ y ∧ y ≤ 255) : IsD (d.set 0 y) := ⟨by rw [List.length_set, h.len], fun z hz => by
  rcases List.mem_or_eq_of_mem_set hz with h1 | rfl
  · exact h.bd z h1
  · exact hy⟩
theorem dL_byte {ls : List (List Int)} (h : AllD ls) {i : Nat} (hi : i < ls.length) (y : Int) : dL (ls.set i ((ls.getD i zd).set 0 y)) = (dL ls).set (i * 20) y := by
  have hd := (h.get hi).len
  have e1 : ls = ls.take i ++ ls.getD i zd :: ls.drop (i + 1) := by
    conv => lhs; rw [← List.take_append_drop i ls, List.drop_eq_getElem_cons hi]
    rw [gd zd ls i hi]
  have l1 : (dL (ls.take i)).length = i * 20 := by rw [dL_len (h.take i), List.length_take]; congr 1; omega
  generalize ls.getD i zd = d at *
  rw [List.set_eq_take_append_cons_drop, if_pos hi]
  conv => rhs; rw [e1]
  rw [dL_app, dL_app, show d.set 0 y :: ls.drop (i + 1) = [d.set 0 y] ++ ls.drop (i + 1) from rfl, show d :: ls.drop (i + 1) = [d] ++ ls.drop (i + 1) from rfl, dL_app, dL_app, dL_one, dL_one]
  rw [List.set_append_right _ _ (by omega), l1, Nat.sub_self]
  match d, hd with
  | a :: r, _ => rfl
theorem OwnD.byte {w : World} {B g n c i : Nat} {ls : List (List Int)} (h : OwnD w B (.slice (some ⟨g, 0, none⟩) n c) ls) (hi : i < n) {y : Int} (hy : 0 ≤ y ∧ y ≤ 255) : OwnD (w.setCell ⟨g, i * 20, none⟩ (.int .u8 y)) B (.slice (some ⟨g, 0, none⟩) n c) (ls.set i ((ls.getD i zd).set 0 y)) := by
  have hn := h.len.1
  refine ⟨?_, h.d.set i (set_zero_isD (h.d.getz i) hy)⟩
  have := (World.ownsRow.stored (by have := h.o; rw [← hn] at this; exact this) (i * 20) (.int .u8 y)).1
  rw [List.length_set, ← hn, dL_byte h.d (by omega)]
  rw [show sv ((dL ls).set (i * 20) y) = (sv (dL ls)).set (i * 20) (.int .u8 y) by simp [sv, List.map_set]]
  exact this
theorem OwnD.zero {w : World} {B g n c i : Nat} {ls : List (List Int)} (h : OwnD w B (.slice (some ⟨g, 0, none⟩) n c) ls) (hi : i < n) : w.cell? ⟨g, i * 20, none⟩ = some (.int .u8 ((ls.getD i zd).getD 0 0)) ∧ w.frozen? ⟨g, i * 20, none⟩ = false := by
  have hn := h.len.1
  subst hn
  refine ⟨?_, h.o.frozenAt (i * 20)⟩
  have hd := (h.d.get hi).len
  rw [h.o.cellAt (i * 20) (by omega), sv, List.getElem?_map]
  have e : (dL ls)[i * 20]? = some ((ls.getD i zd).getD 0 0) := by
    rw [← dL_at h.d hi, List.getD_eq_getElem?_getD, List.getElem?_take, if_pos (by omega), List.getElem?_drop, Nat.add_zero, List.getElem?_eq_getElem (by rw [dL_len h.d]; omega)]; rfl
  rw [e]; rfl
theorem own_empty (w : World) {B g : Nat} (hB : B ≤ g) (hg : w.heap.size = g) : OwnD (w.alloc (.cells #[] 26)) B (.slice (some ⟨g, 0, none⟩) 0 0) [] := by
  subst hg
  exact ⟨⟨rfl, .inr ⟨w.heap.size, 0, #[], rfl, hB, Array.getElem?_push_size, Nat.le_refl _, Nat.zero_le _, rfl, rfl⟩⟩, AllD.nil⟩
theorem ver_any {r : List Int} {m i : Nat} {b : List Int} {ls wrong : List (List Int)} (hb : b.length ≤ 10000) (hl : ls.length = m) (h1 : i < m) (h2 : m ≤ 600) (hw : wrong.length = (prD ls i).length) : goE (m : Int) (i : Int) wrong = 0 ∧ vE (m : Int) (i : Int) b wrong = 0 ∧ vB r (m : Int) (i : Int) b wrong = decide (goV (m : Int) (i : Int) (leafD b) wrong = r) := by
  have hwl := (way_len hl h1 h2 rfl).1
  have hy := go_yes (d := leafD b) (ls := wrong) (okN_of h1 h2) (by rw [hw, hwl])
  have hv := v_ok (r := r) (n := (m : Int)) (i := (i : Int)) hb hy.1
  exact ⟨hy.1, hv.1, hv.2⟩
theorem dig_bound {L k x : Nat} (hx : x = L / 2 ^ k) (h : 0 < x) (hL : L < 600) (hk : k ≤ 10) : k + 1 ≤ 10 := by
  rcases Nat.lt_or_ge k 10 with h1 | h1
  · omega
  · exfalso
    have hk10 : k = 10 := by omega
    rw [hk10, Nat.div_eq_of_lt (by omega)] at hx
    omega
theorem dig_end {L k : Nat} (h : 0 = L / 2 ^ k) : L + 1 ≤ 2 ^ k := by
  rcases Nat.lt_or_ge L (2 ^ k) with h1 | h1
  · omega
  · exfalso
    have := Nat.div_pos h1 Nat.one_le_two_pow
    omega

set_option maxHeartbeats 8000000 in
theorem ways (n i : Int) (P : Option Addr) (m d : Nat) (rs : List R8) (ai si : Int) (w : World) (hn1 : -9223372036854775808 ≤ n) (hn2 : n ≤ 9223372036854775807) (hi1 : -9223372036854775808 ≤ i) (hi2 : i ≤ 9223372036854775807) (hr : RowsB w P m d rs) (ha1 : -9223372036854775808 ≤ ai) (ha2 : ai ≤ 9223372036854775807) (hs1 : -9223372036854775808 ≤ si) (hs2 : si ≤ 9223372036854775807) (hT : Tab w) :
    Calls Tryd.prog 8 #[.int .i64 n, .int .i64 i, .slice P m d, .int .i64 ai, .int .i64 si] w fun e w' => e = .returned (.bool true) ∧ Below w.heap.size w w' := by
  have HR := Lib.hid hr
  have HT := Lib.hid hT
  have HB0 := Lib.hid (And.intro ha1 (And.intro ha2 (And.intro hs1 hs2)))
  have m1 : (m : Int) ≤ 9223372036854775807 := by have := hr.c1; have := hr.c2; omega
  have B := Lib.hid (Below.refl w.heap.size w)
  clear hT hr
  go_enter Tryd.func8, Tryd.ntmps8
  go_wp2_with fail
  refine (alive_yes w HT.out).mono ?_
  rintro e w1 ⟨rfl, b⟩
  replace B := Lib.hid (bb B.out b)
  clear b
  by_cases c0 : n < 1
  · go_wp2_with fail
    go_ret
    exact ⟨rfl, B.out⟩
  by_cases c1 : 600 < n
  · go_wp2_with fail
    go_ret
    exact ⟨rfl, B.out⟩
  by_cases c2 : i < 0
  · go_wp2_with fail
    go_ret
    exact ⟨rfl, B.out⟩
  by_cases c3 : n ≤ i
  · go_wp2_with fail
    go_ret
    exact ⟨rfl, B.out⟩
  obtain ⟨N, rfl⟩ := Int.eq_ofNat_of_zero_le (by omega : 0 ≤ n)
  obtain ⟨I, rfl⟩ := Int.eq_ofNat_of_zero_le (by omega : 0 ≤ i)
  obtain ⟨L, hL⟩ : ∃ L, N - 1 = L := ⟨_, rfl⟩
  have HN : Hid (1 ≤ N ∧ N ≤ 600 ∧ I < N ∧ N = L + 1) := Lib.hid (by omega)
  have z1 : (N : Int) - 1 = (L : Int) := by omega
  have z2 : IntKind.i64.wrap (L : Int) = (L : Int) := IntWalk.i64_in _ (by omega)
  have n1 : 1 ≤ (N : Int) := by omega
  have n6 : (N : Int) ≤ 600 := by omega
  have i0 : 0 ≤ (I : Int) := by omega
  have i1 : (I : Int) < N := by omega
  have L6 : (L : Int) < 600 := by omega
  have L0 : 0 ≤ (L : Int) := by omega
  have U1 := Lib.hid (sd_yes (okN_of HN.out.2.2.1 HN.out.2.1))
  have U2 := Lib.hid (sd_yes (okN_of (i := L) (m := N) (by have := HN.out; omega) HN.out.2.1))
  rw [show ((N : Int)).toNat = N from rfl, show ((I : Int)).toNat = I from rfl] at U1
  rw [show ((N : Int)).toNat = N from rfl, show ((L : Int)).toNat = L from rfl] at U2
  have U3 := Lib.hid (sides_last N I HN.out.2.2.1)
  rw [hL] at U3
  have U4 := Lib.hid (fun k (h : N ≤ 2 ^ k) => sides_le k N I h)
  obtain ⟨s, hs⟩ : ∃ s, (sidesT N I).length = s := ⟨_, rfl⟩
  obtain ⟨t, ht⟩ : ∃ t, (sidesT N L).length = t := ⟨_, rfl⟩
  rw [hs, ht] at U3
  rw [hs] at U4
  have U1 : Hid ((sdL (N : Int) (I : Int)).length = s ∧ sdE (N : Int) (I : Int) = 0) := Lib.hid ⟨by rw [U1.out.1]; exact hs, U1.out.2⟩
  have U2 : Hid ((sdL (N : Int) (L : Int)).length = t ∧ sdE (N : Int) (L : Int) = 0) := Lib.hid ⟨by rw [U2.out.1]; exact ht, U2.out.2⟩
  have ts : (t : Int) ≤ s := by have := U3.out; omega
  have HB1 := Lib.hid (And.intro hn1 (And.intro hn2 (And.intro hi1 hi2)))
  clear hs ht hL c0 c1 c2 c3 hn1 hn2 hi1 hi2 ha1 ha2 hs1 hs2
  go_wp2_with fail
  refine (Steps_any (N : Int) (I : Int) _ (by omega) (by omega) (by omega) (by omega)).mono ?_
  rintro e w2 ⟨rfl, b⟩
  rw [U1.out.1, U1.out.2]
  replace B := Lib.hid (bb B.out b)
  clear b
  go_wp2_with fail
  refine (Steps_any (N : Int) (L : Int) _ (by omega) (by omega) (by omega) (by omega)).mono ?_
  rintro e w3 ⟨rfl, b⟩
  rw [U2.out.1, U2.out.2]
  replace B := Lib.hid (bb B.out b)
  clear b
  go_wp2_with fail
  rename World => w3
  go_loopw [16, 17] (fun kv xv wr => ∃ k x : Nat, kv = .int .i64 (k : Int) ∧ xv = .int .i64 (x : Int) ∧ x = L / 2 ^ k ∧ k ≤ 10 ∧ wr = w3) (fun _ xv _ => (intOf xv).toNat)
  case atStart => exact ⟨0, L, rfl, rfl, by simp, by omega, rfl⟩
  case round =>
    obtain ⟨k, x, rfl, rfl, hx, hk, rfl⟩ := hrel
    by_cases c : 0 < x
    · have x1 : 0 < (x : Int) := by omega
      have hx9 : x ≤ L := by rw [hx]; exact Nat.div_le_self _ _
      have x2 : (x : Int) ≤ 600 := by have := HN.out; omega
      have HX := Lib.hid hx
      have HXP := Lib.hid c
      have HK : Hid (k + 1 ≤ 10) := Lib.hid (dig_bound hx c (by have := HN.out; omega) hk)
      have d1 : Int.tdiv (x : Int) 2 = ((x / 2 : Nat) : Int) := by rw [Int.tdiv_eq_ediv_of_nonneg (by omega)]; rfl
      have d2 : IntKind.i64.wrap ((x / 2 : Nat) : Int) = ((x / 2 : Nat) : Int) := IntWalk.i64_in _ (by omega)
      have k1 : (k : Int) ≤ 10 := by omega
      have k0 : 0 ≤ (k : Int) := by omega
      obtain ⟨y, hy⟩ : ∃ y, x / 2 = y := ⟨_, rfl⟩
      rw [hy] at d1 d2
      have HY := Lib.hid hy
      clear hx c hk hx9 hy
      go_wp2_with fail
      go_roundw
      case rel => exact ⟨k + 1, y, by go_num, rfl, by rw [← HY.out, HX.out, Nat.div_div_eq_div_mul, Nat.pow_succ], HK.out, by trivial⟩
      case measure => simp [intOf]; have := HY.out; have := HXP.out; omega
    have hx0 : x = 0 := by omega
    subst hx0
    have hU := U4.out k (by have := dig_end hx; have := HN.out; omega)
    have sk : (s : Int) ≤ k := by omega
    have e0 : ((0 : Nat) : Int) = 0 := rfl
    clear hx c hU

    have HK0 := Lib.hid hk
    have k9 : (k : Int) ≤ 10 := by omega
    clear hk
    go_wp2_with fail
    refine (fit_any P m d rs _ (HR.out.below B.out (Nat.le_refl _))).mono ?_
    rintro e _ ⟨⟨b, rfl, hb⟩, rfl⟩
    rename World => w4
    cases b
    case false =>
      go_wp2_with fail
      go_ret
      exact ⟨rfl, B.out⟩
    have HF := Lib.hid (hb rfl)
    clear hb
    by_cases c1 : ai < 0
    · go_wp2_with fail
      go_ret
      exact ⟨rfl, B.out⟩
    by_cases c2 : (m : Int) ≤ ai
    · go_wp2_with fail
      go_ret
      exact ⟨rfl, B.out⟩
    obtain ⟨a, rfl⟩ := Int.eq_ofNat_of_zero_le (by omega : 0 ≤ ai)
    have HIM : Hid (a < m) := Lib.hid (by omega)
    have a0 : 0 ≤ (a : Int) := by omega
    have a1 : (a : Int) < m := by omega
    have m20 : (m : Int) ≤ 20 := by have := HF.out.1; omega
    have HCH := Lib.hid (fit_ch HR.out HF.out)
    have HRL := Lib.hid HR.out.l
    obtain ⟨b, off, rfl, _, _⟩ := HR.out.h.some (by rw [HRL.out]; have := HIM.out; omega)
    have HII := Lib.hid (HR.out.h.get a (by rw [HRL.out]; exact HIM.out))
    have HCF := Lib.hid (fun w' hb => rowCell HR.out a HIM.out w' hb)
    have HLB := Lib.hid (ch_each HCH.out (k := a) (by rw [HRL.out]; exact HIM.out))
    have HVL : Hid ((lvs rs).length = m) := Lib.hid (by rw [lvs_len, HRL.out])
    have V0 : Hid (rtV rs = rtD (lvs rs) ∧ chE rs = 0) := Lib.hid ⟨rtV_yes HCH.out, chE_yes HCH.out⟩
    have V1 := Lib.hid (pr_in (i := (a : Int)) HCH.out ⟨by omega, by rw [HRL.out]; omega⟩)
    rw [show ((a : Int)).toNat = a from rfl] at V1
    generalize hrI : rs.getD a r80 = rI at *
    obtain ⟨rA, rn, rc, rb⟩ := rI
    dsimp only at HII HCF HLB
    clear hrI
    have V2 := Lib.hid (fun (r : List Int) (wrong : List (List Int)) (hw : wrong.length = (prD (lvs rs) a).length) => ver_any (r := r) (b := rb) HLB.out HVL.out HIM.out (by omega) hw)
    have V8 := Lib.hid (lf_yes HLB.out)
    have HQ := Lib.hid (prD_le (ls := lvs rs) (by rw [HVL.out]; omega) a)
    obtain ⟨xr, qr⟩ : ∃ x, rtD (lvs rs) = x := ⟨_, rfl⟩
    have H_xr : Hid (IsD xr) := Lib.hid (by rw [← qr]; exact rt_isD _ _ rfl (lvs_all rs))
    obtain ⟨xl, ql⟩ : ∃ x, leafD rb = x := ⟨_, rfl⟩
    have H_xl : Hid (IsD xl) := Lib.hid (by rw [← ql]; exact leaf_isD _)
    rw [qr] at V0
    rw [ql] at V8 V2
    obtain ⟨ps, hps⟩ : ∃ ps, prD (lvs rs) a = ps := ⟨_, rfl⟩
    rw [hps] at V1 V2 HQ
    obtain ⟨q, hq⟩ : ∃ q, ps.length = q := ⟨_, rfl⟩
    have HQL := Lib.hid hq
    rw [hq] at V2 HQ
    have q10 : (q : Int) ≤ 10 := by have := HQ.out; omega
    clear c1 c2 qr ql hps hq
    go_wp2_with fail
    refine (Root_any rs (some ⟨b, off, none⟩) m d _ (HT.out.below B.out (Nat.le_refl _)) (HR.out.below B.out (Nat.le_refl _))).mono ?_
    rintro e w5 ⟨rfl, b⟩
    rw [V0.out.1, V0.out.2]
    replace B := Lib.hid (bb B.out b)
    clear b
    have Y := Lib.hid (z20_at w5 rfl)
    have G := bnew w5 (.cells #[.int .u8 0, .int .u8 0, .int .u8 0, .int .u8 0, .int .u8 0, .int .u8 0, .int .u8 0, .int .u8 0, .int .u8 0, .int .u8 0, .int .u8 0, .int .u8 0, .int .u8 0, .int .u8 0, .int .u8 0, .int .u8 0, .int .u8 0, .int .u8 0, .int .u8 0, .int .u8 0] 26)
    have LEB := Lib.hid B.out.size
    replace B := Lib.hid (bb B.out G)
    clear G
    go_wp2_with (first | (show wpList _ _ _ ({ dst := none, op := Op.store 26 (.tmp 18) _, type := _, pos := _, after := _, guard := _ } :: _) _ _; go_must (refine trW.wp_st (g := w5.heap.size) (l := xr) (by rfl) _ _ rfl (Y.out) (zd_isD.len) (H_xr.out.len) rfl rfl ?_); intro w5s hR hg hb hz; have D18 := Lib.hid hR; replace B := Lib.hid (B.out.trans (hb.mono LEB.out)); clear hR hg hb hz Y LEB ))
    refine (Prove_any rs (a : Int) (some ⟨b, off, none⟩) m d _ (HT.out.below B.out (Nat.le_refl _)) (HR.out.below B.out (Nat.le_refl _)) (by omega) (by omega)).mono ?_
    rintro e w6 ⟨⟨A20, c20, rfl, o20⟩, b⟩
    rw [V1.out.1]
    rw [V1.out.2, HQL.out] at o20
    rw [V1.out.2, HQL.out]
    have O20 := Lib.hid o20
    clear o20
    replace D18 := Lib.hid (D18.out.past b)
    replace B := Lib.hid (bb B.out b)
    clear b
    by_cases c1 : si < 0
    · go_wp2_with fail
      go_ret
      exact ⟨rfl, B.out⟩
    by_cases c2 : (q : Int) ≤ si
    · go_wp2_with fail
      go_ret
      exact ⟨rfl, B.out⟩
    obtain ⟨s2, rfl⟩ := Int.eq_ofNat_of_zero_le (by omega : 0 ≤ si)
    have HSQ : Hid (s2 < q) := Lib.hid (by omega)
    have s0 : 0 ≤ (s2 : Int) := by omega
    have s1 : (s2 : Int) < q := by omega
    clear c1 c2
    obtain ⟨g20, hA20, -, -⟩ := O20.out.spot (by have := HSQ.out; omega)
    subst hA20
    have G := bnew w6 (.cells #[] 26)
    have OE := Lib.hid (own_empty w6 (Nat.le_refl _) rfl)
    have LD18x := Lib.hid D18.out.lt
    have LW := Lib.hid B.out.size
    have BG := Lib.hid (bb B.out G)
    have OG := Lib.hid (O20.out.past G)
    clear G
    go_upto_region 22 with (at_builtin; refine appD (by rfl) _ _ rfl w6.heap.size _ [] rfl OE.out ⟨g20, 0, none⟩ q c20 ps rfl HQL.out OG.out.has (by have := HQ.out; simp; omega) (by rw [World.size_alloc]; omega) (by have := HSQ.out; omega) q (by simp) ?_; intro A22 c22 w7 o22 g22 b22; rw [List.nil_append] at o22)
    have O22 := Lib.hid o22
    have B7 := Lib.hid (BG.out.trans (b22.mono LW.out))
    replace D18 := Lib.hid (D18.out.past (show Below w6.heap.size w6 w7 from (bnew w6 _).trans b22))
    replace B := B7
    clear o22 g22 b22 BG B7 OG OE O20
    obtain ⟨g22, hA22, hg1, hg2⟩ := O22.out.spot (by have := HSQ.out; omega)
    subst hA22
    obtain ⟨y1, y2⟩ := O22.out.zero (i := s2) HSQ.out
    have hxd := (O22.out.d.getz s2)
    have HY : Hid (0 ≤ (ps.getD s2 zd).getD 0 0 ∧ (ps.getD s2 zd).getD 0 0 ≤ 255) := Lib.hid (by refine hxd.bd _ ?_; rw [List.getD_eq_getElem?_getD (l := ps.getD s2 zd), List.getElem?_eq_getElem (by rw [hxd.len]; omega)]; exact List.getElem_mem _)
    have HW := Lib.hid (O22.out.byte (i := s2) HSQ.out (xor_bd HY.out))
    obtain ⟨wrong, hwr⟩ : ∃ wr, ps.set s2 ((ps.getD s2 zd).set 0 (bits .xor .u8 ((ps.getD s2 zd).getD 0 0) 1)) = wr := ⟨_, rfl⟩
    rw [hwr] at HW
    have HWL : Hid (wrong.length = q) := Lib.hid (by rw [← hwr, List.length_set, HQL.out])
    clear hwr hxd
    have HXB := Lib.hid (xor_bd HY.out)
    obtain ⟨xx, hxx⟩ : ∃ xx, bits .xor .u8 ((ps.getD s2 zd).getD 0 0) 1 = xx := ⟨_, rfl⟩
    rw [hxx] at HW HXB
    generalize (ps.getD s2 zd).getD 0 0 = x0 at *
    have HG7 := Lib.hid hg1
    have e20 : (s2 : Int) < q := s1
    clear hg1 hg2
    go_region_law fail
    have LD18 := Lib.hid D18.out.lt
    have SG : w7.grownBy (w7.setCell ⟨g22, s2 * 20, none⟩ (.int .u8 xx)) (some g22) := far_set (World.grownBy.refl _ _) _
    have SB : Below g22 w7 (w7.setCell ⟨g22, s2 * 20, none⟩ (.int .u8 xx)) := (Below.refl _ _).setCell (p := ⟨g22, s2 * 20, none⟩) (Nat.le_refl _) _
    have HGW : Hid (w6.heap.size ≤ g22) := HG7
    replace D18 := Lib.hid (D18.out.far SG (show w5.heap.size ≠ g22 by have := LD18x.out; have := HG7.out; omega))
    replace B := Lib.hid (B.out.trans (SB.mono (by have := LW.out; have := HG7.out; omega)))
    have O22 := HW
    clear SG SB LD18
    have G := Below.drew (Below.refl (w7.setCell ⟨g22, s2 * 20, none⟩ (.int .u8 xx)).heap.size (w7.setCell ⟨g22, s2 * 20, none⟩ (.int .u8 xx)))
    replace D18 := Lib.hid (D18.out.past G)
    replace O22 := Lib.hid (O22.out.past G)
    replace B := Lib.hid (bb B.out G)
    clear G
    generalize (w7.setCell ⟨g22, s2 * 20, none⟩ (.int .u8 xx)).drew = w8 at *
    have cf := HCF.out _ B.out
    go_wp2_with fail
    clear cf
    refine (Leaf_any rb rA rn rc _ (HT.out.below B.out (Nat.le_refl _)) (HII.out.h.below B.out (Nat.le_refl _)) HII.out.e HII.out.c1 HII.out.c2 HII.out.b).mono ?_
    rintro e w9 ⟨rfl, b⟩
    rw [V8.out.1, V8.out.2]
    replace D18 := Lib.hid (D18.out.past b)
    replace O22 := Lib.hid (O22.out.past b)
    replace B := Lib.hid (bb B.out b)
    clear b
    have Y := Lib.hid (z20_at w9 rfl)
    have G := bnew w9 (.cells #[.int .u8 0, .int .u8 0, .int .u8 0, .int .u8 0, .int .u8 0, .int .u8 0, .int .u8 0, .int .u8 0, .int .u8 0, .int .u8 0, .int .u8 0, .int .u8 0, .int .u8 0, .int .u8 0, .int .u8 0, .int .u8 0, .int .u8 0, .int .u8 0, .int .u8 0, .int .u8 0] 26)
    have LEB := Lib.hid B.out.size
    have LD18 := Lib.hid D18.out.lt
    have LO22 := Lib.hid (O22.out.apart (g := w9.heap.size) (Nat.le_refl _))
    replace D18 := Lib.hid (D18.out.past G)
    replace O22 := Lib.hid (O22.out.past G)
    replace B := Lib.hid (bb B.out G)
    clear G
    go_wp2_with (first | (show wpList _ _ _ ({ dst := none, op := Op.store 26 (.tmp 23) _, type := _, pos := _, after := _, guard := _ } :: _) _ _; go_must (refine trW.wp_st (g := w9.heap.size) (l := xl) (by rfl) _ _ rfl (Y.out) (zd_isD.len) (H_xl.out.len) rfl rfl ?_); intro w9s hR hg hb hz; have D23 := Lib.hid hR; replace D18 := Lib.hid (D18.out.far hg (show w5.heap.size ≠ w9.heap.size by have := LD18.out; omega)); replace O22 := Lib.hid (O22.out.kept hg LO22.out); replace B := Lib.hid (B.out.trans (hb.mono LEB.out)); clear hR hg hb hz Y LEB LD18 LO22) | (show wpList _ _ _ ({ dst := _, op := Op.load 26 (.tmp 23), type := _, pos := _, after := _, guard := _ } :: _) _ _; go_must (refine trW.wp_l0 (l := xl) (by rfl) _ rfl (D23.out) (H_xl.out.len) rfl ?_)))
    have V3 := Lib.hid (V2.out xr wrong HWL.out)
    have H_xu := Lib.hid (goV_isD (m : Int) (a : Int) H_xl.out wrong)
    obtain ⟨xu, qu⟩ : ∃ x, goV (m : Int) (a : Int) xl wrong = x := ⟨_, rfl⟩
    rw [qu] at V3 H_xu
    have QU := Lib.hid qu
    clear qu
    obtain ⟨bv, qbv⟩ : ∃ b, decide (xu = xr) = b := ⟨_, rfl⟩
    have HBV := Lib.hid qbv
    rw [qbv] at V3
    clear qbv
    refine (Up_any (m : Int) (a : Int) xl wrong _ q c22 _ (HT.out.below B.out (Nat.le_refl _)) (by omega) (by omega) (by omega) (by omega) H_xl.out O22.out.has HWL.out (O22.out.len.2.1) (by have := O22.out.len.2.2; unfold maxLen at this; omega)).mono ?_
    rintro e w10 ⟨rfl, b⟩
    rw [V3.out.1, QU.out]
    replace D18 := Lib.hid (D18.out.past b)
    replace O22 := Lib.hid (O22.out.past b)
    replace D23 := Lib.hid (D23.out.past b)
    replace B := Lib.hid (bb B.out b)
    clear b
    have Y := Lib.hid (z20_at w10 rfl)
    have G := bnew w10 (.cells #[.int .u8 0, .int .u8 0, .int .u8 0, .int .u8 0, .int .u8 0, .int .u8 0, .int .u8 0, .int .u8 0, .int .u8 0, .int .u8 0, .int .u8 0, .int .u8 0, .int .u8 0, .int .u8 0, .int .u8 0, .int .u8 0, .int .u8 0, .int .u8 0, .int .u8 0, .int .u8 0] 26)
    have LEB := Lib.hid B.out.size
    have LD18 := Lib.hid D18.out.lt
    have LO22 := Lib.hid (O22.out.apart (g := w10.heap.size) (Nat.le_refl _))
    have LD23 := Lib.hid D23.out.lt
    replace D18 := Lib.hid (D18.out.past G)
    replace O22 := Lib.hid (O22.out.past G)
    replace D23 := Lib.hid (D23.out.past G)
    replace B := Lib.hid (bb B.out G)
    clear G
    go_upto_region 25 with (first | (show wpList _ _ _ ({ dst := none, op := Op.store 26 (.tmp 25) _, type := _, pos := _, after := _, guard := _ } :: _) _ _; go_must (refine trW.wp_st (g := w10.heap.size) (l := xu) (by rfl) _ _ rfl (Y.out) (zd_isD.len) (H_xu.out.len) rfl rfl ?_); intro w10s hR hg hb hz; have D25 := Lib.hid hR; replace D18 := Lib.hid (D18.out.far hg (show w5.heap.size ≠ w10.heap.size by have := LD18.out; omega)); replace O22 := Lib.hid (O22.out.kept hg LO22.out); replace D23 := Lib.hid (D23.out.far hg (show w9.heap.size ≠ w10.heap.size by have := LD23.out; omega)); replace B := Lib.hid (B.out.trans (hb.mono LEB.out)); clear hR hg hb hz Y LEB LD18 LO22 LD23))
    (have RD := grows_roads (S := fun x' => Below w10s.heap.size w10s x') (fun a b h1 h2 => h2.trans (h1.mono h2.size))); refine region_ord _ Grows RD (Below.drew (Below.refl _ _)) (by kernel_rfl) ?_; intro ops Q' hops hPQ hN; (have HNS : Hid (Region.noSelect ops = true) := Lib.hid (by rw [hops]; kernel_rfl)); (have hsz : ops.size = 15 := (by rw [hops]; rfl)); have HOP := Lib.hid hops; have HPQ := Lib.hid hPQ; have HN := Lib.hid hN; rw [hsz]; clear hops hsz hPQ hN
    refine ord_take RD 0 (at_list (by rw [HOP.out]; rfl)) HNS.out HPQ.out (by rw [HOP.out]; kernel_rfl) (by rw [HOP.out]; kernel_rfl) (by rw [HOP.out]; rfl) (fun K hK => ?_); apply Exists.intro; refine ⟨fun W hSW => ?_, hK _ ?_⟩; (focus ((try dsimp only at hSW); exact trW.quiet_ld (l := xr) _ rfl (rng_lies (D18.out.past hSW)) (H_xr.out.len) rfl)); clear hK K; (try simp only [Act.put, List.setIfInBounds_toArray, List.set_cons_zero, List.set_cons_succ])
    refine ord_take RD 1 (at_list (by rw [HOP.out]; rfl)) HNS.out HPQ.out (by rw [HOP.out]; kernel_rfl) (by rw [HOP.out]; kernel_rfl) (by rw [HOP.out]; rfl) (fun K hK => ?_); apply Exists.intro; refine ⟨fun W hSW => ?_, hK _ ?_⟩; (focus ((try dsimp only at hSW); go_simp; try with_reducible rfl)); clear hK K; (try simp only [Act.put, List.setIfInBounds_toArray, List.set_cons_zero, List.set_cons_succ])
    refine ord_take RD 2 (at_list (by rw [HOP.out]; rfl)) HNS.out HPQ.out (by rw [HOP.out]; kernel_rfl) (by rw [HOP.out]; kernel_rfl) (by rw [HOP.out]; rfl) (fun K hK => ?_); apply Exists.intro; refine ⟨fun W hSW => ?_, hK _ ?_⟩; (focus ((try dsimp only at hSW); go_simp; try with_reducible rfl)); clear hK K; (try simp only [Act.put, List.setIfInBounds_toArray, List.set_cons_zero, List.set_cons_succ])
    refine ord_take RD 3 (at_list (by rw [HOP.out]; rfl)) HNS.out HPQ.out (by rw [HOP.out]; kernel_rfl) (by rw [HOP.out]; kernel_rfl) (by rw [HOP.out]; rfl) (fun K hK => ?_); apply Exists.intro; refine ⟨fun W hSW => ?_, hK _ ?_⟩; (focus ((try dsimp only at hSW); go_simp; try with_reducible rfl)); clear hK K; (try simp only [Act.put, List.setIfInBounds_toArray, List.set_cons_zero, List.set_cons_succ])
    refine ord_take RD 4 (at_list (by rw [HOP.out]; rfl)) HNS.out HPQ.out (by rw [HOP.out]; kernel_rfl) (by rw [HOP.out]; kernel_rfl) (by rw [HOP.out]; rfl) (fun K hK => ?_); apply Exists.intro; refine ⟨fun W hSW => ?_, hK _ ?_⟩; (focus ((try dsimp only at hSW); go_simp; try with_reducible rfl)); clear hK K; (try simp only [Act.put, List.setIfInBounds_toArray, List.set_cons_zero, List.set_cons_succ])
    refine ord_take RD 5 (at_list (by rw [HOP.out]; rfl)) HNS.out HPQ.out (by rw [HOP.out]; kernel_rfl) (by rw [HOP.out]; kernel_rfl) (by rw [HOP.out]; rfl) (fun K hK => ?_); apply Exists.intro; refine ⟨fun W hSW => ?_, hK _ ?_⟩; (focus ((try dsimp only at hSW); go_simp; try with_reducible rfl)); clear hK K; (try simp only [Act.put, List.setIfInBounds_toArray, List.set_cons_zero, List.set_cons_succ])
    refine ord_take RD 6 (at_list (by rw [HOP.out]; rfl)) HNS.out HPQ.out (by rw [HOP.out]; kernel_rfl) (by rw [HOP.out]; kernel_rfl) (by rw [HOP.out]; rfl) (fun K hK => ?_); apply Exists.intro; refine ⟨fun W hSW => ?_, hK _ ?_⟩; (focus ((try dsimp only at hSW); go_simp; try with_reducible rfl)); clear hK K; (try simp only [Act.put, List.setIfInBounds_toArray, List.set_cons_zero, List.set_cons_succ])
    refine ord_take RD 7 (at_list (by rw [HOP.out]; rfl)) HNS.out HPQ.out (by rw [HOP.out]; kernel_rfl) (by rw [HOP.out]; kernel_rfl) (by rw [HOP.out]; rfl) (fun K hK => ?_); apply Exists.intro; refine ⟨fun W hSW => ?_, hK _ ?_⟩; (focus ((try dsimp only at hSW); have cf := HCF.out _ (bb B.out hSW); go_simp; try with_reducible rfl)); clear hK K; (try simp only [Act.put, List.setIfInBounds_toArray, List.set_cons_zero, List.set_cons_succ])
    refine ord_take RD 8 (at_list (by rw [HOP.out]; rfl)) HNS.out HPQ.out (by rw [HOP.out]; kernel_rfl) (by rw [HOP.out]; kernel_rfl) (by rw [HOP.out]; rfl) (fun K hK => ?_); apply Exists.intro; refine ⟨fun W hSW => ?_, hK _ ?_⟩; (focus ((try dsimp only at hSW); go_simp; try with_reducible rfl)); clear hK K; (try simp only [Act.put, List.setIfInBounds_toArray, List.set_cons_zero, List.set_cons_succ])
    refine ord_one RD 9 (by rw [HOP.out]; kernel_rfl) (at_list (by rw [HOP.out]; rfl)) (by rw [HOP.out]; rfl) (fun V11 hWW hSW K hK => ?_); (try dsimp only at hSW)
    go_simp
    refine (Verify_any xr (m : Int) (a : Int) rb wrong rA rn rc _ q c22 _ (HT.out.below (bb B.out hSW) (Nat.le_refl _)) H_xr.out (by omega) (by omega) (by omega) (by omega) (HII.out.h.below (bb B.out hSW) (Nat.le_refl _)) HII.out.e HII.out.c1 HII.out.c2 HII.out.b (O22.out.past hSW).has HWL.out (O22.out.len.2.1) (by have := O22.out.len.2.2; unfold maxLen at this; omega)).mono ?_
    rintro e w11 ⟨rfl, b⟩
    rw [V3.out.2.1, V3.out.2.2]
    refine hK _ _ (bb hSW b) ?_
    clear hSW hWW b
    clear hK K; (try simp only [Act.put, List.setIfInBounds_toArray, List.set_cons_zero, List.set_cons_succ])
    refine ord_take RD 10 (at_list (by rw [HOP.out]; rfl)) HNS.out HPQ.out (by rw [HOP.out]; kernel_rfl) (by rw [HOP.out]; kernel_rfl) (by rw [HOP.out]; rfl) (fun K hK => ?_); apply Exists.intro; refine ⟨fun W hSW => ?_, hK _ ?_⟩; (focus ((try dsimp only at hSW); go_simp; try with_reducible rfl)); clear hK K; (try simp only [Act.put, List.setIfInBounds_toArray, List.set_cons_zero, List.set_cons_succ])
    refine ord_take RD 11 (at_list (by rw [HOP.out]; rfl)) HNS.out HPQ.out (by rw [HOP.out]; kernel_rfl) (by rw [HOP.out]; kernel_rfl) (by rw [HOP.out]; rfl) (fun K hK => ?_); apply Exists.intro; refine ⟨fun W hSW => ?_, hK _ ?_⟩; (focus ((try dsimp only at hSW); go_simp; try with_reducible rfl)); clear hK K; (try simp only [Act.put, List.setIfInBounds_toArray, List.set_cons_zero, List.set_cons_succ])
    refine ord_take RD 12 (at_list (by rw [HOP.out]; rfl)) HNS.out HPQ.out (by rw [HOP.out]; kernel_rfl) (by rw [HOP.out]; kernel_rfl) (by rw [HOP.out]; rfl) (fun K hK => ?_); apply Exists.intro; refine ⟨fun W hSW => ?_, hK _ ?_⟩; (focus ((try dsimp only at hSW); go_simp; try with_reducible rfl)); clear hK K; (try simp only [Act.put, List.setIfInBounds_toArray, List.set_cons_zero, List.set_cons_succ])
    refine ord_take RD 13 (at_list (by rw [HOP.out]; rfl)) HNS.out HPQ.out (by rw [HOP.out]; kernel_rfl) (by rw [HOP.out]; kernel_rfl) (by rw [HOP.out]; rfl) (fun K hK => ?_); apply Exists.intro; refine ⟨fun W hSW => ?_, hK _ ?_⟩; (focus ((try dsimp only at hSW); go_simp; try with_reducible rfl)); clear hK K; (try simp only [Act.put, List.setIfInBounds_toArray, List.set_cons_zero, List.set_cons_succ])
    refine ord_take RD 14 (at_list (by rw [HOP.out]; rfl)) HNS.out HPQ.out (by rw [HOP.out]; kernel_rfl) (by rw [HOP.out]; kernel_rfl) (by rw [HOP.out]; rfl) (fun K hK => ?_); apply Exists.intro; refine ⟨fun W hSW => ?_, hK _ ?_⟩; (focus ((try dsimp only at hSW); go_simp; try with_reducible rfl)); clear hK K; (try simp only [Act.put, List.setIfInBounds_toArray, List.set_cons_zero, List.set_cons_succ])
    refine ord_done (by rw [HOP.out]; kernel_rfl) (fun w12 hWW hSW => HN.out _ _ ?_); clear HOP HNS HPQ HN RD; (try dsimp only at hSW)
    replace D18 := Lib.hid (D18.out.past hSW)
    replace O22 := Lib.hid (O22.out.past hSW)
    replace D23 := Lib.hid (D23.out.past hSW)
    replace D25 := Lib.hid (D25.out.past hSW)
    replace B := Lib.hid (bb B.out hSW)
    clear hSW hWW
    cases bv
    case false =>
      go_wp2_with (first | (show wpList _ _ _ ({ dst := _, op := Op.load 26 (.tmp 25), type := _, pos := _, after := _, guard := _ } :: _) _ _; go_must (refine trW.wp_l0 (l := xu) (by rfl) _ rfl (D25.out) (H_xu.out.len) rfl ?_)) | (show wpList _ _ _ ({ dst := _, op := Op.load 26 (.tmp 18), type := _, pos := _, after := _, guard := _ } :: _) _ _; go_must (refine trW.wp_l0 (l := xr) (by rfl) _ rfl (D18.out) (H_xr.out.len) rfl ?_)) | ((show wpList _ _ _ ({ dst := _, op := Op.binOp .eql 26 _ _ _, type := _, pos := _, after := _, guard := _ } :: _) _ _; go_must (refine trW.wp_eql (l := xu) (m := xr) (by rfl) _ _ _ rfl (H_xu.out) (H_xr.out) rfl rfl ?_)); rw [HBV.out]))
      go_ret
      exact ⟨rfl, B.out⟩
    case true =>
      go_wp2_with (first | (show wpList _ _ _ ({ dst := _, op := Op.load 26 (.tmp 25), type := _, pos := _, after := _, guard := _ } :: _) _ _; go_must (refine trW.wp_l0 (l := xu) (by rfl) _ rfl (D25.out) (H_xu.out.len) rfl ?_)) | (show wpList _ _ _ ({ dst := _, op := Op.load 26 (.tmp 18), type := _, pos := _, after := _, guard := _ } :: _) _ _; go_must (refine trW.wp_l0 (l := xr) (by rfl) _ rfl (D18.out) (H_xr.out.len) rfl ?_)) | ((show wpList _ _ _ ({ dst := _, op := Op.binOp .eql 26 _ _ _, type := _, pos := _, after := _, guard := _ } :: _) _ _; go_must (refine trW.wp_eql (l := xu) (m := xr) (by rfl) _ _ _ rfl (H_xu.out) (H_xr.out) rfl rfl ?_)); rw [HBV.out]))
      go_ret
      exact ⟨rfl, B.out⟩
end Go.Proofs.YtjdgobfjpjnhgaaDoor.trW
