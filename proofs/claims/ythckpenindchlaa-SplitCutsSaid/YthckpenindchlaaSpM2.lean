/- Gaps of one member. -/
import Derived.Test.YthckpenindchlaaSpM1
namespace Go.Proofs.Ythckpenindchlaa.spW
set_option maxRecDepth 100000
open Go.RowKit Go.Proofs.Ythckpenindchlaa.base Go.Proofs.Ythckpenindchlaa.mbW
set_option linter.unusedVariables false
set_option linter.unusedSimpArgs false
set_option maxRecDepth 100000
theorem set_same {α : Type} {l : List α} {i : Nat} {a : α} (h : l[i]? = some a) : l.set i a = l := by
  apply List.ext_getElem?
  intro j
  rw [List.getElem?_set]
  split
  · rename_i e; subst e
    split
    · exact h.symm
    · rename_i h2; rw [List.getElem?_eq_none (by omega)] at h; cases h
  · rfl
theorem row_fld {xs : List Pc} {j : Nat} (hj : j < xs.length) (v : Int) : (PE.row xs).set (j * 3 + 2) (.int .i64 v) = PE.row (xs.set j ⟨(xs.getD j pc0).m, (xs.getD j pc0).o, v⟩) := by
  have h := Enc.row_set (E := PE) hj ⟨(xs.getD j pc0).m, (xs.getD j pc0).o, v⟩
  have h3 : PE.n = 3 := rfl
  rw [h3] at h
  rw [← h]
  show _ = (((PE.row xs).set (j * 3) (.int .i64 (xs.getD j pc0).m)).set (j * 3 + 1) (.int .i64 (xs.getD j pc0).o)).set (j * 3 + 1 + 1) (.int .i64 v)
  have hr := Enc.row_at (E := PE) hj
  rw [h3] at hr
  have hd : PE.d = pc0 := rfl
  rw [hd] at hr
  have g0 : (PE.row xs)[j * 3]? = some (.int .i64 (xs.getD j pc0).m) := by
    have : (((PE.row xs).drop (j * 3)).take 3)[0]? = some (.int .i64 (xs.getD j pc0).m) := by rw [hr]; rfl
    rwa [List.getElem?_take, if_pos (by decide), List.getElem?_drop] at this
  have g1 : (PE.row xs)[j * 3 + 1]? = some (.int .i64 (xs.getD j pc0).o) := by
    have : (((PE.row xs).drop (j * 3)).take 3)[1]? = some (.int .i64 (xs.getD j pc0).o) := by rw [hr]; rfl
    rwa [List.getElem?_take, if_pos (by decide), List.getElem?_drop] at this
  rw [set_same g0, set_same g1]
theorem own_fld {w : World} {B g n c : Nat} {xs : List Pc} (h : PE.Own w B (.slice (some ⟨g, 0, none⟩) n c) xs) {j : Nat} (hj : j < n) : w.cell? ⟨g, j * 3 + 2, none⟩ = some (.int .i64 (xs.getD j pc0).r) ∧ w.frozen? ⟨g, j * 3 + 2, none⟩ = false := by
  have hn := h.len.1
  have h1 : w.ownsRow B PE.T PE.n (.slice (some ⟨g, 0, none⟩) n c) n (PE.row xs) := by
    have := h; unfold Enc.Own at this; rwa [← hn] at this
  refine ⟨?_, World.ownsRow.frozenAt h1 (j * 3 + 2)⟩
  have h2 := (h.has.rng (i := j) (by omega)) 2 _ rfl
  rw [Nat.zero_add] at h2
  exact h2
theorem own_fset {w : World} {B g n c : Nat} {xs : List Pc} (h : PE.Own w B (.slice (some ⟨g, 0, none⟩) n c) xs) {j : Nat} (hj : j < n) (v : Int) : PE.Own (w.setCell ⟨g, j * 3 + 2, none⟩ (.int .i64 v)) B (.slice (some ⟨g, 0, none⟩) n c) (xs.set j ⟨(xs.getD j pc0).m, (xs.getD j pc0).o, v⟩) := by
  have hn := h.len.1
  have h1 : w.ownsRow B PE.T PE.n (.slice (some ⟨g, 0, none⟩) n c) n (PE.row xs) := by
    have := h; unfold Enc.Own at this; rwa [← hn] at this
  have := (World.ownsRow.stored h1 (j * 3 + 2) (.int .i64 v)).1
  rw [row_fld (by omega)] at this
  unfold Enc.Own
  rw [List.length_set, ← hn]
  exact this
set_option maxHeartbeats 6400000 in
theorem gaps_any (i : Int) (c : List Bool) (A : Option Addr) (n d : Nat) (w : World) (hA : HasB w A c) (hn : c.length = n) (h9 : n ≤ 8192) :
    Calls Try.prog 32 #[.int .i64 i, .slice A n d] w (PxP (gp i c n) w) := by
  have HA := Lib.hid hA
  have HN := Lib.hid hn
  have H9 := Lib.hid h9
  have n9 : (n : Int) ≤ 8192 := by omega
  clear hA hn
  go_enter Try.func32, Try.ntmps32
  go_wp2_with fail
  go_loopw [5, 10] (fun lv iv wr => ∃ (k np : Nat) (A' : Option Addr) (c' : Nat), k ≤ n ∧ iv = .int .i64 (k : Int) ∧ lv = .slice A' np c' ∧ (gp i c k).length = np ∧ PE.Own wr w.heap.size (.slice A' np c') (gp i c k) ∧ Below w.heap.size w wr) (fun _ iv _ => n - (intOf iv).toNat)
  case atStart => exact ⟨0, 0, none, 0, Nat.zero_le _, rfl, rfl, rfl, Enc.Own.nil _ _, Below.refl _ _⟩
  case round =>
    obtain ⟨k, np, A', c', hk, rfl, rfl, hnp, own, acc⟩ := hrel
    rename World => wr
    have HO := Lib.hid own
    have HACC := Lib.hid acc
    have HNP := Lib.hid hnp
    by_cases hlt : k < n
    · obtain ⟨b, off, rfl, hb, hc⟩ := hasB_some HA.out (by rw [HN.out]; omega)
      have HC : Hid (∀ j, j < n → ∀ w', Below w.heap.size w w' → w'.cell? ⟨b, off + j, none⟩ = some (.bool (c.getD j false))) := Lib.hid (fun j hj w' hw => by rw [hw.cell (p := ⟨b, off + j, none⟩) hb]; exact hc j (by rw [HN.out]; exact hj))
      have x0 := HC.out k hlt wr acc
      have ltb : b < wr.heap.size := Nat.lt_of_lt_of_le hb acc.size
      have HK := Lib.hid hlt
      have k1 : (k : Int) < n := by omega
      have k0 : 0 ≤ (k : Int) := by omega
      have HPN : Hid (np ≤ k) := Lib.hid (by rw [← hnp]; exact gp_len i c k)
      rcases hcv : c.getD k false with _ | _
      · rw [hcv] at x0
        have HCV := Lib.hid hcv
        have B4 := Lib.hid (mb_bb acc (mb_new wr (.cells #[.int .i64 i, .int .i64 (k : Int), .int .i64 1] 46)))
        have O4 := Lib.hid (own.past (mb_new wr (.cells #[.int .i64 i, .int .i64 (k : Int), .int .i64 1] 46)))
        have HL4 := Lib.hid (lit1 wr ⟨i, (k : Int), 1⟩ rfl)
        by_cases hk0 : k = 0
        · have HG := Lib.hid (gp_new (i := i) hcv (by omega))
          have k2 : ¬ 0 < (k : Int) := by omega
          clear hk hlt own acc hnp hc hb hcv hk0
          go_wp2_with (at_builtin; refine Enc.app PE IP (by decide) (by rfl) _ _ rfl w.heap.size _ (gp i c k) rfl O4.out ⟨wr.heap.size, 0, none⟩ 1 1 [⟨i, (k : Int), 1⟩] rfl rfl HL4.out (by rw [HNP.out]; have := HPN.out; omega) B4.out.size (np + 1) (by rw [HNP.out]) ?_; intro A7 c7 w7 ho7 hg7 hb7)
          go_roundw
          case rel => exact ⟨k + 1, np + 1, A7, c7, HK.out, by go_num, rfl, by rw [HG.out, List.length_append, HNP.out]; rfl, by rw [HG.out]; exact ho7, B4.out.trans hb7⟩
          case measure => simp [intOf]; have := HK.out; omega
        · have x1 := HC.out (k - 1) (by omega) wr acc
          have k2 : 0 < (k : Int) := by omega
          have t1 : ((k : Int) - 1).toNat = k - 1 := by omega
          have HK0 := Lib.hid (show 0 < k by omega)
          rcases hcp : c.getD (k - 1) false with _ | _
          · rw [hcp] at x1
            have HG := Lib.hid (gp_bmp (i := i) hcv (by omega) hcp)
            have hp := gp_pos i c k (by omega) hcp
            rw [hnp] at hp
            obtain ⟨g, rfl, hg1, hg2⟩ := own.spot hp
            obtain ⟨j, hj⟩ : ∃ j, np - 1 = j := ⟨_, rfl⟩
            have hjn : j < np := by omega
            obtain ⟨y0, y1⟩ := own_fld own hjn
            have ltg : g < wr.heap.size := hg2
            have HR := Lib.hid (gp_r i c k ((gp i c k).getD j pc0) (by rw [List.getD_eq_getElem?_getD, List.getElem?_eq_getElem (by rw [hnp]; exact hjn)]; exact List.getElem_mem _))
            have HB := Lib.hid hg1
            have HJ := Lib.hid hjn
            have HBM : Hid (bmp (gp i c k) = (gp i c k).set j ⟨((gp i c k).getD j pc0).m, ((gp i c k).getD j pc0).o, ((gp i c k).getD j pc0).r + 1⟩) := Lib.hid (by unfold bmp; rw [hnp, hj])
            obtain ⟨r, hr⟩ : ∃ r, ((gp i c k).getD j pc0).r = r := ⟨_, rfl⟩
            rw [hr] at y0 HR HBM
            have HOF := Lib.hid (own_fset own hjn (r + 1))
            have r1 : 1 ≤ r := HR.out.1
            have r2 : r ≤ 8192 := by have := HR.out.2; omega
            have p1 : 1 ≤ (np : Int) := by omega
            have p2 : (np : Int) ≤ 8192 := by have := HPN.out; omega
            have t2 : ((np : Int) - 1).toNat = j := by omega
            have w1 : IntKind.i64.wrap ((np : Int) - 1) = (np : Int) - 1 := by rw [IntKind.wrap_i64]; omega
            clear hk hlt own acc hnp hc hb hcv hcp hp hg1 hg2 hj hjn hr HO O4 B4 HL4
            go_wp2_with fail
            go_roundw
            case rel => exact ⟨k + 1, np, _, c', HK.out, by go_num, rfl, by rw [HG.out, bmp_len]; exact HNP.out, by rw [HG.out, HBM.out]; exact HOF.out, HACC.out.setCell (p := ⟨g, j * 3 + 2, none⟩) HB.out _⟩
            case measure => simp [intOf]; have := HK.out; omega
          · rw [hcp] at x1
            have HG := Lib.hid (gp_new (i := i) hcv (by rw [hcp]; simp))
            clear hk hlt own acc hnp hc hb hcv hcp
            go_wp2_with (at_builtin; refine Enc.app PE IP (by decide) (by rfl) _ _ rfl w.heap.size _ (gp i c k) rfl O4.out ⟨wr.heap.size, 0, none⟩ 1 1 [⟨i, (k : Int), 1⟩] rfl rfl HL4.out (by rw [HNP.out]; have := HPN.out; omega) B4.out.size (np + 1) (by rw [HNP.out]) ?_; intro A7 c7 w7 ho7 hg7 hb7)
            go_roundw
            case rel => exact ⟨k + 1, np + 1, A7, c7, HK.out, by go_num, rfl, by rw [HG.out, List.length_append, HNP.out]; rfl, by rw [HG.out]; exact ho7, B4.out.trans hb7⟩
            case measure => simp [intOf]; have := HK.out; omega
      · rw [hcv] at x0
        have HG := Lib.hid (gp_cov (i := i) hcv)
        clear hk hlt own acc hnp hc hb hcv
        go_wp2_with fail
        go_roundw
        case rel => exact ⟨k + 1, np, A', c', HK.out, by go_num, rfl, by rw [HG.out]; exact HNP.out, by rw [HG.out]; exact HO.out, HACC.out⟩
        case measure => simp [intOf]; have := HK.out; omega
    · have k1 : ¬ (k : Int) < n := by omega
      obtain rfl : k = n := by omega
      clear hk hlt own acc hnp
      go_wp2_with fail
      go_ret
      exact ⟨A', np, c', rfl, HNP.out.symm, HO.out, HACC.out⟩
end Go.Proofs.Ythckpenindchlaa.spW
