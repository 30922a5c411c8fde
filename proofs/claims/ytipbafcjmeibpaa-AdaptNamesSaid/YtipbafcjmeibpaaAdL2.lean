/- AdaptRange, by a walk: the main case. -/
import Derived.Test.YtipbafcjmeibpaaAdL1
import Derived.Deep.RegionHeld3
import Derived.WalkMore
namespace Go.Proofs.Ytipbafcjmeibpaa.adL
open Go.RowKit Go.Proofs.Ytipbafcjmeibpaa.base Go.Proofs.Ytipbafcjmeibpaa.adP Go.Proofs.Ytipbafcjmeibpaa.adW
set_option linter.unusedVariables false
set_option linter.unusedSimpArgs false

theorem getD_mv_p (m : Ad) (s b : Int) (i : Nat) (h : s.toNat < m.p.length) : (mv m s b).p.getD i 0 = if s.toNat = i then pNext m s b else m.p.getD i 0 := getD_set_row _ _ _ _ h
theorem getD_mv_n (m : Ad) (s b : Int) (i : Nat) (h : s.toNat < m.n.length) : (mv m s b).n.getD i 0 = if s.toNat = i then nNext m s else m.n.getD i 0 := getD_set_row _ _ _ _ h
theorem P_at (m : Ad) (l : Int) (hl : m.l = l) (A B : Option Addr) (lp ln cp cn : Nat) (s : Int) (w : World) (h : AdIn w A B lp ln m) (s0 : 0 ≤ s) (s1 : s ≤ 255) :
    Calls Try.prog 11 #[.agg #[.int .i32 l, .slice A lp cp, .slice B ln cn], .int .u8 s] w fun e w' => e = .returned (.tuple #[.int .i32 (pV m s), .int .i64 (atE m s)]) ∧ Below w.heap.size w w' := by
  subst hl
  exact P_any m A B lp ln cp cn s w h s0 s1
theorem rCheck_at (m : Ad) (l : Int) (hl : m.l = l) (A B : Option Addr) (lp ln cp cn : Nat) (w : World) (h : AdIn w A B lp ln m) :
    Calls Try.prog 21 #[.agg #[.int .i32 l, .slice A lp cp, .slice B ln cn]] w fun e w' => e = .returned (.int .i64 (adE m)) ∧ Below w.heap.size w w' := by
  subst hl
  exact rCheck_any m A B lp ln cp cn w h
theorem has_cell {k : IntKind} {w : World} {b off : Nat} {zs : List Int} (h : Has k w (some ⟨b, off, none⟩) zs) (i : Nat) (hi : i < zs.length) : w.cell? ⟨b, off + i, none⟩ = some (.int k (zs.getD i 0)) := by
  rcases h with rfl | ⟨b', off', e, _, hc⟩
  · simp at hi
  · injection e with e
    injection e with e1 e2 _
    subst e1 e2
    exact hc i hi
set_option maxRecDepth 100000 in
set_option maxHeartbeats 4000000 in
theorem range_main (m : Ad) (A B : Option Addr) (cp cn : Nat) (s b : Int) (w : World) (h : AdIn w A B 193 193 m) (hcp : 193 ≤ cp) (hcn : 193 ≤ cn) (s0 : 0 ≤ s) (s1 : s ≤ 255) (F : Fits m s b) (hf : fitB m 193 193 s b = true) :
    Calls Try.prog 6 #[.agg #[.int .i32 (m).l, .slice A 193 cp, .slice B 193 cn], .int .u8 s, .int .u8 b] w fun e w' => e = .returned (.bool true) ∧ Below w.heap.size w w' := by
  obtain ⟨b0, off, rfl, _, _⟩ := has_some h.hp (by have := h.ep; omega)
  obtain ⟨c0, off2, rfl, _, _⟩ := has_some h.hn (by have := h.en; omega)
  have H := Lib.hid h
  have HF := Lib.hid hf
  have HK := Lib.hid (fit_bd hf).2.2.1
  have b1 := (fit_bd hf).2.2.2
  have bz : 0 ≤ b := by rcases F.bit with h | h <;> omega
  have FF := Lib.hid F
  have s2 := F.s1
  have HU := Lib.hid (mv_ok F)
  have HAU : Hid (atE (mv m s b) s = 0) := Lib.hid ((atE_zero _ _).2 ⟨mv_ok F, F.s1⟩)
  have HV : Hid (pV (mv m s b) s = pNext m s b) := Lib.hid (by rw [pV, if_pos HAU.out, getD_mv_p _ _ _ _ (by have := h.ep; omega), if_pos rfl])
  have HV0 : Hid (pV m s = m.p.getD s.toNat 0) := Lib.hid (by rw [pV, if_pos HK.out])
  have HUL : Hid ((mv m s b).l = m.l) := Lib.hid rfl
  have HRP : Hid (∀ i : Nat, (mv m s b).p.getD i 0 = if s.toNat = i then pNext m s b else m.p.getD i 0) := Lib.hid (fun i => getD_mv_p _ _ _ _ (by have := h.ep; omega))
  have HRN : Hid (∀ i : Nat, (mv m s b).n.getD i 0 = if s.toNat = i then nNext m s else m.n.getD i 0) := Lib.hid (fun i => getD_mv_n _ _ _ _ (by have := h.en; omega))
  obtain ⟨⟨a1, a2⟩, ⟨n1, n2⟩, ⟨l1, l2⟩, ⟨x1, x2⟩, ⟨y1, y2⟩, D1, D0⟩ := place_bd F
  have HD1 := Lib.hid D1
  have HD0 := Lib.hid D0
  have HX : Hid (nNext m s = if m.n.getD s.toNat 0 + 1 ≤ m.l then m.n.getD s.toNat 0 + 1 else m.l) := Lib.hid rfl
  have hbit := F.bit
  have HLP : Hid (m.p.length = 193) := Lib.hid h.ep
  have HLN : Hid (m.n.length = 193) := Lib.hid h.en
  clear h hf F D1 D0
  generalize hu : mv m s b = u at *
  have HMV := Lib.hid hu
  clear hu
  generalize hp : m.p.getD s.toNat 0 = p at *
  have HPE := Lib.hid hp
  clear hp
  generalize hn : m.n.getD s.toNat 0 = n at *
  have HNE := Lib.hid hn
  clear hn
  generalize nNext m s = nn at *
  generalize pNext m s b = pp at *
  have en : (if m.l < n + 1 then m.l else n + 1) = nn := by rw [HX.out]; split <;> split <;> omega
  clear HX
  have hw1 : IntKind.i32.wrap (n + 1) = n + 1 := by rw [IntKind.wrap_i32]; omega
  have hw2 : wrap32 (n + 1) = n + 1 := by unfold wrap32; omega
  have hmin : min (n + 1) m.l = nn := by rw [← en, Int.min_def]; split <;> split <;> omega
  go_enter Try.func6, Try.ntmps6
  go_wp2_with fail
  refine (fit_any m _ _ 193 193 cp cn s b _ (H.out.below (by (repeat' (first | (with_reducible exact Below.refl _ _) | (with_reducible assumption) | (with_reducible refine below_drewN ?_ _) | (with_reducible refine below_new ?_ _) | (with_reducible refine Below.alloc ?_ ?_ _) | (with_reducible refine Below.drew ?_) | (with_reducible refine Below.setCell ?_ ?_ _) | (with_reducible apply below_at; (case k => (with_reducible assumption)); (case hB => omega)) | (with_reducible apply below_on; (with_reducible assumption)) | (go_size; done) | (with_reducible apply size_of))))) s0 s1 bz).mono ?_
  rintro e w1 ⟨rfl, hb1⟩
  rw [HF.out]
  have K1 : Lies (w1) (w.heap.size) 24 [.int .i32 (m.l), .slice ((some ⟨b0, off, none⟩)) (193) (cp), .slice ((some ⟨c0, off2, none⟩)) (193) (cn)] := (by (repeat' (first | (with_reducible assumption) | (with_reducible exact Lies.fresh _ _ _) | (with_reducible apply Lies.fresh_at; (first | (with_reducible rfl) | (simp; done))) | (with_reducible refine Lies.drew ?_) | (with_reducible refine Lies.drewN ?_ _) | (with_reducible refine Lies.alloc ?_ _) | (with_reducible apply Lies.past; case hb => (with_reducible assumption)) | (with_reducible apply Lies.keeps; (case k => (with_reducible assumption)); (case ht => decide)) | (with_reducible apply Lies.store3) | (with_reducible apply Lies.other; case hp => (first | omega | (simp; done) | (simp; omega))))))
  obtain ⟨p0, p1, p2, -, -, -⟩ := K1.three
  have l1 := K1.lt
  go_wp2_with fail
  refine (P_any m _ _ 193 193 cp cn s _ (H.out.below (by (repeat' (first | (with_reducible exact Below.refl _ _) | (with_reducible assumption) | (with_reducible refine below_drewN ?_ _) | (with_reducible refine below_new ?_ _) | (with_reducible refine Below.alloc ?_ ?_ _) | (with_reducible refine Below.drew ?_) | (with_reducible refine Below.setCell ?_ ?_ _) | (with_reducible apply below_at; (case k => (with_reducible assumption)); (case hB => omega)) | (with_reducible apply below_on; (with_reducible assumption)) | (go_size; done) | (with_reducible apply size_of))))) s0 s1).mono ?_
  rintro e w2 ⟨rfl, hb2⟩
  rw [HK.out, HV0.out]
  have K2 : Lies (w2) (w.heap.size) 24 [.int .i32 (m.l), .slice ((some ⟨b0, off, none⟩)) (193) (cp), .slice ((some ⟨c0, off2, none⟩)) (193) (cn)] := (by (repeat' (first | (with_reducible assumption) | (with_reducible exact Lies.fresh _ _ _) | (with_reducible apply Lies.fresh_at; (first | (with_reducible rfl) | (simp; done))) | (with_reducible refine Lies.drew ?_) | (with_reducible refine Lies.drewN ?_ _) | (with_reducible refine Lies.alloc ?_ _) | (with_reducible apply Lies.past; case hb => (with_reducible assumption)) | (with_reducible apply Lies.keeps; (case k => (with_reducible assumption)); (case ht => decide)) | (with_reducible apply Lies.store3) | (with_reducible apply Lies.other; case hp => (first | omega | (simp; done) | (simp; omega))))))
  clear p0 p1 p2
  obtain ⟨p0, p1, p2, -, -, -⟩ := K2.three
  have l2 := K2.lt
  go_wp2_with fail
  refine (Update_ok m _ _ cp cn s b _ (H.out.below (by (repeat' (first | (with_reducible exact Below.refl _ _) | (with_reducible assumption) | (with_reducible refine below_drewN ?_ _) | (with_reducible refine below_new ?_ _) | (with_reducible refine Below.alloc ?_ ?_ _) | (with_reducible refine Below.drew ?_) | (with_reducible refine Below.setCell ?_ ?_ _) | (with_reducible apply below_at; (case k => (with_reducible assumption)); (case hB => omega)) | (with_reducible apply below_on; (with_reducible assumption)) | (go_size; done) | (with_reducible apply size_of))))) hcp hcn s0 s1 HK.out FF.out bz b1).mono ?_
  rintro e w3 ⟨gp, gn, c, d, rfl, O, hb3⟩
  rw [HMV.out] at O
  have HO := Lib.hid O
  clear O p0 p1 p2
  go_wp2_with fail
  refine (P_at u m.l HUL.out _ _ 193 193 c d s _ ((HO.out.alloc _).inOk HU.out) s0 s1).mono ?_
  rintro e w4 ⟨rfl, hb4⟩
  rw [HAU.out, HV.out]
  have K4 : Lies (w4) (w.heap.size) 24 [.int .i32 (m.l), .slice ((some ⟨b0, off, none⟩)) (193) (cp), .slice ((some ⟨c0, off2, none⟩)) (193) (cn)] := (by (repeat' (first | (with_reducible assumption) | (with_reducible exact Lies.fresh _ _ _) | (with_reducible apply Lies.fresh_at; (first | (with_reducible rfl) | (simp; done))) | (with_reducible refine Lies.drew ?_) | (with_reducible refine Lies.drewN ?_ _) | (with_reducible refine Lies.alloc ?_ _) | (with_reducible apply Lies.past; case hb => (with_reducible assumption)) | (with_reducible apply Lies.keeps; (case k => (with_reducible assumption)); (case ht => decide)) | (with_reducible apply Lies.store3) | (with_reducible apply Lies.other; case hp => (first | omega | (simp; done) | (simp; omega))))))
  have L4 : Lies (w4) (w3.heap.size) 24 [.int .i32 (m.l), .slice ((some ⟨gp, 0, none⟩)) (193) (c), .slice ((some ⟨gn, 0, none⟩)) (193) (d)] := (by (repeat' (first | (with_reducible assumption) | (with_reducible exact Lies.fresh _ _ _) | (with_reducible apply Lies.fresh_at; (first | (with_reducible rfl) | (simp; done))) | (with_reducible refine Lies.drew ?_) | (with_reducible refine Lies.drewN ?_ _) | (with_reducible refine Lies.alloc ?_ _) | (with_reducible apply Lies.past; case hb => (with_reducible assumption)) | (with_reducible apply Lies.keeps; (case k => (with_reducible assumption)); (case ht => decide)) | (with_reducible apply Lies.store3) | (with_reducible apply Lies.other; case hp => (first | omega | (simp; done) | (simp; omega))))))
  have HS : Hid (∀ wx : World, Below w4.heap.size w4 wx → (Lies (wx) (w.heap.size) 24 [.int .i32 (m.l), .slice ((some ⟨b0, off, none⟩)) (193) (cp), .slice ((some ⟨c0, off2, none⟩)) (193) (cn)]) ∧ (Lies (wx) (w3.heap.size) 24 [.int .i32 (m.l), .slice ((some ⟨gp, 0, none⟩)) (193) (c), .slice ((some ⟨gn, 0, none⟩)) (193) (d)])) := Lib.hid (fun wx hx => ⟨K4.past hx, L4.past hx⟩)
  have HC : Hid (∀ wx : World, Below w4.heap.size w4 wx → ∀ i : Nat, i < 193 → wx.cell? ⟨gp, i, none⟩ = some (.int .i32 (u.p.getD i 0)) ∧ wx.cell? ⟨gn, i, none⟩ = some (.int .i32 (u.n.getD i 0)) ∧ wx.cell? ⟨b0, off + i, none⟩ = some (.int .i32 (m.p.getD i 0)) ∧ wx.cell? ⟨c0, off2 + i, none⟩ = some (.int .i32 (m.n.getD i 0))) := Lib.hid (fun wx hx i hi => by
    have O' := ((HO.out.alloc _).past hb4).past hx
    have H' : AdIn wx (some ⟨b0, off, none⟩) (some ⟨c0, off2, none⟩) 193 193 m := H.out.below (by (repeat' (first | (with_reducible exact Below.refl _ _) | (with_reducible assumption) | (with_reducible refine below_drewN ?_ _) | (with_reducible refine below_new ?_ _) | (with_reducible refine Below.alloc ?_ ?_ _) | (with_reducible refine Below.drew ?_) | (with_reducible refine Below.setCell ?_ ?_ _) | (with_reducible apply below_at; (case k => (with_reducible assumption)); (case hB => omega)) | (with_reducible apply below_on; (with_reducible assumption)) | (go_size; done) | (with_reducible apply size_of))))
    exact ⟨O'.p.cell i (by rw [O'.lp]; exact hi), O'.n.cell i (by rw [O'.ln]; exact hi), has_cell H'.hp i (by rw [H'.ep]; exact hi), has_cell H'.hn i (by rw [H'.en]; exact hi)⟩)
  have HI : Hid (∀ wx : World, Below w4.heap.size w4 wx → AdIn wx (some ⟨gp, 0, none⟩) (some ⟨gn, 0, none⟩) 193 193 u) := Lib.hid (fun wx hx => (((HO.out.alloc _).past hb4).past hx).inOk HU.out)
  have HAD : Hid (adE u = 0) := Lib.hid (adE_yes HU.out)
  have HAT : Hid (∀ wx : World, Below w4.heap.size w4 wx → wx.cell? ⟨w.heap.size, 0, none⟩ = some (.int .i32 m.l) ∧ wx.cell? ⟨w.heap.size, 2, none⟩ = some (.slice (some ⟨c0, off2, none⟩) 193 cn) ∧ wx.cell? ⟨w3.heap.size, 0, none⟩ = some (.int .i32 m.l) ∧ wx.cell? ⟨w3.heap.size, 1, none⟩ = some (.slice (some ⟨gp, 0, none⟩) 193 c) ∧ wx.cell? ⟨w3.heap.size, 2, none⟩ = some (.slice (some ⟨gn, 0, none⟩) 193 d) ∧ wx.cell? ⟨gp, s.toNat, none⟩ = some (.int .i32 pp) ∧ wx.cell? ⟨gn, s.toNat, none⟩ = some (.int .i32 nn) ∧ wx.cell? ⟨c0, off2 + s.toNat, none⟩ = some (.int .i32 n)) := Lib.hid (fun wx hx => by
    obtain ⟨k, j⟩ := HS.out wx hx
    obtain ⟨z1, z2, z3, z4⟩ := HC.out wx hx s.toNat (by omega)
    rw [HRP.out, if_pos rfl] at z1
    rw [HRN.out, if_pos rfl] at z2
    rw [HNE.out] at z4
    exact ⟨k.three.1, k.three.2.2.1, j.three.1, j.three.2.1, j.three.2.2.1, z1, z2, z4⟩)
  have HW4 : Hid (Below w.heap.size w w4) := Lib.hid (by (repeat' (first | (with_reducible exact Below.refl _ _) | (with_reducible assumption) | (with_reducible refine below_drewN ?_ _) | (with_reducible refine below_new ?_ _) | (with_reducible refine Below.alloc ?_ ?_ _) | (with_reducible refine Below.drew ?_) | (with_reducible refine Below.setCell ?_ ?_ _) | (with_reducible apply below_at; (case k => (with_reducible assumption)); (case hB => omega)) | (with_reducible apply below_on; (with_reducible assumption)) | (go_size; done) | (with_reducible apply size_of))))
  clear K4 L4 K1 K2 hb1 hb2 hb3 hb4 l1 l2
  go_upto_region 6 with fail
  go_cut [86] (fun s86 wx => s86 = .bool false ∧ Below w4.heap.size w4 wx)
  case first =>
    go_region_held3 (fun x' => x'.cell? ⟨w.heap.size, 0, none⟩ = some (.int .i32 m.l) ∧ x'.cell? ⟨w.heap.size, 2, none⟩ = some (.slice (some ⟨c0, off2, none⟩) 193 cn) ∧ x'.cell? ⟨w3.heap.size, 0, none⟩ = some (.int .i32 m.l) ∧ x'.cell? ⟨w3.heap.size, 1, none⟩ = some (.slice (some ⟨gp, 0, none⟩) 193 c) ∧ x'.cell? ⟨w3.heap.size, 2, none⟩ = some (.slice (some ⟨gn, 0, none⟩) 193 d) ∧ x'.cell? ⟨gp, s.toNat, none⟩ = some (.int .i32 pp) ∧ x'.cell? ⟨gn, s.toNat, none⟩ = some (.int .i32 nn) ∧ x'.cell? ⟨c0, off2 + s.toNat, none⟩ = some (.int .i32 n))
      ((exact HAT.out _ (by (repeat' (first | (with_reducible exact Below.refl _ _) | (with_reducible assumption) | (with_reducible refine below_drewN ?_ _) | (with_reducible refine below_new ?_ _) | (with_reducible refine Below.alloc ?_ ?_ _) | (with_reducible refine Below.drew ?_) | (with_reducible refine Below.setCell ?_ ?_ _) | (with_reducible apply below_at; (case k => (with_reducible assumption)); (case hB => omega)) | (with_reducible apply below_on; (with_reducible assumption)) | (go_size; done) | (with_reducible apply size_of))))))
      (first
        | (go_at_call 21; refine (rCheck_at u m.l HUL.out _ _ 193 193 c d _ (HI.out _ (by (repeat' (first | (with_reducible exact Below.refl _ _) | (with_reducible assumption) | (with_reducible refine below_drewN ?_ _) | (with_reducible refine below_new ?_ _) | (with_reducible refine Below.alloc ?_ ?_ _) | (with_reducible refine Below.drew ?_) | (with_reducible refine Below.setCell ?_ ?_ _) | (with_reducible apply below_at; (case k => (with_reducible assumption)); (case hB => omega)) | (with_reducible apply below_on; (with_reducible assumption)) | (go_size; done) | (with_reducible apply size_of)))))).mono ?_; rintro e x1 ⟨rfl, hx1⟩; rw [HAD.out]))
    all_goals
      go_wp2_with fail
      go_meet
      exact ⟨rfl, by (repeat' (first | (with_reducible exact Below.refl _ _) | (with_reducible assumption) | (with_reducible refine below_drewN ?_ _) | (with_reducible refine below_new ?_ _) | (with_reducible refine Below.alloc ?_ ?_ _) | (with_reducible refine Below.drew ?_) | (with_reducible refine Below.setCell ?_ ?_ _) | (with_reducible apply below_at; (case k => (with_reducible assumption)); (case hB => omega)) | (with_reducible apply below_on; (with_reducible assumption)) | (go_size; done) | (with_reducible apply size_of)))⟩
  case rest =>
    obtain ⟨rfl, W⟩ := hcut
    have HW := Lib.hid W
    clear W en hw1 hw2 hmin
    go_wp2_with fail
    go_loopw [13] (fun i wr => ∃ q : Int, 0 ≤ q ∧ q ≤ 193 ∧ i = .int .i64 q ∧ Below w4.heap.size w4 wr) (fun i _ => 193 - (intOf i).toNat)
    case atStart => exact ⟨0, by omega, by omega, rfl, HW.out⟩
    case round =>
      obtain ⟨q, q1, q2, rfl, acc⟩ := hrel
      have HACC := Lib.hid acc
      by_cases hlt : q < 193
      · obtain ⟨k, j⟩ := HS.out wr acc
        obtain ⟨z1, z2, z3, z4⟩ := HC.out wr acc q.toNat (by omega)
        obtain ⟨g0, g1, g2, -, -, -⟩ := k.three
        obtain ⟨j0, j1, j2, -, -, -⟩ := j.three
        clear k j acc
        by_cases hs : q = s
        · have hq : (q != s) = false := by simpa using hs
          go_wp2
          go_quiet (fail)
          go_wp2
          go_roundw
          case rel => exact ⟨q + 1, by omega, by omega, by first | rfl | go_num, by have := HACC.out; (repeat' (first | (with_reducible exact Below.refl _ _) | (with_reducible assumption) | (with_reducible refine below_drewN ?_ _) | (with_reducible refine below_new ?_ _) | (with_reducible refine Below.alloc ?_ ?_ _) | (with_reducible refine Below.drew ?_) | (with_reducible refine Below.setCell ?_ ?_ _) | (with_reducible apply below_at; (case k => (with_reducible assumption)); (case hB => omega)) | (with_reducible apply below_on; (with_reducible assumption)) | (go_size; done) | (with_reducible apply size_of)))⟩
          case measure => simp [intOf]; omega
        · have hq : (q != s) = true := by simpa using hs
          rw [HRP.out, if_neg (by omega)] at z1
          rw [HRN.out, if_neg (by omega)] at z2
          generalize m.p.getD q.toNat 0 = x at *
          generalize m.n.getD q.toNat 0 = y at *
          go_wp2
          go_quiet (fail)
          go_wp2
          go_roundw
          case rel => exact ⟨q + 1, by omega, by omega, by first | rfl | go_num, by have := HACC.out; (repeat' (first | (with_reducible exact Below.refl _ _) | (with_reducible assumption) | (with_reducible refine below_drewN ?_ _) | (with_reducible refine below_new ?_ _) | (with_reducible refine Below.alloc ?_ ?_ _) | (with_reducible refine Below.drew ?_) | (with_reducible refine Below.setCell ?_ ?_ _) | (with_reducible apply below_at; (case k => (with_reducible assumption)); (case hB => omega)) | (with_reducible apply below_on; (with_reducible assumption)) | (go_size; done) | (with_reducible apply size_of)))⟩
          case measure => simp [intOf]; omega
      · clear acc
        rcases hbit with rfl | rfl
        · obtain ⟨e1, e2⟩ := HD0.out rfl
          by_cases hz : p = 0
          · go_wp2_with (first | (go_at_call 16; refine (alive _).mono ?_; rintro e x2 ⟨rfl, hx2⟩))
            go_ret
            exact ⟨rfl, by have := HW4.out; have := HACC.out; (repeat' (first | (with_reducible exact Below.refl _ _) | (with_reducible assumption) | (with_reducible refine below_drewN ?_ _) | (with_reducible refine below_new ?_ _) | (with_reducible refine Below.alloc ?_ ?_ _) | (with_reducible refine Below.drew ?_) | (with_reducible refine Below.setCell ?_ ?_ _) | (with_reducible apply below_at; (case k => (with_reducible assumption)); (case hB => omega)) | (with_reducible apply below_on; (with_reducible assumption)) | (go_size; done) | (with_reducible apply size_of)))⟩
          · have e3 : pp < p := by omega
            go_wp2_with (first | (go_at_call 16; refine (alive _).mono ?_; rintro e x2 ⟨rfl, hx2⟩))
            go_ret
            exact ⟨rfl, by have := HW4.out; have := HACC.out; (repeat' (first | (with_reducible exact Below.refl _ _) | (with_reducible assumption) | (with_reducible refine below_drewN ?_ _) | (with_reducible refine below_new ?_ _) | (with_reducible refine Below.alloc ?_ ?_ _) | (with_reducible refine Below.drew ?_) | (with_reducible refine Below.setCell ?_ ?_ _) | (with_reducible apply below_at; (case k => (with_reducible assumption)); (case hB => omega)) | (with_reducible apply below_on; (with_reducible assumption)) | (go_size; done) | (with_reducible apply size_of)))⟩
        · have e1 := HD1.out rfl
          go_wp2_with (first | (go_at_call 16; refine (alive _).mono ?_; rintro e x2 ⟨rfl, hx2⟩))
          go_ret
          exact ⟨rfl, by have := HW4.out; have := HACC.out; (repeat' (first | (with_reducible exact Below.refl _ _) | (with_reducible assumption) | (with_reducible refine below_drewN ?_ _) | (with_reducible refine below_new ?_ _) | (with_reducible refine Below.alloc ?_ ?_ _) | (with_reducible refine Below.drew ?_) | (with_reducible refine Below.setCell ?_ ?_ _) | (with_reducible apply below_at; (case k => (with_reducible assumption)); (case hB => omega)) | (with_reducible apply below_on; (with_reducible assumption)) | (go_size; done) | (with_reducible apply size_of)))⟩
theorem range (A B : Option Addr) (lp ln cp cn : Nat) (m : Ad) (s b : Int) (w : World) (hf : AdIn w A B lp ln m ∧ lp ≤ cp ∧ ln ≤ cn) (s0 : 0 ≤ s) (s1 : s ≤ 255) (b0 : 0 ≤ b) (_ : b ≤ 255) :
    Calls Try.prog 6 #[.agg #[.int .i32 (m).l, .slice A lp cp, .slice B ln cn], .int .u8 s, .int .u8 b] w fun e w' => e = .returned (.bool true) ∧ Below w.heap.size w w' := by
  cases h : fitB m lp ln s b
  · exact range_out m A B lp ln cp cn s b w hf.1 s0 s1 b0 h
  · obtain ⟨_, _, hk, hb⟩ := fit_bd h
    have F := fits_of hk s0 b0 hb
    obtain ⟨rfl, rfl⟩ := ad_len hf.1 F.ok
    exact range_main m A B cp cn s b w hf.1 hf.2.1 hf.2.2 s0 s1 F h
end Go.Proofs.Ytipbafcjmeibpaa.adL
