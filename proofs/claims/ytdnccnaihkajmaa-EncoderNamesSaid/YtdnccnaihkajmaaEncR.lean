/- What the reference's Did, Put, Ended and End return, by walks. -/
import Derived.Test.YtdnccnaihkajmaaEncW3
import Derived.Deep.RegionHeld3
namespace Go.Proofs.Ytdnccnaihkajmaa.encW
open Go.RowKit Go.Proofs.Ytdnccnaihkajmaa.base Go.Proofs.Ytdnccnaihkajmaa.encP
set_option linter.unusedVariables false
set_option linter.unusedSimpArgs false

/-- What holds ahead of a round: what is left to give out. -/
def DidAt (g B : Nat) (a0 b0 : Int) (zs : List Int) (w' : World) : Prop :=
  ∃ (y1 y2 : Int) (A : Option Addr) (c : Nat) (ys : List Int) (f : Nat), (Lies (w') (g) 25 [.int .u32 (y1), .int .u32 (y2), .slice (A) (ys.length) (c)]) ∧ OwnZ w' B (.slice A ys.length c) ys ∧
    f ≤ 4 ∧ 0 ≤ y1 ∧ y1 ≤ y2 ∧ y2 ≤ 4294967295 ∧ (256 : Int) ^ (4 - f) - 1 ≤ y2 - y1 ∧
    (given f y1 y2).1 = (given 4 a0 b0).1 ∧ (given f y1 y2).2.1 = (given 4 a0 b0).2.1 ∧ ys ++ (given f y1 y2).2.2 = zs ++ (given 4 a0 b0).2.2
theorem did_step {g B f : Nat} {a0 b0 y1 y2 : Int} {zs ys : List Int} {w5 : World} {Ak A5 : Option Addr} {ck c5 : Nat} (K5 : Lies (w5) (g) 25 [.int .u32 (y1), .int .u32 (y2), .slice (Ak) (ys.length) (ck)]) (O5 : OwnZ w5 B (.slice A5 (ys.length + 1) c5) (ys ++ [y1 / 16777216]))
    (f4 : f ≤ 4) (c1 : 0 ≤ y1) (c2 : y1 ≤ y2) (c3 : y2 ≤ 4294967295) (c4 : (256 : Int) ^ (4 - f) - 1 ≤ y2 - y1) (c6 : (given f y1 y2).1 = (given 4 a0 b0).1) (c7 : (given f y1 y2).2.1 = (given 4 a0 b0).2.1) (c8 : ys ++ (given f y1 y2).2.2 = zs ++ (given 4 a0 b0).2.2) (e : y1 / 16777216 = y2 / 16777216) :
    DidAt g B a0 b0 zs (((w5.setCell ⟨g, 2, none⟩ (.slice A5 (ys.length + 1) c5)).setCell ⟨g, 0, none⟩ (.int .u32 (y1 * 256 % 4294967296))).setCell ⟨g, 1, none⟩ (.int .u32 (y2 * 256 % 4294967296 + 255))) := by
  obtain ⟨f', rfl⟩ : ∃ f', f = f' + 1 := by
    cases f with
    | zero => exact absurd c4 (by have : (256 : Int) ^ (4 - 0) = 4294967296 := by decide
                                  rw [this]; omega)
    | succ f' => exact ⟨f', rfl⟩
  obtain ⟨s1, s2, s3, s4, s5⟩ := step_bd c1 c2 c3 e
  have G : given (f' + 1) y1 y2 = ((given f' (y1 * 256 % 4294967296) (y2 * 256 % 4294967296 + 255)).1, (given f' (y1 * 256 % 4294967296) (y2 * 256 % 4294967296 + 255)).2.1, y1 / 16777216 :: (given f' (y1 * 256 % 4294967296) (y2 * 256 % 4294967296 + 255)).2.2) := by rw [given, if_pos e]
  rw [G] at c6 c7 c8
  have hw : (256 : Int) ^ (4 - f') = 256 ^ (4 - (f' + 1)) * 256 := by rw [← Int.pow_succ]; congr 1; omega
  have hl : ys.length + 1 = (ys ++ [y1 / 16777216]).length := by simp
  refine ⟨_, _, A5, c5, ys ++ [y1 / 16777216], f', ?_, ?_, by omega, s1, by omega, s2, ?_, c6, c7, ?_⟩
  · rw [hl]
    exact ((K5.set 2 _).set 0 _).set 1 _
  · rw [← hl]
    exact ((O5.other K5 (by decide) _ _).other (K5.set 2 _) (by decide) _ _).other ((K5.set 2 _).set 0 _) (by decide) _ _
  · rw [s3, hw]; omega
  · rw [List.append_assoc, ← c8]; rfl
theorem given_len {a b : Int} (h1 : 0 ≤ a) (h2 : a ≤ b) (h3 : b ≤ 4294967295) : (given 4 a b).2.2.length ≤ 4 := by
  have e4 : (256 : Int) ^ (4 - 4) = 1 := by decide
  obtain ⟨k1, k2, k3, k4, k5, k6, k7⟩ := given_ok 4 a b (by omega) h1 h2 h3 (by rw [e4]; omega)
  omega
set_option maxRecDepth 100000 in
set_option maxHeartbeats 2000000 in
theorem rDid_any (x1 x2 p : Int) (b : Bool) (A : Option Addr) (n c : Nat) (zs : List Int) (w : World) (a1 : 0 ≤ x1) (a2 : x1 < x2) (a3 : x2 ≤ 4294967295) (hp : pOk p = true) (hA : Has .u8 w A zs) (hn : zs.length = n) (hc : n ≤ c) (m : n ≤ 140737488355000) :
    Calls Try.prog 30 #[.agg #[.int .u32 (x1), .int .u32 (x2), .slice (A) (n) (c)], .int .i64 p, .bool b] w fun e w' => ∃ A' c', e = .returned (.agg #[.int .u32 ((pu x1 x2 p b).1), .int .u32 ((pu x1 x2 p b).2.1), .slice (A') (n + (pu x1 x2 p b).2.2.length) (c')]) ∧ OwnZ w' w.heap.size (.slice A' (n + (pu x1 x2 p b).2.2.length) c') (zs ++ (pu x1 x2 p b).2.2) ∧ Below w.heap.size w w' := by
  have HA := Lib.hid hA
  subst hn
  clear hA
  obtain ⟨q1, q2⟩ := (pOk_iff p).1 hp
  have HP := Lib.hid hp
  clear hp
  go_enter Try.func30, Try.ntmps30
  go_wp2
  go_upto_region 2 with fail
  go_cut [7] (fun s7 wx => ∃ (g : Nat) (A' : Option Addr) (c' : Nat), s7 = .pointer (some ⟨g, 0, none⟩) ∧ (Lies (wx) (g) 25 [.int .u32 (x1), .int .u32 (x2), .slice (A') (zs.length) (c')]) ∧ OwnZ wx (w.heap.size + 2) (.slice A' zs.length c') zs ∧ (Lies (wx) (w.heap.size) 25 [.int .u32 (x1), .int .u32 (x2), .slice (A) (zs.length) (c)]) ∧ (Lies (wx) (w.heap.size + 1) 25 [.int .u32 (0), .int .u32 (0), .slice (none) (0) (0)]) ∧ Below w.heap.size w wx ∧ w.heap.size + 1 < g)
  case first =>
    have L1 : Lies ((w.alloc (.cells #[.int .u32 x1, .int .u32 x2, .slice A zs.length c] 25)).alloc (.cells #[.int .u32 0, .int .u32 0, .slice none 0 0] 25)) (w.heap.size) 25 [.int .u32 (x1), .int .u32 (x2), .slice (A) (zs.length) (c)] := by (repeat' (first | (with_reducible assumption) | (with_reducible exact Lies.fresh _ _ _) | (with_reducible apply Lies.fresh_at; (first | (with_reducible rfl) | (simp; done))) | (with_reducible refine Lies.drew ?_) | (with_reducible refine Lies.drewN ?_ _) | (with_reducible refine Lies.alloc ?_ _) | (with_reducible apply Lies.past; case hb => (with_reducible assumption)) | (with_reducible apply Lies.keeps; (case k => (with_reducible assumption)); (case ht => decide)) | (with_reducible apply Lies.store3) | (with_reducible apply Lies.other; case hp => (first | omega | (simp; done) | (simp; omega)))))
    have L2 : Lies ((w.alloc (.cells #[.int .u32 x1, .int .u32 x2, .slice A zs.length c] 25)).alloc (.cells #[.int .u32 0, .int .u32 0, .slice none 0 0] 25)) (w.heap.size + 1) 25 [.int .u32 (0), .int .u32 (0), .slice (none) (0) (0)] := by (repeat' (first | (with_reducible assumption) | (with_reducible exact Lies.fresh _ _ _) | (with_reducible apply Lies.fresh_at; (first | (with_reducible rfl) | (simp; done))) | (with_reducible refine Lies.drew ?_) | (with_reducible refine Lies.drewN ?_ _) | (with_reducible refine Lies.alloc ?_ _) | (with_reducible apply Lies.past; case hb => (with_reducible assumption)) | (with_reducible apply Lies.keeps; (case k => (with_reducible assumption)); (case ht => decide)) | (with_reducible apply Lies.store3) | (with_reducible apply Lies.other; case hp => (first | omega | (simp; done) | (simp; omega)))))
    have HL1 := Lib.hid L1
    have HL2 := Lib.hid L2
    clear L1 L2
    go_region_held3 (fun x => x.cell? ⟨w.heap.size, 0, none⟩ = some (.int .u32 x1) ∧ x.cell? ⟨w.heap.size, 1, none⟩ = some (.int .u32 x2) ∧ x.cell? ⟨w.heap.size, 2, none⟩ = some (.slice A zs.length c)) ((exact Lies.cells3 (show Lies (_) (w.heap.size) 25 [.int .u32 (x1), .int .u32 (x2), .slice (A) (zs.length) (c)] from (by have := HL1.out; (repeat' (first | (with_reducible assumption) | (with_reducible exact Lies.fresh _ _ _) | (with_reducible apply Lies.fresh_at; (first | (with_reducible rfl) | (simp; done))) | (with_reducible refine Lies.drew ?_) | (with_reducible refine Lies.drewN ?_ _) | (with_reducible refine Lies.alloc ?_ _) | (with_reducible apply Lies.past; case hb => (with_reducible assumption)) | (with_reducible apply Lies.keeps; (case k => (with_reducible assumption)); (case ht => decide)) | (with_reducible apply Lies.store3) | (with_reducible apply Lies.other; case hp => (first | omega | (simp; done) | (simp; omega)))))))))
      ((refine step_app8g (by rfl) _ _ (by rfl) (w.heap.size + 2) _ [] (by rfl) (.inr ⟨rfl, _, rfl⟩) A zs.length c zs (by rfl) rfl (HA.out.below (by (repeat' (first | (with_reducible exact Below.refl _ _) | (with_reducible assumption) | (with_reducible refine below_drewN ?_ _) | (with_reducible refine below_new ?_ _) | (with_reducible refine Below.alloc ?_ ?_ _) | (with_reducible refine Below.drew ?_) | (with_reducible refine Below.setCell ?_ ?_ _) | (with_reducible apply below_at; (case k => (with_reducible assumption)); (case hB => omega)) | (with_reducible apply below_on; (with_reducible assumption)) | (go_size; done) | (with_reducible apply size_of)))) (Nat.le_refl _)) zs.length (by simp) (by omega) (by simp; try omega) ?_; intro A1 c1 w2 o2 l2 b2; first | (refine lay (P := Lies (w2) (w.heap.size + 2) 25 [.int .u32 (0), .int .u32 (0), .slice (none) (0) (0)]) ?_ ?_; (focus ((repeat' (first | (with_reducible assumption) | (with_reducible exact Lies.fresh _ _ _) | (with_reducible apply Lies.fresh_at; (first | (with_reducible rfl) | (simp; done))) | (with_reducible refine Lies.drew ?_) | (with_reducible refine Lies.drewN ?_ _) | (with_reducible refine Lies.alloc ?_ _) | (with_reducible apply Lies.past; case hb => (with_reducible assumption)) | (with_reducible apply Lies.keeps; (case k => (with_reducible assumption)); (case ht => decide)) | (with_reducible apply Lies.store3) | (with_reducible apply Lies.other; case hp => (first | omega | (simp; done) | (simp; omega))))); done)); intro L9; obtain ⟨b0, b1, b9, g0, g1, g2⟩ := L9.three; have lb := L9.lt) | (refine lay (P := Lies (w2) (w.heap.size + 3) 25 [.int .u32 (0), .int .u32 (0), .slice (none) (0) (0)]) ?_ ?_; (focus ((repeat' (first | (with_reducible assumption) | (with_reducible exact Lies.fresh _ _ _) | (with_reducible apply Lies.fresh_at; (first | (with_reducible rfl) | (simp; done))) | (with_reducible refine Lies.drew ?_) | (with_reducible refine Lies.drewN ?_ _) | (with_reducible refine Lies.alloc ?_ _) | (with_reducible apply Lies.past; case hb => (with_reducible assumption)) | (with_reducible apply Lies.keeps; (case k => (with_reducible assumption)); (case ht => decide)) | (with_reducible apply Lies.store3) | (with_reducible apply Lies.other; case hp => (first | omega | (simp; done) | (simp; omega))))); done)); intro L9; obtain ⟨b0, b1, b9, g0, g1, g2⟩ := L9.three; have lb := L9.lt) | skip))
    all_goals
      go_wp2_with fail
      go_meet
      have hs3 := b2.size
      simp at hs3
    · exact ⟨w2.heap.size, A1, c1, rfl, by (repeat' (first | (with_reducible assumption) | (with_reducible exact Lies.fresh _ _ _) | (with_reducible apply Lies.fresh_at; (first | (with_reducible rfl) | (simp; done))) | (with_reducible refine Lies.drew ?_) | (with_reducible refine Lies.drewN ?_ _) | (with_reducible refine Lies.alloc ?_ _) | (with_reducible apply Lies.past; case hb => (with_reducible assumption)) | (with_reducible apply Lies.keeps; (case k => (with_reducible assumption)); (case ht => decide)) | (with_reducible apply Lies.store3) | (with_reducible apply Lies.other; case hp => (first | omega | (simp; done) | (simp; omega))))), o2.alloc _, by have := HL1.out; (repeat' (first | (with_reducible assumption) | (with_reducible exact Lies.fresh _ _ _) | (with_reducible apply Lies.fresh_at; (first | (with_reducible rfl) | (simp; done))) | (with_reducible refine Lies.drew ?_) | (with_reducible refine Lies.drewN ?_ _) | (with_reducible refine Lies.alloc ?_ _) | (with_reducible apply Lies.past; case hb => (with_reducible assumption)) | (with_reducible apply Lies.keeps; (case k => (with_reducible assumption)); (case ht => decide)) | (with_reducible apply Lies.store3) | (with_reducible apply Lies.other; case hp => (first | omega | (simp; done) | (simp; omega))))), by have := HL2.out; (repeat' (first | (with_reducible assumption) | (with_reducible exact Lies.fresh _ _ _) | (with_reducible apply Lies.fresh_at; (first | (with_reducible rfl) | (simp; done))) | (with_reducible refine Lies.drew ?_) | (with_reducible refine Lies.drewN ?_ _) | (with_reducible refine Lies.alloc ?_ _) | (with_reducible apply Lies.past; case hb => (with_reducible assumption)) | (with_reducible apply Lies.keeps; (case k => (with_reducible assumption)); (case ht => decide)) | (with_reducible apply Lies.store3) | (with_reducible apply Lies.other; case hp => (first | omega | (simp; done) | (simp; omega))))), by (repeat' (first | (with_reducible exact Below.refl _ _) | (with_reducible assumption) | (with_reducible refine below_drewN ?_ _) | (with_reducible refine below_new ?_ _) | (with_reducible refine Below.alloc ?_ ?_ _) | (with_reducible refine Below.drew ?_) | (with_reducible refine Below.setCell ?_ ?_ _) | (with_reducible apply below_at; (case k => (with_reducible assumption)); (case hB => omega)) | (with_reducible apply below_on; (with_reducible assumption)) | (go_size; done) | (with_reducible apply size_of))), by omega⟩
    · exact ⟨w.heap.size + 3, A1, c1, rfl, Lies.store3 L9, o2.store3 L9 (by decide), by have := HL1.out; (repeat' (first | (with_reducible assumption) | (with_reducible exact Lies.fresh _ _ _) | (with_reducible apply Lies.fresh_at; (first | (with_reducible rfl) | (simp; done))) | (with_reducible refine Lies.drew ?_) | (with_reducible refine Lies.drewN ?_ _) | (with_reducible refine Lies.alloc ?_ _) | (with_reducible apply Lies.past; case hb => (with_reducible assumption)) | (with_reducible apply Lies.keeps; (case k => (with_reducible assumption)); (case ht => decide)) | (with_reducible apply Lies.store3) | (with_reducible apply Lies.other; case hp => (first | omega | (simp; done) | (simp; omega))))), by have := HL2.out; (repeat' (first | (with_reducible assumption) | (with_reducible exact Lies.fresh _ _ _) | (with_reducible apply Lies.fresh_at; (first | (with_reducible rfl) | (simp; done))) | (with_reducible refine Lies.drew ?_) | (with_reducible refine Lies.drewN ?_ _) | (with_reducible refine Lies.alloc ?_ _) | (with_reducible apply Lies.past; case hb => (with_reducible assumption)) | (with_reducible apply Lies.keeps; (case k => (with_reducible assumption)); (case ht => decide)) | (with_reducible apply Lies.store3) | (with_reducible apply Lies.other; case hp => (first | omega | (simp; done) | (simp; omega))))), by (repeat' (first | (with_reducible exact Below.refl _ _) | (with_reducible assumption) | (with_reducible refine below_drewN ?_ _) | (with_reducible refine below_new ?_ _) | (with_reducible refine Below.alloc ?_ ?_ _) | (with_reducible refine Below.drew ?_) | (with_reducible refine Below.setCell ?_ ?_ _) | (with_reducible apply below_at; (case k => (with_reducible assumption)); (case hB => omega)) | (with_reducible apply below_on; (with_reducible assumption)) | (go_size; done) | (with_reducible apply size_of))), by omega⟩
    · exact ⟨w.heap.size + 2, A1, c1, rfl, Lies.store3 L9, o2.store3 L9 (by decide), by have := HL1.out; (repeat' (first | (with_reducible assumption) | (with_reducible exact Lies.fresh _ _ _) | (with_reducible apply Lies.fresh_at; (first | (with_reducible rfl) | (simp; done))) | (with_reducible refine Lies.drew ?_) | (with_reducible refine Lies.drewN ?_ _) | (with_reducible refine Lies.alloc ?_ _) | (with_reducible apply Lies.past; case hb => (with_reducible assumption)) | (with_reducible apply Lies.keeps; (case k => (with_reducible assumption)); (case ht => decide)) | (with_reducible apply Lies.store3) | (with_reducible apply Lies.other; case hp => (first | omega | (simp; done) | (simp; omega))))), by have := HL2.out; (repeat' (first | (with_reducible assumption) | (with_reducible exact Lies.fresh _ _ _) | (with_reducible apply Lies.fresh_at; (first | (with_reducible rfl) | (simp; done))) | (with_reducible refine Lies.drew ?_) | (with_reducible refine Lies.drewN ?_ _) | (with_reducible refine Lies.alloc ?_ _) | (with_reducible apply Lies.past; case hb => (with_reducible assumption)) | (with_reducible apply Lies.keeps; (case k => (with_reducible assumption)); (case ht => decide)) | (with_reducible apply Lies.store3) | (with_reducible apply Lies.other; case hp => (first | omega | (simp; done) | (simp; omega))))), by (repeat' (first | (with_reducible exact Below.refl _ _) | (with_reducible assumption) | (with_reducible refine below_drewN ?_ _) | (with_reducible refine below_new ?_ _) | (with_reducible refine Below.alloc ?_ ?_ _) | (with_reducible refine Below.drew ?_) | (with_reducible refine Below.setCell ?_ ?_ _) | (with_reducible apply below_at; (case k => (with_reducible assumption)); (case hB => omega)) | (with_reducible apply below_on; (with_reducible assumption)) | (go_size; done) | (with_reducible apply size_of))), by omega⟩
  case rest =>
    obtain ⟨g, A', c', rfl, Lg, O3, L1, L2, W2, hg⟩ := hcut
    have HLg := Lib.hid Lg
    have HL1 := Lib.hid L1
    have HL2 := Lib.hid L2
    have HO3 := Lib.hid O3
    have HW2 := Lib.hid W2
    obtain ⟨g0, g1, g2, k0, k1, k2⟩ := Lg.three
    obtain ⟨p0, p1, p2, f0, f1, f2⟩ := L1.three
    have lg := Lg.lt
    obtain ⟨m1, m2⟩ := mid_bd a2 q1 q2
    have e4 : (256 : Int) ^ (4 - 4) - 1 = 0 := by decide
    have HE4 := Lib.hid e4
    have HN := nx_bd (b := b) a1 a2 a3 HP.out
    have HPU : Hid (pu x1 x2 p b = given 4 (nx x1 x2 p b).1 (nx x1 x2 p b).2) := Lib.hid rfl
    obtain ⟨a0, b0, hab⟩ : ∃ a0 b0, nx x1 x2 p b = (a0, b0) := ⟨_, _, rfl⟩
    rw [hab] at HN HPU
    obtain ⟨n1, n2, n3⟩ := HN
    simp only at n1 n2 n3
    have HAB := Lib.hid hab
    have HL4 := given_len n1 n2 n3
    clear Lg L1 L2 O3 W2 e4 hab
    have HM := Lib.hid (rMiddle_any x1 x2 p wc a1 a3 a2 q1 q2)
    cases b
    all_goals
      go_wp2_with (go_at_call 27; refine HM.out.mono ?_; rintro e w' ⟨rfl, rfl⟩)
      clear g0 g1 g2 k0 k1 k2 p0 p1 p2 f0 f1 f2 HM
      go_loopw [] (fun wr => DidAt g (w.heap.size + 2) a0 b0 zs wr ∧ (Lies (wr) (w.heap.size) 25 [.int .u32 (x1), .int .u32 (x2), .slice (A) (zs.length) (c)]) ∧ (Lies (wr) (w.heap.size + 1) 25 [.int .u32 (0), .int .u32 (0), .slice (none) (0) (0)]) ∧ Below w.heap.size w wr) (fun wr => putMu g (zs.length + 5) wr)
      case atStart =>
        have hab := HAB.out
        simp [nx] at hab
        obtain ⟨rfl, rfl⟩ := hab
        refine ⟨⟨_, _, A', c', zs, 4, HLg.out.set _ _, HO3.out.other HLg.out (by decide) _ _, by omega, n1, n2, n3, by rw [HE4.out]; omega, rfl, rfl, rfl⟩, HL1.out.other (by simp; omega) _, HL2.out.other (by simp; omega) _, HW2.out.setCell (by simp; omega) _⟩
      case round =>
        obtain ⟨⟨y1, y2, Ak, ck, ys, f, K, O, f4, c1, c2, c3, c4, c6, c7, c8⟩, K1, K2, hbel⟩ := hrel
        have HK := Lib.hid K
        have HO := Lib.hid O
        have HK1 := Lib.hid K1
        have HK2 := Lib.hid K2
        have HW := Lib.hid hbel
        have C4 := Lib.hid c4
        have C6 := Lib.hid c6
        have C7 := Lib.hid c7
        have C8 := Lib.hid c8
        obtain ⟨g0, g1, g2, k0, k1, k2⟩ := K.three
        have hbz : w.heap.size + 2 ≤ wr.heap.size := by have := K2.lt; omega
        have HYL : ys.length ≤ zs.length + 4 := by
          have := congrArg List.length c8
          rw [List.length_append, List.length_append] at this
          omega
        clear K O K1 K2 hbel c4 c6 c7 c8
        by_cases e : y1 / 16777216 = y2 / 16777216
        · have eb : (y1 / 16777216 == y2 / 16777216) = true := by simpa using e
          have HEE := Lib.hid e
          have hgm := given_more (f := f) c3 c1 C4.out e
          have y255 : y1 / 16777216 ≤ 255 := by omega
          clear e
          go_wp2_with (at_builtin; refine app8z rfl _ _ rfl (w.heap.size + 2) _ ys rfl (HO.out.alloc _) (some ⟨wr.heap.size, 0, none⟩) 1 1 [y1 / 16777216] rfl rfl (has_lit (zs := [y1 / 16777216]) rfl (by simp [maxLen])) (ys.length + 1) rfl (by omega) (by simp; omega) ?_; intro A5 c5 w5 ho5 hl5 hb5; have K5 : Lies (w5) (g) 25 [.int .u32 (y1), .int .u32 (y2), .slice (Ak) (ys.length) (ck)] := hl5 _ _ _ (HK.out.alloc _) (by decide); obtain ⟨g0, g1, g2, k0, k1, k2⟩ := K5.three; have HK5 := Lib.hid K5; have HL5 := Lib.hid hl5; have HO5 := Lib.hid ho5; have HB5 := Lib.hid hb5; clear K5 hl5 ho5 hb5)
          go_roundw
          case rel =>
            refine ⟨did_step HK5.out HO5.out f4 c1 c2 c3 C4.out C6.out C7.out C8.out HEE.out, ?_, ?_, ?_⟩
            · exact (((HL5.out _ _ _ (HK1.out.alloc _) (by decide)).other (by simp; omega) _).other (by simp; omega) _).other (by simp; omega) _
            · exact (((HL5.out _ _ _ (HK2.out.alloc _) (by decide)).other (by simp; omega) _).other (by simp; omega) _).other (by simp; omega) _
            · exact ((((HW.out.alloc HW.out.size _).trans (HB5.out.mono (by omega))).setCell (by simp; omega) _).setCell (by simp; omega) _).setCell (by simp; omega) _
          case measure =>
            rw [putMu_of HK.out]
            have hmu := putMu_of (T := zs.length + 5) (((HK5.out.set 2 (.slice A5 (ys.length + 1) c5)).set 0 (.int .u32 (y1 * 256 % 4294967296))).set 1 (.int .u32 (y2 * 256 % 4294967296 + 255)))
            rw [hmu]
            omega
        · have eb : (y1 / 16777216 == y2 / 16777216) = false := by simpa using e
          have HEE := Lib.hid e
          clear e
          obtain ⟨p0, p1, p2, f0, f1, f2⟩ := HK2.out.three
          have lt2 := HK2.out.lt
          go_wp2
          have KF := (HK2.out.store3 (a := .int .u32 y1) (b := .int .u32 y2) (c := .slice Ak ys.length ck)).three
          obtain ⟨r0, r1, r2, _, _, _⟩ := KF
          refine bodyPost_ret (by simp [results, Try.results30, go_sem, r0, r1, r2]; try rfl) rfl ?_
          rw [HPU.out]
          have G : given f y1 y2 = (y1, y2, []) := by cases f <;> simp [given, HEE.out]
          have d6 := C6.out
          have d7 := C7.out
          have d8 := C8.out
          rw [G] at d6 d7 d8
          simp only [List.append_nil] at d6 d7 d8
          rw [← d6, ← d7, ← d8]
          have d9 : zs.length + (given 4 a0 b0).2.2.length = ys.length := by rw [d8, List.length_append]
          rw [d9]
          exact ⟨Ak, ck, rfl, (HO.out.store3 HK2.out (by decide)).mono (by omega), by have := HW.out; (repeat' (first | (with_reducible exact Below.refl _ _) | (with_reducible assumption) | (with_reducible refine below_drewN ?_ _) | (with_reducible refine below_new ?_ _) | (with_reducible refine Below.alloc ?_ ?_ _) | (with_reducible refine Below.drew ?_) | (with_reducible refine Below.setCell ?_ ?_ _) | (with_reducible apply below_at; (case k => (with_reducible assumption)); (case hB => omega)) | (with_reducible apply below_on; (with_reducible assumption)) | (go_size; done) | (with_reducible apply size_of)))⟩
end Go.Proofs.Ytdnccnaihkajmaa.encW
