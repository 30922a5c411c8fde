/- What put does, by a walk: under way. -/
import Derived.Test.YtdnccnaihkajmaaEncW
import Derived.Test.YtdnccnaihkajmaaEncPlain2
import Derived.Test.YtdnccnaihkajmaaMem8
import Derived.Test.YtdnccnaihkajmaaReg
import Derived.Test.YtdnccnaihkajmaaBlock
import Derived.Test.YtdnccnaihkajmaaJump
import Derived.Test.YtdnccnaihkajmaaStep
import Derived.Test.YtdnccnaihkajmaaOwnZ
import Derived.Handy
import Derived.Deep.RegionLaw
import Derived.IntWalk
import Derived.Outline
import Derived.Deep.DeepMust
import Derived.Deep.QuietTactic
import Derived.BigQuiet
import Derived.WalkMore
namespace Go.Proofs.Ytdnccnaihkajmaa.encW
open Go.RowKit Go.Proofs.Ytdnccnaihkajmaa.base Go.Proofs.Ytdnccnaihkajmaa.encP
set_option linter.unusedVariables false
set_option linter.unusedSimpArgs false

/-- What holds at the label: what is left to give out. -/
def PutAt (g B : Nat) (w : World) (a0 b0 : Int) (zs : List Int) (w' : World) : Prop :=
  ∃ (y1 y2 : Int) (v : Value) (ys : List Int) (f : Nat), Lies w' g 25 [.int .u32 y1, .int .u32 y2, v] ∧ OwnZ w' B v ys ∧ Below B w w' ∧
    f ≤ 4 ∧ 0 ≤ y1 ∧ y1 ≤ y2 ∧ y2 ≤ 4294967295 ∧ (256 : Int) ^ (4 - f) - 1 ≤ y2 - y1 ∧ ys.length ≤ 20000 ∧
    (given f y1 y2).1 = (given 4 a0 b0).1 ∧ (given f y1 y2).2.1 = (given 4 a0 b0).2.1 ∧ ys ++ (given f y1 y2).2.2 = zs ++ (given 4 a0 b0).2.2
def putMu (g T : Nat) (w' : World) : Nat := match w'.cell? ⟨g, 2, none⟩ with | some (.slice _ n _) => T - n | _ => 0
def PutPost (g B : Nat) (w : World) (a0 b0 : Int) (zs : List Int) (e : Ending) (w' : World) : Prop :=
  e = .returned (.int .i64 (if zs.length + (given 4 a0 b0).2.2.length ≤ 20000 then 0 else 4)) ∧ Below B w w' ∧
    (zs.length + (given 4 a0 b0).2.2.length ≤ 20000 → ∃ v, Lies w' g 25 [.int .u32 (given 4 a0 b0).1, .int .u32 (given 4 a0 b0).2.1, v] ∧ OwnZ w' B v (zs ++ (given 4 a0 b0).2.2))
theorem given_more {f : Nat} {y1 y2 : Int} (c3 : y2 ≤ 4294967295) (c1 : 0 ≤ y1) (c4 : (256 : Int) ^ (4 - f) - 1 ≤ y2 - y1) (e : y1 / 16777216 = y2 / 16777216) : 1 ≤ (given f y1 y2).2.2.length := by
  cases f with
  | zero => exact absurd c4 (by have : (256 : Int) ^ (4 - 0) = 4294967296 := by decide
                                rw [this]; omega)
  | succ f' => rw [given, if_pos e]; simp
theorem post_full {g B f : Nat} {w w1 : World} {a0 b0 y1 y2 : Int} {ys zs : List Int} (hz : ys.length = 20000) (c8 : ys ++ (given f y1 y2).2.2 = zs ++ (given 4 a0 b0).2.2) (hm : 1 ≤ (given f y1 y2).2.2.length) (bel : Below B w w1) :
    PutPost g B w a0 b0 zs (.returned (.int .i64 4)) w1 := by
  have hl := congrArg List.length c8
  rw [List.length_append, List.length_append] at hl
  have : ¬ zs.length + (given 4 a0 b0).2.2.length ≤ 20000 := by omega
  exact ⟨by rw [if_neg this], bel, fun h => absurd h this⟩
theorem post_done {g B f : Nat} {w w1 : World} {a0 b0 y1 y2 : Int} {ys zs : List Int} {v : Value} (G : given f y1 y2 = (y1, y2, [])) (c6 : (given f y1 y2).1 = (given 4 a0 b0).1) (c7 : (given f y1 y2).2.1 = (given 4 a0 b0).2.1) (c8 : ys ++ (given f y1 y2).2.2 = zs ++ (given 4 a0 b0).2.2)
    (hy : ys.length ≤ 20000) (bel : Below B w w1) (K : Lies w1 g 25 [.int .u32 y1, .int .u32 y2, v]) (ho : OwnZ w1 B v ys) : PutPost g B w a0 b0 zs (.returned (.int .i64 0)) w1 := by
  rw [G] at c6 c7 c8
  have c8' : ys = zs ++ (given 4 a0 b0).2.2 := by simpa using c8
  have hl : ys.length = zs.length + (given 4 a0 b0).2.2.length := by rw [c8', List.length_append]
  exact ⟨by rw [if_pos (by omega)], bel, fun _ => ⟨v, by rw [← c6, ← c7]; exact K, by rw [← c8']; exact ho⟩⟩
theorem putMu_of {g T n c : Nat} {w : World} {t : TypeId} {a b : Value} {A : Option Addr} (K : Lies w g t [a, b, .slice A n c]) : putMu g T w = T - n := by
  unfold putMu
  rw [K.cell 2]
  rfl
theorem own_drewN {w : World} {B : Nat} {e : TypeId} {k : IntKind} {v : Value} {zs : List Int} (h : OwnI w B e k v zs) (n : Nat) : OwnI (w.drewN n) B e k v zs := h
theorem own_drew {w : World} {B : Nat} {e : TypeId} {k : IntKind} {v : Value} {zs : List Int} (h : OwnI w B e k v zs) : OwnI w.drew B e k v zs := h
theorem own_alloc {w : World} {B : Nat} {e : TypeId} {k : IntKind} {v : Value} {zs : List Int} (h : OwnI w B e k v zs) (o : Obj) : OwnI (w.alloc o) B e k v zs := h.below ((Below.refl _ _).alloc (Nat.le_refl _) _) (Nat.le_refl _)
theorem two8 : (2 : Nat) ^ 8 = 256 := by decide
theorem or255 (y : Int) (h : 0 ≤ y) : bits .or .u32 (y * 256 % 4294967296) 255 = y * 256 % 4294967296 + 255 := by
  obtain ⟨a, ha⟩ := Int.eq_ofNat_of_zero_le (show 0 ≤ y * 256 % 4294967296 / 256 by omega)
  have p8 := two8
  have e0 : y * 256 % 4294967296 = ((2 ^ 8 * a : Nat) : Int) := by rw [p8]; omega
  have hb : 2 ^ 8 * a < 4294967296 := by rw [p8] at *; omega
  rw [e0]
  have e : (BitVec.ofInt 32 ((2 ^ 8 * a : Nat) : Int)).toNat = 2 ^ 8 * a := by
    rw [BitVec.ofInt_natCast, BitVec.toNat_ofNat]
    exact Nat.mod_eq_of_lt hb
  have e2 : (BitVec.ofInt 32 255).toNat = 255 := by decide
  show IntKind.u32.wrap (((BitVec.ofInt 32 ((2 ^ 8 * a : Nat) : Int)) ||| (BitVec.ofInt 32 255)).toNat : Int) = _
  rw [BitVec.toNat_or, e, e2, ← Nat.two_pow_add_eq_or_of_lt (show 255 < 2 ^ 8 by decide) a, IntKind.wrap_u32]
  rw [p8] at *
  omega
/-- The frame at the label. -/
def PutJ (g B : Nat) (p : Int) (b : Bool) (w : World) (a0 b0 : Int) (zs : List Int) (a' : Act) (w' : World) : Prop :=
  ∃ U : Nat → Value, a' = { tmps := #[.pointer (some ⟨g, 0, none⟩), .int .i64 p, .bool b, U 3, U 4, U 5, .int .i64 0, U 7, U 8, U 9, U 10, U 11, U 12, U 13, U 14, U 15, U 16, U 17, U 18, U 19, U 20, U 21, U 22, U 23, U 24, U 25, U 26, U 27, U 28, U 29, U 30, U 31, U 32, U 33, U 34, U 35, U 36, U 37, U 38, U 39, U 40, U 41, U 42, U 43, U 44, U 45, U 46, U 47, U 48, U 49, U 50, U 51, U 52, U 53, U 54, U 55, U 56, U 57, U 58, U 59, U 60, U 61, U 62, U 63, U 64, U 65, U 66, U 67, U 68, U 69, U 70, U 71, U 72, U 73, U 74, U 75, U 76, U 77, U 78, U 79, U 80, U 81, U 82], defers := [] } ∧ PutAt g B w a0 b0 zs w'
theorem putJ_of {g B : Nat} {p : Int} {b : Bool} {w : World} {a0 b0 : Int} {zs : List Int} {w' : World} (ts : Array Value) (h : ts = #[.pointer (some ⟨g, 0, none⟩), .int .i64 p, .bool b, ts.getD 3 undef, ts.getD 4 undef, ts.getD 5 undef, .int .i64 0, ts.getD 7 undef, ts.getD 8 undef, ts.getD 9 undef, ts.getD 10 undef, ts.getD 11 undef, ts.getD 12 undef, ts.getD 13 undef, ts.getD 14 undef, ts.getD 15 undef, ts.getD 16 undef, ts.getD 17 undef, ts.getD 18 undef, ts.getD 19 undef, ts.getD 20 undef, ts.getD 21 undef, ts.getD 22 undef, ts.getD 23 undef, ts.getD 24 undef, ts.getD 25 undef, ts.getD 26 undef, ts.getD 27 undef, ts.getD 28 undef, ts.getD 29 undef, ts.getD 30 undef, ts.getD 31 undef, ts.getD 32 undef, ts.getD 33 undef, ts.getD 34 undef, ts.getD 35 undef, ts.getD 36 undef, ts.getD 37 undef, ts.getD 38 undef, ts.getD 39 undef, ts.getD 40 undef, ts.getD 41 undef, ts.getD 42 undef, ts.getD 43 undef, ts.getD 44 undef, ts.getD 45 undef, ts.getD 46 undef, ts.getD 47 undef, ts.getD 48 undef, ts.getD 49 undef, ts.getD 50 undef, ts.getD 51 undef, ts.getD 52 undef, ts.getD 53 undef, ts.getD 54 undef, ts.getD 55 undef, ts.getD 56 undef, ts.getD 57 undef, ts.getD 58 undef, ts.getD 59 undef, ts.getD 60 undef, ts.getD 61 undef, ts.getD 62 undef, ts.getD 63 undef, ts.getD 64 undef, ts.getD 65 undef, ts.getD 66 undef, ts.getD 67 undef, ts.getD 68 undef, ts.getD 69 undef, ts.getD 70 undef, ts.getD 71 undef, ts.getD 72 undef, ts.getD 73 undef, ts.getD 74 undef, ts.getD 75 undef, ts.getD 76 undef, ts.getD 77 undef, ts.getD 78 undef, ts.getD 79 undef, ts.getD 80 undef, ts.getD 81 undef, ts.getD 82 undef]) (hp : PutAt g B w a0 b0 zs w') : PutJ g B p b w a0 b0 zs { tmps := ts, defers := [] } w' :=
  ⟨fun i => ts.getD i undef, congrArg (fun t => ({ tmps := t, defers := [] } : Act)) h, hp⟩
theorem putAt_false {g B : Nat} {w w1 : World} {a0 b0 x1 x2 m : Int} {v : Value} {zs : List Int} (K : Lies w1 g 25 [.int .u32 x1, .int .u32 x2, v]) (ho : OwnZ w1 B v zs) (bel : Below B w w1) (hg : B ≤ g)
    (a1 : 0 ≤ x1) (a3 : x2 ≤ 4294967295) (m1 : x1 ≤ m) (m2 : m < x2) (hz : zs.length ≤ 20000) (hab : (a0, b0) = (m + 1, x2)) : PutAt g B w a0 b0 zs (w1.setCell ⟨g, 0, none⟩ (.int .u32 (m + 1))) := by
  injection hab with h1 h2
  subst h1 h2
  refine ⟨m + 1, _, v, zs, 4, K.set 0 _, ?_, bel.setCell hg _, by omega, by omega, by omega, a3, by simp; omega, hz, rfl, rfl, rfl⟩
  rcases ho with ho | ho
  · exact .inl (own_set ho (own_ne ho K (by decide)) _)
  · exact .inr ho
theorem putAt_true {g B : Nat} {w w1 : World} {a0 b0 x1 x2 m : Int} {v : Value} {zs : List Int} (K : Lies w1 g 25 [.int .u32 x1, .int .u32 x2, v]) (ho : OwnZ w1 B v zs) (bel : Below B w w1) (hg : B ≤ g)
    (a1 : 0 ≤ x1) (a3 : x2 ≤ 4294967295) (m1 : x1 ≤ m) (m2 : m < x2) (hz : zs.length ≤ 20000) (hab : (a0, b0) = (x1, m)) : PutAt g B w a0 b0 zs (w1.setCell ⟨g, 1, none⟩ (.int .u32 m)) := by
  injection hab with h1 h2
  subst h1 h2
  refine ⟨_, _, v, zs, 4, K.set 1 _, ?_, bel.setCell hg _, by omega, by omega, by omega, by omega, by simp; omega, hz, rfl, rfl, rfl⟩
  rcases ho with ho | ho
  · exact .inl (own_set ho (own_ne ho K (by decide)) _)
  · exact .inr ho
theorem Split_ok (x1 x2 p : Int) (w : World) (a1 : 0 ≤ x1) (a2 : x1 < x2) (a3 : x2 ≤ 4294967295) (hp : pOk p = true) : Calls Try.prog 9 #[.int .u32 x1, .int .u32 x2, .int .i64 p] w fun e w' => e = .returned (.tuple #[.int .u32 (mid x1 x2 p), .int .i64 0]) ∧ w = w' := by
  have h : spOk x1 x2 p = true := by simp [spOk, hp, a2]
  have := Split_any x1 x2 p w a1 (by omega) (by omega) a3
  rwa [spV, if_pos h, spE, if_pos h] at this
set_option maxRecDepth 100000 in
set_option maxHeartbeats 2000000 in
theorem put_t (x1 x2 p : Int) (b : Bool) (g B : Nat) (v : Value) (zs : List Int) (w : World) (a1 : 0 ≤ x1) (a2 : x1 < x2) (a3 : x2 ≤ 4294967295) (hp : pOk p = true) (K : Lies w g 25 [.int .u32 x1, .int .u32 x2, v])
    (ho : OwnZ w B v zs) (hB : B ≤ w.heap.size) (hg : B ≤ g) (hz : zs.length ≤ 20000) (a0 b0 : Int) (hab : (a0, b0) = if b then (x1, mid x1 x2 p) else (mid x1 x2 p + 1, x2)) :
    Calls Try.prog 29 #[.pointer (some ⟨g, 0, none⟩), .int .i64 p, .bool b] w (PutPost g B w a0 b0 zs) := by
  have HAB := Lib.hid hab
  have HPP := Lib.hid hp
  clear hab hp
  go_enter Try.func29, Try.ntmps29
  go_wp2
  refine wp_jumps1 0 (PutJ g B p b w a0 b0 zs) (fun _ w' => putMu g (zs.length + (given 4 a0 b0).2.2.length) w') rfl ?pass ?first
  case pass =>
    rintro a' w' ⟨U, rfl, y1, y2, v', ys, f, K', ho', hbel, f4, c1, c2, c3, c4, c5, c6, c7, c8⟩
    obtain ⟨p0, p1, p2, f0, f1, f2⟩ := K'.three
    have HK := Lib.hid K'
    have HO := Lib.hid ho'
    have C6 := Lib.hid c6
    have C7 := Lib.hid c7
    have C8 := Lib.hid c8
    have C4 := Lib.hid c4
    clear K' ho' K ho c6 c7 c8 c4 HAB
    go_wp2
    by_cases e : y1 / 16777216 = y2 / 16777216
    · obtain ⟨A, cap, rfl, hh, hcap⟩ := HO.out.val
      by_cases full : ys.length = 20000
      · go_quiet (fail)
        go_wp2
        simp only [Exit.jump]
        go_ret
        exact post_full full C8.out (given_more c3 c1 C4.out e) (below_drewN hbel _)
      · have fz : ¬ (ys.length : Int) = 20000 := by omega
        have fzb : ((ys.length : Int) == 20000) = false := by simpa using fz
        go_quiet (fail)
        go_wp2
        have BW : B ≤ w'.heap.size := Nat.le_trans hB hbel.size
        have lg := HK.out.lt
        have pa : ∀ (n : Nat) (o : Obj), ((w'.drewN n).alloc o).cell? ⟨g, 2, none⟩ = some (.slice A ys.length cap) := fun n o => ((HK.out.drewN n).alloc o).cell 2
        have wz : IntKind.u8.wrap (y2 / 16777216) = y2 / 16777216 := IntWalk.u8_in _ (by omega)
        have HS := Lib.hid (fun (x : World) (h : Lies x g 25 [.int .u32 y1, .int .u32 y2, .slice A ys.length cap]) => h.three)
        go_region_law
          ((refine step_app8z (by rfl) _ _ (by rfl) B _ ys (by rfl) (((HO.out.drewN _).drew).alloc _) (some ⟨w'.heap.size, 0, none⟩) 1 1 [y2 / 16777216] (by rfl) rfl (has_lit (zs := [y2 / 16777216]) rfl (by simp [maxLen])) (by omega) (ys.length + 1) rfl (by omega) (by simp; omega) ?_; intro A1 k1 w2 own2 hg2 hb2; have HK2 : Hid (Lies w2 g 25 [.int .u32 y1, .int .u32 y2, .slice A ys.length cap]) := Lib.hid (hg2 _ _ _ (((HK.out.drewN _).drew).alloc _) (by decide)); have O2 := Lib.hid own2; have HG2 := Lib.hid hg2; have HB2 := Lib.hid hb2; clear own2 hg2 hb2; obtain ⟨p0, p1, p2, f0, f1, f2⟩ := HK2.out.three))
        all_goals
          clear wz
          go_wp2
          go_step3
          have HOR := or255 y2 (by omega)
          have HF : Hid (∃ f', f = f' + 1) := Lib.hid (by
            cases f with
            | zero => exact absurd C4.out (by have : (256 : Int) ^ (4 - 0) = 4294967296 := by decide
                                              rw [this]; omega)
            | succ f' => exact ⟨f', rfl⟩)
          refine ⟨rfl, putJ_of _ rfl ?_, ?_⟩
          · rw [HOR]
            obtain ⟨f', rfl⟩ := HF.out
            obtain ⟨s1, s2, s3, s4, s5⟩ := step_bd c1 c2 c3 e
            have G : given (f' + 1) y1 y2 = ((given f' (y1 * 256 % 4294967296) (y2 * 256 % 4294967296 + 255)).1, (given f' (y1 * 256 % 4294967296) (y2 * 256 % 4294967296 + 255)).2.1, y1 / 16777216 :: (given f' (y1 * 256 % 4294967296) (y2 * 256 % 4294967296 + 255)).2.2) := by rw [given, if_pos e]
            have q6 := C6.out
            have q7 := C7.out
            have q8 := C8.out
            rw [G] at q6 q7 q8
            have hw : (256 : Int) ^ (4 - f') = 256 ^ (4 - (f' + 1)) * 256 := by rw [← Int.pow_succ]; congr 1; omega
            refine ⟨_, _, .slice A1 (ys.length + 1) k1, ys ++ [y2 / 16777216], f', ?_, ?_, ?_, by omega, s1, by omega, s2, ?_, by simp; omega, q6, q7, ?_⟩
            · exact ((HK2.out.set 2 _).set 0 _).set 1 _
            · have hn := own_ne O2.out HK2.out (by decide)
              rw [← e]
              exact .inl (own_set (own_set (own_set (by rw [e]; exact O2.out) hn _) hn _) hn _)
            · exact (((hbel.trans (((below_drewN (Below.refl _ _) _).alloc BW _).trans HB2.out)).setCell hg _).setCell hg _).setCell hg _
            · rw [s3, hw]; have := C4.out; omega
            · rw [List.append_assoc, ← q8, e]; rfl
          · have hgm := given_more (f := f) c3 c1 C4.out e
            have hl := congrArg List.length C8.out
            rw [List.length_append, List.length_append] at hl
            rw [putMu_of HK.out]
            have hmu := putMu_of (T := zs.length + (given 4 a0 b0).2.2.length) (((HK2.out.set 2 (.slice A1 (ys.length + 1) k1)).set 0 (.int .u32 (y1 * 256 % 4294967296))).set 1 (.int .u32 (bits BinOp.or IntKind.u32 (y2 * 256 % 4294967296) 255)))
            rw [hmu]
            omega
    · have eb : (y1 / 16777216 == y2 / 16777216) = false := by simpa using e
      go_quiet (fail)
      go_wp2
      simp only [Exit.jump]
      go_ret
      exact post_done (by cases f <;> simp [given, e]) C6.out C7.out C8.out c5 (below_drewN hbel _) (HK.out.drewN _) (HO.out.drewN _)
  case first =>
    intro H
    have HH := Lib.hid H
    clear H
    obtain ⟨q1, q2⟩ := (pOk_iff p).1 HPP.out
    obtain ⟨m1, m2⟩ := mid_bd a2 q1 q2
    have HS := Lib.hid (fun W => Split_ok x1 x2 p W a1 a2 a3 HPP.out)
    have HK := Lib.hid K
    have HO := Lib.hid ho
    obtain ⟨p0, p1, p2, f0, f1, f2⟩ := K.three
    clear K ho
    generalize hm : mid x1 x2 p = m at *
    have HM := Lib.hid hm
    clear hm
    cases b
    · go_wp2
      go_quiet ((go_at_call 9; exact Calls.quiet_of_same (turned (HS.out _))))
      go_wp2
      go_step3
      rename_i KK hKK
      refine hKK _ _ (HH.out _ _ ?_)
      refine putJ_of _ rfl ?_
      exact putAt_false (HK.out.drewN _) (HO.out.drewN _) (below_drewN (Below.refl _ _) _) hg a1 a3 m1 m2 hz (HAB.out.trans (by simp))
    · go_wp2
      go_quiet ((go_at_call 9; exact Calls.quiet_of_same (turned (HS.out _))))
      go_wp2
      go_step3
      rename_i KK hKK
      refine hKK _ _ (HH.out _ _ ?_)
      refine putJ_of _ rfl ?_
      exact putAt_true (HK.out.drewN _) (HO.out.drewN _) (below_drewN (Below.refl _ _) _) hg a1 a3 m1 m2 hz (HAB.out.trans (by simp))
end Go.Proofs.Ytdnccnaihkajmaa.encW
