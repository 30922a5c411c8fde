/- After a byte came: the program, by a walk. -/
import Derived.Test.YtemiecghdmagnaaGU
import Derived.Test.YtemiecghdmagnaaGW
namespace Go.Proofs.Ytemiecghdmagnaa.maW
set_option maxRecDepth 100000
open Go.RowKit Go.Proofs.Ytemiecghdmagnaa.base Go.Proofs.Ytemiecghdmagnaa.rgP Go.Proofs.Ytemiecghdmagnaa.fdP Go.Proofs.Ytemiecghdmagnaa.maP Go.Proofs.Ytemiecghdmagnaa.rgW Go.Proofs.Ytemiecghdmagnaa.rgL Go.Proofs.Ytemiecghdmagnaa.hashP Go.Proofs.Ytemiecghdmagnaa.hashW Go.Proofs.Ytemiecghdmagnaa.cxP Go.Proofs.Ytemiecghdmagnaa.fdW
set_option linter.unusedVariables false
set_option linter.unusedSimpArgs false
/-- Where all six lie: the match, the ring, the finder, and the results. -/
structure Six (w W : World) (m : Mt) (r : Rg) (A : Option Addr) (n c : Nat) (f : Fnd) (B : Option Addr) (q d : Nat) : Prop where
  m : Lies (W) (w.heap.size) 23 [.int .i64 (m).a, .int .i64 (m).k]
  r : Lies (W) (w.heap.size + 1) 26 [.int .i64 (r).l, .slice (A) (n) (c), .int .i64 (r).n]
  f : Lies (W) (w.heap.size + 2) 29 [.int .i64 (f).l, .slice (B) (q) (d)]
  zm : Lies (W) (w.heap.size + 3) 23 [.int .i64 (zM).a, .int .i64 (zM).k]
  zr : Lies (W) (w.heap.size + 4) 26 [.int .i64 (zeroR).l, .slice (none) (0) (0), .int .i64 (zeroR).n]
  zf : Lies (W) (w.heap.size + 5) 29 [.int .i64 (zeroF).l, .slice (none) (0) (0)]
  hb : Below w.heap.size w W
theorem Six.past {w W W' : World} {m : Mt} {r : Rg} {A : Option Addr} {n c : Nat} {f : Fnd} {B : Option Addr} {q d : Nat} (h : Six w W m r A n c f B q d) (hb : Below W.heap.size W W') : Six w W' m r A n c f B q d :=
  ⟨h.m.past hb, h.r.past hb, h.f.past hb, h.zm.past hb, h.zr.past hb, h.zf.past hb, h.hb.trans (hb.mono h.hb.size)⟩
theorem six_start (w : World) (m : Mt) (r : Rg) (A : Option Addr) (n c : Nat) (f : Fnd) (B : Option Addr) (q d : Nat) : Six w ((((((w.alloc (.cells #[.int .i64 (m).a, .int .i64 (m).k] 23)).alloc (.cells #[.int .i64 (r).l, .slice A n c, .int .i64 (r).n] 26)).alloc (.cells #[.int .i64 (f).l, .slice B q d] 29)).alloc (.cells #[.int .i64 0, .int .i64 0] 23)).alloc (.cells #[.int .i64 0, .slice none 0 0, .int .i64 0] 26)).alloc (.cells #[.int .i64 0, .slice none 0 0] 29)) m r A n c f B q d :=
  ⟨((((((Lies.fresh _ _ _).alloc _).alloc _).alloc _).alloc _).alloc _), ((((Lies.fresh_at (by simp)).alloc _).alloc _).alloc _).alloc _, (((Lies.fresh_at (by simp)).alloc _).alloc _).alloc _, ((Lies.fresh_at (by simp)).alloc _).alloc _, (Lies.fresh_at (by simp)).alloc _, Lies.fresh_at (by simp), by (repeat' (first | (with_reducible exact Below.refl _ _) | (with_reducible assumption) | (with_reducible refine below_drewN ?_ _) | (with_reducible refine below_new ?_ _) | (with_reducible refine Below.alloc ?_ ?_ _) | (with_reducible refine Below.drew ?_) | (with_reducible refine Below.setCell ?_ ?_ _) | (with_reducible apply below_at; (case k => (with_reducible assumption)); (case hB => omega)) | (with_reducible apply below_on; (with_reducible assumption)) | (go_size; done) | (with_reducible apply size_of)))⟩
theorem Six.setM {w W : World} {m : Mt} {r : Rg} {A : Option Addr} {n c : Nat} {f : Fnd} {B : Option Addr} {q d : Nat} (h : Six w W m r A n c f B q d) (m' : Mt) : Six w ((W.setCell ⟨w.heap.size, 0, none⟩ (.int .i64 m'.a)).setCell ⟨w.heap.size, 1, none⟩ (.int .i64 m'.k)) m' r A n c f B q d :=
  ⟨(h.m.set 0 _).set 1 _, (h.r.other (by simp) _).other (by simp) _, (h.f.other (by simp) _).other (by simp) _, (h.zm.other (by simp) _).other (by simp) _, (h.zr.other (by simp) _).other (by simp) _, (h.zf.other (by simp) _).other (by simp) _, (h.hb.setCell (Nat.le_refl _) _).setCell (Nat.le_refl _) _⟩
theorem Six.setR {w W : World} {m : Mt} {r : Rg} {A : Option Addr} {n c : Nat} {f : Fnd} {B : Option Addr} {q d : Nat} (h : Six w W m r A n c f B q d) (r' : Rg) (A' : Option Addr) (n' c' : Nat) : Six w (((W.setCell ⟨w.heap.size + 1, 0, none⟩ (.int .i64 r'.l)).setCell ⟨w.heap.size + 1, 1, none⟩ (.slice A' n' c')).setCell ⟨w.heap.size + 1, 2, none⟩ (.int .i64 r'.n)) m r' A' n' c' f B q d :=
  ⟨((h.m.other (by simp) _).other (by simp) _).other (by simp) _, h.r.store3, ((h.f.other (by simp) _).other (by simp) _).other (by simp) _, ((h.zm.other (by simp) _).other (by simp) _).other (by simp) _, ((h.zr.other (by simp) _).other (by simp) _).other (by simp) _, ((h.zf.other (by simp) _).other (by simp) _).other (by simp) _, ((h.hb.setCell (Nat.le_succ _) _).setCell (Nat.le_succ _) _).setCell (Nat.le_succ _) _⟩
theorem Six.setF {w W : World} {m : Mt} {r : Rg} {A : Option Addr} {n c : Nat} {f : Fnd} {B : Option Addr} {q d : Nat} (h : Six w W m r A n c f B q d) (f' : Fnd) (B' : Option Addr) (q' d' : Nat) : Six w ((W.setCell ⟨w.heap.size + 2, 0, none⟩ (.int .i64 f'.l)).setCell ⟨w.heap.size + 2, 1, none⟩ (.slice B' q' d')) m r A n c f' B' q' d' :=
  ⟨(h.m.other (by simp) _).other (by simp) _, (h.r.other (by simp) _).other (by simp) _, (h.f.set 0 _).set 1 _, (h.zm.other (by simp) _).other (by simp) _, (h.zr.other (by simp) _).other (by simp) _, (h.zf.other (by simp) _).other (by simp) _, (h.hb.setCell (Nat.le_add_right _ _) _).setCell (Nat.le_add_right _ _) _⟩
/-- The results' blocks behind the last stores. -/
theorem Six.ends {w W : World} {m : Mt} {r : Rg} {A : Option Addr} {n c : Nat} {f : Fnd} {B : Option Addr} {q d : Nat} (h : Six w W m r A n c f B q d) (m' : Mt) (r' : Rg) (A' : Option Addr) (n' c' : Nat) (f' : Fnd) (B' : Option Addr) (q' d' : Nat) : ∀ W', W' = (((((((W.setCell ⟨w.heap.size + 3, 0, none⟩ (.int .i64 m'.a)).setCell ⟨w.heap.size + 3, 1, none⟩ (.int .i64 m'.k)).setCell ⟨w.heap.size + 4, 0, none⟩ (.int .i64 r'.l)).setCell ⟨w.heap.size + 4, 1, none⟩ (.slice A' n' c')).setCell ⟨w.heap.size + 4, 2, none⟩ (.int .i64 r'.n)).setCell ⟨w.heap.size + 5, 0, none⟩ (.int .i64 f'.l)).setCell ⟨w.heap.size + 5, 1, none⟩ (.slice B' q' d')) →
    (Lies (W') (w.heap.size + 3) 23 [.int .i64 (m').a, .int .i64 (m').k]) ∧ (Lies (W') (w.heap.size + 4) 26 [.int .i64 (r').l, .slice (A') (n') (c'), .int .i64 (r').n]) ∧ (Lies (W') (w.heap.size + 5) 29 [.int .i64 (f').l, .slice (B') (q') (d')]) ∧ Below w.heap.size w W' := by
  rintro W' rfl
  refine ⟨?_, ?_, ?_, ?_⟩
  · exact ((((((h.zm.set 0 _).set 1 _).other (by simp) _).other (by simp) _).other (by simp) _).other (by simp) _).other (by simp) _
  · exact ((((h.zr.other (by simp) _).other (by simp) _).store3).other (by simp) _).other (by simp) _
  · exact (((((((h.zf.other (by simp) _).other (by simp) _).other (by simp) _).other (by simp) _).other (by simp) _).set 0 _).set 1 _)
  · exact ((((((h.hb.setCell (Nat.le_add_right _ _) _).setCell (Nat.le_add_right _ _) _).setCell (Nat.le_add_right _ _) _).setCell (Nat.le_add_right _ _) _).setCell (Nat.le_add_right _ _) _).setCell (Nat.le_add_right _ _) _).setCell (Nat.le_add_right _ _) _
/-- The sources and the results of the last region. -/
structure SixE (w W : World) (gm gr gf : Nat) (m : Mt) (r : Rg) (A : Option Addr) (n c : Nat) (f : Fnd) (B : Option Addr) (q d : Nat) : Prop where
  lm : Lies (W) (gm) 23 [.int .i64 (m).a, .int .i64 (m).k]
  lr : Lies (W) (gr) 26 [.int .i64 (r).l, .slice (A) (n) (c), .int .i64 (r).n]
  lf : Lies (W) (gf) 29 [.int .i64 (f).l, .slice (B) (q) (d)]
  zm : ∃ a b, Lies W (w.heap.size + 3) 23 [a, b]
  zr : ∃ a b c, Lies W (w.heap.size + 4) 26 [a, b, c]
  zf : ∃ a b, Lies W (w.heap.size + 5) 29 [a, b]
  nm : gm < w.heap.size + 3 ∨ w.heap.size + 5 < gm
  nr : gr < w.heap.size + 3 ∨ w.heap.size + 5 < gr
  nf : gf < w.heap.size + 3 ∨ w.heap.size + 5 < gf
  o : OwnZ W w.heap.size (.slice A n c) r.b
  v : OwnV W w.heap.size (.slice B q d) f.s
  hb : Below w.heap.size w W
theorem SixE.past {w W W' : World} {gm gr gf : Nat} {m : Mt} {r : Rg} {A : Option Addr} {n c : Nat} {f : Fnd} {B : Option Addr} {q d : Nat} (h : SixE w W gm gr gf m r A n c f B q d) (hb : Below W.heap.size W W') : SixE w W' gm gr gf m r A n c f B q d :=
  ⟨h.lm.past hb, h.lr.past hb, h.lf.past hb, (let ⟨x, y, k⟩ := h.zm; ⟨x, y, k.past hb⟩), (let ⟨x, y, z, k⟩ := h.zr; ⟨x, y, z, k.past hb⟩), (let ⟨x, y, k⟩ := h.zf; ⟨x, y, k.past hb⟩), h.nm, h.nr, h.nf, h.o.past hb, h.v.past hb, h.hb.trans (hb.mono h.hb.size)⟩
theorem SixE.st {w W : World} {gm gr gf g i : Nat} {m : Mt} {r : Rg} {A : Option Addr} {n c : Nat} {f : Fnd} {B : Option Addr} {q d : Nat} (h : SixE w W gm gr gf m r A n c f B q d) (h1 : w.heap.size + 3 ≤ g) (h2 : g ≤ w.heap.size + 5) (hi : i < 2 ∨ (g = w.heap.size + 4 ∧ i < 3)) (x : Value) : SixE w (W.setCell ⟨g, i, none⟩ x) gm gr gf m r A n c f B q d := by
  have nm := h.nm
  have nr := h.nr
  have nf := h.nf
  have hz : ∃ t cs, Lies W g t cs ∧ t ≠ 5 ∧ t ≠ 3 := by
    rcases (show g = w.heap.size + 3 ∨ g = w.heap.size + 4 ∨ g = w.heap.size + 5 by omega) with rfl | rfl | rfl
    · obtain ⟨a, b, k⟩ := h.zm; exact ⟨_, _, k, by decide, by decide⟩
    · obtain ⟨a, b, c, k⟩ := h.zr; exact ⟨_, _, k, by decide, by decide⟩
    · obtain ⟨a, b, k⟩ := h.zf; exact ⟨_, _, k, by decide, by decide⟩
  obtain ⟨t, cs, K, t1, t2⟩ := hz
  refine ⟨h.lm.other (by show g ≠ gm; omega) _, h.lr.other (by show g ≠ gr; omega) _, h.lf.other (by show g ≠ gf; omega) _, ?_, ?_, ?_, nm, nr, nf, h.o.other K t1 i x, h.v.other K t2 i x, h.hb.setCell (by show w.heap.size ≤ g; omega) _⟩
  · obtain ⟨a, b, k⟩ := h.zm
    by_cases e : g = w.heap.size + 3
    · subst e
      rcases (show i = 0 ∨ i = 1 by omega) with rfl | rfl
      · exact ⟨_, _, k.set 0 x⟩
      · exact ⟨_, _, k.set 1 x⟩
    · exact ⟨a, b, k.other (by show g ≠ w.heap.size + 3; exact e) _⟩
  · obtain ⟨a, b, c, k⟩ := h.zr
    by_cases e : g = w.heap.size + 4
    · subst e
      rcases (show i = 0 ∨ i = 1 ∨ i = 2 by omega) with rfl | rfl | rfl
      · exact ⟨_, _, _, k.set 0 x⟩
      · exact ⟨_, _, _, k.set 1 x⟩
      · exact ⟨_, _, _, k.set 2 x⟩
    · exact ⟨a, b, c, k.other (by show g ≠ w.heap.size + 4; exact e) _⟩
  · obtain ⟨a, b, k⟩ := h.zf
    by_cases e : g = w.heap.size + 5
    · subst e
      rcases (show i = 0 ∨ i = 1 by omega) with rfl | rfl
      · exact ⟨_, _, k.set 0 x⟩
      · exact ⟨_, _, k.set 1 x⟩
    · exact ⟨a, b, k.other (by show g ≠ w.heap.size + 5; exact e) _⟩
theorem SixE.stM {w W : World} {gm gr gf : Nat} {m : Mt} {r : Rg} {A : Option Addr} {n c : Nat} {f : Fnd} {B : Option Addr} {q d : Nat} (h : SixE w W gm gr gf m r A n c f B q d) (x y : Value) : SixE w ((W.setCell ⟨w.heap.size + 3, 0, none⟩ x).setCell ⟨w.heap.size + 3, 1, none⟩ y) gm gr gf m r A n c f B q d :=
  (h.st (Nat.le_refl _) (by omega) (.inl (by omega)) x).st (Nat.le_refl _) (by omega) (.inl (by omega)) y
theorem SixE.stR {w W : World} {gm gr gf : Nat} {m : Mt} {r : Rg} {A : Option Addr} {n c : Nat} {f : Fnd} {B : Option Addr} {q d : Nat} (h : SixE w W gm gr gf m r A n c f B q d) (x y z : Value) : SixE w (((W.setCell ⟨w.heap.size + 4, 0, none⟩ x).setCell ⟨w.heap.size + 4, 1, none⟩ y).setCell ⟨w.heap.size + 4, 2, none⟩ z) gm gr gf m r A n c f B q d :=
  ((h.st (by omega) (by omega) (.inl (by omega)) x).st (by omega) (by omega) (.inl (by omega)) y).st (by omega) (by omega) (.inr ⟨rfl, by omega⟩) z
theorem SixE.stF {w W : World} {gm gr gf : Nat} {m : Mt} {r : Rg} {A : Option Addr} {n c : Nat} {f : Fnd} {B : Option Addr} {q d : Nat} (h : SixE w W gm gr gf m r A n c f B q d) (x y : Value) : SixE w ((W.setCell ⟨w.heap.size + 5, 0, none⟩ x).setCell ⟨w.heap.size + 5, 1, none⟩ y) gm gr gf m r A n c f B q d :=
  (h.st (by omega) (by omega) (.inl (by omega)) x).st (by omega) (by omega) (.inl (by omega)) y
set_option maxHeartbeats 1000000 in
theorem fail_any (e : Int) (w : World) : Calls Try.prog 40 #[.int .i64 e] w fun x w' => x = .returned (.tuple #[.agg #[.int .i64 (zM).a, .int .i64 (zM).k], .agg #[.int .i64 (zeroR).l, .slice none 0 0, .int .i64 (zeroR).n], .agg #[.int .i64 (zeroF).l, .slice none 0 0], .int .i64 e]) ∧ Below w.heap.size w w' := by
  go_enter Try.func40, Try.ntmps40
  go_wp2_with fail
  refine bodyPost_ret (by simp [results, Try.results40, go_sem, zM, zeroR, zeroF]; try rfl) rfl ?_
  exact ⟨rfl, by (repeat' (first | (with_reducible exact Below.refl _ _) | (with_reducible assumption) | (with_reducible refine below_drewN ?_ _) | (with_reducible refine below_new ?_ _) | (with_reducible refine Below.alloc ?_ ?_ _) | (with_reducible refine Below.drew ?_) | (with_reducible refine Below.setCell ?_ ?_ _) | (with_reducible apply below_at; (case k => (with_reducible assumption)); (case hB => omega)) | (with_reducible apply below_on; (with_reducible assumption)) | (go_size; done) | (with_reducible apply size_of)))⟩
set_option maxHeartbeats 1000000 in
theorem Byte_bad (m : Mt) (r : Rg) (A : Option Addr) (n c : Nat) (f : Fnd) (B : Option Addr) (q d : Nat) (x : Int) (w : World) (h : RgIn w A n c r) (hf : FdIn w B q d f) (hb : byE m r f ≠ 0) :
    Calls Try.prog 16 #[.agg #[.int .i64 (m).a, .int .i64 (m).k], .agg #[.int .i64 (r).l, .slice A n c, .int .i64 (r).n], .agg #[.int .i64 (f).l, .slice B q d], .int .u8 x] w fun e w' => e = .returned (.tuple #[.agg #[.int .i64 (zM).a, .int .i64 (zM).k], .agg #[.int .i64 (zeroR).l, .slice none 0 0, .int .i64 (zeroR).n], .agg #[.int .i64 (zeroF).l, .slice none 0 0], .int .i64 (byE m r f)]) ∧ Below w.heap.size w w' := by
  have T0 := Lib.hid (six_start w m r A n c f B q d)
  have HR := Lib.hid h
  have HF := Lib.hid hf
  have HRN := Lib.hid (And.intro h.n1 h.n2)
  rcases exE_cases m r with he | he
  rotate_left
  · have HE : Hid (exE m r = 8 ∧ byE m r f = 8) := Lib.hid ⟨he, by unfold byE; rw [if_neg (by omega)]⟩
    clear he hb h hf
    obtain ⟨sa0, sa1, sa2, sa3⟩ := T0.out.m.two; obtain ⟨sb0, sb1, sb2, sb3, sb4, sb5⟩ := T0.out.r.three; obtain ⟨sc0, sc1, sc2, sc3⟩ := T0.out.f.two; obtain ⟨sd0, sd1, sd2, sd3⟩ := T0.out.zm.two; obtain ⟨se0, se1, se2, se3, se4, se5⟩ := T0.out.zr.three; obtain ⟨sf0, sf1, sf2, sf3⟩ := T0.out.zf.two; have sl0 := T0.out.m.lt; have sl1 := T0.out.r.lt; have sl2 := T0.out.f.lt; have sl3 := T0.out.zm.lt; have sl4 := T0.out.zr.lt; have sl5 := T0.out.zf.lt
    go_enter Try.func16, Try.ntmps16
    go_wp2_with fail
    refine (Expect_any m r A n c _ (HR.out.below T0.out.hb)).mono ?_; rintro e w1 ⟨rfl, hb1⟩; rw [HE.out.1]; have T1 := Lib.hid (T0.out.past hb1); clear hb1; clear sa0 sa1 sa2 sa3 sb0 sb1 sb2 sb3 sb4 sb5 sc0 sc1 sc2 sc3 sd0 sd1 sd2 sd3 se0 se1 se2 se3 se4 se5 sf0 sf1 sf2 sf3 sl0 sl1 sl2 sl3 sl4 sl5
    go_wp2_with fail
    refine (fail_any 8 _).mono ?_; rintro e w9 ⟨rfl, hb9⟩; have T9 := Lib.hid (T1.out.past hb9); clear hb9; obtain ⟨sa0, sa1, sa2, sa3⟩ := T9.out.m.two; obtain ⟨sb0, sb1, sb2, sb3, sb4, sb5⟩ := T9.out.r.three; obtain ⟨sc0, sc1, sc2, sc3⟩ := T9.out.f.two; obtain ⟨sd0, sd1, sd2, sd3⟩ := T9.out.zm.two; obtain ⟨se0, se1, se2, se3, se4, se5⟩ := T9.out.zr.three; obtain ⟨sf0, sf1, sf2, sf3⟩ := T9.out.zf.two; have sl0 := T9.out.m.lt; have sl1 := T9.out.r.lt; have sl2 := T9.out.f.lt; have sl3 := T9.out.zm.lt; have sl4 := T9.out.zr.lt; have sl5 := T9.out.zf.lt; go_wp2_with fail; clear sa0 sa1 sa2 sa3 sb0 sb1 sb2 sb3 sb4 sb5 sc0 sc1 sc2 sc3 sd0 sd1 sd2 sd3 se0 se1 se2 se3 se4 se5 sf0 sf1 sf2 sf3 sl0 sl1 sl2 sl3 sl4 sl5; obtain ⟨e1, e2, e3, e4⟩ := T9.out.ends zM zeroR none 0 0 zeroF none 0 0 _ rfl; obtain ⟨p0, p1, -, -⟩ := e1.two; obtain ⟨p2, p3, p4, -, -, -⟩ := e2.three; obtain ⟨p5, p6, -, -⟩ := e3.two; refine bodyPost_ret (by simp [results, Try.results16, go_sem, p0, p1, p2, p3, p4, p5, p6]; try rfl) rfl ?_; exact ⟨by rw [HE.out.2], e4⟩
  cases hk : fdOk f
  · have HE : Hid (exE m r = 0 ∧ fdE f = 8 ∧ byE m r f = 8) := Lib.hid ⟨he, fdE_no hk, by unfold byE; rw [if_neg (by rw [fdE_no hk]; omega)]⟩
    clear he hb h hf hk
    obtain ⟨sa0, sa1, sa2, sa3⟩ := T0.out.m.two; obtain ⟨sb0, sb1, sb2, sb3, sb4, sb5⟩ := T0.out.r.three; obtain ⟨sc0, sc1, sc2, sc3⟩ := T0.out.f.two; obtain ⟨sd0, sd1, sd2, sd3⟩ := T0.out.zm.two; obtain ⟨se0, se1, se2, se3, se4, se5⟩ := T0.out.zr.three; obtain ⟨sf0, sf1, sf2, sf3⟩ := T0.out.zf.two; have sl0 := T0.out.m.lt; have sl1 := T0.out.r.lt; have sl2 := T0.out.f.lt; have sl3 := T0.out.zm.lt; have sl4 := T0.out.zr.lt; have sl5 := T0.out.zf.lt
    go_enter Try.func16, Try.ntmps16
    go_wp2_with fail
    refine (Expect_any m r A n c _ (HR.out.below T0.out.hb)).mono ?_; rintro e w1 ⟨rfl, hb1⟩; rw [HE.out.1]; have T1 := Lib.hid (T0.out.past hb1); clear hb1; clear sa0 sa1 sa2 sa3 sb0 sb1 sb2 sb3 sb4 sb5 sc0 sc1 sc2 sc3 sd0 sd1 sd2 sd3 se0 se1 se2 se3 se4 se5 sf0 sf1 sf2 sf3 sl0 sl1 sl2 sl3 sl4 sl5
    obtain ⟨sa0, sa1, sa2, sa3⟩ := T1.out.m.two; obtain ⟨sb0, sb1, sb2, sb3, sb4, sb5⟩ := T1.out.r.three; obtain ⟨sc0, sc1, sc2, sc3⟩ := T1.out.f.two; obtain ⟨sd0, sd1, sd2, sd3⟩ := T1.out.zm.two; obtain ⟨se0, se1, se2, se3, se4, se5⟩ := T1.out.zr.three; obtain ⟨sf0, sf1, sf2, sf3⟩ := T1.out.zf.two; have sl0 := T1.out.m.lt; have sl1 := T1.out.r.lt; have sl2 := T1.out.f.lt; have sl3 := T1.out.zm.lt; have sl4 := T1.out.zr.lt; have sl5 := T1.out.zf.lt
    go_wp2_with fail
    refine (fdW.Check_any f B q d _ (HF.out.below T1.out.hb)).mono ?_; rintro e w2 ⟨rfl, hb2⟩; rw [HE.out.2.1]; have T2 := Lib.hid (T1.out.past hb2); clear hb2; clear sa0 sa1 sa2 sa3 sb0 sb1 sb2 sb3 sb4 sb5 sc0 sc1 sc2 sc3 sd0 sd1 sd2 sd3 se0 se1 se2 se3 se4 se5 sf0 sf1 sf2 sf3 sl0 sl1 sl2 sl3 sl4 sl5
    go_wp2_with fail
    refine (fail_any 8 _).mono ?_; rintro e w9 ⟨rfl, hb9⟩; have T9 := Lib.hid (T2.out.past hb9); clear hb9; obtain ⟨sa0, sa1, sa2, sa3⟩ := T9.out.m.two; obtain ⟨sb0, sb1, sb2, sb3, sb4, sb5⟩ := T9.out.r.three; obtain ⟨sc0, sc1, sc2, sc3⟩ := T9.out.f.two; obtain ⟨sd0, sd1, sd2, sd3⟩ := T9.out.zm.two; obtain ⟨se0, se1, se2, se3, se4, se5⟩ := T9.out.zr.three; obtain ⟨sf0, sf1, sf2, sf3⟩ := T9.out.zf.two; have sl0 := T9.out.m.lt; have sl1 := T9.out.r.lt; have sl2 := T9.out.f.lt; have sl3 := T9.out.zm.lt; have sl4 := T9.out.zr.lt; have sl5 := T9.out.zf.lt; go_wp2_with fail; clear sa0 sa1 sa2 sa3 sb0 sb1 sb2 sb3 sb4 sb5 sc0 sc1 sc2 sc3 sd0 sd1 sd2 sd3 se0 se1 se2 se3 se4 se5 sf0 sf1 sf2 sf3 sl0 sl1 sl2 sl3 sl4 sl5; obtain ⟨e1, e2, e3, e4⟩ := T9.out.ends zM zeroR none 0 0 zeroF none 0 0 _ rfl; obtain ⟨p0, p1, -, -⟩ := e1.two; obtain ⟨p2, p3, p4, -, -, -⟩ := e2.three; obtain ⟨p5, p6, -, -⟩ := e3.two; refine bodyPost_ret (by simp [results, Try.results16, go_sem, p0, p1, p2, p3, p4, p5, p6]; try rfl) rfl ?_; exact ⟨by rw [HE.out.2.2], e4⟩
  · have hn : r.n = 1073741824 := by
      unfold byE at hb
      rw [if_pos ⟨he, fdE_yes hk⟩] at hb
      by_cases c : r.n = 1073741824
      · exact c
      · rw [if_neg c] at hb; exact absurd rfl hb
    have HE : Hid (exE m r = 0 ∧ fdE f = 0 ∧ byE m r f = 16) := Lib.hid ⟨he, fdE_yes hk, by unfold byE; rw [if_pos ⟨he, fdE_yes hk⟩, if_pos hn]⟩
    have HN := Lib.hid hn
    clear he hb h hf hk hn
    obtain ⟨sa0, sa1, sa2, sa3⟩ := T0.out.m.two; obtain ⟨sb0, sb1, sb2, sb3, sb4, sb5⟩ := T0.out.r.three; obtain ⟨sc0, sc1, sc2, sc3⟩ := T0.out.f.two; obtain ⟨sd0, sd1, sd2, sd3⟩ := T0.out.zm.two; obtain ⟨se0, se1, se2, se3, se4, se5⟩ := T0.out.zr.three; obtain ⟨sf0, sf1, sf2, sf3⟩ := T0.out.zf.two; have sl0 := T0.out.m.lt; have sl1 := T0.out.r.lt; have sl2 := T0.out.f.lt; have sl3 := T0.out.zm.lt; have sl4 := T0.out.zr.lt; have sl5 := T0.out.zf.lt
    go_enter Try.func16, Try.ntmps16
    go_wp2_with fail
    refine (Expect_any m r A n c _ (HR.out.below T0.out.hb)).mono ?_; rintro e w1 ⟨rfl, hb1⟩; rw [HE.out.1]; have T1 := Lib.hid (T0.out.past hb1); clear hb1; clear sa0 sa1 sa2 sa3 sb0 sb1 sb2 sb3 sb4 sb5 sc0 sc1 sc2 sc3 sd0 sd1 sd2 sd3 se0 se1 se2 se3 se4 se5 sf0 sf1 sf2 sf3 sl0 sl1 sl2 sl3 sl4 sl5
    obtain ⟨sa0, sa1, sa2, sa3⟩ := T1.out.m.two; obtain ⟨sb0, sb1, sb2, sb3, sb4, sb5⟩ := T1.out.r.three; obtain ⟨sc0, sc1, sc2, sc3⟩ := T1.out.f.two; obtain ⟨sd0, sd1, sd2, sd3⟩ := T1.out.zm.two; obtain ⟨se0, se1, se2, se3, se4, se5⟩ := T1.out.zr.three; obtain ⟨sf0, sf1, sf2, sf3⟩ := T1.out.zf.two; have sl0 := T1.out.m.lt; have sl1 := T1.out.r.lt; have sl2 := T1.out.f.lt; have sl3 := T1.out.zm.lt; have sl4 := T1.out.zr.lt; have sl5 := T1.out.zf.lt
    go_wp2_with fail
    refine (fdW.Check_any f B q d _ (HF.out.below T1.out.hb)).mono ?_; rintro e w2 ⟨rfl, hb2⟩; rw [HE.out.2.1]; have T2 := Lib.hid (T1.out.past hb2); clear hb2; clear sa0 sa1 sa2 sa3 sb0 sb1 sb2 sb3 sb4 sb5 sc0 sc1 sc2 sc3 sd0 sd1 sd2 sd3 se0 se1 se2 se3 se4 se5 sf0 sf1 sf2 sf3 sl0 sl1 sl2 sl3 sl4 sl5
    obtain ⟨sa0, sa1, sa2, sa3⟩ := T2.out.m.two; obtain ⟨sb0, sb1, sb2, sb3, sb4, sb5⟩ := T2.out.r.three; obtain ⟨sc0, sc1, sc2, sc3⟩ := T2.out.f.two; obtain ⟨sd0, sd1, sd2, sd3⟩ := T2.out.zm.two; obtain ⟨se0, se1, se2, se3, se4, se5⟩ := T2.out.zr.three; obtain ⟨sf0, sf1, sf2, sf3⟩ := T2.out.zf.two; have sl0 := T2.out.m.lt; have sl1 := T2.out.r.lt; have sl2 := T2.out.f.lt; have sl3 := T2.out.zm.lt; have sl4 := T2.out.zr.lt; have sl5 := T2.out.zf.lt
    have hn := HN.out
    go_wp2_with fail
    clear hn
    clear sa0 sa1 sa2 sa3 sb0 sb1 sb2 sb3 sb4 sb5 sc0 sc1 sc2 sc3 sd0 sd1 sd2 sd3 se0 se1 se2 se3 se4 se5 sf0 sf1 sf2 sf3 sl0 sl1 sl2 sl3 sl4 sl5
    refine (fail_any 16 _).mono ?_; rintro e w9 ⟨rfl, hb9⟩; have T9 := Lib.hid (T2.out.past hb9); clear hb9; obtain ⟨sa0, sa1, sa2, sa3⟩ := T9.out.m.two; obtain ⟨sb0, sb1, sb2, sb3, sb4, sb5⟩ := T9.out.r.three; obtain ⟨sc0, sc1, sc2, sc3⟩ := T9.out.f.two; obtain ⟨sd0, sd1, sd2, sd3⟩ := T9.out.zm.two; obtain ⟨se0, se1, se2, se3, se4, se5⟩ := T9.out.zr.three; obtain ⟨sf0, sf1, sf2, sf3⟩ := T9.out.zf.two; have sl0 := T9.out.m.lt; have sl1 := T9.out.r.lt; have sl2 := T9.out.f.lt; have sl3 := T9.out.zm.lt; have sl4 := T9.out.zr.lt; have sl5 := T9.out.zf.lt; go_wp2_with fail; clear sa0 sa1 sa2 sa3 sb0 sb1 sb2 sb3 sb4 sb5 sc0 sc1 sc2 sc3 sd0 sd1 sd2 sd3 se0 se1 se2 se3 se4 se5 sf0 sf1 sf2 sf3 sl0 sl1 sl2 sl3 sl4 sl5; obtain ⟨e1, e2, e3, e4⟩ := T9.out.ends zM zeroR none 0 0 zeroF none 0 0 _ rfl; obtain ⟨p0, p1, -, -⟩ := e1.two; obtain ⟨p2, p3, p4, -, -, -⟩ := e2.three; obtain ⟨p5, p6, -, -⟩ := e3.two; refine bodyPost_ret (by simp [results, Try.results16, go_sem, p0, p1, p2, p3, p4, p5, p6]; try rfl) rfl ?_; exact ⟨by rw [HE.out.2.2], e4⟩
theorem _root_.Go.Proofs.Ytemiecghdmagnaa.base.FdIn.own {w w' : World} {B : Option Addr} {q d C : Nat} {f : Fnd} (h : FdIn w B q d f) (o : OwnV w' C (.slice B q d) f.s) : FdIn w' B q d f := ⟨h.l1, h.l2, o.has, h.e, h.c1, h.c2, h.b⟩
theorem byE_parts {m : Mt} {r : Rg} {f : Fnd} (h : byE m r f = 0) : exE m r = 0 ∧ fdOk f = true ∧ ¬ r.n = 1073741824 := by
  unfold byE at h
  by_cases c : exE m r = 0 ∧ fdE f = 0
  · rw [if_pos c] at h
    refine ⟨c.1, ?_, ?_⟩
    · cases hk : fdOk f
      · rw [fdE_no hk] at c; exact absurd c.2 (by decide)
      · rfl
    · intro e; rw [if_pos e] at h; exact absurd h (by decide)
  · rw [if_neg c] at h; exact absurd h (by decide)
end Go.Proofs.Ytemiecghdmagnaa.maW
