/- After a byte came: the reference, by walks. -/
import Derived.Test.YtemiecghdmagnaaMaW9
import Derived.Deep.DeepCutAuto
import Derived.Test.YtemiecghdmagnaaHashLawsB
namespace Go.Proofs.Ytemiecghdmagnaa.maW
set_option maxRecDepth 100000
open Go.RowKit Go.Proofs.Ytemiecghdmagnaa.base Go.Proofs.Ytemiecghdmagnaa.rgP Go.Proofs.Ytemiecghdmagnaa.fdP Go.Proofs.Ytemiecghdmagnaa.maP Go.Proofs.Ytemiecghdmagnaa.rgW Go.Proofs.Ytemiecghdmagnaa.rgL Go.Proofs.Ytemiecghdmagnaa.hashP Go.Proofs.Ytemiecghdmagnaa.hashW Go.Proofs.Ytemiecghdmagnaa.cxP Go.Proofs.Ytemiecghdmagnaa.fdW
set_option linter.unusedVariables false
set_option linter.unusedSimpArgs false
structure SixD (w W : World) (gm gr gf : Nat) (m : Mt) (r : Rg) (A : Option Addr) (n c : Nat) (f : Fnd) (B : Option Addr) (q d : Nat) : Prop where
  lm : Lies (W) (gm) 23 [.int .i64 (m).a, .int .i64 (m).k]
  lr : Lies (W) (gr) 26 [.int .i64 (r).l, .slice (A) (n) (c), .int .i64 (r).n]
  lf : Lies (W) (gf) 29 [.int .i64 (f).l, .slice (B) (q) (d)]
  zm : ∃ a b, Lies W (w.heap.size + 3) 23 [a, b]
  zr : ∃ a b c, Lies W (w.heap.size + 4) 26 [a, b, c]
  zf : ∃ a b, Lies W (w.heap.size + 5) 29 [a, b]
  nm : gm < w.heap.size + 3 ∨ w.heap.size + 5 < gm
  nr : gr < w.heap.size + 3 ∨ w.heap.size + 5 < gr
  nf : gf < w.heap.size + 3 ∨ w.heap.size + 5 < gf
  o : OwnZ W w.heap.size (.slice A n c) r.b
  hb : Below w.heap.size w W
theorem SixD.past {w W W' : World} {gm gr gf : Nat} {m : Mt} {r : Rg} {A : Option Addr} {n c : Nat} {f : Fnd} {B : Option Addr} {q d : Nat} (h : SixD w W gm gr gf m r A n c f B q d) (hb : Below W.heap.size W W') : SixD w W' gm gr gf m r A n c f B q d :=
  ⟨h.lm.past hb, h.lr.past hb, h.lf.past hb, (let ⟨x, y, k⟩ := h.zm; ⟨x, y, k.past hb⟩), (let ⟨x, y, z, k⟩ := h.zr; ⟨x, y, z, k.past hb⟩), (let ⟨x, y, k⟩ := h.zf; ⟨x, y, k.past hb⟩), h.nm, h.nr, h.nf, h.o.past hb, h.hb.trans (hb.mono h.hb.size)⟩
theorem SixD.st {w W : World} {gm gr gf g i : Nat} {m : Mt} {r : Rg} {A : Option Addr} {n c : Nat} {f : Fnd} {B : Option Addr} {q d : Nat} (h : SixD w W gm gr gf m r A n c f B q d) (h1 : w.heap.size + 3 ≤ g) (h2 : g ≤ w.heap.size + 5) (hi : i < 2 ∨ (g = w.heap.size + 4 ∧ i < 3)) (x : Value) : SixD w (W.setCell ⟨g, i, none⟩ x) gm gr gf m r A n c f B q d := by
  have nm := h.nm
  have nr := h.nr
  have nf := h.nf
  have hz : ∃ t cs, Lies W g t cs ∧ t ≠ 5 ∧ t ≠ 3 := by
    rcases (show g = w.heap.size + 3 ∨ g = w.heap.size + 4 ∨ g = w.heap.size + 5 by omega) with rfl | rfl | rfl
    · obtain ⟨a, b, k⟩ := h.zm; exact ⟨_, _, k, by decide, by decide⟩
    · obtain ⟨a, b, c, k⟩ := h.zr; exact ⟨_, _, k, by decide, by decide⟩
    · obtain ⟨a, b, k⟩ := h.zf; exact ⟨_, _, k, by decide, by decide⟩
  obtain ⟨t, cs, K, t1, t2⟩ := hz
  refine ⟨h.lm.other (by show g ≠ gm; omega) _, h.lr.other (by show g ≠ gr; omega) _, h.lf.other (by show g ≠ gf; omega) _, ?_, ?_, ?_, nm, nr, nf, h.o.other K t1 i x, h.hb.setCell (by show w.heap.size ≤ g; omega) _⟩
  · obtain ⟨a, b, k⟩ := h.zm
    by_cases e : g = w.heap.size + 3
    · subst e
      rcases (show i = 0 ∨ i = 1 by omega) with rfl | rfl
      · exact ⟨_, _, k.set 0 x⟩
      · exact ⟨_, _, k.set 1 x⟩
    · exact ⟨a, b, k.other (by show g ≠ w.heap.size + 3; exact e) _⟩
  · obtain ⟨a, b, c, k⟩ := h.zr
    by_cases e : g = w.heap.size + 4
    · subst e
      rcases (show i = 0 ∨ i = 1 ∨ i = 2 by omega) with rfl | rfl | rfl
      · exact ⟨_, _, _, k.set 0 x⟩
      · exact ⟨_, _, _, k.set 1 x⟩
      · exact ⟨_, _, _, k.set 2 x⟩
    · exact ⟨a, b, c, k.other (by show g ≠ w.heap.size + 4; exact e) _⟩
  · obtain ⟨a, b, k⟩ := h.zf
    by_cases e : g = w.heap.size + 5
    · subst e
      rcases (show i = 0 ∨ i = 1 by omega) with rfl | rfl
      · exact ⟨_, _, k.set 0 x⟩
      · exact ⟨_, _, k.set 1 x⟩
    · exact ⟨a, b, k.other (by show g ≠ w.heap.size + 5; exact e) _⟩
theorem SixD.stM {w W : World} {gm gr gf : Nat} {m : Mt} {r : Rg} {A : Option Addr} {n c : Nat} {f : Fnd} {B : Option Addr} {q d : Nat} (h : SixD w W gm gr gf m r A n c f B q d) (x y : Value) : SixD w ((W.setCell ⟨w.heap.size + 3, 0, none⟩ x).setCell ⟨w.heap.size + 3, 1, none⟩ y) gm gr gf m r A n c f B q d :=
  (h.st (Nat.le_refl _) (by omega) (.inl (by omega)) x).st (Nat.le_refl _) (by omega) (.inl (by omega)) y
theorem SixD.stR {w W : World} {gm gr gf : Nat} {m : Mt} {r : Rg} {A : Option Addr} {n c : Nat} {f : Fnd} {B : Option Addr} {q d : Nat} (h : SixD w W gm gr gf m r A n c f B q d) (x y z : Value) : SixD w (((W.setCell ⟨w.heap.size + 4, 0, none⟩ x).setCell ⟨w.heap.size + 4, 1, none⟩ y).setCell ⟨w.heap.size + 4, 2, none⟩ z) gm gr gf m r A n c f B q d :=
  ((h.st (by omega) (by omega) (.inl (by omega)) x).st (by omega) (by omega) (.inl (by omega)) y).st (by omega) (by omega) (.inr ⟨rfl, by omega⟩) z
theorem SixD.stF {w W : World} {gm gr gf : Nat} {m : Mt} {r : Rg} {A : Option Addr} {n c : Nat} {f : Fnd} {B : Option Addr} {q d : Nat} (h : SixD w W gm gr gf m r A n c f B q d) (x y : Value) : SixD w ((W.setCell ⟨w.heap.size + 5, 0, none⟩ x).setCell ⟨w.heap.size + 5, 1, none⟩ y) gm gr gf m r A n c f B q d :=
  (h.st (by omega) (by omega) (.inl (by omega)) x).st (by omega) (by omega) (.inl (by omega)) y

set_option maxHeartbeats 2000000 in
theorem Came_ok (m : Mt) (r : Rg) (A : Option Addr) (n c : Nat) (f : Fnd) (B : Option Addr) (q d : Nat) (x : Int) (w : World) (h : RgIn w A n c r) (hf : FdIn w B q d f) (hb : byE m r f = 0) (x0 : 0 ≤ x) (x1 : x ≤ 255) :
    Calls Try.prog 46 #[.agg #[.int .i64 (m).a, .int .i64 (m).k], .agg #[.int .i64 (r).l, .slice A n c, .int .i64 (r).n], .agg #[.int .i64 (f).l, .slice B q d], .int .u8 x] w fun e w' => ∃ A' n' c' B' q' d', e = .returned (.tuple #[.agg #[.int .i64 (nextM m r f x).a, .int .i64 (nextM m r f x).k], .agg #[.int .i64 (putR r [x]).l, .slice A' n' c', .int .i64 (putR r [x]).n], .agg #[.int .i64 (fput f (keyH (putR r [x])) (r.n + 1)).l, .slice B' q' d']]) ∧ RgIn w' A' n' c' (putR r [x]) ∧ OwnZ w' w.heap.size (.slice A' n' c') (putR r [x]).b ∧ FdIn w' B' q' d' (fput f (keyH (putR r [x])) (r.n + 1)) ∧ OwnV w' w.heap.size (.slice B' q' d') (fput f (keyH (putR r [x])) (r.n + 1)).s ∧ Below w.heap.size w w' := by
  obtain ⟨bb, off, rfl, hbb, hcb⟩ := has_some hf.h (by rw [hf.e]; have := fd_len (byE_parts hb).2.1; rw [hf.e] at this; omega)
  have HBB := Lib.hid hbb
  have T0 := Lib.hid (six_start w m r A n c f (some ⟨bb, off, none⟩) q d)
  have HR := Lib.hid h
  have HF := Lib.hid hf
  obtain ⟨he, hk, hn⟩ := byE_parts hb
  obtain ⟨hm, hr⟩ := exE_parts he
  obtain ⟨a1, a2, a3, a4⟩ := rgW.ok_parts h hr
  have hmb := (mtB_iff m).1 hm
  have HE : Hid (exE m r = 0 ∧ fdE f = 0 ∧ fdOk f = true) := Lib.hid ⟨he, fdE_yes hk, hk⟩
  have HXB : Hid (∀ z ∈ [x], 0 ≤ z ∧ z ≤ 255) := Lib.hid (by intro z hz; simp at hz; subst hz; exact ⟨x0, x1⟩)
  obtain ⟨r1, hr1⟩ : ∃ r', putR r [x] = r' := ⟨_, rfl⟩
  have hr1n : r1.n = r.n + 1 := by rw [← hr1]; rfl
  have HROK : Hid (rgOk r1 = true ∧ rgOk r = true) := Lib.hid ⟨by rw [← hr1]; exact putR_ok [x] hr (by simp; omega), hr⟩
  have HKB : Hid (0 ≤ keyH r1 ∧ keyH r1 ≤ 4294967295) := Lib.hid (by rw [← hr1]; exact key_bd (putR_b [x] h.b HXB.out))
  have HNX : Hid (nextM m r f x = if (onM m r x).a = -1 then lookX r1 f (keyH r1) else onM m r x) := Lib.hid (by rw [← hr1]; rfl)
  have HN1 : Hid (r1.n = r.n + 1 ∧ 0 ≤ r.n ∧ r.n < 1073741824) := Lib.hid ⟨hr1n, by omega, by omega⟩
  have HWT := Lib.hid (fun W hW => rWith_ok r A n c x W hW hr (by omega) x0 x1)
  rw [hr1] at HWT ⊢
  obtain ⟨key, hkey⟩ : ∃ key, keyH r1 = key := ⟨_, rfl⟩
  have HKEY := Lib.hid hkey
  rw [hkey] at HKB HNX ⊢
  obtain ⟨p, hp⟩ : ∃ p, plc f key = p := ⟨_, rfl⟩
  have hpl : p < q := by rw [← hp, ← hf.e]; exact plc_lt hk key
  obtain ⟨qv, hqv⟩ : ∃ qv, f.s.getD p 0 = qv := ⟨_, rfl⟩
  have hfd : findV f key = qv := by rw [find_ok hk, hp, hqv]
  have HCELL := Lib.hid (fun (W' : World) (hb : Below w.heap.size w W') => (show W'.cell? ⟨bb, off + p, none⟩ = some (.int .i64 qv) from by rw [(bcell hb).1 bb _ hbb, ← hqv]; exact hcb p (by rw [hf.e]; exact hpl)))
  have fb := fd_len hk
  have HPL : Hid (∀ W, Calls Try.prog 72 #[.agg #[.int .i64 (f).l, .slice (some ⟨bb, off, none⟩) q d], .int .u32 key] W fun e w' => e = .returned (.int .i64 (p : Int)) ∧ Below W.heap.size W w') := Lib.hid (fun W => by rw [← hp]; exact rPlace_ok f _ q d key W hf.e (by rw [← hf.e]; exact fb.1) (by rw [← hf.e]; exact fb.2) HKB.out.1 HKB.out.2)
  have pq1 : (p : Int) < q := by omega
  have pq0 : 0 ≤ (p : Int) := by omega
  have q92 : (q : Int) ≤ 8192 := by rw [hf.e] at fb; omega
  have mb1 : -1 ≤ m.a := by omega
  have mb2 : m.a ≤ 1073741824 := by omega
  have mb3 : 0 ≤ m.k := by omega
  have mb4 : m.k ≤ 40 := by omega
  have hmn : min 40 (m.k + 1) = min (m.k + 1) 40 := Int.min_comm _ _
  obtain ⟨eb, heb⟩ : ∃ eb, exB m r = eb := ⟨_, rfl⟩
  obtain ⟨ev, hev⟩ : ∃ ev, exV m r = ev := ⟨_, rfl⟩
  have HEB := Lib.hid (And.intro heb hev)
  obtain ⟨gb, hgb⟩ : ∃ gb : Bool, (eb && (ev == x)) = gb := ⟨_, rfl⟩
  have HGB := Lib.hid hgb
  have HON : Hid (onM m r x = if gb then ⟨m.a + 1, min (m.k + 1) 40⟩ else noM) := Lib.hid (by
    unfold onM
    rw [← hgb, ← heb, ← hev]
    by_cases c1 : exB m r = true ∧ exV m r = x
    · rw [if_pos c1, c1.1, c1.2]; simp
    · rw [if_neg c1, if_neg]
      intro c2
      rw [Bool.and_eq_true] at c2
      exact c1 ⟨c2.1, by simpa using c2.2⟩)
  have hon0 : 0 ≤ (onM m r x).a ∨ onM m r x = noM := by
    rw [HON.out]
    cases gb
    · exact .inr rfl
    · left
      show 0 ≤ m.a + 1
      omega
  obtain ⟨lb, hlb⟩ : ∃ lb : Bool, (decide ((onM m r x).a < 0) && (decide (0 ≤ qv) && decide (qv ≤ r1.n))) = lb := ⟨_, rfl⟩
  have HLB := Lib.hid hlb
  have HNX0 : Hid (lb = false → nextM m r f x = onM m r x) := Lib.hid (fun h0 => by
    rw [HNX.out]
    by_cases c1 : (onM m r x).a = -1
    · have e1 : onM m r x = noM := by rcases hon0 with h | h; omega; exact h
      rw [if_pos c1]
      unfold lookX
      rw [hfd, if_pos, e1]
      rw [← hlb, e1] at h0
      simp [noM] at h0
      omega
    · rw [if_neg c1])
  have HNX1 : Hid (lb = true → 0 ≤ qv ∧ qv ≤ r1.n ∧ onM m r x = noM ∧ nextM m r f x = if min (full r1 qv : Int) 40 < 3 then noM else ⟨qv, min (full r1 qv : Int) 40⟩) := Lib.hid (fun h0 => by
    rw [← hlb] at h0
    simp only [Bool.and_eq_true, decide_eq_true_eq] at h0
    obtain ⟨h1, h2, h3⟩ := h0
    have e1 : onM m r x = noM := by rcases hon0 with h | h; omega; exact h
    refine ⟨h2, h3, e1, ?_⟩
    rw [HNX.out, e1, if_pos (by rfl)]
    unfold lookX
    rw [hfd, if_neg (by omega)])
  have HFPE : Hid (fputE f r1.n = 0 ∧ fput f key r1.n = fput f key (r.n + 1)) := Lib.hid ⟨by rw [fputE, if_pos hk, if_pos (by omega)], by rw [hr1n]⟩
  clear h hf hb he hk hn hm hr a1 a2 hmb hr1 hr1n x0 x1 hgb a3 a4 heb hev hkey hp hpl hqv hfd hbb hcb fb hon0 hlb
  obtain ⟨sa0, sa1, sa2, sa3⟩ := T0.out.m.two; obtain ⟨sb0, sb1, sb2, sb3, sb4, sb5⟩ := T0.out.r.three; obtain ⟨sc0, sc1, sc2, sc3⟩ := T0.out.f.two; obtain ⟨sd0, sd1, sd2, sd3⟩ := T0.out.zm.two; obtain ⟨se0, se1, se2, se3, se4, se5⟩ := T0.out.zr.three; obtain ⟨sf0, sf1, sf2, sf3⟩ := T0.out.zf.two; have sl0 := T0.out.m.lt; have sl1 := T0.out.r.lt; have sl2 := T0.out.f.lt; have sl3 := T0.out.zm.lt; have sl4 := T0.out.zr.lt; have sl5 := T0.out.zf.lt
  go_enter Try.func46, Try.ntmps46
  go_wp2_with fail
  refine (rExpected_any m r A n c _ (HR.out.below T0.out.hb) HE.out.1).mono ?_
  rintro e w1 ⟨rfl, hb1⟩
  rw [HEB.out.1, HEB.out.2]
  have T1 := Lib.hid (T0.out.past hb1)
  clear hb1
  clear sa0 sa1 sa2 sa3 sb0 sb1 sb2 sb3 sb4 sb5 sc0 sc1 sc2 sc3 sd0 sd1 sd2 sd3 se0 se1 se2 se3 se4 se5 sf0 sf1 sf2 sf3 sl0 sl1 sl2 sl3 sl4 sl5
  obtain ⟨sa0, sa1, sa2, sa3⟩ := T1.out.m.two; obtain ⟨sb0, sb1, sb2, sb3, sb4, sb5⟩ := T1.out.r.three; obtain ⟨sc0, sc1, sc2, sc3⟩ := T1.out.f.two; obtain ⟨sd0, sd1, sd2, sd3⟩ := T1.out.zm.two; obtain ⟨se0, se1, se2, se3, se4, se5⟩ := T1.out.zr.three; obtain ⟨sf0, sf1, sf2, sf3⟩ := T1.out.zf.two; have sl0 := T1.out.m.lt; have sl1 := T1.out.r.lt; have sl2 := T1.out.f.lt; have sl3 := T1.out.zm.lt; have sl4 := T1.out.zr.lt; have sl5 := T1.out.zf.lt
  go_upto_region 3 with fail
  go_cut [30] (fun s30 wx => s30 = .bool gb ∧ wx = w1.alloc (.cells #[.int .i64 (-1), .int .i64 0] 23))
  case first =>
    cases eb
    · have hgb' : gb = false := HGB.out.symm
      go_wp2_with fail
      go_meet
      exact ⟨by rw [hgb'], rfl⟩
    · have hgb' : (ev == x) = gb := HGB.out
      go_wp2_with fail
      go_meet
      exact ⟨rfl, rfl⟩
  case rest =>
    obtain ⟨rfl, rfl⟩ := hcut
    have T2 := Lib.hid (T1.out.past (grows_alloc w1 (.cells #[.int .i64 (-1), .int .i64 0] 23)))
    have HN2 : Hid (Lies (w1.alloc (.cells #[.int .i64 (-1), .int .i64 0] 23)) w1.heap.size 23 [.int .i64 (-1), .int .i64 0]) := Lib.hid (Lies.fresh _ _ _)
    have HNG : Hid (w.heap.size + 5 < w1.heap.size) := Lib.hid T1.out.zf.lt
    generalize hwa : w1.alloc (.cells #[.int .i64 (-1), .int .i64 0] 23) = wa at *
    generalize hgn : w1.heap.size = gN at *
    clear hwa hgn
    clear sa0 sa1 sa2 sa3 sb0 sb1 sb2 sb3 sb4 sb5 sc0 sc1 sc2 sc3 sd0 sd1 sd2 sd3 se0 se1 se2 se3 se4 se5 sf0 sf1 sf2 sf3 sl0 sl1 sl2 sl3 sl4 sl5
    obtain ⟨sa0, sa1, sa2, sa3⟩ := T2.out.m.two; obtain ⟨sb0, sb1, sb2, sb3, sb4, sb5⟩ := T2.out.r.three; obtain ⟨sc0, sc1, sc2, sc3⟩ := T2.out.f.two; obtain ⟨sd0, sd1, sd2, sd3⟩ := T2.out.zm.two; obtain ⟨se0, se1, se2, se3, se4, se5⟩ := T2.out.zr.three; obtain ⟨sf0, sf1, sf2, sf3⟩ := T2.out.zf.two; have sl0 := T2.out.m.lt; have sl1 := T2.out.r.lt; have sl2 := T2.out.f.lt; have sl3 := T2.out.zm.lt; have sl4 := T2.out.zr.lt; have sl5 := T2.out.zf.lt
    obtain ⟨n0, n1, n2, n3⟩ := HN2.out.two
    have n4 := HN2.out.lt
    go_upto_if 30 with fail
    go_cut [] (fun wx => Six w wx m r A n c f (some ⟨bb, off, none⟩) q d ∧ (Lies (wx) (gN) 23 [.int .i64 (onM m r x).a, .int .i64 (onM m r x).k]))
    case first =>
      cases gb
      · go_wp2_with fail
        go_meet
        refine ⟨T2.out, ?_⟩
        rw [HON.out]
        exact HN2.out
      · go_wp2_with fail
        go_meet
        refine ⟨⟨T2.out.m.other (by have := HNG.out; show gN ≠ w.heap.size; omega) _ |>.other (by have := HNG.out; show gN ≠ w.heap.size; omega) _, (T2.out.r.other (by have := HNG.out; show gN ≠ w.heap.size + 1; omega) _).other (by have := HNG.out; show gN ≠ w.heap.size + 1; omega) _, (T2.out.f.other (by have := HNG.out; show gN ≠ w.heap.size + 2; omega) _).other (by have := HNG.out; show gN ≠ w.heap.size + 2; omega) _, (T2.out.zm.other (by have := HNG.out; show gN ≠ w.heap.size + 3; omega) _).other (by have := HNG.out; show gN ≠ w.heap.size + 3; omega) _, (T2.out.zr.other (by have := HNG.out; show gN ≠ w.heap.size + 4; omega) _).other (by have := HNG.out; show gN ≠ w.heap.size + 4; omega) _, (T2.out.zf.other (by have := HNG.out; show gN ≠ w.heap.size + 5; omega) _).other (by have := HNG.out; show gN ≠ w.heap.size + 5; omega) _, ?_⟩, ?_⟩
        · exact (T2.out.hb.setCell (by have := HNG.out; show w.heap.size ≤ gN; omega) _).setCell (by have := HNG.out; show w.heap.size ≤ gN; omega) _
        · rw [HON.out]
          exact (HN2.out.set 0 _).set 1 _
    case rest =>
      obtain ⟨T3', N3'⟩ := hcut
      have T3 := Lib.hid T3'
      have HN3 := Lib.hid N3'
      clear T3' N3' n0 n1 n2 n3 n4
      clear sa0 sa1 sa2 sa3 sb0 sb1 sb2 sb3 sb4 sb5 sc0 sc1 sc2 sc3 sd0 sd1 sd2 sd3 se0 se1 se2 se3 se4 se5 sf0 sf1 sf2 sf3 sl0 sl1 sl2 sl3 sl4 sl5
      obtain ⟨sa0, sa1, sa2, sa3⟩ := T3.out.m.two; obtain ⟨sb0, sb1, sb2, sb3, sb4, sb5⟩ := T3.out.r.three; obtain ⟨sc0, sc1, sc2, sc3⟩ := T3.out.f.two; obtain ⟨sd0, sd1, sd2, sd3⟩ := T3.out.zm.two; obtain ⟨se0, se1, se2, se3, se4, se5⟩ := T3.out.zr.three; obtain ⟨sf0, sf1, sf2, sf3⟩ := T3.out.zf.two; have sl0 := T3.out.m.lt; have sl1 := T3.out.r.lt; have sl2 := T3.out.f.lt; have sl3 := T3.out.zm.lt; have sl4 := T3.out.zr.lt; have sl5 := T3.out.zf.lt
      go_wp2_with fail
      refine (HWT.out _ (HR.out.below T3.out.hb)).mono ?_
      rintro e w4 ⟨A1, c1, rfl, i1, o1, hb4⟩
      have HI := Lib.hid i1
      have T4 := Lib.hid ((T3.out.past hb4).past (grows_alloc w4 (.cells #[.int .i64 r1.l, .slice A1 n c1, .int .i64 r1.n] 26)))
      have HN4 := Lib.hid ((HN3.out.past hb4).alloc (.cells #[.int .i64 r1.l, .slice A1 n c1, .int .i64 r1.n] 26))
      have HO4 := Lib.hid ((o1.mono T3.out.hb.size).alloc (.cells #[.int .i64 r1.l, .slice A1 n c1, .int .i64 r1.n] 26))
      have HP4 : Hid (Lies (w4.alloc (.cells #[.int .i64 r1.l, .slice A1 n c1, .int .i64 r1.n] 26)) (w4.heap.size) 26 [.int .i64 (r1).l, .slice (A1) (n) (c1), .int .i64 (r1).n]) := Lib.hid (Lies.fresh _ _ _)
      have HPG : Hid (w.heap.size + 5 < w4.heap.size ∧ gN < w4.heap.size) := Lib.hid ⟨(T3.out.past hb4).zf.lt, (HN3.out.past hb4).lt⟩
      clear i1 o1 hb4
      clear sa0 sa1 sa2 sa3 sb0 sb1 sb2 sb3 sb4 sb5 sc0 sc1 sc2 sc3 sd0 sd1 sd2 sd3 se0 se1 se2 se3 se4 se5 sf0 sf1 sf2 sf3 sl0 sl1 sl2 sl3 sl4 sl5
      obtain ⟨q0, q1, q2, -, -, -⟩ := HP4.out.three
      go_wp2_with fail
      generalize hwp : w4.alloc (.cells #[.int .i64 r1.l, .slice A1 n c1, .int .i64 r1.n] 26) = wp at *
      generalize hgp : w4.heap.size = gP at *
      clear hwp hgp
      refine (cxW.Lately_any r1 A1 n c1 4 _ (HI.out.own HO4.out) HROK.out.1 (by omega)).mono ?_
      rintro e w5 ⟨A5, c5, rfl, o5, hb5⟩
      have T5 := Lib.hid (T4.out.past hb5)
      have HN5 := Lib.hid (HN4.out.past hb5)
      have HO5 := Lib.hid (HO4.out.past hb5)
      have HP5 := Lib.hid (HP4.out.past hb5)
      have HH5 := Lib.hid o5.has
      clear o5 hb5 q0 q1 q2
      go_wp2_with fail
      refine (hashL.rhash_any 6 A5 4 c5 (lastL r1 4) _ (by omega) (by omega) (last_bd HI.out.b 4) HH5.out (last_len r1 4) (by omega)).mono ?_
      rintro e w6 ⟨rfl, rfl⟩
      rw [show hSteps (kStart 6) (lastL r1 4) = keyH r1 from rfl, HKEY.out]
      go_wp2_with fail
      (have RD := grows_roads (S := fun x' => (Lies (x') (w.heap.size + 2) 29 [.int .i64 (f).l, .slice ((some ⟨bb, off, none⟩)) (q) (d)]) ∧ x'.cell? ⟨bb, off + p, none⟩ = some (.int .i64 qv) ∧ bb < x'.heap.size ∧ Below w5.heap.size w5 x') (fun a b h1 h2 => ⟨h2.1.past h1, (by rw [(bcell h1).1 bb _ h2.2.2.1]; exact h2.2.1), Nat.lt_of_lt_of_le h2.2.2.1 h1.size, h2.2.2.2.trans (h1.mono h2.2.2.2.size)⟩)); refine region_ord _ Grows RD (⟨T5.out.f.drew, HCELL.out _ T5.out.hb.drew, (by have := HBB.out; have := T5.out.hb.size; show bb < w5.heap.size; omega), Below.drew (Below.refl _ _)⟩) (by kernel_rfl) ?_; intro ops Q' hops hPQ hN; (have HNS : Hid (Region.noSelect ops = true) := Lib.hid (by rw [hops]; kernel_rfl)); (have hsz : ops.size = 8 := (by rw [hops]; rfl)); have HOP := Lib.hid hops; have HPQ := Lib.hid hPQ; have HN := Lib.hid hN; rw [hsz]; clear hops hsz hPQ hN
      refine ord_take RD 0 (at_list (by rw [HOP.out]; rfl)) HNS.out HPQ.out (by rw [HOP.out]; kernel_rfl) (by rw [HOP.out]; kernel_rfl) (by rw [HOP.out]; rfl) (fun K hK => ?_); apply Exists.intro; refine ⟨fun W hSW => ?_, hK _ ?_⟩; (focus ((try dsimp only at hSW); go_simp; try with_reducible rfl)); clear hK K; (try simp only [Act.put, List.setIfInBounds_toArray, List.set_cons_zero, List.set_cons_succ])
      refine ord_take RD 1 (at_list (by rw [HOP.out]; rfl)) HNS.out HPQ.out (by rw [HOP.out]; kernel_rfl) (by rw [HOP.out]; kernel_rfl) (by rw [HOP.out]; rfl) (fun K hK => ?_); apply Exists.intro; refine ⟨fun W hSW => ?_, hK _ ?_⟩; (focus ((try dsimp only at hSW); (obtain ⟨y0, y1, -, -⟩ := hSW.1.two); go_simp; try with_reducible rfl)); clear hK K; (try simp only [Act.put, List.setIfInBounds_toArray, List.set_cons_zero, List.set_cons_succ])
      refine ord_take RD 2 (at_list (by rw [HOP.out]; rfl)) HNS.out HPQ.out (by rw [HOP.out]; kernel_rfl) (by rw [HOP.out]; kernel_rfl) (by rw [HOP.out]; rfl) (fun K hK => ?_); apply Exists.intro; refine ⟨fun W hSW => ?_, hK _ ?_⟩; (focus ((try dsimp only at hSW); (obtain ⟨y0, y1, -, -⟩ := hSW.1.two); go_simp; try with_reducible rfl)); clear hK K; (try simp only [Act.put, List.setIfInBounds_toArray, List.set_cons_zero, List.set_cons_succ])
      refine ord_take RD 3 (at_list (by rw [HOP.out]; rfl)) HNS.out HPQ.out (by rw [HOP.out]; kernel_rfl) (by rw [HOP.out]; kernel_rfl) (by rw [HOP.out]; rfl) (fun K hK => ?_); apply Exists.intro; refine ⟨fun W hSW => ?_, hK _ ?_⟩; (focus ((try dsimp only at hSW); go_simp; try with_reducible rfl)); clear hK K; (try simp only [Act.put, List.setIfInBounds_toArray, List.set_cons_zero, List.set_cons_succ])
      refine ord_take RD 4 (at_list (by rw [HOP.out]; rfl)) HNS.out HPQ.out (by rw [HOP.out]; kernel_rfl) (by rw [HOP.out]; kernel_rfl) (by rw [HOP.out]; rfl) (fun K hK => ?_); apply Exists.intro; refine ⟨fun W hSW => ?_, hK _ ?_⟩; (focus ((try dsimp only at hSW); go_simp; exact (HPL.out W))); clear hK K; (try simp only [Act.put, List.setIfInBounds_toArray, List.set_cons_zero, List.set_cons_succ])
      refine ord_take RD 5 (at_list (by rw [HOP.out]; rfl)) HNS.out HPQ.out (by rw [HOP.out]; kernel_rfl) (by rw [HOP.out]; kernel_rfl) (by rw [HOP.out]; rfl) (fun K hK => ?_); apply Exists.intro; refine ⟨fun W hSW => ?_, hK _ ?_⟩; (focus ((try dsimp only at hSW); go_simp; try with_reducible rfl)); clear hK K; (try simp only [Act.put, List.setIfInBounds_toArray, List.set_cons_zero, List.set_cons_succ])
      refine ord_take RD 6 (at_list (by rw [HOP.out]; rfl)) HNS.out HPQ.out (by rw [HOP.out]; kernel_rfl) (by rw [HOP.out]; kernel_rfl) (by rw [HOP.out]; rfl) (fun K hK => ?_); apply Exists.intro; refine ⟨fun W hSW => ?_, hK _ ?_⟩; (focus ((try dsimp only at hSW); (have y0 := hSW.2.1; have y1 := hSW.2.2.1); go_simp; try with_reducible rfl)); clear hK K; (try simp only [Act.put, List.setIfInBounds_toArray, List.set_cons_zero, List.set_cons_succ])
      refine ord_take RD 7 (at_list (by rw [HOP.out]; rfl)) HNS.out HPQ.out (by rw [HOP.out]; kernel_rfl) (by rw [HOP.out]; kernel_rfl) (by rw [HOP.out]; rfl) (fun K hK => ?_); apply Exists.intro; refine ⟨fun W hSW => ?_, hK _ ?_⟩; (focus ((try dsimp only at hSW); go_simp; try with_reducible rfl)); clear hK K; (try simp only [Act.put, List.setIfInBounds_toArray, List.set_cons_zero, List.set_cons_succ])
      refine ord_done (by rw [HOP.out]; kernel_rfl) (fun W7 hWW hSW => HN.out _ _ ?_); clear HOP HNS HPQ HN RD; (try dsimp only at hSW)
      have T7 := Lib.hid (T5.out.past hSW.2.2.2)
      have HN7 := Lib.hid (HN5.out.past hSW.2.2.2)
      have HO7 := Lib.hid (HO5.out.past hSW.2.2.2)
      have HP7 := Lib.hid (HP5.out.past hSW.2.2.2)
      clear hSW hWW
      obtain ⟨n0, n1, n2, n3⟩ := HN7.out.two
      obtain ⟨q0, q1, q2, -, -, -⟩ := HP7.out.three
      generalize hoa : onM m r x = om at *
      have HOA := Lib.hid hoa
      clear hoa
      go_upto_region 8 with fail
      go_cut [64] (fun s wx => s = .bool lb ∧ wx = W7)
      case first =>
        have hlb := HLB.out
        by_cases d1 : om.a < 0
        · by_cases d2 : 0 ≤ qv
          · by_cases d3 : qv ≤ r1.n
            · have e : lb = true := by rw [← hlb, decide_eq_true d1, decide_eq_true d2, decide_eq_true d3]; rfl
              clear hlb
              go_wp2_with fail
              go_meet
              exact ⟨by rw [e], rfl⟩
            · have e : lb = false := by rw [← hlb, decide_eq_true d1, decide_eq_true d2, decide_eq_false d3]; rfl
              clear hlb
              go_wp2_with fail
              go_meet
              exact ⟨by rw [e], rfl⟩
          · have e : lb = false := by rw [← hlb, decide_eq_true d1, decide_eq_false d2]; rfl
            clear hlb
            go_wp2_with fail
            go_meet
            exact ⟨by rw [e], rfl⟩
        · have e : lb = false := by rw [← hlb, decide_eq_false d1]; rfl
          clear hlb
          go_wp2_with fail
          go_meet
          exact ⟨by rw [e], rfl⟩
      case rest =>
        obtain ⟨rfl, rfl⟩ := hcut
        go_upto_if 64 with fail
        go_cut [] (fun wx => Six w wx m r A n c f (some ⟨bb, off, none⟩) q d ∧ (Lies (wx) (gN) 23 [.int .i64 (nextM m r f x).a, .int .i64 (nextM m r f x).k]) ∧ (Lies (wx) (gP) 26 [.int .i64 (r1).l, .slice (A1) (n) (c1), .int .i64 (r1).n]) ∧ OwnZ wx w.heap.size (.slice A1 n c1) r1.b)
        case first =>
          cases lb
          · have e := HNX0.out rfl
            go_wp2_with fail
            go_meet
            rw [e]
            exact ⟨T7.out, HN7.out, HP7.out, HO7.out⟩
          · obtain ⟨v1, v2, v3, v4⟩ := HNX1.out rfl
            have HV4 := Lib.hid v4
            have HV3 := Lib.hid v3
            clear v3 v4
            go_wp2_with fail
            refine (rMatch_ok r1 A1 n c1 qv 40 _ (HI.out.own HO7.out) HROK.out.1 v1 v2 (by omega) (by omega)).mono ?_
            rintro e w8 ⟨rfl, hb8⟩
            obtain ⟨k, hk⟩ : ∃ k, min (full r1 qv : Int) 40 = k := ⟨_, rfl⟩
            rw [hk] at HV4 ⊢
            have T8 := Lib.hid (T7.out.past hb8)
            have HN8 := Lib.hid (HN7.out.past hb8)
            have HO8 := Lib.hid (HO7.out.past hb8)
            have HP8 := Lib.hid (HP7.out.past hb8)
            clear hb8 hk n0 n1 n2 n3 q0 q1 q2
            obtain ⟨n0, n1, n2, n3⟩ := HN8.out.two
            have n4 := HN8.out.lt
            by_cases k3 : k < 3
            · have hv : nextM m r f x = noM := by rw [HV4.out, if_pos k3]
              go_wp2_with fail
              go_meet
              rw [hv]
              have h0 := HN8.out
              rw [HV3.out] at h0
              exact ⟨T8.out, h0, HP8.out, HO8.out⟩
            · have hv : nextM m r f x = ⟨qv, k⟩ := by rw [HV4.out, if_neg k3]
              go_wp2_with fail
              go_meet
              rw [hv]
              have g1 := HNG.out
              have g2 := HPG.out
              refine ⟨⟨(T8.out.m.other (by show gN ≠ w.heap.size; omega) _).other (by show gN ≠ w.heap.size; omega) _, (T8.out.r.other (by show gN ≠ w.heap.size + 1; omega) _).other (by show gN ≠ w.heap.size + 1; omega) _, (T8.out.f.other (by show gN ≠ w.heap.size + 2; omega) _).other (by show gN ≠ w.heap.size + 2; omega) _, (T8.out.zm.other (by show gN ≠ w.heap.size + 3; omega) _).other (by show gN ≠ w.heap.size + 3; omega) _, (T8.out.zr.other (by show gN ≠ w.heap.size + 4; omega) _).other (by show gN ≠ w.heap.size + 4; omega) _, (T8.out.zf.other (by show gN ≠ w.heap.size + 5; omega) _).other (by show gN ≠ w.heap.size + 5; omega) _, ?_⟩, (HN8.out.set 0 _).set 1 _, (HP8.out.other (by show gN ≠ gP; omega) _).other (by show gN ≠ gP; omega) _, (HO8.out.other HN8.out (by decide) 0 _).other (HN8.out.set 0 _) (by decide) 1 _⟩
              exact (T8.out.hb.setCell (by show w.heap.size ≤ gN; omega) _).setCell (by show w.heap.size ≤ gN; omega) _
        case rest =>
          obtain ⟨T9', N9', P9', O9'⟩ := hcut
          have T9 := Lib.hid T9'
          have HN9 := Lib.hid N9'
          have HP9 := Lib.hid P9'
          have HO9 := Lib.hid O9'
          clear T9' N9' P9' O9' n0 n1 n2 n3 q0 q1 q2
          generalize hnx : nextM m r f x = nm at *
          have HNM := Lib.hid hnx
          clear hnx
          go_wp2_with fail
          (have RD := grows_roads (S := fun x' => SixD w x' gN gP (w.heap.size + 2) nm r1 A1 n c1 f (some ⟨bb, off, none⟩) q d) (fun a b h1 h2 => h2.past h1)); refine region_ord _ Grows RD (⟨HN9.out.drew, HP9.out.drew, T9.out.f.drew, ⟨_, _, T9.out.zm.drew⟩, ⟨_, _, _, T9.out.zr.drew⟩, ⟨_, _, T9.out.zf.drew⟩, .inr (by have := HNG.out; omega), .inr (by have := HPG.out; omega), .inl (by omega), HO9.out.drew, T9.out.hb.drew⟩) (by kernel_rfl) ?_; intro ops Q' hops hPQ hN; (have HNS : Hid (Region.noSelect ops = true) := Lib.hid (by rw [hops]; kernel_rfl)); (have hsz : ops.size = 10 := (by rw [hops]; rfl)); have HOP := Lib.hid hops; have HPQ := Lib.hid hPQ; have HN := Lib.hid hN; rw [hsz]; clear hops hsz hPQ hN
          refine ord_take RD 0 (at_list (by rw [HOP.out]; rfl)) HNS.out HPQ.out (by rw [HOP.out]; kernel_rfl) (by rw [HOP.out]; kernel_rfl) (by rw [HOP.out]; rfl) (fun K hK => ?_); apply Exists.intro; refine ⟨fun W hSW => ?_, hK _ ?_⟩; (focus ((try dsimp only at hSW); (obtain ⟨y0, y1, -, -⟩ := hSW.lm.two); go_simp; try with_reducible rfl)); clear hK K; (try simp only [Act.put, List.setIfInBounds_toArray, List.set_cons_zero, List.set_cons_succ])
          refine ord_take RD 1 (at_list (by rw [HOP.out]; rfl)) HNS.out HPQ.out (by rw [HOP.out]; kernel_rfl) (by rw [HOP.out]; kernel_rfl) (by rw [HOP.out]; rfl) (fun K hK => ?_); apply Exists.intro; refine ⟨fun W hSW => ?_, hK _ ?_⟩; (focus ((try dsimp only at hSW); (obtain ⟨y0, y1, y2, -, -, -⟩ := hSW.lr.three); go_simp; try with_reducible rfl)); clear hK K; (try simp only [Act.put, List.setIfInBounds_toArray, List.set_cons_zero, List.set_cons_succ])
          refine ord_take RD 2 (at_list (by rw [HOP.out]; rfl)) HNS.out HPQ.out (by rw [HOP.out]; kernel_rfl) (by rw [HOP.out]; kernel_rfl) (by rw [HOP.out]; rfl) (fun K hK => ?_); apply Exists.intro; refine ⟨fun W hSW => ?_, hK _ ?_⟩; (focus ((try dsimp only at hSW); (obtain ⟨y0, y1, -, -⟩ := hSW.lf.two); go_simp; try with_reducible rfl)); clear hK K; (try simp only [Act.put, List.setIfInBounds_toArray, List.set_cons_zero, List.set_cons_succ])
          refine ord_take RD 3 (at_list (by rw [HOP.out]; rfl)) HNS.out HPQ.out (by rw [HOP.out]; kernel_rfl) (by rw [HOP.out]; kernel_rfl) (by rw [HOP.out]; rfl) (fun K hK => ?_); apply Exists.intro; refine ⟨fun W hSW => ?_, hK _ ?_⟩; (focus ((try dsimp only at hSW); go_simp; try with_reducible rfl)); clear hK K; (try simp only [Act.put, List.setIfInBounds_toArray, List.set_cons_zero, List.set_cons_succ])
          refine ord_take RD 4 (at_list (by rw [HOP.out]; rfl)) HNS.out HPQ.out (by rw [HOP.out]; kernel_rfl) (by rw [HOP.out]; kernel_rfl) (by rw [HOP.out]; rfl) (fun K hK => ?_); apply Exists.intro; refine ⟨fun W hSW => ?_, hK _ ?_⟩; (focus ((try dsimp only at hSW); go_simp; try with_reducible rfl)); clear hK K; (try simp only [Act.put, List.setIfInBounds_toArray, List.set_cons_zero, List.set_cons_succ])
          refine ord_take RD 5 (at_list (by rw [HOP.out]; rfl)) HNS.out HPQ.out (by rw [HOP.out]; kernel_rfl) (by rw [HOP.out]; kernel_rfl) (by rw [HOP.out]; rfl) (fun K hK => ?_); apply Exists.intro; refine ⟨fun W hSW => ?_, hK _ ?_⟩; (focus ((try dsimp only at hSW); (obtain ⟨y0, y1, y2, -, -, -⟩ := hSW.lr.three); go_simp; try with_reducible rfl)); clear hK K; (try simp only [Act.put, List.setIfInBounds_toArray, List.set_cons_zero, List.set_cons_succ])
          refine ord_one RD 6 (by rw [HOP.out]; kernel_rfl) (at_list (by rw [HOP.out]; rfl)) (by rw [HOP.out]; rfl) (fun Wz hWW hSW K hK => ?_); (try dsimp only at hSW)
          have HS := Lib.hid hSW
          clear hSW hWW
          go_simp
          refine (With_ok f (some ⟨bb, off, none⟩) q d key r1.n _ (HF.out.below HS.out.hb) HE.out.2.2 HKB.out.1 HKB.out.2).mono ?_
          rintro e0 w10 ⟨g8, d8, rfl, o8, hb8⟩
          have HF8 := Lib.hid (fdL.fput_in HF.out HFPE.out.1 o8)
          have HV8 : Hid (OwnV w10 w.heap.size (.slice (some ⟨g8, 0, none⟩) q d8) (fput f key r1.n).s) := Lib.hid (.inl (o8.mono HS.out.hb.size))
          refine hK _ _ (HS.out.past hb8) ?_
          have hL : (fput f key r1.n).l = f.l := rfl
          obtain ⟨f8, hf8⟩ : ∃ f8, fput f key r1.n = f8 := ⟨_, rfl⟩
          rw [hf8] at HF8 HV8 hL HFPE
          rw [← hL]
          clear hb8 o8 HS hL hf8
          clear hK K; (try simp only [Act.put, List.setIfInBounds_toArray, List.set_cons_zero, List.set_cons_succ])
          refine ord_one RD 7 (by rw [HOP.out]; kernel_rfl) (at_list (by rw [HOP.out]; rfl)) (by rw [HOP.out]; rfl) (fun Wa hWW hSW K hK => ?_); (try dsimp only at hSW)
          have HS := Lib.hid hSW
          have HVa := Lib.hid (HV8.out.past hWW)
          clear hSW hWW
          obtain ⟨xa, xb, K⟩ := HS.out.zm
          obtain ⟨k0, k1, k2, k3⟩ := K.two
          have kl := K.lt
          have HL3 := Lib.hid ((K.set 0 (.int .i64 nm.a)).set 1 (.int .i64 nm.k))
          have HVb := Lib.hid ((HVa.out.other K (by decide) 0 (.int .i64 nm.a)).other (K.set 0 (.int .i64 nm.a)) (by decide) 1 (.int .i64 nm.k))
          clear K
          go_simp
          refine hK _ _ (HS.out.stM _ _) ?_
          clear k0 k1 k2 k3 kl HS HVa
          clear hK K; (try simp only [Act.put, List.setIfInBounds_toArray, List.set_cons_zero, List.set_cons_succ])
          refine ord_one RD 8 (by rw [HOP.out]; kernel_rfl) (at_list (by rw [HOP.out]; rfl)) (by rw [HOP.out]; rfl) (fun Wb hWW hSW K hK => ?_); (try dsimp only at hSW)
          have HS := Lib.hid hSW
          have HL4 := Lib.hid (HL3.out.past hWW)
          have HVa := Lib.hid (HVb.out.past hWW)
          clear HL3 hSW hWW HVb
          obtain ⟨xa, xb, xc, K⟩ := HS.out.zr
          obtain ⟨k0, k1, k2, k3, k4, k5⟩ := K.three
          have kl := K.lt
          have HL5 := Lib.hid (And.intro (((HL4.out.other (p := ⟨w.heap.size + 4, 0, none⟩) (by simp) (.int .i64 r1.l)).other (p := ⟨w.heap.size + 4, 1, none⟩) (by simp) (.slice A1 n c1)).other (p := ⟨w.heap.size + 4, 2, none⟩) (by simp) (.int .i64 r1.n)) (K.store3 (a := .int .i64 r1.l) (b := .slice A1 n c1) (c := .int .i64 r1.n)))
          have HVb := Lib.hid (HVa.out.store3 K (by decide) (a := .int .i64 r1.l) (b := .slice A1 n c1) (c := .int .i64 r1.n))
          clear K HL4
          go_simp
          refine hK _ _ (HS.out.stR _ _ _) ?_
          clear k0 k1 k2 k3 k4 k5 kl HS HVa
          clear hK K; (try simp only [Act.put, List.setIfInBounds_toArray, List.set_cons_zero, List.set_cons_succ])
          refine ord_one RD 9 (by rw [HOP.out]; kernel_rfl) (at_list (by rw [HOP.out]; rfl)) (by rw [HOP.out]; rfl) (fun Wc hWW hSW K hK => ?_); (try dsimp only at hSW)
          have HS := Lib.hid hSW
          have HL6 := Lib.hid (And.intro (HL5.out.1.past hWW) (HL5.out.2.past hWW))
          have HVa := Lib.hid (HVb.out.past hWW)
          clear HL5 hSW hWW HVb
          obtain ⟨xa, xb, K⟩ := HS.out.zf
          obtain ⟨k0, k1, k2, k3⟩ := K.two
          have kl := K.lt
          have HL7 := Lib.hid (And.intro ((HL6.out.1.other (p := ⟨w.heap.size + 5, 0, none⟩) (by simp) (.int .i64 f8.l)).other (p := ⟨w.heap.size + 5, 1, none⟩) (by simp) (.slice (some ⟨g8, 0, none⟩) q d8)) (And.intro ((HL6.out.2.other (p := ⟨w.heap.size + 5, 0, none⟩) (by simp) (.int .i64 f8.l)).other (p := ⟨w.heap.size + 5, 1, none⟩) (by simp) (.slice (some ⟨g8, 0, none⟩) q d8)) ((K.set 0 (.int .i64 f8.l)).set 1 (.slice (some ⟨g8, 0, none⟩) q d8))))
          have HVb := Lib.hid ((HVa.out.other K (by decide) 0 (.int .i64 f8.l)).other (K.set 0 (.int .i64 f8.l)) (by decide) 1 (.slice (some ⟨g8, 0, none⟩) q d8))
          clear K HL6
          go_simp
          refine hK _ _ (HS.out.stF _ _) ?_
          clear k0 k1 k2 k3 kl HS HVa
          clear hK K; (try simp only [Act.put, List.setIfInBounds_toArray, List.set_cons_zero, List.set_cons_succ])
          refine ord_done (by rw [HOP.out]; kernel_rfl) (fun Wd hWW hSW => HN.out _ _ ?_); clear HOP HNS HPQ HN RD; (try dsimp only at hSW)
          have HS := Lib.hid hSW
          have HVa := Lib.hid (HVb.out.past hWW)
          obtain ⟨p0, p1, -, -⟩ := (HL7.out.1.past hWW).two
          obtain ⟨p2, p3, p4, -, -, -⟩ := (HL7.out.2.1.past hWW).three
          obtain ⟨p5, p6, -, -⟩ := (HL7.out.2.2.past hWW).two
          clear HL7 hSW hWW
          go_wp2_with fail
          refine bodyPost_ret (by simp [results, Try.results46, go_sem, p0, p1, p2, p3, p4, p5, p6]; try rfl) rfl ?_
          rw [← HFPE.out.2]
          exact ⟨A1, n, c1, some ⟨g8, 0, none⟩, q, d8, (by rw [HNM.out]; try rfl), HI.out.own HS.out.o, HS.out.o, HF8.out.own HVa.out, HVa.out, HS.out.hb⟩
end Go.Proofs.Ytemiecghdmagnaa.maW
