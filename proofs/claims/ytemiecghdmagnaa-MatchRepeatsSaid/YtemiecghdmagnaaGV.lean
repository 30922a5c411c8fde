/- Several texts as one: MaWB, MaWC, MaWD. -/
import Derived.Test.YtemiecghdmagnaaMaW8
import Derived.Test.YtemiecghdmagnaaMaWA
import Derived.Test.YtemiecghdmagnaaGP
import Derived.Test.YtemiecghdmagnaaGL
namespace Go.Proofs.Ytemiecghdmagnaa.maW
set_option maxRecDepth 100000
open Go.RowKit Go.Proofs.Ytemiecghdmagnaa.base Go.Proofs.Ytemiecghdmagnaa.rgP Go.Proofs.Ytemiecghdmagnaa.fdP Go.Proofs.Ytemiecghdmagnaa.maP Go.Proofs.Ytemiecghdmagnaa.rgW Go.Proofs.Ytemiecghdmagnaa.rgL Go.Proofs.Ytemiecghdmagnaa.hashP Go.Proofs.Ytemiecghdmagnaa.hashW Go.Proofs.Ytemiecghdmagnaa.cxP Go.Proofs.Ytemiecghdmagnaa.fdW
set_option linter.unusedVariables false
set_option linter.unusedSimpArgs false
set_option maxHeartbeats 1000000 in
theorem rByte_bad (m : Mt) (r : Rg) (A : Option Addr) (n c : Nat) (f : Fnd) (B : Option Addr) (q d : Nat) (x : Int) (w : World) (h : RgIn w A n c r) (hf : FdIn w B q d f) (hb : byE m r f ≠ 0) :
    Calls Try.prog 17 #[.agg #[.int .i64 (m).a, .int .i64 (m).k], .agg #[.int .i64 (r).l, .slice A n c, .int .i64 (r).n], .agg #[.int .i64 (f).l, .slice B q d], .int .u8 x] w fun e w' => e = .returned (.tuple #[.agg #[.int .i64 (zM).a, .int .i64 (zM).k], .agg #[.int .i64 (zeroR).l, .slice none 0 0, .int .i64 (zeroR).n], .agg #[.int .i64 (zeroF).l, .slice none 0 0], .int .i64 (byE m r f)]) ∧ Below w.heap.size w w' := by
  have T0 := Lib.hid (six_start w m r A n c f B q d)
  have HR := Lib.hid h
  have HF := Lib.hid hf
  rcases ex_cases m r with he | ⟨hm, he⟩ | ⟨hm, hr, he⟩
  rotate_left
  · have HE : Hid (mtE m = 8 ∧ byE m r f = 8) := Lib.hid ⟨mtE_no hm, by unfold byE; rw [if_neg (by omega)]⟩
    clear he hb h hf hm
    obtain ⟨sa0, sa1, sa2, sa3⟩ := T0.out.m.two; obtain ⟨sb0, sb1, sb2, sb3, sb4, sb5⟩ := T0.out.r.three; obtain ⟨sc0, sc1, sc2, sc3⟩ := T0.out.f.two; obtain ⟨sd0, sd1, sd2, sd3⟩ := T0.out.zm.two; obtain ⟨se0, se1, se2, se3, se4, se5⟩ := T0.out.zr.three; obtain ⟨sf0, sf1, sf2, sf3⟩ := T0.out.zf.two; have sl0 := T0.out.m.lt; have sl1 := T0.out.r.lt; have sl2 := T0.out.f.lt; have sl3 := T0.out.zm.lt; have sl4 := T0.out.zr.lt; have sl5 := T0.out.zf.lt
    go_enter Try.func17, Try.ntmps17
    go_wp2_with fail
    refine (rCheck_any m _).mono ?_; rintro e w1 ⟨rfl, hb1⟩; rw [HE.out.1]; have T1 := Lib.hid (T0.out.past hb1); clear hb1; clear sa0 sa1 sa2 sa3 sb0 sb1 sb2 sb3 sb4 sb5 sc0 sc1 sc2 sc3 sd0 sd1 sd2 sd3 se0 se1 se2 se3 se4 se5 sf0 sf1 sf2 sf3 sl0 sl1 sl2 sl3 sl4 sl5
    obtain ⟨sa0, sa1, sa2, sa3⟩ := T1.out.m.two; obtain ⟨sb0, sb1, sb2, sb3, sb4, sb5⟩ := T1.out.r.three; obtain ⟨sc0, sc1, sc2, sc3⟩ := T1.out.f.two; obtain ⟨sd0, sd1, sd2, sd3⟩ := T1.out.zm.two; obtain ⟨se0, se1, se2, se3, se4, se5⟩ := T1.out.zr.three; obtain ⟨sf0, sf1, sf2, sf3⟩ := T1.out.zf.two; have sl0 := T1.out.m.lt; have sl1 := T1.out.r.lt; have sl2 := T1.out.f.lt; have sl3 := T1.out.zm.lt; have sl4 := T1.out.zr.lt; have sl5 := T1.out.zf.lt; go_wp2_with fail; clear sa0 sa1 sa2 sa3 sb0 sb1 sb2 sb3 sb4 sb5 sc0 sc1 sc2 sc3 sd0 sd1 sd2 sd3 se0 se1 se2 se3 se4 se5 sf0 sf1 sf2 sf3 sl0 sl1 sl2 sl3 sl4 sl5; obtain ⟨e1, e2, e3, e4⟩ := T1.out.ends zM zeroR none 0 0 zeroF none 0 0 _ rfl; obtain ⟨p0, p1, -, -⟩ := e1.two; obtain ⟨p2, p3, p4, -, -, -⟩ := e2.three; obtain ⟨p5, p6, -, -⟩ := e3.two; simp only [zM, zeroR, zeroF] at p0 p1 p2 p3 p4 p5 p6; refine bodyPost_ret (by simp [results, Try.results17, go_sem, p0, p1, p2, p3, p4, p5, p6]; try rfl) rfl ?_; exact ⟨by rw [HE.out.2]; try rfl, e4⟩
  · have HE : Hid (mtE m = 0 ∧ rgE r = 8 ∧ byE m r f = 8) := Lib.hid ⟨mtE_yes hm, by rw [rgE, hr]; rfl, by unfold byE; rw [if_neg (by omega)]⟩
    clear he hb h hf hm hr
    obtain ⟨sa0, sa1, sa2, sa3⟩ := T0.out.m.two; obtain ⟨sb0, sb1, sb2, sb3, sb4, sb5⟩ := T0.out.r.three; obtain ⟨sc0, sc1, sc2, sc3⟩ := T0.out.f.two; obtain ⟨sd0, sd1, sd2, sd3⟩ := T0.out.zm.two; obtain ⟨se0, se1, se2, se3, se4, se5⟩ := T0.out.zr.three; obtain ⟨sf0, sf1, sf2, sf3⟩ := T0.out.zf.two; have sl0 := T0.out.m.lt; have sl1 := T0.out.r.lt; have sl2 := T0.out.f.lt; have sl3 := T0.out.zm.lt; have sl4 := T0.out.zr.lt; have sl5 := T0.out.zf.lt
    go_enter Try.func17, Try.ntmps17
    go_wp2_with fail
    refine (rCheck_any m _).mono ?_; rintro e w1 ⟨rfl, hb1⟩; rw [HE.out.1]; have T1 := Lib.hid (T0.out.past hb1); clear hb1; clear sa0 sa1 sa2 sa3 sb0 sb1 sb2 sb3 sb4 sb5 sc0 sc1 sc2 sc3 sd0 sd1 sd2 sd3 se0 se1 se2 se3 se4 se5 sf0 sf1 sf2 sf3 sl0 sl1 sl2 sl3 sl4 sl5
    obtain ⟨sa0, sa1, sa2, sa3⟩ := T1.out.m.two; obtain ⟨sb0, sb1, sb2, sb3, sb4, sb5⟩ := T1.out.r.three; obtain ⟨sc0, sc1, sc2, sc3⟩ := T1.out.f.two; obtain ⟨sd0, sd1, sd2, sd3⟩ := T1.out.zm.two; obtain ⟨se0, se1, se2, se3, se4, se5⟩ := T1.out.zr.three; obtain ⟨sf0, sf1, sf2, sf3⟩ := T1.out.zf.two; have sl0 := T1.out.m.lt; have sl1 := T1.out.r.lt; have sl2 := T1.out.f.lt; have sl3 := T1.out.zm.lt; have sl4 := T1.out.zr.lt; have sl5 := T1.out.zf.lt
    go_wp2_with fail
    refine (rgW.rCheck_any r A n c _ (HR.out.below T1.out.hb)).mono ?_; rintro e w2 ⟨rfl, hb2⟩; rw [HE.out.2.1]; have T2 := Lib.hid (T1.out.past hb2); clear hb2; clear sa0 sa1 sa2 sa3 sb0 sb1 sb2 sb3 sb4 sb5 sc0 sc1 sc2 sc3 sd0 sd1 sd2 sd3 se0 se1 se2 se3 se4 se5 sf0 sf1 sf2 sf3 sl0 sl1 sl2 sl3 sl4 sl5
    obtain ⟨sa0, sa1, sa2, sa3⟩ := T2.out.m.two; obtain ⟨sb0, sb1, sb2, sb3, sb4, sb5⟩ := T2.out.r.three; obtain ⟨sc0, sc1, sc2, sc3⟩ := T2.out.f.two; obtain ⟨sd0, sd1, sd2, sd3⟩ := T2.out.zm.two; obtain ⟨se0, se1, se2, se3, se4, se5⟩ := T2.out.zr.three; obtain ⟨sf0, sf1, sf2, sf3⟩ := T2.out.zf.two; have sl0 := T2.out.m.lt; have sl1 := T2.out.r.lt; have sl2 := T2.out.f.lt; have sl3 := T2.out.zm.lt; have sl4 := T2.out.zr.lt; have sl5 := T2.out.zf.lt; go_wp2_with fail; clear sa0 sa1 sa2 sa3 sb0 sb1 sb2 sb3 sb4 sb5 sc0 sc1 sc2 sc3 sd0 sd1 sd2 sd3 se0 se1 se2 se3 se4 se5 sf0 sf1 sf2 sf3 sl0 sl1 sl2 sl3 sl4 sl5; obtain ⟨e1, e2, e3, e4⟩ := T2.out.ends zM zeroR none 0 0 zeroF none 0 0 _ rfl; obtain ⟨p0, p1, -, -⟩ := e1.two; obtain ⟨p2, p3, p4, -, -, -⟩ := e2.three; obtain ⟨p5, p6, -, -⟩ := e3.two; simp only [zM, zeroR, zeroF] at p0 p1 p2 p3 p4 p5 p6; refine bodyPost_ret (by simp [results, Try.results17, go_sem, p0, p1, p2, p3, p4, p5, p6]; try rfl) rfl ?_; exact ⟨by rw [HE.out.2.2]; try rfl, e4⟩
  obtain ⟨hm, hr⟩ := exE_parts he
  have HMR : Hid (mtE m = 0 ∧ rgE r = 0) := Lib.hid ⟨mtE_yes hm, by rw [rgE, hr]; rfl⟩
  cases hk : fdOk f
  · have HE : Hid (fdE f = 8 ∧ byE m r f = 8) := Lib.hid ⟨fdE_no hk, by unfold byE; rw [if_neg (by rw [fdE_no hk]; omega)]⟩
    clear he hb h hf hk hm hr
    obtain ⟨sa0, sa1, sa2, sa3⟩ := T0.out.m.two; obtain ⟨sb0, sb1, sb2, sb3, sb4, sb5⟩ := T0.out.r.three; obtain ⟨sc0, sc1, sc2, sc3⟩ := T0.out.f.two; obtain ⟨sd0, sd1, sd2, sd3⟩ := T0.out.zm.two; obtain ⟨se0, se1, se2, se3, se4, se5⟩ := T0.out.zr.three; obtain ⟨sf0, sf1, sf2, sf3⟩ := T0.out.zf.two; have sl0 := T0.out.m.lt; have sl1 := T0.out.r.lt; have sl2 := T0.out.f.lt; have sl3 := T0.out.zm.lt; have sl4 := T0.out.zr.lt; have sl5 := T0.out.zf.lt
    go_enter Try.func17, Try.ntmps17
    go_wp2_with fail
    refine (rCheck_any m _).mono ?_; rintro e w1 ⟨rfl, hb1⟩; rw [HMR.out.1]; have T1 := Lib.hid (T0.out.past hb1); clear hb1; clear sa0 sa1 sa2 sa3 sb0 sb1 sb2 sb3 sb4 sb5 sc0 sc1 sc2 sc3 sd0 sd1 sd2 sd3 se0 se1 se2 se3 se4 se5 sf0 sf1 sf2 sf3 sl0 sl1 sl2 sl3 sl4 sl5
    obtain ⟨sa0, sa1, sa2, sa3⟩ := T1.out.m.two; obtain ⟨sb0, sb1, sb2, sb3, sb4, sb5⟩ := T1.out.r.three; obtain ⟨sc0, sc1, sc2, sc3⟩ := T1.out.f.two; obtain ⟨sd0, sd1, sd2, sd3⟩ := T1.out.zm.two; obtain ⟨se0, se1, se2, se3, se4, se5⟩ := T1.out.zr.three; obtain ⟨sf0, sf1, sf2, sf3⟩ := T1.out.zf.two; have sl0 := T1.out.m.lt; have sl1 := T1.out.r.lt; have sl2 := T1.out.f.lt; have sl3 := T1.out.zm.lt; have sl4 := T1.out.zr.lt; have sl5 := T1.out.zf.lt
    go_wp2_with fail
    refine (rgW.rCheck_any r A n c _ (HR.out.below T1.out.hb)).mono ?_; rintro e w2 ⟨rfl, hb2⟩; rw [HMR.out.2]; have T2 := Lib.hid (T1.out.past hb2); clear hb2; clear sa0 sa1 sa2 sa3 sb0 sb1 sb2 sb3 sb4 sb5 sc0 sc1 sc2 sc3 sd0 sd1 sd2 sd3 se0 se1 se2 se3 se4 se5 sf0 sf1 sf2 sf3 sl0 sl1 sl2 sl3 sl4 sl5
    obtain ⟨sa0, sa1, sa2, sa3⟩ := T2.out.m.two; obtain ⟨sb0, sb1, sb2, sb3, sb4, sb5⟩ := T2.out.r.three; obtain ⟨sc0, sc1, sc2, sc3⟩ := T2.out.f.two; obtain ⟨sd0, sd1, sd2, sd3⟩ := T2.out.zm.two; obtain ⟨se0, se1, se2, se3, se4, se5⟩ := T2.out.zr.three; obtain ⟨sf0, sf1, sf2, sf3⟩ := T2.out.zf.two; have sl0 := T2.out.m.lt; have sl1 := T2.out.r.lt; have sl2 := T2.out.f.lt; have sl3 := T2.out.zm.lt; have sl4 := T2.out.zr.lt; have sl5 := T2.out.zf.lt
    go_wp2_with fail
    refine (fdW.rCheck_any f B q d _ (HF.out.below T2.out.hb)).mono ?_; rintro e w3 ⟨rfl, hb3⟩; rw [HE.out.1]; have T3 := Lib.hid (T2.out.past hb3); clear hb3; clear sa0 sa1 sa2 sa3 sb0 sb1 sb2 sb3 sb4 sb5 sc0 sc1 sc2 sc3 sd0 sd1 sd2 sd3 se0 se1 se2 se3 se4 se5 sf0 sf1 sf2 sf3 sl0 sl1 sl2 sl3 sl4 sl5
    obtain ⟨sa0, sa1, sa2, sa3⟩ := T3.out.m.two; obtain ⟨sb0, sb1, sb2, sb3, sb4, sb5⟩ := T3.out.r.three; obtain ⟨sc0, sc1, sc2, sc3⟩ := T3.out.f.two; obtain ⟨sd0, sd1, sd2, sd3⟩ := T3.out.zm.two; obtain ⟨se0, se1, se2, se3, se4, se5⟩ := T3.out.zr.three; obtain ⟨sf0, sf1, sf2, sf3⟩ := T3.out.zf.two; have sl0 := T3.out.m.lt; have sl1 := T3.out.r.lt; have sl2 := T3.out.f.lt; have sl3 := T3.out.zm.lt; have sl4 := T3.out.zr.lt; have sl5 := T3.out.zf.lt; go_wp2_with fail; clear sa0 sa1 sa2 sa3 sb0 sb1 sb2 sb3 sb4 sb5 sc0 sc1 sc2 sc3 sd0 sd1 sd2 sd3 se0 se1 se2 se3 se4 se5 sf0 sf1 sf2 sf3 sl0 sl1 sl2 sl3 sl4 sl5; obtain ⟨e1, e2, e3, e4⟩ := T3.out.ends zM zeroR none 0 0 zeroF none 0 0 _ rfl; obtain ⟨p0, p1, -, -⟩ := e1.two; obtain ⟨p2, p3, p4, -, -, -⟩ := e2.three; obtain ⟨p5, p6, -, -⟩ := e3.two; simp only [zM, zeroR, zeroF] at p0 p1 p2 p3 p4 p5 p6; refine bodyPost_ret (by simp [results, Try.results17, go_sem, p0, p1, p2, p3, p4, p5, p6]; try rfl) rfl ?_; exact ⟨by rw [HE.out.2]; try rfl, e4⟩
  · have hn : r.n = 1073741824 := by
      unfold byE at hb
      rw [if_pos ⟨he, fdE_yes hk⟩] at hb
      by_cases c : r.n = 1073741824
      · exact c
      · rw [if_neg c] at hb; exact absurd rfl hb
    have HE : Hid (fdE f = 0 ∧ byE m r f = 16) := Lib.hid ⟨fdE_yes hk, by unfold byE; rw [if_pos ⟨he, fdE_yes hk⟩, if_pos hn]⟩
    have HN := Lib.hid hn
    clear he hb h hf hk hn hm hr
    obtain ⟨sa0, sa1, sa2, sa3⟩ := T0.out.m.two; obtain ⟨sb0, sb1, sb2, sb3, sb4, sb5⟩ := T0.out.r.three; obtain ⟨sc0, sc1, sc2, sc3⟩ := T0.out.f.two; obtain ⟨sd0, sd1, sd2, sd3⟩ := T0.out.zm.two; obtain ⟨se0, se1, se2, se3, se4, se5⟩ := T0.out.zr.three; obtain ⟨sf0, sf1, sf2, sf3⟩ := T0.out.zf.two; have sl0 := T0.out.m.lt; have sl1 := T0.out.r.lt; have sl2 := T0.out.f.lt; have sl3 := T0.out.zm.lt; have sl4 := T0.out.zr.lt; have sl5 := T0.out.zf.lt
    go_enter Try.func17, Try.ntmps17
    go_wp2_with fail
    refine (rCheck_any m _).mono ?_; rintro e w1 ⟨rfl, hb1⟩; rw [HMR.out.1]; have T1 := Lib.hid (T0.out.past hb1); clear hb1; clear sa0 sa1 sa2 sa3 sb0 sb1 sb2 sb3 sb4 sb5 sc0 sc1 sc2 sc3 sd0 sd1 sd2 sd3 se0 se1 se2 se3 se4 se5 sf0 sf1 sf2 sf3 sl0 sl1 sl2 sl3 sl4 sl5
    obtain ⟨sa0, sa1, sa2, sa3⟩ := T1.out.m.two; obtain ⟨sb0, sb1, sb2, sb3, sb4, sb5⟩ := T1.out.r.three; obtain ⟨sc0, sc1, sc2, sc3⟩ := T1.out.f.two; obtain ⟨sd0, sd1, sd2, sd3⟩ := T1.out.zm.two; obtain ⟨se0, se1, se2, se3, se4, se5⟩ := T1.out.zr.three; obtain ⟨sf0, sf1, sf2, sf3⟩ := T1.out.zf.two; have sl0 := T1.out.m.lt; have sl1 := T1.out.r.lt; have sl2 := T1.out.f.lt; have sl3 := T1.out.zm.lt; have sl4 := T1.out.zr.lt; have sl5 := T1.out.zf.lt
    go_wp2_with fail
    refine (rgW.rCheck_any r A n c _ (HR.out.below T1.out.hb)).mono ?_; rintro e w2 ⟨rfl, hb2⟩; rw [HMR.out.2]; have T2 := Lib.hid (T1.out.past hb2); clear hb2; clear sa0 sa1 sa2 sa3 sb0 sb1 sb2 sb3 sb4 sb5 sc0 sc1 sc2 sc3 sd0 sd1 sd2 sd3 se0 se1 se2 se3 se4 se5 sf0 sf1 sf2 sf3 sl0 sl1 sl2 sl3 sl4 sl5
    obtain ⟨sa0, sa1, sa2, sa3⟩ := T2.out.m.two; obtain ⟨sb0, sb1, sb2, sb3, sb4, sb5⟩ := T2.out.r.three; obtain ⟨sc0, sc1, sc2, sc3⟩ := T2.out.f.two; obtain ⟨sd0, sd1, sd2, sd3⟩ := T2.out.zm.two; obtain ⟨se0, se1, se2, se3, se4, se5⟩ := T2.out.zr.three; obtain ⟨sf0, sf1, sf2, sf3⟩ := T2.out.zf.two; have sl0 := T2.out.m.lt; have sl1 := T2.out.r.lt; have sl2 := T2.out.f.lt; have sl3 := T2.out.zm.lt; have sl4 := T2.out.zr.lt; have sl5 := T2.out.zf.lt
    go_wp2_with fail
    refine (fdW.rCheck_any f B q d _ (HF.out.below T2.out.hb)).mono ?_; rintro e w3 ⟨rfl, hb3⟩; rw [HE.out.1]; have T3 := Lib.hid (T2.out.past hb3); clear hb3; clear sa0 sa1 sa2 sa3 sb0 sb1 sb2 sb3 sb4 sb5 sc0 sc1 sc2 sc3 sd0 sd1 sd2 sd3 se0 se1 se2 se3 se4 se5 sf0 sf1 sf2 sf3 sl0 sl1 sl2 sl3 sl4 sl5
    obtain ⟨sa0, sa1, sa2, sa3⟩ := T3.out.m.two; obtain ⟨sb0, sb1, sb2, sb3, sb4, sb5⟩ := T3.out.r.three; obtain ⟨sc0, sc1, sc2, sc3⟩ := T3.out.f.two; obtain ⟨sd0, sd1, sd2, sd3⟩ := T3.out.zm.two; obtain ⟨se0, se1, se2, se3, se4, se5⟩ := T3.out.zr.three; obtain ⟨sf0, sf1, sf2, sf3⟩ := T3.out.zf.two; have sl0 := T3.out.m.lt; have sl1 := T3.out.r.lt; have sl2 := T3.out.f.lt; have sl3 := T3.out.zm.lt; have sl4 := T3.out.zr.lt; have sl5 := T3.out.zf.lt
    have hn := HN.out
    go_wp2_with fail
    clear hn
    clear sa0 sa1 sa2 sa3 sb0 sb1 sb2 sb3 sb4 sb5 sc0 sc1 sc2 sc3 sd0 sd1 sd2 sd3 se0 se1 se2 se3 se4 se5 sf0 sf1 sf2 sf3 sl0 sl1 sl2 sl3 sl4 sl5
    obtain ⟨e1, e2, e3, e4⟩ := T3.out.ends zM zeroR none 0 0 zeroF none 0 0 _ rfl
    obtain ⟨p0, p1, -, -⟩ := e1.two
    obtain ⟨p2, p3, p4, -, -, -⟩ := e2.three
    obtain ⟨p5, p6, -, -⟩ := e3.two
    simp only [zM, zeroR, zeroF] at p0 p1 p2 p3 p4 p5 p6
    refine bodyPost_ret (by simp [results, Try.results17, go_sem, p0, p1, p2, p3, p4, p5, p6]; try rfl) rfl ?_
    exact ⟨by rw [HE.out.2]; try rfl, e4⟩
end Go.Proofs.Ytemiecghdmagnaa.maW

namespace Go.Proofs.Ytemiecghdmagnaa.maW
set_option maxRecDepth 100000
open Go.RowKit Go.Proofs.Ytemiecghdmagnaa.base Go.Proofs.Ytemiecghdmagnaa.rgP Go.Proofs.Ytemiecghdmagnaa.fdP Go.Proofs.Ytemiecghdmagnaa.maP Go.Proofs.Ytemiecghdmagnaa.rgW Go.Proofs.Ytemiecghdmagnaa.rgL Go.Proofs.Ytemiecghdmagnaa.hashP Go.Proofs.Ytemiecghdmagnaa.hashW Go.Proofs.Ytemiecghdmagnaa.cxP Go.Proofs.Ytemiecghdmagnaa.fdW
set_option linter.unusedVariables false
set_option linter.unusedSimpArgs false
set_option maxHeartbeats 2000000 in
theorem rByte_ok (m : Mt) (r : Rg) (A : Option Addr) (n c : Nat) (f : Fnd) (B : Option Addr) (q d : Nat) (x : Int) (w : World) (h : RgIn w A n c r) (hf : FdIn w B q d f) (hb : byE m r f = 0) (x0 : 0 ≤ x) (x1 : x ≤ 255) :
    Calls Try.prog 17 #[.agg #[.int .i64 (m).a, .int .i64 (m).k], .agg #[.int .i64 (r).l, .slice A n c, .int .i64 (r).n], .agg #[.int .i64 (f).l, .slice B q d], .int .u8 x] w fun e w' => ∃ A' n' c' B' q' d', e = .returned (.tuple #[.agg #[.int .i64 (nextM m r f x).a, .int .i64 (nextM m r f x).k], .agg #[.int .i64 (putR r [x]).l, .slice A' n' c', .int .i64 (putR r [x]).n], .agg #[.int .i64 (fput f (keyH (putR r [x])) (r.n + 1)).l, .slice B' q' d'], .int .i64 0]) ∧ RgIn w' A' n' c' (putR r [x]) ∧ OwnZ w' w.heap.size (.slice A' n' c') (putR r [x]).b ∧ FdIn w' B' q' d' (fput f (keyH (putR r [x])) (r.n + 1)) ∧ OwnV w' w.heap.size (.slice B' q' d') (fput f (keyH (putR r [x])) (r.n + 1)).s ∧ Below w.heap.size w w' := by
  have T0 := Lib.hid (six_start w m r A n c f B q d)
  have HR := Lib.hid h
  have HF := Lib.hid hf
  obtain ⟨he, hk, hn⟩ := byE_parts hb
  obtain ⟨hm, hr⟩ := exE_parts he
  have HMR : Hid (mtE m = 0 ∧ rgE r = 0 ∧ fdE f = 0) := Lib.hid ⟨mtE_yes hm, by rw [rgE, hr]; rfl, fdE_yes hk⟩
  have HC := Lib.hid (fun W hW hW2 => Came_ok m r A n c f B q d x W hW hW2 hb x0 x1)
  obtain ⟨r1, hr1⟩ : ∃ r', putR r [x] = r' := ⟨_, rfl⟩
  rw [hr1] at HC ⊢
  obtain ⟨f8, hf8⟩ : ∃ f', fput f (keyH r1) (r.n + 1) = f' := ⟨_, rfl⟩
  rw [hf8] at HC ⊢
  obtain ⟨mm, hmm⟩ : ∃ mm, nextM m r f x = mm := ⟨_, rfl⟩
  rw [hmm] at HC ⊢
  have HFF : Hid (True = True) := Lib.hid rfl
  clear h hf hb he hk hm hr x0 x1 hr1 hf8 hmm
  obtain ⟨sa0, sa1, sa2, sa3⟩ := T0.out.m.two; obtain ⟨sb0, sb1, sb2, sb3, sb4, sb5⟩ := T0.out.r.three; obtain ⟨sc0, sc1, sc2, sc3⟩ := T0.out.f.two; obtain ⟨sd0, sd1, sd2, sd3⟩ := T0.out.zm.two; obtain ⟨se0, se1, se2, se3, se4, se5⟩ := T0.out.zr.three; obtain ⟨sf0, sf1, sf2, sf3⟩ := T0.out.zf.two; have sl0 := T0.out.m.lt; have sl1 := T0.out.r.lt; have sl2 := T0.out.f.lt; have sl3 := T0.out.zm.lt; have sl4 := T0.out.zr.lt; have sl5 := T0.out.zf.lt
  go_enter Try.func17, Try.ntmps17
  go_wp2_with fail
  refine (rCheck_any m _).mono ?_; rintro e w1 ⟨rfl, hb1⟩; rw [HMR.out.1]; have T1 := Lib.hid (T0.out.past hb1); clear hb1; clear sa0 sa1 sa2 sa3 sb0 sb1 sb2 sb3 sb4 sb5 sc0 sc1 sc2 sc3 sd0 sd1 sd2 sd3 se0 se1 se2 se3 se4 se5 sf0 sf1 sf2 sf3 sl0 sl1 sl2 sl3 sl4 sl5
  obtain ⟨sa0, sa1, sa2, sa3⟩ := T1.out.m.two; obtain ⟨sb0, sb1, sb2, sb3, sb4, sb5⟩ := T1.out.r.three; obtain ⟨sc0, sc1, sc2, sc3⟩ := T1.out.f.two; obtain ⟨sd0, sd1, sd2, sd3⟩ := T1.out.zm.two; obtain ⟨se0, se1, se2, se3, se4, se5⟩ := T1.out.zr.three; obtain ⟨sf0, sf1, sf2, sf3⟩ := T1.out.zf.two; have sl0 := T1.out.m.lt; have sl1 := T1.out.r.lt; have sl2 := T1.out.f.lt; have sl3 := T1.out.zm.lt; have sl4 := T1.out.zr.lt; have sl5 := T1.out.zf.lt
  go_wp2_with fail
  refine (rgW.rCheck_any r A n c _ (HR.out.below T1.out.hb)).mono ?_; rintro e w2 ⟨rfl, hb2⟩; rw [HMR.out.2.1]; have T2 := Lib.hid (T1.out.past hb2); clear hb2; clear sa0 sa1 sa2 sa3 sb0 sb1 sb2 sb3 sb4 sb5 sc0 sc1 sc2 sc3 sd0 sd1 sd2 sd3 se0 se1 se2 se3 se4 se5 sf0 sf1 sf2 sf3 sl0 sl1 sl2 sl3 sl4 sl5
  obtain ⟨sa0, sa1, sa2, sa3⟩ := T2.out.m.two; obtain ⟨sb0, sb1, sb2, sb3, sb4, sb5⟩ := T2.out.r.three; obtain ⟨sc0, sc1, sc2, sc3⟩ := T2.out.f.two; obtain ⟨sd0, sd1, sd2, sd3⟩ := T2.out.zm.two; obtain ⟨se0, se1, se2, se3, se4, se5⟩ := T2.out.zr.three; obtain ⟨sf0, sf1, sf2, sf3⟩ := T2.out.zf.two; have sl0 := T2.out.m.lt; have sl1 := T2.out.r.lt; have sl2 := T2.out.f.lt; have sl3 := T2.out.zm.lt; have sl4 := T2.out.zr.lt; have sl5 := T2.out.zf.lt
  go_wp2_with fail
  refine (fdW.rCheck_any f B q d _ (HF.out.below T2.out.hb)).mono ?_; rintro e w3 ⟨rfl, hb3⟩; rw [HMR.out.2.2]; have T3 := Lib.hid (T2.out.past hb3); clear hb3; clear sa0 sa1 sa2 sa3 sb0 sb1 sb2 sb3 sb4 sb5 sc0 sc1 sc2 sc3 sd0 sd1 sd2 sd3 se0 se1 se2 se3 se4 se5 sf0 sf1 sf2 sf3 sl0 sl1 sl2 sl3 sl4 sl5
  obtain ⟨sa0, sa1, sa2, sa3⟩ := T3.out.m.two; obtain ⟨sb0, sb1, sb2, sb3, sb4, sb5⟩ := T3.out.r.three; obtain ⟨sc0, sc1, sc2, sc3⟩ := T3.out.f.two; obtain ⟨sd0, sd1, sd2, sd3⟩ := T3.out.zm.two; obtain ⟨se0, se1, se2, se3, se4, se5⟩ := T3.out.zr.three; obtain ⟨sf0, sf1, sf2, sf3⟩ := T3.out.zf.two; have sl0 := T3.out.m.lt; have sl1 := T3.out.r.lt; have sl2 := T3.out.f.lt; have sl3 := T3.out.zm.lt; have sl4 := T3.out.zr.lt; have sl5 := T3.out.zf.lt
  go_wp2_with fail
  refine (HC.out _ (HR.out.below T3.out.hb) (HF.out.below T3.out.hb)).mono ?_
  rintro e w4 ⟨A1, n1, c1, B8, q8, d8, rfl, i1, o1, i2, o2, hb4⟩
  have HI := Lib.hid i1
  have HI8 := Lib.hid i2
  have T4 := Lib.hid (((((T3.out.past hb4).past (grows_alloc w4 (.cells #[.int .i64 mm.a, .int .i64 mm.k] 23)))).past (grows_alloc _ (.cells #[.int .i64 r1.l, .slice A1 n1 c1, .int .i64 r1.n] 26))).past (grows_alloc _ (.cells #[.int .i64 f8.l, .slice B8 q8 d8] 29)))
  have HO4 := Lib.hid ((((o1.mono T3.out.hb.size).alloc (.cells #[.int .i64 mm.a, .int .i64 mm.k] 23)).alloc (.cells #[.int .i64 r1.l, .slice A1 n1 c1, .int .i64 r1.n] 26)).alloc (.cells #[.int .i64 f8.l, .slice B8 q8 d8] 29))
  have HV4 := Lib.hid ((((o2.mono T3.out.hb.size).alloc (.cells #[.int .i64 mm.a, .int .i64 mm.k] 23)).alloc (.cells #[.int .i64 r1.l, .slice A1 n1 c1, .int .i64 r1.n] 26)).alloc (.cells #[.int .i64 f8.l, .slice B8 q8 d8] 29))
  have HL4 : Hid ((Lies (((w4.alloc (.cells #[.int .i64 mm.a, .int .i64 mm.k] 23)).alloc (.cells #[.int .i64 r1.l, .slice A1 n1 c1, .int .i64 r1.n] 26)).alloc (.cells #[.int .i64 f8.l, .slice B8 q8 d8] 29)) (w4.heap.size) 23 [.int .i64 (mm).a, .int .i64 (mm).k]) ∧ (Lies (((w4.alloc (.cells #[.int .i64 mm.a, .int .i64 mm.k] 23)).alloc (.cells #[.int .i64 r1.l, .slice A1 n1 c1, .int .i64 r1.n] 26)).alloc (.cells #[.int .i64 f8.l, .slice B8 q8 d8] 29)) (w4.heap.size + 1) 26 [.int .i64 (r1).l, .slice (A1) (n1) (c1), .int .i64 (r1).n]) ∧ (Lies (((w4.alloc (.cells #[.int .i64 mm.a, .int .i64 mm.k] 23)).alloc (.cells #[.int .i64 r1.l, .slice A1 n1 c1, .int .i64 r1.n] 26)).alloc (.cells #[.int .i64 f8.l, .slice B8 q8 d8] 29)) (w4.heap.size + 2) 29 [.int .i64 (f8).l, .slice (B8) (q8) (d8)])) := Lib.hid ⟨((Lies.fresh _ _ _).alloc _).alloc _, (Lies.fresh_at (by simp)).alloc _, Lies.fresh_at (by simp)⟩
  have HG : Hid (w.heap.size + 5 < w4.heap.size) := Lib.hid (T3.out.past hb4).zf.lt
  clear i1 o1 i2 o2 hb4
  clear sa0 sa1 sa2 sa3 sb0 sb1 sb2 sb3 sb4 sb5 sc0 sc1 sc2 sc3 sd0 sd1 sd2 sd3 se0 se1 se2 se3 se4 se5 sf0 sf1 sf2 sf3 sl0 sl1 sl2 sl3 sl4 sl5
  go_wp2_with fail
  generalize hwp : ((w4.alloc (.cells #[.int .i64 mm.a, .int .i64 mm.k] 23)).alloc (.cells #[.int .i64 r1.l, .slice A1 n1 c1, .int .i64 r1.n] 26)).alloc (.cells #[.int .i64 f8.l, .slice B8 q8 d8] 29) = wp at *
  clear hwp
  generalize w4.heap.size = gM at *
  (have RD := grows_roads (S := fun x' => SixE w x' gM (gM + 1) (gM + 2) mm r1 A1 n1 c1 f8 B8 q8 d8) (fun a b h1 h2 => h2.past h1)); refine region_ord _ Grows RD ((⟨HL4.out.1.drew, HL4.out.2.1.drew, HL4.out.2.2.drew, ⟨_, _, T4.out.zm.drew⟩, ⟨_, _, _, T4.out.zr.drew⟩, ⟨_, _, T4.out.zf.drew⟩, .inr HG.out, .inr (by have := HG.out; omega), .inr (by have := HG.out; omega), HO4.out.drew, HV4.out.drew, T4.out.hb.drew⟩)) (by kernel_rfl) ?_; intro ops Q' hops hPQ hN; (have HNS : Hid (Region.noSelect ops = true) := Lib.hid (by rw [hops]; kernel_rfl)); (have hsz : ops.size = 7 := (by rw [hops]; rfl)); have HOP := Lib.hid hops; have HPQ := Lib.hid hPQ; have HN := Lib.hid hN; rw [hsz]; clear hops hsz hPQ hN; refine ord_take RD 0 (at_list (by rw [HOP.out]; rfl)) HNS.out HPQ.out (by rw [HOP.out]; kernel_rfl) (by rw [HOP.out]; kernel_rfl) (by rw [HOP.out]; rfl) (fun K hK => ?_); apply Exists.intro; refine ⟨fun W hSW => ?_, hK _ ?_⟩; (focus ((try dsimp only at hSW); (obtain ⟨y0, y1, -, -⟩ := hSW.lm.two); go_simp; try with_reducible rfl)); clear hK K; (try simp only [Act.put, List.setIfInBounds_toArray, List.set_cons_zero, List.set_cons_succ]); refine ord_take RD 1 (at_list (by rw [HOP.out]; rfl)) HNS.out HPQ.out (by rw [HOP.out]; kernel_rfl) (by rw [HOP.out]; kernel_rfl) (by rw [HOP.out]; rfl) (fun K hK => ?_); apply Exists.intro; refine ⟨fun W hSW => ?_, hK _ ?_⟩; (focus ((try dsimp only at hSW); (obtain ⟨y0, y1, y2, -, -, -⟩ := hSW.lr.three); go_simp; try with_reducible rfl)); clear hK K; (try simp only [Act.put, List.setIfInBounds_toArray, List.set_cons_zero, List.set_cons_succ]); refine ord_take RD 2 (at_list (by rw [HOP.out]; rfl)) HNS.out HPQ.out (by rw [HOP.out]; kernel_rfl) (by rw [HOP.out]; kernel_rfl) (by rw [HOP.out]; rfl) (fun K hK => ?_); apply Exists.intro; refine ⟨fun W hSW => ?_, hK _ ?_⟩; (focus ((try dsimp only at hSW); (obtain ⟨y0, y1, -, -⟩ := hSW.lf.two); go_simp; try with_reducible rfl)); clear hK K; (try simp only [Act.put, List.setIfInBounds_toArray, List.set_cons_zero, List.set_cons_succ]); refine ord_one RD 3 (by rw [HOP.out]; kernel_rfl) (at_list (by rw [HOP.out]; rfl)) (by rw [HOP.out]; rfl) (fun Wa hWW hSW K hK => ?_); (try dsimp only at hSW); have HS := Lib.hid hSW; clear hSW hWW; (obtain ⟨xa, xb, K⟩ := HS.out.zm); obtain ⟨k0, k1, k2, k3⟩ := K.two; have kl := K.lt; have HL3 := Lib.hid ((K.set 0 (.int .i64 (mm).a)).set 1 (.int .i64 (mm).k)); clear K; go_simp; refine hK _ _ (HS.out.stM _ _) ?_; clear k0 k1 k2 k3 kl HS; clear hK K; (try simp only [Act.put, List.setIfInBounds_toArray, List.set_cons_zero, List.set_cons_succ]); refine ord_one RD 4 (by rw [HOP.out]; kernel_rfl) (at_list (by rw [HOP.out]; rfl)) (by rw [HOP.out]; rfl) (fun Wb hWW hSW K hK => ?_); (try dsimp only at hSW); have HS := Lib.hid hSW; have HL4 := Lib.hid (HL3.out.past hWW); clear HL3 hSW hWW; (obtain ⟨xa, xb, xc, K⟩ := HS.out.zr); obtain ⟨k0, k1, k2, k3, k4, k5⟩ := K.three; have kl := K.lt; have HL5 := Lib.hid (And.intro (((HL4.out.other (p := ⟨w.heap.size + 4, 0, none⟩) (by simp) (.int .i64 r1.l)).other (p := ⟨w.heap.size + 4, 1, none⟩) (by simp) (.slice A1 n1 c1)).other (p := ⟨w.heap.size + 4, 2, none⟩) (by simp) (.int .i64 r1.n)) (K.store3 (a := .int .i64 r1.l) (b := .slice A1 n1 c1) (c := .int .i64 r1.n))); clear K HL4; go_simp; refine hK _ _ (HS.out.stR _ _ _) ?_; clear k0 k1 k2 k3 k4 k5 kl HS; clear hK K; (try simp only [Act.put, List.setIfInBounds_toArray, List.set_cons_zero, List.set_cons_succ]); refine ord_one RD 5 (by rw [HOP.out]; kernel_rfl) (at_list (by rw [HOP.out]; rfl)) (by rw [HOP.out]; rfl) (fun Wc hWW hSW K hK => ?_); (try dsimp only at hSW); have HS := Lib.hid hSW; have HL6 := Lib.hid (And.intro (HL5.out.1.past hWW) (HL5.out.2.past hWW)); clear HL5 hSW hWW; (obtain ⟨xa, xb, K⟩ := HS.out.zf); obtain ⟨k0, k1, k2, k3⟩ := K.two; have kl := K.lt; have HL7 := Lib.hid (And.intro ((HL6.out.1.other (p := ⟨w.heap.size + 5, 0, none⟩) (by simp) (.int .i64 f8.l)).other (p := ⟨w.heap.size + 5, 1, none⟩) (by simp) (.slice B8 q8 d8)) (And.intro ((HL6.out.2.other (p := ⟨w.heap.size + 5, 0, none⟩) (by simp) (.int .i64 f8.l)).other (p := ⟨w.heap.size + 5, 1, none⟩) (by simp) (.slice B8 q8 d8)) ((K.set 0 (.int .i64 f8.l)).set 1 (.slice B8 q8 d8)))); clear K HL6; go_simp; refine hK _ _ (HS.out.stF _ _) ?_; clear k0 k1 k2 k3 kl HS; clear hK K; (try simp only [Act.put, List.setIfInBounds_toArray, List.set_cons_zero, List.set_cons_succ]); refine ord_take RD 6 (at_list (by rw [HOP.out]; rfl)) HNS.out HPQ.out (by rw [HOP.out]; kernel_rfl) (by rw [HOP.out]; kernel_rfl) (by rw [HOP.out]; rfl) (fun K hK => ?_); apply Exists.intro; refine ⟨fun W hSW => ?_, hK _ ?_⟩; (focus ((try dsimp only at hSW); go_simp; try with_reducible rfl)); clear hK K; (try simp only [Act.put, List.setIfInBounds_toArray, List.set_cons_zero, List.set_cons_succ]); refine ord_done (by rw [HOP.out]; kernel_rfl) (fun Wd hWW hSW => HN.out _ _ ?_); clear HOP HNS HPQ HN RD; (try dsimp only at hSW); have HS := Lib.hid hSW; obtain ⟨p0, p1, -, -⟩ := (HL7.out.1.past hWW).two; obtain ⟨p2, p3, p4, -, -, -⟩ := (HL7.out.2.1.past hWW).three; obtain ⟨p5, p6, -, -⟩ := (HL7.out.2.2.past hWW).two; clear HL7 hSW hWW; go_wp2_with fail; refine bodyPost_ret (by simp [results, Try.results17, go_sem, p0, p1, p2, p3, p4, p5, p6]; try rfl) rfl ?_; exact ⟨A1, n1, c1, B8, q8, d8, rfl, HI.out.own HS.out.o, HS.out.o, HI8.out.own HS.out.v, HS.out.v, HS.out.hb⟩
theorem by_yes {m : Mt} {r : Rg} {f : Fnd} {x : Int} (h : byE m r f = 0) : byM m r f x = nextM m r f x ∧ byR m r f x = putR r [x] ∧ byF m r f x = fput f (keyH (putR r [x])) (r.n + 1) := ⟨by rw [byM, if_pos h], by rw [byR, if_pos h], by rw [byF, if_pos h]⟩
theorem by_no {m : Mt} {r : Rg} {f : Fnd} {x : Int} (h : byE m r f ≠ 0) : byM m r f x = zM ∧ byR m r f x = zeroR ∧ byF m r f x = zeroF := ⟨by rw [byM, if_neg h], by rw [byR, if_neg h], by rw [byF, if_neg h]⟩
theorem zf_in (w : World) : FdIn w none 0 0 zeroF := ⟨by decide, by decide, .inl rfl, rfl, Nat.le_refl _, by decide, by intro z h; cases h⟩
theorem Byte_any (m : Mt) (r : Rg) (A : Option Addr) (n c : Nat) (f : Fnd) (B : Option Addr) (q d : Nat) (x : Int) (w : World) (h : RgIn w A n c r) (hf : FdIn w B q d f) (x0 : 0 ≤ x) (x1 : x ≤ 255) :
    Calls Try.prog 16 #[.agg #[.int .i64 (m).a, .int .i64 (m).k], .agg #[.int .i64 (r).l, .slice A n c, .int .i64 (r).n], .agg #[.int .i64 (f).l, .slice B q d], .int .u8 x] w fun e w' => ∃ A' n' c' B' q' d', e = .returned (.tuple #[.agg #[.int .i64 (byM m r f x).a, .int .i64 (byM m r f x).k], .agg #[.int .i64 (byR m r f x).l, .slice A' n' c', .int .i64 (byR m r f x).n], .agg #[.int .i64 (byF m r f x).l, .slice B' q' d'], .int .i64 (byE m r f)]) ∧ RgIn w' A' n' c' (byR m r f x) ∧ OwnZ w' w.heap.size (.slice A' n' c') (byR m r f x).b ∧ FdIn w' B' q' d' (byF m r f x) ∧ OwnV w' w.heap.size (.slice B' q' d') (byF m r f x).s ∧ Below w.heap.size w w' := by
  by_cases hb : byE m r f = 0
  · obtain ⟨e1, e2, e3⟩ := by_yes (x := x) hb
    rw [e1, e2, e3, hb]
    exact Byte_ok m r A n c f B q d x w h hf hb x0 x1
  · obtain ⟨e1, e2, e3⟩ := by_no (x := x) hb
    rw [e1, e2, e3]
    refine (Byte_bad m r A n c f B q d x w h hf hb).mono ?_
    rintro e w1 ⟨rfl, hb1⟩
    exact ⟨none, 0, 0, none, 0, 0, rfl, zero_in _, .inr ⟨rfl, none, rfl⟩, zf_in _, .inr ⟨rfl, none, rfl⟩, hb1⟩
theorem rByteM_any (m : Mt) (r : Rg) (A : Option Addr) (n c : Nat) (f : Fnd) (B : Option Addr) (q d : Nat) (x : Int) (w : World) (h : RgIn w A n c r) (hf : FdIn w B q d f) (x0 : 0 ≤ x) (x1 : x ≤ 255) :
    Calls Try.prog 17 #[.agg #[.int .i64 (m).a, .int .i64 (m).k], .agg #[.int .i64 (r).l, .slice A n c, .int .i64 (r).n], .agg #[.int .i64 (f).l, .slice B q d], .int .u8 x] w fun e w' => ∃ A' n' c' B' q' d', e = .returned (.tuple #[.agg #[.int .i64 (byM m r f x).a, .int .i64 (byM m r f x).k], .agg #[.int .i64 (byR m r f x).l, .slice A' n' c', .int .i64 (byR m r f x).n], .agg #[.int .i64 (byF m r f x).l, .slice B' q' d'], .int .i64 (byE m r f)]) ∧ RgIn w' A' n' c' (byR m r f x) ∧ OwnZ w' w.heap.size (.slice A' n' c') (byR m r f x).b ∧ FdIn w' B' q' d' (byF m r f x) ∧ OwnV w' w.heap.size (.slice B' q' d') (byF m r f x).s ∧ Below w.heap.size w w' := by
  by_cases hb : byE m r f = 0
  · obtain ⟨e1, e2, e3⟩ := by_yes (x := x) hb
    rw [e1, e2, e3, hb]
    exact rByte_ok m r A n c f B q d x w h hf hb x0 x1
  · obtain ⟨e1, e2, e3⟩ := by_no (x := x) hb
    rw [e1, e2, e3]
    refine (rByte_bad m r A n c f B q d x w h hf hb).mono ?_
    rintro e w1 ⟨rfl, hb1⟩
    exact ⟨none, 0, 0, none, 0, 0, rfl, zero_in _, .inr ⟨rfl, none, rfl⟩, zf_in _, .inr ⟨rfl, none, rfl⟩, hb1⟩
end Go.Proofs.Ytemiecghdmagnaa.maW

namespace Go.Proofs.Ytemiecghdmagnaa.maW
set_option maxRecDepth 100000
open Go.RowKit Go.Proofs.Ytemiecghdmagnaa.base Go.Proofs.Ytemiecghdmagnaa.rgP Go.Proofs.Ytemiecghdmagnaa.fdP Go.Proofs.Ytemiecghdmagnaa.maP Go.Proofs.Ytemiecghdmagnaa.rgW Go.Proofs.Ytemiecghdmagnaa.rgL Go.Proofs.Ytemiecghdmagnaa.hashP Go.Proofs.Ytemiecghdmagnaa.hashW Go.Proofs.Ytemiecghdmagnaa.cxP Go.Proofs.Ytemiecghdmagnaa.fdW
set_option linter.unusedVariables false
set_option linter.unusedSimpArgs false
theorem lies_ne {W : World} {g g' : Nat} {t t' : TypeId} {cs cs' : List Value} (h : Lies W g t cs) (h' : Lies W g' t' cs') (ht : t ≠ t') : g ≠ g' := by
  intro e
  subst e
  unfold Lies at h h'
  rw [h] at h'
  injection h' with h'
  injection h' with _ h2 _
  exact ht h2
theorem ex2_set {W : World} {e g : Nat} {t : TypeId} (h : ∃ a b, Lies W e t [a, b]) (i : Nat) (hi : i < 2 ∨ g ≠ e) (x : Value) : ∃ a b, Lies (W.setCell ⟨g, i, none⟩ x) e t [a, b] := by
  obtain ⟨a, b, k⟩ := h
  by_cases c : g = e
  · subst c
    rcases hi with hi | hi
    · rcases (show i = 0 ∨ i = 1 by omega) with rfl | rfl
      · exact ⟨_, _, k.set 0 x⟩
      · exact ⟨_, _, k.set 1 x⟩
    · exact absurd rfl hi
  · exact ⟨a, b, k.other c x⟩
theorem ex3_set {W : World} {e g : Nat} {t : TypeId} (h : ∃ a b c, Lies W e t [a, b, c]) (i : Nat) (hi : i < 3 ∨ g ≠ e) (x : Value) : ∃ a b c, Lies (W.setCell ⟨g, i, none⟩ x) e t [a, b, c] := by
  obtain ⟨a, b, c, k⟩ := h
  by_cases c : g = e
  · subst c
    rcases hi with hi | hi
    · rcases (show i = 0 ∨ i = 1 ∨ i = 2 by omega) with rfl | rfl | rfl
      · exact ⟨_, _, _, k.set 0 x⟩
      · exact ⟨_, _, _, k.set 1 x⟩
      · exact ⟨_, _, _, k.set 2 x⟩
    · exact absurd rfl hi
  · exact ⟨a, b, _, k.other c x⟩
/-- Sources, targets and others, all of the three types. -/
structure Mov (w W : World) (sm sr sf tm tr tf em er ef : Nat) (m : Mt) (r : Rg) (A : Option Addr) (n c : Nat) (f : Fnd) (B : Option Addr) (q d : Nat) : Prop where
  lm : Lies (W) (sm) 23 [.int .i64 (m).a, .int .i64 (m).k]
  lr : Lies (W) (sr) 26 [.int .i64 (r).l, .slice (A) (n) (c), .int .i64 (r).n]
  lf : Lies (W) (sf) 29 [.int .i64 (f).l, .slice (B) (q) (d)]
  zm : ∃ a b, Lies (W) (tm) 23 [a, b]
  zr : ∃ a b c, Lies (W) (tr) 26 [a, b, c]
  zf : ∃ a b, Lies (W) (tf) 29 [a, b]
  ym : ∃ a b, Lies (W) (em) 23 [a, b]
  yr : ∃ a b c, Lies (W) (er) 26 [a, b, c]
  yf : ∃ a b, Lies (W) (ef) 29 [a, b]
  nm : tm ≠ sm
  nr : tr ≠ sr
  nf : tf ≠ sf
  bm : w.heap.size ≤ tm ∧ w.heap.size ≤ tr ∧ w.heap.size ≤ tf
  o : OwnZ W w.heap.size (.slice A n c) r.b
  v : OwnV W w.heap.size (.slice B q d) f.s
  i1 : RgIn W A n c r
  i2 : FdIn W B q d f
  hb : Below w.heap.size w W
theorem ex2_past {W W' : World} {e : Nat} {t : TypeId} (h : ∃ a b, Lies W e t [a, b]) (hb : Below W.heap.size W W') : ∃ a b, Lies W' e t [a, b] := let ⟨x, y, k⟩ := h; ⟨x, y, k.past hb⟩
theorem ex3_past {W W' : World} {e : Nat} {t : TypeId} (h : ∃ a b c, Lies W e t [a, b, c]) (hb : Below W.heap.size W W') : ∃ a b c, Lies W' e t [a, b, c] := let ⟨x, y, z, k⟩ := h; ⟨x, y, z, k.past hb⟩
section
variable {w W W' : World} {sm sr sf tm tr tf em er ef : Nat} {m : Mt} {r : Rg} {A : Option Addr} {n c : Nat} {f : Fnd} {B : Option Addr} {q d : Nat}
theorem Mov.past (h : Mov w W sm sr sf tm tr tf em er ef m r A n c f B q d) (hb : Below W.heap.size W W') : Mov w W' sm sr sf tm tr tf em er ef m r A n c f B q d :=
  ⟨h.lm.past hb, h.lr.past hb, h.lf.past hb, ex2_past h.zm hb, ex3_past h.zr hb, ex2_past h.zf hb, ex2_past h.ym hb, ex3_past h.yr hb, ex2_past h.yf hb, h.nm, h.nr, h.nf, h.bm, h.o.past hb, h.v.past hb, h.i1.below hb, h.i2.below hb, h.hb.trans (hb.mono h.hb.size)⟩
theorem Mov.st2 (h : Mov w W sm sr sf tm tr tf em er ef m r A n c f B q d) (i : Nat) (hi : i < 2) (x : Value) : Mov w (W.setCell ⟨tm, i, none⟩ x) sm sr sf tm tr tf em er ef m r A n c f B q d := by
  obtain ⟨a0, b0, K⟩ := h.zm
  obtain ⟨a1, b1, c1, K1⟩ := h.zr
  obtain ⟨a2, b2, K2⟩ := h.zf
  obtain ⟨a3, b3, c3, K3⟩ := h.yr
  obtain ⟨a4, b4, K4⟩ := h.yf
  have o := h.o.other K (by decide) i x
  have v := h.v.other K (by decide) i x
  exact ⟨h.lm.other (show tm ≠ sm from h.nm) x, h.lr.other (show tm ≠ sr from lies_ne K h.lr (by decide)) x, h.lf.other (show tm ≠ sf from lies_ne K h.lf (by decide)) x, ex2_set h.zm i (.inl hi) x, ex3_set h.zr i (.inr (lies_ne K K1 (by decide))) x, ex2_set h.zf i (.inr (lies_ne K K2 (by decide))) x, ex2_set h.ym i (.inl hi) x, ex3_set h.yr i (.inr (lies_ne K K3 (by decide))) x, ex2_set h.yf i (.inr (lies_ne K K4 (by decide))) x, h.nm, h.nr, h.nf, h.bm, o, v, h.i1.own o, h.i2.own v, h.hb.setCell (show w.heap.size ≤ tm from h.bm.1) x⟩
theorem Mov.st3 (h : Mov w W sm sr sf tm tr tf em er ef m r A n c f B q d) (i : Nat) (hi : i < 3) (x : Value) : Mov w (W.setCell ⟨tr, i, none⟩ x) sm sr sf tm tr tf em er ef m r A n c f B q d := by
  obtain ⟨a0, b0, c0, K⟩ := h.zr
  obtain ⟨a1, b1, K1⟩ := h.zm
  obtain ⟨a2, b2, K2⟩ := h.zf
  obtain ⟨a3, b3, K3⟩ := h.ym
  obtain ⟨a4, b4, K4⟩ := h.yf
  have o := h.o.other K (by decide) i x
  have v := h.v.other K (by decide) i x
  exact ⟨h.lm.other (show tr ≠ sm from lies_ne K h.lm (by decide)) x, h.lr.other (show tr ≠ sr from h.nr) x, h.lf.other (show tr ≠ sf from lies_ne K h.lf (by decide)) x, ex2_set h.zm i (.inr (lies_ne K K1 (by decide))) x, ex3_set h.zr i (.inl hi) x, ex2_set h.zf i (.inr (lies_ne K K2 (by decide))) x, ex2_set h.ym i (.inr (lies_ne K K3 (by decide))) x, ex3_set h.yr i (.inl hi) x, ex2_set h.yf i (.inr (lies_ne K K4 (by decide))) x, h.nm, h.nr, h.nf, h.bm, o, v, h.i1.own o, h.i2.own v, h.hb.setCell (show w.heap.size ≤ tr from h.bm.2.1) x⟩
theorem Mov.stf (h : Mov w W sm sr sf tm tr tf em er ef m r A n c f B q d) (i : Nat) (hi : i < 2) (x : Value) : Mov w (W.setCell ⟨tf, i, none⟩ x) sm sr sf tm tr tf em er ef m r A n c f B q d := by
  obtain ⟨a0, b0, K⟩ := h.zf
  obtain ⟨a1, b1, c1, K1⟩ := h.zr
  obtain ⟨a2, b2, K2⟩ := h.zm
  obtain ⟨a3, b3, c3, K3⟩ := h.yr
  obtain ⟨a4, b4, K4⟩ := h.ym
  have o := h.o.other K (by decide) i x
  have v := h.v.other K (by decide) i x
  exact ⟨h.lm.other (show tf ≠ sm from lies_ne K h.lm (by decide)) x, h.lr.other (show tf ≠ sr from lies_ne K h.lr (by decide)) x, h.lf.other (show tf ≠ sf from h.nf) x, ex2_set h.zm i (.inr (lies_ne K K2 (by decide))) x, ex3_set h.zr i (.inr (lies_ne K K1 (by decide))) x, ex2_set h.zf i (.inl hi) x, ex2_set h.ym i (.inr (lies_ne K K4 (by decide))) x, ex3_set h.yr i (.inr (lies_ne K K3 (by decide))) x, ex2_set h.yf i (.inl hi) x, h.nm, h.nr, h.nf, h.bm, o, v, h.i1.own o, h.i2.own v, h.hb.setCell (show w.heap.size ≤ tf from h.bm.2.2) x⟩
theorem Mov.stM (h : Mov w W sm sr sf tm tr tf em er ef m r A n c f B q d) (x y : Value) : Mov w ((W.setCell ⟨tm, 0, none⟩ x).setCell ⟨tm, 1, none⟩ y) sm sr sf tm tr tf em er ef m r A n c f B q d := (h.st2 0 (by omega) x).st2 1 (by omega) y
theorem Mov.stR (h : Mov w W sm sr sf tm tr tf em er ef m r A n c f B q d) (x y z : Value) : Mov w (((W.setCell ⟨tr, 0, none⟩ x).setCell ⟨tr, 1, none⟩ y).setCell ⟨tr, 2, none⟩ z) sm sr sf tm tr tf em er ef m r A n c f B q d := ((h.st3 0 (by omega) x).st3 1 (by omega) y).st3 2 (by omega) z
theorem Mov.stF (h : Mov w W sm sr sf tm tr tf em er ef m r A n c f B q d) (x y : Value) : Mov w ((W.setCell ⟨tf, 0, none⟩ x).setCell ⟨tf, 1, none⟩ y) sm sr sf tm tr tf em er ef m r A n c f B q d := (h.stf 0 (by omega) x).stf 1 (by omega) y
end
end Go.Proofs.Ytemiecghdmagnaa.maW
