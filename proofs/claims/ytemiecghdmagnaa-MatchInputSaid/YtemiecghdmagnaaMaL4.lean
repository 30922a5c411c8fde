/- MatchInput, by a walk. -/
import Derived.Test.YtemiecghdmagnaaMaWF
import Derived.Test.YtemiecghdmagnaaGT
import Derived.Test.YtemiecghdmagnaaGS
namespace Go.Proofs.Ytemiecghdmagnaa.maW
set_option maxRecDepth 100000
open Go.RowKit Go.Proofs.Ytemiecghdmagnaa.base Go.Proofs.Ytemiecghdmagnaa.rgP Go.Proofs.Ytemiecghdmagnaa.fdP Go.Proofs.Ytemiecghdmagnaa.maP Go.Proofs.Ytemiecghdmagnaa.rgW Go.Proofs.Ytemiecghdmagnaa.rgL Go.Proofs.Ytemiecghdmagnaa.hashP Go.Proofs.Ytemiecghdmagnaa.hashW Go.Proofs.Ytemiecghdmagnaa.cxP Go.Proofs.Ytemiecghdmagnaa.fdW Go.Proofs.Ytemiecghdmagnaa.nibP Go.Proofs.Ytemiecghdmagnaa.nibW
set_option linter.unusedVariables false
set_option linter.unusedSimpArgs false
/-- The walk's part behind i bits of a byte. -/
def pq (bc : List Bool) (i : Nat) : Nat := if i < 8 then prt (bc.take i) else 1
def agI (is : Bool) (bc bb : List Bool) (i : Nat) : Bool := is && decide (bc.take i = bb.take i)
theorem pq_bd {bc : List Bool} (h : bc.length = 8) {i : Nat} (hi : i < 8) : 2 ^ i ≤ pq bc i ∧ pq bc i < 2 ^ (i + 1) := by
  have := prt_bd (bc.take i)
  rw [List.length_take, h, Nat.min_eq_left (by omega)] at this
  unfold pq
  rw [if_pos hi]
  exact this
theorem pq_ok {bc : List Bool} (h : bc.length = 8) {i : Nat} (hi : i < 8) : wOk (pq bc i : Int) = true := by
  obtain ⟨h1, h2⟩ := pq_bd h hi
  have h3 := Nat.one_le_two_pow (n := i)
  have h4 : 2 ^ (i + 1) ≤ 2 ^ 8 := Nat.pow_le_pow_right (by omega) (by omega)
  rw [wOk_iff]
  have e8 : 2 ^ 8 = 256 := rfl
  omega
theorem pq_rd {bc : List Bool} (h : bc.length = 8) {i : Nat} (hi : i < 8) : rd (pq bc i) = bc.take i := by
  unfold pq
  rw [if_pos hi, rd_prt _ (by rw [List.length_take, h]; omega)]
theorem pq_step {bc : List Bool} (h : bc.length = 8) {i : Nat} (hi : i < 8) : stP (pq bc i : Int) (bc.getD i false) = (pq bc (i + 1) : Nat) := by
  obtain ⟨h1, h2⟩ := pq_bd h hi
  unfold stP
  rw [if_pos (pq_ok h hi)]
  rcases Nat.lt_or_ge i 7 with h7 | h7
  · have h4 : 2 ^ (i + 1) ≤ 2 ^ 7 := Nat.pow_le_pow_right (by omega) (by omega)
    have e7 : 2 ^ 7 = 128 := rfl
    rw [if_pos (by omega)]
    have := prt_take bc i (by omega)
    have e1 : pq bc (i + 1) = prt (bc.take (i + 1)) := by unfold pq; rw [if_pos (by omega)]
    have e2 : pq bc i = prt (bc.take i) := by unfold pq; rw [if_pos hi]
    rw [e1, this, e2]
    cases bc.getD i false <;> simp
  · have e : i = 7 := by omega
    subst e
    rw [if_neg (by have : 2 ^ 7 = 128 := rfl; omega)]
    rfl
theorem pq_in {m : Mt} {r : Rg} {bc : List Bool} {b : Nat} (h : bc.length = 8) {i : Nat} (hi : i < 8) (he : exE m r = 0) (hb : exV m r = b) : inE m r (pq bc i) = 0 ∧ inV m r (pq bc i) = if agI (exB m r) bc (rd (256 + b)) i then (if (rd (256 + b)).getD i false then 50 * m.k else -(50 * m.k)) else 0 := by
  have e0 : inE m r (pq bc i) = 0 := by rw [inE, if_pos he, wE_yes (pq_ok h hi)]
  refine ⟨e0, ?_⟩
  have hl : (bc.take i).length = i := by rw [List.length_take, h]; omega
  rw [inV, if_pos e0]
  unfold agI
  cases hB : exB m r
  · simp
  · rw [if_pos rfl, hb]
    unfold tdV
    rw [Int.toNat_natCast, Int.toNat_natCast, pq_rd h hi, hl]
    by_cases c : bc.take i = (rd (256 + b)).take i
    · rw [if_pos c, decide_eq_true c]; simp
    · rw [if_neg c, decide_eq_false c]; simp
theorem ag_step {is : Bool} {bc bb : List Bool} (h1 : bc.length = 8) (h2 : bb.length = 8) {i : Nat} (hi : i < 8) : (agI is bc bb i && (bc.getD i false == bb.getD i false)) = agI is bc bb (i + 1) := by
  unfold agI
  rw [Bool.and_assoc]
  congr 1
  have e1 := take_snoc false bc i (by omega)
  have e2 := take_snoc false bb i (by omega)
  rw [e1, e2]
  generalize bc.getD i false = x
  generalize bb.getD i false = y
  have hl : (bc.take i).length = (bb.take i).length := by rw [List.length_take, List.length_take, h1, h2]
  rw [Bool.eq_iff_iff]
  simp only [Bool.and_eq_true, decide_eq_true_eq, beq_iff_eq]
  constructor
  · rintro ⟨a, rfl⟩; rw [a]
  · intro a
    have := List.append_inj a hl
    exact ⟨this.1, by simpa using this.2⟩
/-- What the law's boxes hold. -/
def Inp (w W : World) (gW : Nat) (m : Mt) (r : Rg) (A : Option Addr) (n c : Nat) (p : Nat) : Prop := Two w W m r A n c ∧ Lies W gW 31 [.int .i64 p]
theorem Inp.past {w W W' : World} {gW : Nat} {m : Mt} {r : Rg} {A : Option Addr} {n c : Nat} {p : Nat} (h : Inp w W gW m r A n c p) (hb : Below W.heap.size W W') : Inp w W' gW m r A n c p := ⟨h.1.past hb, h.2.past hb⟩
/-- The rows of both bytes' bits. -/
structure BitsIn (W : World) (g1 o1 g2 o2 : Nat) (bc bb : List Bool) : Prop where
  c1 : ∀ i, i < 8 → W.cell? ⟨g1, o1 + i, none⟩ = some (.bool (bc.getD i false))
  l1 : g1 < W.heap.size
  c2 : ∀ i, i < 8 → W.cell? ⟨g2, o2 + i, none⟩ = some (.bool (bb.getD i false))
  l2 : g2 < W.heap.size
theorem BitsIn.past {W W' : World} {g1 o1 g2 o2 : Nat} {bc bb : List Bool} (h : BitsIn W g1 o1 g2 o2 bc bb) (hb : Below W.heap.size W W') : BitsIn W' g1 o1 g2 o2 bc bb :=
  ⟨fun i hi => by rw [(bcell hb).1 g1 _ h.l1]; exact h.c1 i hi, Nat.lt_of_lt_of_le h.l1 hb.size, fun i hi => by rw [(bcell hb).1 g2 _ h.l2]; exact h.c2 i hi, Nat.lt_of_lt_of_le h.l2 hb.size⟩
theorem BitsIn.st {W : World} {g1 o1 g2 o2 : Nat} {bc bb : List Bool} (h : BitsIn W g1 o1 g2 o2 bc bb) {g : Nat} (n1 : g ≠ g1) (n2 : g ≠ g2) (j : Nat) (x : Value) : BitsIn (W.setCell ⟨g, j, none⟩ x) g1 o1 g2 o2 bc bb := by
  have cell : ∀ b o, g ≠ b → (W.setCell ⟨g, j, none⟩ x).cell? ⟨b, o, none⟩ = W.cell? ⟨b, o, none⟩ := fun b o hb => World.cell?_setCell_far _ _ _ _ hb
  exact ⟨fun i hi => by rw [cell g1 _ n1]; exact h.c1 i hi, by simp; exact h.l1, fun i hi => by rw [cell g2 _ n2]; exact h.c2 i hi, by simp; exact h.l2⟩
set_option maxHeartbeats 2000000 in
theorem input_law (m : Mt) (A : Option Addr) (n c : Nat) (r : Rg) (y : Int) (w : World) (h : RgIn w A n c r) (y1 : 0 ≤ y) (y2 : y ≤ 255) :
    Calls Try.prog 6 #[.agg #[.int .i64 (m).a, .int .i64 (m).k], .agg #[.int .i64 (r).l, .slice A n c, .int .i64 (r).n], .int .u8 y] w fun e w' => e = .returned (.bool true) ∧ Below w.heap.size w w' := by
  have T0 := Lib.hid (two_start w m r A n c h)
  have HRI := Lib.hid h
  have HX := Lib.hid (exV_bd h.b m)
  have HM : Hid (n ≤ 9223372036854775807) := Lib.hid (by have := h.c1; have := h.c2; omega)
  clear h
  by_cases hg : 8300 < n
  · have HG : Hid (decide (8300 < n) = true) := Lib.hid (decide_eq_true hg)
    clear hg
    go_enter Try.func6, Try.ntmps6
    go_wp2_with fail
    refine (alive _).mono ?_
    rintro e w1 ⟨rfl, hb1⟩
    have T1 := Lib.hid (T0.out.past hb1)
    clear hb1
    obtain ⟨m0, m1, -, -⟩ := T1.out.1.two; obtain ⟨x0, x1, x2, -, -, -⟩ := T1.out.2.1.three; have zl := T1.out.1.lt; have zl2 := T1.out.2.1.lt
    go_wp2_with fail
    refine (great_any r A n c _ HM.out).mono ?_
    rintro e w2 ⟨rfl, hb2⟩
    rw [HG.out]
    have T2 := Lib.hid (T1.out.past hb2)
    clear hb2
    clear m0 m1 x0 x1 x2 zl zl2
    go_wp2_with fail
    go_ret
    exact ⟨rfl, T2.out.2.2.2⟩
  have HG : Hid (decide (8300 < n) = false) := Lib.hid (decide_eq_false hg)
  clear hg
  cases hr : rgOk r
  · have HE : Hid (rgE r = 8) := Lib.hid (by rw [rgE, hr]; rfl)
    clear hr
    go_enter Try.func6, Try.ntmps6
    go_wp2_with fail
    refine (alive _).mono ?_
    rintro e w1 ⟨rfl, hb1⟩
    have T1 := Lib.hid (T0.out.past hb1)
    clear hb1
    obtain ⟨m0, m1, -, -⟩ := T1.out.1.two; obtain ⟨x0, x1, x2, -, -, -⟩ := T1.out.2.1.three; have zl := T1.out.1.lt; have zl2 := T1.out.2.1.lt
    go_wp2_with fail
    refine (great_any r A n c _ HM.out).mono ?_
    rintro e w2 ⟨rfl, hb2⟩
    rw [HG.out]
    have T2 := Lib.hid (T1.out.past hb2)
    clear hb2
    clear m0 m1 x0 x1 x2 zl zl2
    obtain ⟨m0, m1, -, -⟩ := T2.out.1.two; obtain ⟨x0, x1, x2, -, -, -⟩ := T2.out.2.1.three; have zl := T2.out.1.lt; have zl2 := T2.out.2.1.lt
    go_wp2_with fail
    refine (rgW.rCheck_any r A n c _ T2.out.2.2.1).mono ?_
    rintro e w3 ⟨rfl, hb3⟩
    rw [HE.out]
    have T3 := Lib.hid (T2.out.past hb3)
    clear hb3
    clear m0 m1 x0 x1 x2 zl zl2
    go_wp2_with fail
    go_ret
    exact ⟨rfl, T3.out.2.2.2⟩
  have HR : Hid (rgE r = 0) := Lib.hid (by rw [rgE, hr]; rfl)
  cases hm : mtB m
  · have HE : Hid (mtE m = 8) := Lib.hid (mtE_no hm)
    clear hr hm
    go_enter Try.func6, Try.ntmps6
    go_wp2_with fail
    refine (alive _).mono ?_
    rintro e w1 ⟨rfl, hb1⟩
    have T1 := Lib.hid (T0.out.past hb1)
    clear hb1
    obtain ⟨m0, m1, -, -⟩ := T1.out.1.two; obtain ⟨x0, x1, x2, -, -, -⟩ := T1.out.2.1.three; have zl := T1.out.1.lt; have zl2 := T1.out.2.1.lt
    go_wp2_with fail
    refine (great_any r A n c _ HM.out).mono ?_
    rintro e w2 ⟨rfl, hb2⟩
    rw [HG.out]
    have T2 := Lib.hid (T1.out.past hb2)
    clear hb2
    clear m0 m1 x0 x1 x2 zl zl2
    obtain ⟨m0, m1, -, -⟩ := T2.out.1.two; obtain ⟨x0, x1, x2, -, -, -⟩ := T2.out.2.1.three; have zl := T2.out.1.lt; have zl2 := T2.out.2.1.lt
    go_wp2_with fail
    refine (rgW.rCheck_any r A n c _ T2.out.2.2.1).mono ?_
    rintro e w3 ⟨rfl, hb3⟩
    rw [HR.out]
    have T3 := Lib.hid (T2.out.past hb3)
    clear hb3
    clear m0 m1 x0 x1 x2 zl zl2
    obtain ⟨m0, m1, -, -⟩ := T3.out.1.two; obtain ⟨x0, x1, x2, -, -, -⟩ := T3.out.2.1.three; have zl := T3.out.1.lt; have zl2 := T3.out.2.1.lt
    go_wp2_with fail
    refine (rCheck_any m _).mono ?_
    rintro e w4 ⟨rfl, hb4⟩
    rw [HE.out]
    have T4 := Lib.hid (T3.out.past hb4)
    clear hb4
    clear m0 m1 x0 x1 x2 zl zl2
    go_wp2_with fail
    go_ret
    exact ⟨rfl, T4.out.2.2.2⟩
  have he := exE_yes hm hr
  obtain ⟨yn, rfl⟩ : ∃ yn : Nat, y = yn := ⟨y.toNat, by omega⟩
  obtain ⟨b, hb⟩ : ∃ b : Nat, exV m r = b := ⟨(exV m r).toNat, by have := HX.out; omega⟩
  have b1 : b < 256 := by have := HX.out; omega
  have y3 : yn < 256 := by omega
  have HRB := Lib.hid (fun w => rByte_any yn w y3)
  have HRB2 := Lib.hid (fun w => rByte_any b w b1)
  have hbcl := (rd_byte yn y3).1
  have hbbl := (rd_byte b b1).1
  have hmk := (mtB_iff m).1 hm
  have HIN : Hid (∀ i, i < 8 → inE m r (pq (rd (256 + yn)) i) = 0 ∧ inV m r (pq (rd (256 + yn)) i) = if agI (exB m r) (rd (256 + yn)) (rd (256 + b)) i then (if (rd (256 + b)).getD i false then 50 * m.k else -(50 * m.k)) else 0) := Lib.hid (fun i hi => pq_in hbcl hi he hb)
  have HMK : Hid (m.k ≤ 40 ∧ 0 ≤ m.k ∧ (exB m r = true → 1 ≤ m.k)) := Lib.hid ⟨by omega, by omega, fun hB => by
    rw [exB, if_pos he, Bool.and_eq_true] at hB
    have := of_decide_eq_true hB.1
    omega⟩
  unfold RdRes at HRB HRB2
  obtain ⟨bc, hbc⟩ : ∃ l, rd (256 + yn) = l := ⟨_, rfl⟩
  obtain ⟨bb, hbb⟩ : ∃ l, rd (256 + b) = l := ⟨_, rfl⟩
  rw [hbc] at HRB hbcl HIN
  rw [hbb] at HRB2 hbbl HIN
  rw [hbcl] at HRB
  rw [hbbl] at HRB2
  obtain ⟨is, his⟩ : ∃ is, exB m r = is := ⟨_, rfl⟩
  rw [his] at HIN HMK
  have HEX := Lib.hid (And.intro he (And.intro hb his))
  have HMT : Hid (mtE m = 0) := Lib.hid (mtE_yes hm)
  have HLN := Lib.hid (And.intro hbcl hbbl)
  clear hr hm he hb b1 y1 y2 y3 hbcl hbbl hmk hbc hbb his HX
  go_enter Try.func6, Try.ntmps6
  go_wp2_with fail
  refine (alive _).mono ?_
  rintro e w1 ⟨rfl, hb1⟩
  have T1 := Lib.hid (T0.out.past hb1)
  clear hb1
  obtain ⟨m0, m1, -, -⟩ := T1.out.1.two; obtain ⟨x0, x1, x2, -, -, -⟩ := T1.out.2.1.three; have zl := T1.out.1.lt; have zl2 := T1.out.2.1.lt
  go_wp2_with fail
  refine (great_any r A n c _ HM.out).mono ?_
  rintro e w2 ⟨rfl, hb2⟩
  rw [HG.out]
  have T2 := Lib.hid (T1.out.past hb2)
  clear hb2
  clear m0 m1 x0 x1 x2 zl zl2
  obtain ⟨m0, m1, -, -⟩ := T2.out.1.two; obtain ⟨x0, x1, x2, -, -, -⟩ := T2.out.2.1.three; have zl := T2.out.1.lt; have zl2 := T2.out.2.1.lt
  go_wp2_with fail
  refine (rgW.rCheck_any r A n c _ T2.out.2.2.1).mono ?_
  rintro e w3 ⟨rfl, hb3⟩
  rw [HR.out]
  have T3 := Lib.hid (T2.out.past hb3)
  clear hb3
  clear m0 m1 x0 x1 x2 zl zl2
  obtain ⟨m0, m1, -, -⟩ := T3.out.1.two; obtain ⟨x0, x1, x2, -, -, -⟩ := T3.out.2.1.three; have zl := T3.out.1.lt; have zl2 := T3.out.2.1.lt
  go_wp2_with fail
  refine (rCheck_any m _).mono ?_
  rintro e w4 ⟨rfl, hb4⟩
  rw [HMT.out]
  have T4 := Lib.hid (T3.out.past hb4)
  clear hb4
  clear m0 m1 x0 x1 x2 zl zl2
  obtain ⟨m0, m1, -, -⟩ := T4.out.1.two; obtain ⟨x0, x1, x2, -, -, -⟩ := T4.out.2.1.three; have zl := T4.out.1.lt; have zl2 := T4.out.2.1.lt
  go_wp2_with fail
  refine (Expect_any m r A n c _ T4.out.2.2.1).mono ?_
  rintro e w5 ⟨rfl, hb5⟩
  rw [HEX.out.1, HEX.out.2.1, HEX.out.2.2]
  have T5 := Lib.hid (T4.out.past hb5)
  clear hb5
  clear m0 m1 x0 x1 x2 zl zl2
  go_wp2_with fail
  refine (nibW.New_any _).mono ?_
  rintro e w6 ⟨rfl, hb6⟩
  have I6 : Hid (Inp w (w6.alloc (.cells #[.int .i64 1] 31)) w6.heap.size m r A n c (pq bc 0)) := Lib.hid ⟨(T5.out.past hb6).past (grows_alloc _ _), Lies.fresh _ _ _⟩
  have HGW : Hid (w.heap.size + 1 < w6.heap.size) := Lib.hid (T5.out.past hb6).2.1.lt
  clear hb6
  go_wp2_with fail
  generalize hw7 : w6.alloc (.cells #[.int .i64 1] 31) = w7 at *
  generalize w6.heap.size = gW at *
  clear hw7
  refine (HRB.out _).mono ?_
  rintro e w8 ⟨D1, d1, rfl, o1, hb8⟩
  obtain ⟨D1', d1', hv1, hh1, hc1, hq1⟩ := o1.val
  injection hv1 with e1 e2 e3
  subst e1 e3
  have I8 := Lib.hid (I6.out.past hb8)
  have H1 := Lib.hid hh1
  have HQ1 := Lib.hid (And.intro hq1 I6.out.2.lt)
  clear hb8 o1 hh1 e2 hc1 hq1
  go_wp2_with fail
  refine (HRB2.out _).mono ?_
  rintro e w9 ⟨D2, d2, rfl, o2, hb9⟩
  obtain ⟨D2', d2', hv2, hh2, hc2, hq2⟩ := o2.val
  injection hv2 with e1 e2 e3
  subst e1 e3
  have I9 := Lib.hid (I8.out.past hb9)
  have H1' := Lib.hid (H1.out.below hb9 (Nat.le_refl _))
  have H2 := Lib.hid hh2
  have HQ2 := Lib.hid (And.intro hq2 I8.out.2.lt)
  clear hb9 o2 hh2 e2 hc2 hq2
  obtain ⟨g1, o1, rfl, gl1, hc1⟩ := hasB_some H1'.out (by rw [HLN.out.1]; omega)
  obtain ⟨g2, o2, rfl, gl2, hc2⟩ := hasB_some H2.out (by rw [HLN.out.2]; omega)
  have HBI : Hid (BitsIn w9 g1 o1 g2 o2 bc bb) := Lib.hid ⟨fun i hi => hc1 i (by rw [HLN.out.1]; exact hi), gl1, fun i hi => hc2 i (by rw [HLN.out.2]; exact hi), gl2⟩
  have HNE : Hid (gW ≠ g1 ∧ gW ≠ g2) := Lib.hid (by
    have q1 := HQ1.out.1 _ rfl
    have q2 := HQ2.out.1 _ rfl
    have q3 := HQ1.out.2
    have q4 := HQ2.out.2
    exact ⟨by simp at q1; omega, by simp at q2; omega⟩)
  clear HQ1 HQ2
  clear gl1 hc1 gl2 hc2
  go_wp2_with fail
  go_loopw [12, 15] (fun a iv wr => ∃ i : Nat, i ≤ 8 ∧ iv = .int .i64 i ∧ a = .bool (agI is bc bb i) ∧ Inp w wr gW m r A n c (pq bc i) ∧ BitsIn wr g1 o1 g2 o2 bc bb) (fun _ iv _ => 8 - (intOf iv).toNat)
  case atStart => exact ⟨0, by omega, rfl, by unfold agI; simp, I9.out, HBI.out⟩
  case round =>
    obtain ⟨i, hi, rfl, rfl, I, hb⟩ := hrel
    by_cases hlt : i < 8
    · have HI := Lib.hid (And.intro I hb)
      obtain ⟨f1, f2⟩ := HIN.out i hlt
      have f3 := pq_step HLN.out.1 hlt
      have f4 := ag_step (is := is) HLN.out.1 HLN.out.2 hlt
      have HC1i := Lib.hid (fun (W : World) (hW : BitsIn W g1 o1 g2 o2 bc bb) => And.intro (hW.c1 i hlt) hW.l1)
      have HC2i := Lib.hid (fun (W : World) (hW : BitsIn W g1 o1 g2 o2 bc bb) => And.intro (hW.c2 i hlt) hW.l2)
      have hag : agI is bc bb i = true → is = true := fun h => by unfold agI at h; rw [Bool.and_eq_true] at h; exact h.1
      obtain ⟨v, hv⟩ : ∃ v, inV m r (pq bc i) = v := ⟨_, rfl⟩
      rw [hv] at f2
      generalize hg2 : agI is bc bb (i + 1) = ag2 at *
      have HG2 := Lib.hid hg2
      clear hg2
      generalize agI is bc bb i = ag at *
      generalize hp2 : pq bc (i + 1) = p2 at *
      generalize hp1 : pq bc i = p1 at *
      have HF1 := Lib.hid (And.intro f1 hv)
      generalize hxb : bc.getD i false = xb at *
      generalize hyb : bb.getD i false = yb at *
      have HP := Lib.hid (And.intro hp2 f3)
      have HWK : Hid (wE (p1 : Int) = 0) := Lib.hid (by rw [← hp1]; exact wE_yes (pq_ok HLN.out.1 hlt))
      have hk := HMK.out
      have HLT := Lib.hid hlt
      have i8 : (i : Int) < 8 := by omega
      have i0 : 0 ≤ (i : Int) := by omega
      obtain ⟨⟨T, K⟩, -⟩ := HI.out
      obtain ⟨m0, m1, -, -⟩ := T.1.two; obtain ⟨x0, x1, x2, -, -, -⟩ := T.2.1.three; have zl := T.1.lt; have zl2 := T.2.1.lt
      obtain ⟨v0, -⟩ := K.one
      have zl3 := K.lt
      clear I hb hp2 hp1 hv hlt f1 f3 T K hi hxb hyb
      go_wp2_with fail
      refine (Input_any m r A n c p1 _ HI.out.1.1.2.2.1).mono ?_
      rintro e w10 ⟨rfl, hb10⟩
      rw [HF1.out.1, HF1.out.2]
      have HI2 := Lib.hid (And.intro (HI.out.1.past hb10) (HI.out.2.past hb10))
      clear hb10 v0 zl3
      clear m0 m1 x0 x1 x2 zl zl2
      have hc2 := HC2i.out w10 HI2.out.2
      obtain ⟨hc3, hc4⟩ := hc2
      cases ag
      · have hv0 : v = 0 := by rw [f2]; rfl
        have ha2 : ag2 = false := by rw [← f4]; rfl
        have HA2 := Lib.hid ha2
        subst hv0
        clear f2 f4 ha2 hag hk
        go_wp2_with fail
        (have RD := grows_roads (S := fun x' => Inp w x' gW m r A n c p1 ∧ BitsIn x' g1 o1 g2 o2 bc bb) (fun a b h1 h2 => ⟨h2.1.past h1, h2.2.past h1⟩)); refine region_ord _ Grows RD (⟨HI2.out.1.past (Below.drew (Below.refl _ _)), HI2.out.2.past (Below.drew (Below.refl _ _))⟩) (by kernel_rfl) ?_; intro ops Q' hops hPQ hN; (have HNS : Hid (Region.noSelect ops = true) := Lib.hid (by rw [hops]; kernel_rfl)); (have hsz : ops.size = 16 := (by rw [hops]; rfl)); have HOP := Lib.hid hops; have HPQ := Lib.hid hPQ; have HN := Lib.hid hN; rw [hsz]; clear hops hsz hPQ hN
        refine ord_take RD 0 (at_list (by rw [HOP.out]; rfl)) HNS.out HPQ.out (by rw [HOP.out]; kernel_rfl) (by rw [HOP.out]; kernel_rfl) (by rw [HOP.out]; rfl) (fun K hK => ?_); apply Exists.intro; refine ⟨fun W hSW => ?_, hK _ ?_⟩; (focus ((try dsimp only at hSW); (obtain ⟨y0, -⟩ := hSW.1.2.one); go_simp; try with_reducible rfl)); clear hK K; (try simp only [Act.put, List.setIfInBounds_toArray, List.set_cons_zero, List.set_cons_succ])
        refine ord_take RD 1 (at_list (by rw [HOP.out]; rfl)) HNS.out HPQ.out (by rw [HOP.out]; kernel_rfl) (by rw [HOP.out]; kernel_rfl) (by rw [HOP.out]; rfl) (fun K hK => ?_); apply Exists.intro; refine ⟨fun W hSW => ?_, hK _ ?_⟩; (focus ((try dsimp only at hSW); go_simp; try with_reducible rfl)); clear hK K; (try simp only [Act.put, List.setIfInBounds_toArray, List.set_cons_zero, List.set_cons_succ])
        refine ord_take RD 2 (at_list (by rw [HOP.out]; rfl)) HNS.out HPQ.out (by rw [HOP.out]; kernel_rfl) (by rw [HOP.out]; kernel_rfl) (by rw [HOP.out]; rfl) (fun K hK => ?_); apply Exists.intro; refine ⟨fun W hSW => ?_, hK _ ?_⟩; (focus ((try dsimp only at hSW); go_simp; try with_reducible rfl)); clear hK K; (try simp only [Act.put, List.setIfInBounds_toArray, List.set_cons_zero, List.set_cons_succ])
        refine ord_take RD 3 (at_list (by rw [HOP.out]; rfl)) HNS.out HPQ.out (by rw [HOP.out]; kernel_rfl) (by rw [HOP.out]; kernel_rfl) (by rw [HOP.out]; rfl) (fun K hK => ?_); apply Exists.intro; refine ⟨fun W hSW => ?_, hK _ ?_⟩; (focus ((try dsimp only at hSW); go_simp; try with_reducible rfl)); clear hK K; (try simp only [Act.put, List.setIfInBounds_toArray, List.set_cons_zero, List.set_cons_succ])
        refine ord_take RD 4 (at_list (by rw [HOP.out]; rfl)) HNS.out HPQ.out (by rw [HOP.out]; kernel_rfl) (by rw [HOP.out]; kernel_rfl) (by rw [HOP.out]; rfl) (fun K hK => ?_); apply Exists.intro; refine ⟨fun W hSW => ?_, hK _ ?_⟩; (focus ((try dsimp only at hSW); (obtain ⟨y0, y1⟩ := HC1i.out W hSW.2); go_simp; try with_reducible rfl)); clear hK K; (try simp only [Act.put, List.setIfInBounds_toArray, List.set_cons_zero, List.set_cons_succ])
        refine ord_take RD 5 (at_list (by rw [HOP.out]; rfl)) HNS.out HPQ.out (by rw [HOP.out]; kernel_rfl) (by rw [HOP.out]; kernel_rfl) (by rw [HOP.out]; rfl) (fun K hK => ?_); apply Exists.intro; refine ⟨fun W hSW => ?_, hK _ ?_⟩; (focus ((try dsimp only at hSW); go_simp; exact (nibW.Step_any (p1 : Int) xb W))); clear hK K; (try simp only [Act.put, List.setIfInBounds_toArray, List.set_cons_zero, List.set_cons_succ])
        rw [HP.out.2, HWK.out]
        generalize stD (p1 : Int) = sd at *
        generalize stB (p1 : Int) xb = sb at *
        refine ord_take RD 6 (at_list (by rw [HOP.out]; rfl)) HNS.out HPQ.out (by rw [HOP.out]; kernel_rfl) (by rw [HOP.out]; kernel_rfl) (by rw [HOP.out]; rfl) (fun K hK => ?_); apply Exists.intro; refine ⟨fun W hSW => ?_, hK _ ?_⟩; (focus ((try dsimp only at hSW); go_simp; try with_reducible rfl)); clear hK K; (try simp only [Act.put, List.setIfInBounds_toArray, List.set_cons_zero, List.set_cons_succ])
        refine ord_take RD 7 (at_list (by rw [HOP.out]; rfl)) HNS.out HPQ.out (by rw [HOP.out]; kernel_rfl) (by rw [HOP.out]; kernel_rfl) (by rw [HOP.out]; rfl) (fun K hK => ?_); apply Exists.intro; refine ⟨fun W hSW => ?_, hK _ ?_⟩; (focus ((try dsimp only at hSW); go_simp; try with_reducible rfl)); clear hK K; (try simp only [Act.put, List.setIfInBounds_toArray, List.set_cons_zero, List.set_cons_succ])
        refine ord_take RD 8 (at_list (by rw [HOP.out]; rfl)) HNS.out HPQ.out (by rw [HOP.out]; kernel_rfl) (by rw [HOP.out]; kernel_rfl) (by rw [HOP.out]; rfl) (fun K hK => ?_); apply Exists.intro; refine ⟨fun W hSW => ?_, hK _ ?_⟩; (focus ((try dsimp only at hSW); go_simp; try with_reducible rfl)); clear hK K; (try simp only [Act.put, List.setIfInBounds_toArray, List.set_cons_zero, List.set_cons_succ])
        refine ord_take RD 9 (at_list (by rw [HOP.out]; rfl)) HNS.out HPQ.out (by rw [HOP.out]; kernel_rfl) (by rw [HOP.out]; kernel_rfl) (by rw [HOP.out]; rfl) (fun K hK => ?_); apply Exists.intro; refine ⟨fun W hSW => ?_, hK _ ?_⟩; (focus ((try dsimp only at hSW); go_simp; try with_reducible rfl)); clear hK K; (try simp only [Act.put, List.setIfInBounds_toArray, List.set_cons_zero, List.set_cons_succ])
        refine ord_take RD 10 (at_list (by rw [HOP.out]; rfl)) HNS.out HPQ.out (by rw [HOP.out]; kernel_rfl) (by rw [HOP.out]; kernel_rfl) (by rw [HOP.out]; rfl) (fun K hK => ?_); apply Exists.intro; refine ⟨fun W hSW => ?_, hK _ ?_⟩; (focus ((try dsimp only at hSW); go_simp; try with_reducible rfl)); clear hK K; (try simp only [Act.put, List.setIfInBounds_toArray, List.set_cons_zero, List.set_cons_succ])
        refine ord_one RD 11 (by rw [HOP.out]; kernel_rfl) (at_list (by rw [HOP.out]; rfl)) (by rw [HOP.out]; rfl) (fun Wa hWW hSW K hK => ?_); (try dsimp only at hSW)
        have HS := Lib.hid hSW
        clear hSW hWW
        have HB11 : Hid (Lies (Wa.alloc (.cells #[.int .i64 0] 31)) Wa.heap.size 31 [.int .i64 0] ∧ gW < Wa.heap.size ∧ w.heap.size + 1 < Wa.heap.size ∧ g1 < Wa.heap.size ∧ g2 < Wa.heap.size) := Lib.hid ⟨Lies.fresh _ _ _, HS.out.1.2.lt, HS.out.1.1.2.1.lt, HS.out.2.l1, HS.out.2.l2⟩
        go_simp
        refine hK _ _ ⟨HS.out.1.past (grows_alloc _ _), HS.out.2.past (grows_alloc _ _)⟩ ?_
        clear HS
        clear hK K; (try simp only [Act.put, List.setIfInBounds_toArray, List.set_cons_zero, List.set_cons_succ])
        generalize hgx : Wa.heap.size = gX at *
        have HGX := Lib.hid hgx
        clear hgx
        refine ord_one RD 12 (by rw [HOP.out]; kernel_rfl) (at_list (by rw [HOP.out]; rfl)) (by rw [HOP.out]; rfl) (fun Wb hWW hSW K hK => ?_); (try dsimp only at hSW)
        have HS := Lib.hid hSW
        have K1 := HB11.out.1.past hWW
        clear hSW hWW
        obtain ⟨k0', k1'⟩ := K1.one
        have kl := K1.lt
        have HL := Lib.hid (K1.set 0 (.int .i64 (p2 : Int)))
        clear K1
        go_simp
        refine hK _ _ ⟨⟨⟨HS.out.1.1.1.other (by have := HB11.out.2.2.1; show gX ≠ w.heap.size; omega) _, HS.out.1.1.2.1.other (by have := HB11.out.2.2.1; show gX ≠ w.heap.size + 1; omega) _, ?_, ?_⟩, HS.out.1.2.other (by have := HB11.out.2.1; show gX ≠ gW; omega) _⟩, HS.out.2.st (by have := HB11.out.2.2.2.1; omega) (by have := HB11.out.2.2.2.2; omega) _ _⟩ ?_
        · exact HRI.out.below (HS.out.1.1.2.2.2.setCell (by have := HB11.out.2.2.1; show w.heap.size ≤ gX; omega) _)
        · exact HS.out.1.1.2.2.2.setCell (by have := HB11.out.2.2.1; show w.heap.size ≤ gX; omega) _
        clear k0' k1' kl HS
        clear hK K; (try simp only [Act.put, List.setIfInBounds_toArray, List.set_cons_zero, List.set_cons_succ])
        refine ord_take RD 13 (at_list (by rw [HOP.out]; rfl)) HNS.out HPQ.out (by rw [HOP.out]; kernel_rfl) (by rw [HOP.out]; kernel_rfl) (by rw [HOP.out]; rfl) (fun K hK => ?_); apply Exists.intro; refine ⟨fun W hSW => ?_, hK _ ?_⟩; (focus ((try dsimp only at hSW); go_simp; try with_reducible rfl)); clear hK K; (try simp only [Act.put, List.setIfInBounds_toArray, List.set_cons_zero, List.set_cons_succ])
        refine ord_take RD 14 (at_list (by rw [HOP.out]; rfl)) HNS.out HPQ.out (by rw [HOP.out]; kernel_rfl) (by rw [HOP.out]; kernel_rfl) (by rw [HOP.out]; rfl) (fun K hK => ?_); apply Exists.intro; refine ⟨fun W hSW => ?_, hK _ ?_⟩; (focus ((try dsimp only at hSW); go_simp; try with_reducible rfl)); clear hK K; (try simp only [Act.put, List.setIfInBounds_toArray, List.set_cons_zero, List.set_cons_succ])
        refine ord_take RD 15 (at_list (by rw [HOP.out]; rfl)) HNS.out HPQ.out (by rw [HOP.out]; kernel_rfl) (by rw [HOP.out]; kernel_rfl) (by rw [HOP.out]; rfl) (fun K hK => ?_); apply Exists.intro; refine ⟨fun W hSW => ?_, hK _ ?_⟩; (focus ((try dsimp only at hSW); go_simp; try with_reducible rfl)); clear hK K; (try simp only [Act.put, List.setIfInBounds_toArray, List.set_cons_zero, List.set_cons_succ])
        refine ord_done (by rw [HOP.out]; kernel_rfl) (fun Wc hWW hSW => HN.out _ _ ?_); clear HOP HNS HPQ HN RD; (try dsimp only at hSW)
        have T3 := Lib.hid (And.intro hSW.1.1 (And.intro hSW.1.2 (And.intro (HL.out.past hWW) hSW.2)))
        clear hSW hWW HL
        go_wp2_with fail
        (have RD := grows_roads (S := fun x' => Two w x' m r A n c ∧ (∃ a, Lies x' gW 31 [a]) ∧ Lies x' gX 31 [.int .i64 (p2 : Int)] ∧ BitsIn x' g1 o1 g2 o2 bc bb) (fun a b h1 h2 => ⟨h2.1.past h1, (let ⟨q, k⟩ := h2.2.1; ⟨q, k.past h1⟩), h2.2.2.1.past h1, h2.2.2.2.past h1⟩)); refine region_ord _ Grows RD (⟨T3.out.1.past (Below.drew (Below.refl _ _)), ⟨_, T3.out.2.1.drew⟩, T3.out.2.2.1.drew, T3.out.2.2.2.past (Below.drew (Below.refl _ _))⟩) (by kernel_rfl) ?_; intro ops Q' hops hPQ hN; (have HNS : Hid (Region.noSelect ops = true) := Lib.hid (by rw [hops]; kernel_rfl)); (have hsz : ops.size = 15 := (by rw [hops]; rfl)); have HOP := Lib.hid hops; have HPQ := Lib.hid hPQ; have HN := Lib.hid hN; rw [hsz]; clear hops hsz hPQ hN
        refine ord_take RD 0 (at_list (by rw [HOP.out]; rfl)) HNS.out HPQ.out (by rw [HOP.out]; kernel_rfl) (by rw [HOP.out]; kernel_rfl) (by rw [HOP.out]; rfl) (fun K hK => ?_); apply Exists.intro; refine ⟨fun W hSW => ?_, hK _ ?_⟩; (focus ((try dsimp only at hSW); (obtain ⟨y0, -⟩ := hSW.2.2.1.one); go_simp; try with_reducible rfl)); clear hK K; (try simp only [Act.put, List.setIfInBounds_toArray, List.set_cons_zero, List.set_cons_succ])
        refine ord_take RD 1 (at_list (by rw [HOP.out]; rfl)) HNS.out HPQ.out (by rw [HOP.out]; kernel_rfl) (by rw [HOP.out]; kernel_rfl) (by rw [HOP.out]; rfl) (fun K hK => ?_); apply Exists.intro; refine ⟨fun W hSW => ?_, hK _ ?_⟩; (focus ((try dsimp only at hSW); go_simp; try with_reducible rfl)); clear hK K; (try simp only [Act.put, List.setIfInBounds_toArray, List.set_cons_zero, List.set_cons_succ])
        refine ord_take RD 2 (at_list (by rw [HOP.out]; rfl)) HNS.out HPQ.out (by rw [HOP.out]; kernel_rfl) (by rw [HOP.out]; kernel_rfl) (by rw [HOP.out]; rfl) (fun K hK => ?_); apply Exists.intro; refine ⟨fun W hSW => ?_, hK _ ?_⟩; (focus ((try dsimp only at hSW); go_simp; try with_reducible rfl)); clear hK K; (try simp only [Act.put, List.setIfInBounds_toArray, List.set_cons_zero, List.set_cons_succ])
        refine ord_skip RD 3 (at_list (by rw [HOP.out]; rfl)) HNS.out HPQ.out (by rw [HOP.out]; kernel_rfl) (by rw [HOP.out]; kernel_rfl) (by rw [HOP.out]; rfl) ?_; (try simp only [Act.put, List.setIfInBounds_toArray, List.set_cons_zero, List.set_cons_succ])
        refine ord_skip RD 4 (at_list (by rw [HOP.out]; rfl)) HNS.out HPQ.out (by rw [HOP.out]; kernel_rfl) (by rw [HOP.out]; kernel_rfl) (by rw [HOP.out]; rfl) ?_; (try simp only [Act.put, List.setIfInBounds_toArray, List.set_cons_zero, List.set_cons_succ])
        refine ord_skip RD 5 (at_list (by rw [HOP.out]; rfl)) HNS.out HPQ.out (by rw [HOP.out]; kernel_rfl) (by rw [HOP.out]; kernel_rfl) (by rw [HOP.out]; rfl) ?_; (try simp only [Act.put, List.setIfInBounds_toArray, List.set_cons_zero, List.set_cons_succ])
        refine ord_skip RD 6 (at_list (by rw [HOP.out]; rfl)) HNS.out HPQ.out (by rw [HOP.out]; kernel_rfl) (by rw [HOP.out]; kernel_rfl) (by rw [HOP.out]; rfl) ?_; (try simp only [Act.put, List.setIfInBounds_toArray, List.set_cons_zero, List.set_cons_succ])
        refine ord_skip RD 7 (at_list (by rw [HOP.out]; rfl)) HNS.out HPQ.out (by rw [HOP.out]; kernel_rfl) (by rw [HOP.out]; kernel_rfl) (by rw [HOP.out]; rfl) ?_; (try simp only [Act.put, List.setIfInBounds_toArray, List.set_cons_zero, List.set_cons_succ])
        refine ord_skip RD 8 (at_list (by rw [HOP.out]; rfl)) HNS.out HPQ.out (by rw [HOP.out]; kernel_rfl) (by rw [HOP.out]; kernel_rfl) (by rw [HOP.out]; rfl) ?_; (try simp only [Act.put, List.setIfInBounds_toArray, List.set_cons_zero, List.set_cons_succ])
        refine ord_skip RD 9 (at_list (by rw [HOP.out]; rfl)) HNS.out HPQ.out (by rw [HOP.out]; kernel_rfl) (by rw [HOP.out]; kernel_rfl) (by rw [HOP.out]; rfl) ?_; (try simp only [Act.put, List.setIfInBounds_toArray, List.set_cons_zero, List.set_cons_succ])
        refine ord_skip RD 10 (at_list (by rw [HOP.out]; rfl)) HNS.out HPQ.out (by rw [HOP.out]; kernel_rfl) (by rw [HOP.out]; kernel_rfl) (by rw [HOP.out]; rfl) ?_; (try simp only [Act.put, List.setIfInBounds_toArray, List.set_cons_zero, List.set_cons_succ])
        refine ord_skip RD 11 (at_list (by rw [HOP.out]; rfl)) HNS.out HPQ.out (by rw [HOP.out]; kernel_rfl) (by rw [HOP.out]; kernel_rfl) (by rw [HOP.out]; rfl) ?_; (try simp only [Act.put, List.setIfInBounds_toArray, List.set_cons_zero, List.set_cons_succ])
        refine ord_take RD 12 (at_list (by rw [HOP.out]; rfl)) HNS.out HPQ.out (by rw [HOP.out]; kernel_rfl) (by rw [HOP.out]; kernel_rfl) (by rw [HOP.out]; rfl) (fun K hK => ?_); apply Exists.intro; refine ⟨fun W hSW => ?_, hK _ ?_⟩; (focus ((try dsimp only at hSW); go_simp; try with_reducible rfl)); clear hK K; (try simp only [Act.put, List.setIfInBounds_toArray, List.set_cons_zero, List.set_cons_succ])
        refine ord_one RD 13 (by rw [HOP.out]; kernel_rfl) (at_list (by rw [HOP.out]; rfl)) (by rw [HOP.out]; rfl) (fun Wd hWW hSW K hK => ?_); (try dsimp only at hSW)
        have HS := Lib.hid hSW
        clear hSW hWW
        obtain ⟨xa, K1⟩ := HS.out.2.1
        obtain ⟨k0', k1'⟩ := K1.one
        have kl := K1.lt
        have HL := Lib.hid (K1.set 0 (.int .i64 (p2 : Int)))
        go_simp
        refine hK _ _ ⟨⟨HS.out.1.1.other (by have := HGW.out; show gW ≠ w.heap.size; omega) _, HS.out.1.2.1.other (by have := HGW.out; show gW ≠ w.heap.size + 1; omega) _, HRI.out.below (HS.out.1.2.2.2.setCell (by have := HGW.out; show w.heap.size ≤ gW; omega) _), HS.out.1.2.2.2.setCell (by have := HGW.out; show w.heap.size ≤ gW; omega) _⟩, ⟨_, K1.set 0 _⟩, HS.out.2.2.1.other (by have := HB11.out.2.1; show gW ≠ gX; omega) _, HS.out.2.2.2.st HNE.out.1 HNE.out.2 _ _⟩ ?_
        clear k0' k1' kl HS K1
        clear hK K; (try simp only [Act.put, List.setIfInBounds_toArray, List.set_cons_zero, List.set_cons_succ])
        refine ord_take RD 14 (at_list (by rw [HOP.out]; rfl)) HNS.out HPQ.out (by rw [HOP.out]; kernel_rfl) (by rw [HOP.out]; kernel_rfl) (by rw [HOP.out]; rfl) (fun K hK => ?_); apply Exists.intro; refine ⟨fun W hSW => ?_, hK _ ?_⟩; (focus ((try dsimp only at hSW); go_simp; try with_reducible rfl)); clear hK K; (try simp only [Act.put, List.setIfInBounds_toArray, List.set_cons_zero, List.set_cons_succ])
        refine ord_done (by rw [HOP.out]; kernel_rfl) (fun We hWW hSW => HN.out _ _ ?_); clear HOP HNS HPQ HN RD; (try dsimp only at hSW)
        have hend : Inp w We gW m r A n c p2 := ⟨hSW.1, HL.out.past hWW⟩
        have HEND := Lib.hid (And.intro hend hSW.2.2.2)
        clear hend hSW hWW HL
        go_wp2_with fail
        refine ⟨⟨i + 1, by have := HLT.out; omega, by first | rfl | go_num, (by rw [HG2.out, HA2.out]; try (cases xb <;> rfl)), by rw [HP.out.1]; exact HEND.out.1, HEND.out.2⟩, by simp [intOf]; have := HLT.out; omega⟩
      · have k1 := hk.2.2 (hag rfl)
        have k2 := hk.1
        have HA2 : Hid (ag2 = (xb == yb)) := Lib.hid (by rw [← f4]; rfl)
        have f2' : v = if yb then 50 * m.k else -(50 * m.k) := f2
        clear f2 f4 hag hk
        cases yb
        · have v1 : v < 0 := by rw [f2']; simp; omega
          have v2 : -2000 ≤ v := by rw [f2']; simp; omega
          have v3 : ¬ v = 0 := by omega
          have v4 : (v == 0) = false := by simpa using v3
          clear f2' k1 k2
          go_wp2_with fail
          (have RD := grows_roads (S := fun x' => Inp w x' gW m r A n c p1 ∧ BitsIn x' g1 o1 g2 o2 bc bb) (fun a b h1 h2 => ⟨h2.1.past h1, h2.2.past h1⟩)); refine region_ord _ Grows RD (⟨HI2.out.1.past (Below.drew (Below.refl _ _)), HI2.out.2.past (Below.drew (Below.refl _ _))⟩) (by kernel_rfl) ?_; intro ops Q' hops hPQ hN; (have HNS : Hid (Region.noSelect ops = true) := Lib.hid (by rw [hops]; kernel_rfl)); (have hsz : ops.size = 16 := (by rw [hops]; rfl)); have HOP := Lib.hid hops; have HPQ := Lib.hid hPQ; have HN := Lib.hid hN; rw [hsz]; clear hops hsz hPQ hN
          refine ord_take RD 0 (at_list (by rw [HOP.out]; rfl)) HNS.out HPQ.out (by rw [HOP.out]; kernel_rfl) (by rw [HOP.out]; kernel_rfl) (by rw [HOP.out]; rfl) (fun K hK => ?_); apply Exists.intro; refine ⟨fun W hSW => ?_, hK _ ?_⟩; (focus ((try dsimp only at hSW); (obtain ⟨y0, -⟩ := hSW.1.2.one); go_simp; try with_reducible rfl)); clear hK K; (try simp only [Act.put, List.setIfInBounds_toArray, List.set_cons_zero, List.set_cons_succ])
          refine ord_take RD 1 (at_list (by rw [HOP.out]; rfl)) HNS.out HPQ.out (by rw [HOP.out]; kernel_rfl) (by rw [HOP.out]; kernel_rfl) (by rw [HOP.out]; rfl) (fun K hK => ?_); apply Exists.intro; refine ⟨fun W hSW => ?_, hK _ ?_⟩; (focus ((try dsimp only at hSW); go_simp; try with_reducible rfl)); clear hK K; (try simp only [Act.put, List.setIfInBounds_toArray, List.set_cons_zero, List.set_cons_succ])
          refine ord_take RD 2 (at_list (by rw [HOP.out]; rfl)) HNS.out HPQ.out (by rw [HOP.out]; kernel_rfl) (by rw [HOP.out]; kernel_rfl) (by rw [HOP.out]; rfl) (fun K hK => ?_); apply Exists.intro; refine ⟨fun W hSW => ?_, hK _ ?_⟩; (focus ((try dsimp only at hSW); go_simp; try with_reducible rfl)); clear hK K; (try simp only [Act.put, List.setIfInBounds_toArray, List.set_cons_zero, List.set_cons_succ])
          refine ord_take RD 3 (at_list (by rw [HOP.out]; rfl)) HNS.out HPQ.out (by rw [HOP.out]; kernel_rfl) (by rw [HOP.out]; kernel_rfl) (by rw [HOP.out]; rfl) (fun K hK => ?_); apply Exists.intro; refine ⟨fun W hSW => ?_, hK _ ?_⟩; (focus ((try dsimp only at hSW); go_simp; try with_reducible rfl)); clear hK K; (try simp only [Act.put, List.setIfInBounds_toArray, List.set_cons_zero, List.set_cons_succ])
          refine ord_take RD 4 (at_list (by rw [HOP.out]; rfl)) HNS.out HPQ.out (by rw [HOP.out]; kernel_rfl) (by rw [HOP.out]; kernel_rfl) (by rw [HOP.out]; rfl) (fun K hK => ?_); apply Exists.intro; refine ⟨fun W hSW => ?_, hK _ ?_⟩; (focus ((try dsimp only at hSW); (obtain ⟨y0, y1⟩ := HC1i.out W hSW.2); go_simp; try with_reducible rfl)); clear hK K; (try simp only [Act.put, List.setIfInBounds_toArray, List.set_cons_zero, List.set_cons_succ])
          refine ord_take RD 5 (at_list (by rw [HOP.out]; rfl)) HNS.out HPQ.out (by rw [HOP.out]; kernel_rfl) (by rw [HOP.out]; kernel_rfl) (by rw [HOP.out]; rfl) (fun K hK => ?_); apply Exists.intro; refine ⟨fun W hSW => ?_, hK _ ?_⟩; (focus ((try dsimp only at hSW); go_simp; exact (nibW.Step_any (p1 : Int) xb W))); clear hK K; (try simp only [Act.put, List.setIfInBounds_toArray, List.set_cons_zero, List.set_cons_succ])
          rw [HP.out.2, HWK.out]
          generalize stD (p1 : Int) = sd at *
          generalize stB (p1 : Int) xb = sb at *
          refine ord_take RD 6 (at_list (by rw [HOP.out]; rfl)) HNS.out HPQ.out (by rw [HOP.out]; kernel_rfl) (by rw [HOP.out]; kernel_rfl) (by rw [HOP.out]; rfl) (fun K hK => ?_); apply Exists.intro; refine ⟨fun W hSW => ?_, hK _ ?_⟩; (focus ((try dsimp only at hSW); go_simp; try with_reducible rfl)); clear hK K; (try simp only [Act.put, List.setIfInBounds_toArray, List.set_cons_zero, List.set_cons_succ])
          refine ord_take RD 7 (at_list (by rw [HOP.out]; rfl)) HNS.out HPQ.out (by rw [HOP.out]; kernel_rfl) (by rw [HOP.out]; kernel_rfl) (by rw [HOP.out]; rfl) (fun K hK => ?_); apply Exists.intro; refine ⟨fun W hSW => ?_, hK _ ?_⟩; (focus ((try dsimp only at hSW); go_simp; try with_reducible rfl)); clear hK K; (try simp only [Act.put, List.setIfInBounds_toArray, List.set_cons_zero, List.set_cons_succ])
          refine ord_take RD 8 (at_list (by rw [HOP.out]; rfl)) HNS.out HPQ.out (by rw [HOP.out]; kernel_rfl) (by rw [HOP.out]; kernel_rfl) (by rw [HOP.out]; rfl) (fun K hK => ?_); apply Exists.intro; refine ⟨fun W hSW => ?_, hK _ ?_⟩; (focus ((try dsimp only at hSW); go_simp; try with_reducible rfl)); clear hK K; (try simp only [Act.put, List.setIfInBounds_toArray, List.set_cons_zero, List.set_cons_succ])
          refine ord_take RD 9 (at_list (by rw [HOP.out]; rfl)) HNS.out HPQ.out (by rw [HOP.out]; kernel_rfl) (by rw [HOP.out]; kernel_rfl) (by rw [HOP.out]; rfl) (fun K hK => ?_); apply Exists.intro; refine ⟨fun W hSW => ?_, hK _ ?_⟩; (focus ((try dsimp only at hSW); go_simp; try with_reducible rfl)); clear hK K; (try simp only [Act.put, List.setIfInBounds_toArray, List.set_cons_zero, List.set_cons_succ])
          refine ord_take RD 10 (at_list (by rw [HOP.out]; rfl)) HNS.out HPQ.out (by rw [HOP.out]; kernel_rfl) (by rw [HOP.out]; kernel_rfl) (by rw [HOP.out]; rfl) (fun K hK => ?_); apply Exists.intro; refine ⟨fun W hSW => ?_, hK _ ?_⟩; (focus ((try dsimp only at hSW); go_simp; try with_reducible rfl)); clear hK K; (try simp only [Act.put, List.setIfInBounds_toArray, List.set_cons_zero, List.set_cons_succ])
          refine ord_one RD 11 (by rw [HOP.out]; kernel_rfl) (at_list (by rw [HOP.out]; rfl)) (by rw [HOP.out]; rfl) (fun Wa hWW hSW K hK => ?_); (try dsimp only at hSW)
          have HS := Lib.hid hSW
          clear hSW hWW
          have HB11 : Hid (Lies (Wa.alloc (.cells #[.int .i64 0] 31)) Wa.heap.size 31 [.int .i64 0] ∧ gW < Wa.heap.size ∧ w.heap.size + 1 < Wa.heap.size ∧ g1 < Wa.heap.size ∧ g2 < Wa.heap.size) := Lib.hid ⟨Lies.fresh _ _ _, HS.out.1.2.lt, HS.out.1.1.2.1.lt, HS.out.2.l1, HS.out.2.l2⟩
          go_simp
          refine hK _ _ ⟨HS.out.1.past (grows_alloc _ _), HS.out.2.past (grows_alloc _ _)⟩ ?_
          clear HS
          clear hK K; (try simp only [Act.put, List.setIfInBounds_toArray, List.set_cons_zero, List.set_cons_succ])
          generalize hgx : Wa.heap.size = gX at *
          have HGX := Lib.hid hgx
          clear hgx
          refine ord_one RD 12 (by rw [HOP.out]; kernel_rfl) (at_list (by rw [HOP.out]; rfl)) (by rw [HOP.out]; rfl) (fun Wb hWW hSW K hK => ?_); (try dsimp only at hSW)
          have HS := Lib.hid hSW
          have K1 := HB11.out.1.past hWW
          clear hSW hWW
          obtain ⟨k0', k1'⟩ := K1.one
          have kl := K1.lt
          have HL := Lib.hid (K1.set 0 (.int .i64 (p2 : Int)))
          clear K1
          go_simp
          refine hK _ _ ⟨⟨⟨HS.out.1.1.1.other (by have := HB11.out.2.2.1; show gX ≠ w.heap.size; omega) _, HS.out.1.1.2.1.other (by have := HB11.out.2.2.1; show gX ≠ w.heap.size + 1; omega) _, ?_, ?_⟩, HS.out.1.2.other (by have := HB11.out.2.1; show gX ≠ gW; omega) _⟩, HS.out.2.st (by have := HB11.out.2.2.2.1; omega) (by have := HB11.out.2.2.2.2; omega) _ _⟩ ?_
          · exact HRI.out.below (HS.out.1.1.2.2.2.setCell (by have := HB11.out.2.2.1; show w.heap.size ≤ gX; omega) _)
          · exact HS.out.1.1.2.2.2.setCell (by have := HB11.out.2.2.1; show w.heap.size ≤ gX; omega) _
          clear k0' k1' kl HS
          clear hK K; (try simp only [Act.put, List.setIfInBounds_toArray, List.set_cons_zero, List.set_cons_succ])
          refine ord_take RD 13 (at_list (by rw [HOP.out]; rfl)) HNS.out HPQ.out (by rw [HOP.out]; kernel_rfl) (by rw [HOP.out]; kernel_rfl) (by rw [HOP.out]; rfl) (fun K hK => ?_); apply Exists.intro; refine ⟨fun W hSW => ?_, hK _ ?_⟩; (focus ((try dsimp only at hSW); go_simp; try with_reducible rfl)); clear hK K; (try simp only [Act.put, List.setIfInBounds_toArray, List.set_cons_zero, List.set_cons_succ])
          refine ord_take RD 14 (at_list (by rw [HOP.out]; rfl)) HNS.out HPQ.out (by rw [HOP.out]; kernel_rfl) (by rw [HOP.out]; kernel_rfl) (by rw [HOP.out]; rfl) (fun K hK => ?_); apply Exists.intro; refine ⟨fun W hSW => ?_, hK _ ?_⟩; (focus ((try dsimp only at hSW); go_simp; try with_reducible rfl)); clear hK K; (try simp only [Act.put, List.setIfInBounds_toArray, List.set_cons_zero, List.set_cons_succ])
          refine ord_take RD 15 (at_list (by rw [HOP.out]; rfl)) HNS.out HPQ.out (by rw [HOP.out]; kernel_rfl) (by rw [HOP.out]; kernel_rfl) (by rw [HOP.out]; rfl) (fun K hK => ?_); apply Exists.intro; refine ⟨fun W hSW => ?_, hK _ ?_⟩; (focus ((try dsimp only at hSW); go_simp; try with_reducible rfl)); clear hK K; (try simp only [Act.put, List.setIfInBounds_toArray, List.set_cons_zero, List.set_cons_succ])
          refine ord_done (by rw [HOP.out]; kernel_rfl) (fun Wc hWW hSW => HN.out _ _ ?_); clear HOP HNS HPQ HN RD; (try dsimp only at hSW)
          have T3 := Lib.hid (And.intro hSW.1.1 (And.intro hSW.1.2 (And.intro (HL.out.past hWW) hSW.2)))
          clear hSW hWW HL
          go_wp2_with fail
          (have RD := grows_roads (S := fun x' => Two w x' m r A n c ∧ (∃ a, Lies x' gW 31 [a]) ∧ Lies x' gX 31 [.int .i64 (p2 : Int)] ∧ BitsIn x' g1 o1 g2 o2 bc bb) (fun a b h1 h2 => ⟨h2.1.past h1, (let ⟨q, k⟩ := h2.2.1; ⟨q, k.past h1⟩), h2.2.2.1.past h1, h2.2.2.2.past h1⟩)); refine region_ord _ Grows RD (⟨T3.out.1.past (Below.drew (Below.refl _ _)), ⟨_, T3.out.2.1.drew⟩, T3.out.2.2.1.drew, T3.out.2.2.2.past (Below.drew (Below.refl _ _))⟩) (by kernel_rfl) ?_; intro ops Q' hops hPQ hN; (have HNS : Hid (Region.noSelect ops = true) := Lib.hid (by rw [hops]; kernel_rfl)); (have hsz : ops.size = 15 := (by rw [hops]; rfl)); have HOP := Lib.hid hops; have HPQ := Lib.hid hPQ; have HN := Lib.hid hN; rw [hsz]; clear hops hsz hPQ hN
          refine ord_take RD 0 (at_list (by rw [HOP.out]; rfl)) HNS.out HPQ.out (by rw [HOP.out]; kernel_rfl) (by rw [HOP.out]; kernel_rfl) (by rw [HOP.out]; rfl) (fun K hK => ?_); apply Exists.intro; refine ⟨fun W hSW => ?_, hK _ ?_⟩; (focus ((try dsimp only at hSW); (obtain ⟨y0, -⟩ := hSW.2.2.1.one); go_simp; try with_reducible rfl)); clear hK K; (try simp only [Act.put, List.setIfInBounds_toArray, List.set_cons_zero, List.set_cons_succ])
          refine ord_take RD 1 (at_list (by rw [HOP.out]; rfl)) HNS.out HPQ.out (by rw [HOP.out]; kernel_rfl) (by rw [HOP.out]; kernel_rfl) (by rw [HOP.out]; rfl) (fun K hK => ?_); apply Exists.intro; refine ⟨fun W hSW => ?_, hK _ ?_⟩; (focus ((try dsimp only at hSW); go_simp; try with_reducible rfl)); clear hK K; (try simp only [Act.put, List.setIfInBounds_toArray, List.set_cons_zero, List.set_cons_succ])
          refine ord_take RD 2 (at_list (by rw [HOP.out]; rfl)) HNS.out HPQ.out (by rw [HOP.out]; kernel_rfl) (by rw [HOP.out]; kernel_rfl) (by rw [HOP.out]; rfl) (fun K hK => ?_); apply Exists.intro; refine ⟨fun W hSW => ?_, hK _ ?_⟩; (focus ((try dsimp only at hSW); go_simp; try with_reducible rfl)); clear hK K; (try simp only [Act.put, List.setIfInBounds_toArray, List.set_cons_zero, List.set_cons_succ])
          refine ord_take RD 3 (at_list (by rw [HOP.out]; rfl)) HNS.out HPQ.out (by rw [HOP.out]; kernel_rfl) (by rw [HOP.out]; kernel_rfl) (by rw [HOP.out]; rfl) (fun K hK => ?_); apply Exists.intro; refine ⟨fun W hSW => ?_, hK _ ?_⟩; (focus ((try dsimp only at hSW); go_simp; try with_reducible rfl)); clear hK K; (try simp only [Act.put, List.setIfInBounds_toArray, List.set_cons_zero, List.set_cons_succ])
          refine ord_take RD 4 (at_list (by rw [HOP.out]; rfl)) HNS.out HPQ.out (by rw [HOP.out]; kernel_rfl) (by rw [HOP.out]; kernel_rfl) (by rw [HOP.out]; rfl) (fun K hK => ?_); apply Exists.intro; refine ⟨fun W hSW => ?_, hK _ ?_⟩; (focus ((try dsimp only at hSW); go_simp; try with_reducible rfl)); clear hK K; (try simp only [Act.put, List.setIfInBounds_toArray, List.set_cons_zero, List.set_cons_succ])
          refine ord_take RD 5 (at_list (by rw [HOP.out]; rfl)) HNS.out HPQ.out (by rw [HOP.out]; kernel_rfl) (by rw [HOP.out]; kernel_rfl) (by rw [HOP.out]; rfl) (fun K hK => ?_); apply Exists.intro; refine ⟨fun W hSW => ?_, hK _ ?_⟩; (focus ((try dsimp only at hSW); go_simp; try with_reducible rfl)); clear hK K; (try simp only [Act.put, List.setIfInBounds_toArray, List.set_cons_zero, List.set_cons_succ])
          refine ord_take RD 6 (at_list (by rw [HOP.out]; rfl)) HNS.out HPQ.out (by rw [HOP.out]; kernel_rfl) (by rw [HOP.out]; kernel_rfl) (by rw [HOP.out]; rfl) (fun K hK => ?_); apply Exists.intro; refine ⟨fun W hSW => ?_, hK _ ?_⟩; (focus ((try dsimp only at hSW); (obtain ⟨y0, y1⟩ := HC1i.out W hSW.2.2.2); go_simp; try with_reducible rfl)); clear hK K; (try simp only [Act.put, List.setIfInBounds_toArray, List.set_cons_zero, List.set_cons_succ])
          refine ord_take RD 7 (at_list (by rw [HOP.out]; rfl)) HNS.out HPQ.out (by rw [HOP.out]; kernel_rfl) (by rw [HOP.out]; kernel_rfl) (by rw [HOP.out]; rfl) (fun K hK => ?_); apply Exists.intro; refine ⟨fun W hSW => ?_, hK _ ?_⟩; (focus ((try dsimp only at hSW); go_simp; try with_reducible rfl)); clear hK K; (try simp only [Act.put, List.setIfInBounds_toArray, List.set_cons_zero, List.set_cons_succ])
          refine ord_take RD 8 (at_list (by rw [HOP.out]; rfl)) HNS.out HPQ.out (by rw [HOP.out]; kernel_rfl) (by rw [HOP.out]; kernel_rfl) (by rw [HOP.out]; rfl) (fun K hK => ?_); apply Exists.intro; refine ⟨fun W hSW => ?_, hK _ ?_⟩; (focus ((try dsimp only at hSW); go_simp; try with_reducible rfl)); clear hK K; (try simp only [Act.put, List.setIfInBounds_toArray, List.set_cons_zero, List.set_cons_succ])
          refine ord_take RD 9 (at_list (by rw [HOP.out]; rfl)) HNS.out HPQ.out (by rw [HOP.out]; kernel_rfl) (by rw [HOP.out]; kernel_rfl) (by rw [HOP.out]; rfl) (fun K hK => ?_); apply Exists.intro; refine ⟨fun W hSW => ?_, hK _ ?_⟩; (focus ((try dsimp only at hSW); go_simp; try with_reducible rfl)); clear hK K; (try simp only [Act.put, List.setIfInBounds_toArray, List.set_cons_zero, List.set_cons_succ])
          refine ord_take RD 10 (at_list (by rw [HOP.out]; rfl)) HNS.out HPQ.out (by rw [HOP.out]; kernel_rfl) (by rw [HOP.out]; kernel_rfl) (by rw [HOP.out]; rfl) (fun K hK => ?_); apply Exists.intro; refine ⟨fun W hSW => ?_, hK _ ?_⟩; (focus ((try dsimp only at hSW); (obtain ⟨y0, y1⟩ := HC2i.out W hSW.2.2.2); go_simp; try with_reducible rfl)); clear hK K; (try simp only [Act.put, List.setIfInBounds_toArray, List.set_cons_zero, List.set_cons_succ])
          refine ord_take RD 11 (at_list (by rw [HOP.out]; rfl)) HNS.out HPQ.out (by rw [HOP.out]; kernel_rfl) (by rw [HOP.out]; kernel_rfl) (by rw [HOP.out]; rfl) (fun K hK => ?_); apply Exists.intro; refine ⟨fun W hSW => ?_, hK _ ?_⟩; (focus ((try dsimp only at hSW); go_simp; try with_reducible rfl)); clear hK K; (try simp only [Act.put, List.setIfInBounds_toArray, List.set_cons_zero, List.set_cons_succ])
          refine ord_take RD 12 (at_list (by rw [HOP.out]; rfl)) HNS.out HPQ.out (by rw [HOP.out]; kernel_rfl) (by rw [HOP.out]; kernel_rfl) (by rw [HOP.out]; rfl) (fun K hK => ?_); apply Exists.intro; refine ⟨fun W hSW => ?_, hK _ ?_⟩; (focus ((try dsimp only at hSW); go_simp; try with_reducible rfl)); clear hK K; (try simp only [Act.put, List.setIfInBounds_toArray, List.set_cons_zero, List.set_cons_succ])
          refine ord_one RD 13 (by rw [HOP.out]; kernel_rfl) (at_list (by rw [HOP.out]; rfl)) (by rw [HOP.out]; rfl) (fun Wd hWW hSW K hK => ?_); (try dsimp only at hSW)
          have HS := Lib.hid hSW
          clear hSW hWW
          obtain ⟨xa, K1⟩ := HS.out.2.1
          obtain ⟨k0', k1'⟩ := K1.one
          have kl := K1.lt
          have HL := Lib.hid (K1.set 0 (.int .i64 (p2 : Int)))
          go_simp
          refine hK _ _ ⟨⟨HS.out.1.1.other (by have := HGW.out; show gW ≠ w.heap.size; omega) _, HS.out.1.2.1.other (by have := HGW.out; show gW ≠ w.heap.size + 1; omega) _, HRI.out.below (HS.out.1.2.2.2.setCell (by have := HGW.out; show w.heap.size ≤ gW; omega) _), HS.out.1.2.2.2.setCell (by have := HGW.out; show w.heap.size ≤ gW; omega) _⟩, ⟨_, K1.set 0 _⟩, HS.out.2.2.1.other (by have := HB11.out.2.1; show gW ≠ gX; omega) _, HS.out.2.2.2.st HNE.out.1 HNE.out.2 _ _⟩ ?_
          clear k0' k1' kl HS K1
          clear hK K; (try simp only [Act.put, List.setIfInBounds_toArray, List.set_cons_zero, List.set_cons_succ])
          refine ord_take RD 14 (at_list (by rw [HOP.out]; rfl)) HNS.out HPQ.out (by rw [HOP.out]; kernel_rfl) (by rw [HOP.out]; kernel_rfl) (by rw [HOP.out]; rfl) (fun K hK => ?_); apply Exists.intro; refine ⟨fun W hSW => ?_, hK _ ?_⟩; (focus ((try dsimp only at hSW); go_simp; try with_reducible rfl)); clear hK K; (try simp only [Act.put, List.setIfInBounds_toArray, List.set_cons_zero, List.set_cons_succ])
          refine ord_done (by rw [HOP.out]; kernel_rfl) (fun We hWW hSW => HN.out _ _ ?_); clear HOP HNS HPQ HN RD; (try dsimp only at hSW)
          have hend : Inp w We gW m r A n c p2 := ⟨hSW.1, HL.out.past hWW⟩
          have HEND := Lib.hid (And.intro hend hSW.2.2.2)
          clear hend hSW hWW HL
          go_wp2_with fail
          refine ⟨⟨i + 1, by have := HLT.out; omega, by first | rfl | go_num, (by rw [HG2.out, HA2.out]; try (cases xb <;> rfl)), by rw [HP.out.1]; exact HEND.out.1, HEND.out.2⟩, by simp [intOf]; have := HLT.out; omega⟩
        · have v1 : 0 < v := by rw [f2']; simp; omega
          have v2 : v ≤ 2000 := by rw [f2']; simp; omega
          have v3 : ¬ v = 0 := by omega
          have v4 : (v == 0) = false := by simpa using v3
          clear f2' k1 k2
          go_wp2_with fail
          (have RD := grows_roads (S := fun x' => Inp w x' gW m r A n c p1 ∧ BitsIn x' g1 o1 g2 o2 bc bb) (fun a b h1 h2 => ⟨h2.1.past h1, h2.2.past h1⟩)); refine region_ord _ Grows RD (⟨HI2.out.1.past (Below.drew (Below.refl _ _)), HI2.out.2.past (Below.drew (Below.refl _ _))⟩) (by kernel_rfl) ?_; intro ops Q' hops hPQ hN; (have HNS : Hid (Region.noSelect ops = true) := Lib.hid (by rw [hops]; kernel_rfl)); (have hsz : ops.size = 16 := (by rw [hops]; rfl)); have HOP := Lib.hid hops; have HPQ := Lib.hid hPQ; have HN := Lib.hid hN; rw [hsz]; clear hops hsz hPQ hN
          refine ord_take RD 0 (at_list (by rw [HOP.out]; rfl)) HNS.out HPQ.out (by rw [HOP.out]; kernel_rfl) (by rw [HOP.out]; kernel_rfl) (by rw [HOP.out]; rfl) (fun K hK => ?_); apply Exists.intro; refine ⟨fun W hSW => ?_, hK _ ?_⟩; (focus ((try dsimp only at hSW); (obtain ⟨y0, -⟩ := hSW.1.2.one); go_simp; try with_reducible rfl)); clear hK K; (try simp only [Act.put, List.setIfInBounds_toArray, List.set_cons_zero, List.set_cons_succ])
          refine ord_take RD 1 (at_list (by rw [HOP.out]; rfl)) HNS.out HPQ.out (by rw [HOP.out]; kernel_rfl) (by rw [HOP.out]; kernel_rfl) (by rw [HOP.out]; rfl) (fun K hK => ?_); apply Exists.intro; refine ⟨fun W hSW => ?_, hK _ ?_⟩; (focus ((try dsimp only at hSW); go_simp; try with_reducible rfl)); clear hK K; (try simp only [Act.put, List.setIfInBounds_toArray, List.set_cons_zero, List.set_cons_succ])
          refine ord_take RD 2 (at_list (by rw [HOP.out]; rfl)) HNS.out HPQ.out (by rw [HOP.out]; kernel_rfl) (by rw [HOP.out]; kernel_rfl) (by rw [HOP.out]; rfl) (fun K hK => ?_); apply Exists.intro; refine ⟨fun W hSW => ?_, hK _ ?_⟩; (focus ((try dsimp only at hSW); go_simp; try with_reducible rfl)); clear hK K; (try simp only [Act.put, List.setIfInBounds_toArray, List.set_cons_zero, List.set_cons_succ])
          refine ord_take RD 3 (at_list (by rw [HOP.out]; rfl)) HNS.out HPQ.out (by rw [HOP.out]; kernel_rfl) (by rw [HOP.out]; kernel_rfl) (by rw [HOP.out]; rfl) (fun K hK => ?_); apply Exists.intro; refine ⟨fun W hSW => ?_, hK _ ?_⟩; (focus ((try dsimp only at hSW); go_simp; try with_reducible rfl)); clear hK K; (try simp only [Act.put, List.setIfInBounds_toArray, List.set_cons_zero, List.set_cons_succ])
          refine ord_take RD 4 (at_list (by rw [HOP.out]; rfl)) HNS.out HPQ.out (by rw [HOP.out]; kernel_rfl) (by rw [HOP.out]; kernel_rfl) (by rw [HOP.out]; rfl) (fun K hK => ?_); apply Exists.intro; refine ⟨fun W hSW => ?_, hK _ ?_⟩; (focus ((try dsimp only at hSW); (obtain ⟨y0, y1⟩ := HC1i.out W hSW.2); go_simp; try with_reducible rfl)); clear hK K; (try simp only [Act.put, List.setIfInBounds_toArray, List.set_cons_zero, List.set_cons_succ])
          refine ord_take RD 5 (at_list (by rw [HOP.out]; rfl)) HNS.out HPQ.out (by rw [HOP.out]; kernel_rfl) (by rw [HOP.out]; kernel_rfl) (by rw [HOP.out]; rfl) (fun K hK => ?_); apply Exists.intro; refine ⟨fun W hSW => ?_, hK _ ?_⟩; (focus ((try dsimp only at hSW); go_simp; exact (nibW.Step_any (p1 : Int) xb W))); clear hK K; (try simp only [Act.put, List.setIfInBounds_toArray, List.set_cons_zero, List.set_cons_succ])
          rw [HP.out.2, HWK.out]
          generalize stD (p1 : Int) = sd at *
          generalize stB (p1 : Int) xb = sb at *
          refine ord_take RD 6 (at_list (by rw [HOP.out]; rfl)) HNS.out HPQ.out (by rw [HOP.out]; kernel_rfl) (by rw [HOP.out]; kernel_rfl) (by rw [HOP.out]; rfl) (fun K hK => ?_); apply Exists.intro; refine ⟨fun W hSW => ?_, hK _ ?_⟩; (focus ((try dsimp only at hSW); go_simp; try with_reducible rfl)); clear hK K; (try simp only [Act.put, List.setIfInBounds_toArray, List.set_cons_zero, List.set_cons_succ])
          refine ord_take RD 7 (at_list (by rw [HOP.out]; rfl)) HNS.out HPQ.out (by rw [HOP.out]; kernel_rfl) (by rw [HOP.out]; kernel_rfl) (by rw [HOP.out]; rfl) (fun K hK => ?_); apply Exists.intro; refine ⟨fun W hSW => ?_, hK _ ?_⟩; (focus ((try dsimp only at hSW); go_simp; try with_reducible rfl)); clear hK K; (try simp only [Act.put, List.setIfInBounds_toArray, List.set_cons_zero, List.set_cons_succ])
          refine ord_take RD 8 (at_list (by rw [HOP.out]; rfl)) HNS.out HPQ.out (by rw [HOP.out]; kernel_rfl) (by rw [HOP.out]; kernel_rfl) (by rw [HOP.out]; rfl) (fun K hK => ?_); apply Exists.intro; refine ⟨fun W hSW => ?_, hK _ ?_⟩; (focus ((try dsimp only at hSW); go_simp; try with_reducible rfl)); clear hK K; (try simp only [Act.put, List.setIfInBounds_toArray, List.set_cons_zero, List.set_cons_succ])
          refine ord_take RD 9 (at_list (by rw [HOP.out]; rfl)) HNS.out HPQ.out (by rw [HOP.out]; kernel_rfl) (by rw [HOP.out]; kernel_rfl) (by rw [HOP.out]; rfl) (fun K hK => ?_); apply Exists.intro; refine ⟨fun W hSW => ?_, hK _ ?_⟩; (focus ((try dsimp only at hSW); go_simp; try with_reducible rfl)); clear hK K; (try simp only [Act.put, List.setIfInBounds_toArray, List.set_cons_zero, List.set_cons_succ])
          refine ord_take RD 10 (at_list (by rw [HOP.out]; rfl)) HNS.out HPQ.out (by rw [HOP.out]; kernel_rfl) (by rw [HOP.out]; kernel_rfl) (by rw [HOP.out]; rfl) (fun K hK => ?_); apply Exists.intro; refine ⟨fun W hSW => ?_, hK _ ?_⟩; (focus ((try dsimp only at hSW); go_simp; try with_reducible rfl)); clear hK K; (try simp only [Act.put, List.setIfInBounds_toArray, List.set_cons_zero, List.set_cons_succ])
          refine ord_one RD 11 (by rw [HOP.out]; kernel_rfl) (at_list (by rw [HOP.out]; rfl)) (by rw [HOP.out]; rfl) (fun Wa hWW hSW K hK => ?_); (try dsimp only at hSW)
          have HS := Lib.hid hSW
          clear hSW hWW
          have HB11 : Hid (Lies (Wa.alloc (.cells #[.int .i64 0] 31)) Wa.heap.size 31 [.int .i64 0] ∧ gW < Wa.heap.size ∧ w.heap.size + 1 < Wa.heap.size ∧ g1 < Wa.heap.size ∧ g2 < Wa.heap.size) := Lib.hid ⟨Lies.fresh _ _ _, HS.out.1.2.lt, HS.out.1.1.2.1.lt, HS.out.2.l1, HS.out.2.l2⟩
          go_simp
          refine hK _ _ ⟨HS.out.1.past (grows_alloc _ _), HS.out.2.past (grows_alloc _ _)⟩ ?_
          clear HS
          clear hK K; (try simp only [Act.put, List.setIfInBounds_toArray, List.set_cons_zero, List.set_cons_succ])
          generalize hgx : Wa.heap.size = gX at *
          have HGX := Lib.hid hgx
          clear hgx
          refine ord_one RD 12 (by rw [HOP.out]; kernel_rfl) (at_list (by rw [HOP.out]; rfl)) (by rw [HOP.out]; rfl) (fun Wb hWW hSW K hK => ?_); (try dsimp only at hSW)
          have HS := Lib.hid hSW
          have K1 := HB11.out.1.past hWW
          clear hSW hWW
          obtain ⟨k0', k1'⟩ := K1.one
          have kl := K1.lt
          have HL := Lib.hid (K1.set 0 (.int .i64 (p2 : Int)))
          clear K1
          go_simp
          refine hK _ _ ⟨⟨⟨HS.out.1.1.1.other (by have := HB11.out.2.2.1; show gX ≠ w.heap.size; omega) _, HS.out.1.1.2.1.other (by have := HB11.out.2.2.1; show gX ≠ w.heap.size + 1; omega) _, ?_, ?_⟩, HS.out.1.2.other (by have := HB11.out.2.1; show gX ≠ gW; omega) _⟩, HS.out.2.st (by have := HB11.out.2.2.2.1; omega) (by have := HB11.out.2.2.2.2; omega) _ _⟩ ?_
          · exact HRI.out.below (HS.out.1.1.2.2.2.setCell (by have := HB11.out.2.2.1; show w.heap.size ≤ gX; omega) _)
          · exact HS.out.1.1.2.2.2.setCell (by have := HB11.out.2.2.1; show w.heap.size ≤ gX; omega) _
          clear k0' k1' kl HS
          clear hK K; (try simp only [Act.put, List.setIfInBounds_toArray, List.set_cons_zero, List.set_cons_succ])
          refine ord_take RD 13 (at_list (by rw [HOP.out]; rfl)) HNS.out HPQ.out (by rw [HOP.out]; kernel_rfl) (by rw [HOP.out]; kernel_rfl) (by rw [HOP.out]; rfl) (fun K hK => ?_); apply Exists.intro; refine ⟨fun W hSW => ?_, hK _ ?_⟩; (focus ((try dsimp only at hSW); go_simp; try with_reducible rfl)); clear hK K; (try simp only [Act.put, List.setIfInBounds_toArray, List.set_cons_zero, List.set_cons_succ])
          refine ord_take RD 14 (at_list (by rw [HOP.out]; rfl)) HNS.out HPQ.out (by rw [HOP.out]; kernel_rfl) (by rw [HOP.out]; kernel_rfl) (by rw [HOP.out]; rfl) (fun K hK => ?_); apply Exists.intro; refine ⟨fun W hSW => ?_, hK _ ?_⟩; (focus ((try dsimp only at hSW); go_simp; try with_reducible rfl)); clear hK K; (try simp only [Act.put, List.setIfInBounds_toArray, List.set_cons_zero, List.set_cons_succ])
          refine ord_take RD 15 (at_list (by rw [HOP.out]; rfl)) HNS.out HPQ.out (by rw [HOP.out]; kernel_rfl) (by rw [HOP.out]; kernel_rfl) (by rw [HOP.out]; rfl) (fun K hK => ?_); apply Exists.intro; refine ⟨fun W hSW => ?_, hK _ ?_⟩; (focus ((try dsimp only at hSW); go_simp; try with_reducible rfl)); clear hK K; (try simp only [Act.put, List.setIfInBounds_toArray, List.set_cons_zero, List.set_cons_succ])
          refine ord_done (by rw [HOP.out]; kernel_rfl) (fun Wc hWW hSW => HN.out _ _ ?_); clear HOP HNS HPQ HN RD; (try dsimp only at hSW)
          have T3 := Lib.hid (And.intro hSW.1.1 (And.intro hSW.1.2 (And.intro (HL.out.past hWW) hSW.2)))
          clear hSW hWW HL
          go_wp2_with fail
          (have RD := grows_roads (S := fun x' => Two w x' m r A n c ∧ (∃ a, Lies x' gW 31 [a]) ∧ Lies x' gX 31 [.int .i64 (p2 : Int)] ∧ BitsIn x' g1 o1 g2 o2 bc bb) (fun a b h1 h2 => ⟨h2.1.past h1, (let ⟨q, k⟩ := h2.2.1; ⟨q, k.past h1⟩), h2.2.2.1.past h1, h2.2.2.2.past h1⟩)); refine region_ord _ Grows RD (⟨T3.out.1.past (Below.drew (Below.refl _ _)), ⟨_, T3.out.2.1.drew⟩, T3.out.2.2.1.drew, T3.out.2.2.2.past (Below.drew (Below.refl _ _))⟩) (by kernel_rfl) ?_; intro ops Q' hops hPQ hN; (have HNS : Hid (Region.noSelect ops = true) := Lib.hid (by rw [hops]; kernel_rfl)); (have hsz : ops.size = 15 := (by rw [hops]; rfl)); have HOP := Lib.hid hops; have HPQ := Lib.hid hPQ; have HN := Lib.hid hN; rw [hsz]; clear hops hsz hPQ hN
          refine ord_take RD 0 (at_list (by rw [HOP.out]; rfl)) HNS.out HPQ.out (by rw [HOP.out]; kernel_rfl) (by rw [HOP.out]; kernel_rfl) (by rw [HOP.out]; rfl) (fun K hK => ?_); apply Exists.intro; refine ⟨fun W hSW => ?_, hK _ ?_⟩; (focus ((try dsimp only at hSW); (obtain ⟨y0, -⟩ := hSW.2.2.1.one); go_simp; try with_reducible rfl)); clear hK K; (try simp only [Act.put, List.setIfInBounds_toArray, List.set_cons_zero, List.set_cons_succ])
          refine ord_take RD 1 (at_list (by rw [HOP.out]; rfl)) HNS.out HPQ.out (by rw [HOP.out]; kernel_rfl) (by rw [HOP.out]; kernel_rfl) (by rw [HOP.out]; rfl) (fun K hK => ?_); apply Exists.intro; refine ⟨fun W hSW => ?_, hK _ ?_⟩; (focus ((try dsimp only at hSW); go_simp; try with_reducible rfl)); clear hK K; (try simp only [Act.put, List.setIfInBounds_toArray, List.set_cons_zero, List.set_cons_succ])
          refine ord_take RD 2 (at_list (by rw [HOP.out]; rfl)) HNS.out HPQ.out (by rw [HOP.out]; kernel_rfl) (by rw [HOP.out]; kernel_rfl) (by rw [HOP.out]; rfl) (fun K hK => ?_); apply Exists.intro; refine ⟨fun W hSW => ?_, hK _ ?_⟩; (focus ((try dsimp only at hSW); go_simp; try with_reducible rfl)); clear hK K; (try simp only [Act.put, List.setIfInBounds_toArray, List.set_cons_zero, List.set_cons_succ])
          refine ord_take RD 3 (at_list (by rw [HOP.out]; rfl)) HNS.out HPQ.out (by rw [HOP.out]; kernel_rfl) (by rw [HOP.out]; kernel_rfl) (by rw [HOP.out]; rfl) (fun K hK => ?_); apply Exists.intro; refine ⟨fun W hSW => ?_, hK _ ?_⟩; (focus ((try dsimp only at hSW); go_simp; try with_reducible rfl)); clear hK K; (try simp only [Act.put, List.setIfInBounds_toArray, List.set_cons_zero, List.set_cons_succ])
          refine ord_take RD 4 (at_list (by rw [HOP.out]; rfl)) HNS.out HPQ.out (by rw [HOP.out]; kernel_rfl) (by rw [HOP.out]; kernel_rfl) (by rw [HOP.out]; rfl) (fun K hK => ?_); apply Exists.intro; refine ⟨fun W hSW => ?_, hK _ ?_⟩; (focus ((try dsimp only at hSW); go_simp; try with_reducible rfl)); clear hK K; (try simp only [Act.put, List.setIfInBounds_toArray, List.set_cons_zero, List.set_cons_succ])
          refine ord_take RD 5 (at_list (by rw [HOP.out]; rfl)) HNS.out HPQ.out (by rw [HOP.out]; kernel_rfl) (by rw [HOP.out]; kernel_rfl) (by rw [HOP.out]; rfl) (fun K hK => ?_); apply Exists.intro; refine ⟨fun W hSW => ?_, hK _ ?_⟩; (focus ((try dsimp only at hSW); go_simp; try with_reducible rfl)); clear hK K; (try simp only [Act.put, List.setIfInBounds_toArray, List.set_cons_zero, List.set_cons_succ])
          refine ord_take RD 6 (at_list (by rw [HOP.out]; rfl)) HNS.out HPQ.out (by rw [HOP.out]; kernel_rfl) (by rw [HOP.out]; kernel_rfl) (by rw [HOP.out]; rfl) (fun K hK => ?_); apply Exists.intro; refine ⟨fun W hSW => ?_, hK _ ?_⟩; (focus ((try dsimp only at hSW); (obtain ⟨y0, y1⟩ := HC1i.out W hSW.2.2.2); go_simp; try with_reducible rfl)); clear hK K; (try simp only [Act.put, List.setIfInBounds_toArray, List.set_cons_zero, List.set_cons_succ])
          refine ord_take RD 7 (at_list (by rw [HOP.out]; rfl)) HNS.out HPQ.out (by rw [HOP.out]; kernel_rfl) (by rw [HOP.out]; kernel_rfl) (by rw [HOP.out]; rfl) (fun K hK => ?_); apply Exists.intro; refine ⟨fun W hSW => ?_, hK _ ?_⟩; (focus ((try dsimp only at hSW); go_simp; try with_reducible rfl)); clear hK K; (try simp only [Act.put, List.setIfInBounds_toArray, List.set_cons_zero, List.set_cons_succ])
          refine ord_take RD 8 (at_list (by rw [HOP.out]; rfl)) HNS.out HPQ.out (by rw [HOP.out]; kernel_rfl) (by rw [HOP.out]; kernel_rfl) (by rw [HOP.out]; rfl) (fun K hK => ?_); apply Exists.intro; refine ⟨fun W hSW => ?_, hK _ ?_⟩; (focus ((try dsimp only at hSW); go_simp; try with_reducible rfl)); clear hK K; (try simp only [Act.put, List.setIfInBounds_toArray, List.set_cons_zero, List.set_cons_succ])
          refine ord_take RD 9 (at_list (by rw [HOP.out]; rfl)) HNS.out HPQ.out (by rw [HOP.out]; kernel_rfl) (by rw [HOP.out]; kernel_rfl) (by rw [HOP.out]; rfl) (fun K hK => ?_); apply Exists.intro; refine ⟨fun W hSW => ?_, hK _ ?_⟩; (focus ((try dsimp only at hSW); go_simp; try with_reducible rfl)); clear hK K; (try simp only [Act.put, List.setIfInBounds_toArray, List.set_cons_zero, List.set_cons_succ])
          refine ord_take RD 10 (at_list (by rw [HOP.out]; rfl)) HNS.out HPQ.out (by rw [HOP.out]; kernel_rfl) (by rw [HOP.out]; kernel_rfl) (by rw [HOP.out]; rfl) (fun K hK => ?_); apply Exists.intro; refine ⟨fun W hSW => ?_, hK _ ?_⟩; (focus ((try dsimp only at hSW); (obtain ⟨y0, y1⟩ := HC2i.out W hSW.2.2.2); go_simp; try with_reducible rfl)); clear hK K; (try simp only [Act.put, List.setIfInBounds_toArray, List.set_cons_zero, List.set_cons_succ])
          refine ord_take RD 11 (at_list (by rw [HOP.out]; rfl)) HNS.out HPQ.out (by rw [HOP.out]; kernel_rfl) (by rw [HOP.out]; kernel_rfl) (by rw [HOP.out]; rfl) (fun K hK => ?_); apply Exists.intro; refine ⟨fun W hSW => ?_, hK _ ?_⟩; (focus ((try dsimp only at hSW); go_simp; try with_reducible rfl)); clear hK K; (try simp only [Act.put, List.setIfInBounds_toArray, List.set_cons_zero, List.set_cons_succ])
          refine ord_take RD 12 (at_list (by rw [HOP.out]; rfl)) HNS.out HPQ.out (by rw [HOP.out]; kernel_rfl) (by rw [HOP.out]; kernel_rfl) (by rw [HOP.out]; rfl) (fun K hK => ?_); apply Exists.intro; refine ⟨fun W hSW => ?_, hK _ ?_⟩; (focus ((try dsimp only at hSW); go_simp; try with_reducible rfl)); clear hK K; (try simp only [Act.put, List.setIfInBounds_toArray, List.set_cons_zero, List.set_cons_succ])
          refine ord_one RD 13 (by rw [HOP.out]; kernel_rfl) (at_list (by rw [HOP.out]; rfl)) (by rw [HOP.out]; rfl) (fun Wd hWW hSW K hK => ?_); (try dsimp only at hSW)
          have HS := Lib.hid hSW
          clear hSW hWW
          obtain ⟨xa, K1⟩ := HS.out.2.1
          obtain ⟨k0', k1'⟩ := K1.one
          have kl := K1.lt
          have HL := Lib.hid (K1.set 0 (.int .i64 (p2 : Int)))
          go_simp
          refine hK _ _ ⟨⟨HS.out.1.1.other (by have := HGW.out; show gW ≠ w.heap.size; omega) _, HS.out.1.2.1.other (by have := HGW.out; show gW ≠ w.heap.size + 1; omega) _, HRI.out.below (HS.out.1.2.2.2.setCell (by have := HGW.out; show w.heap.size ≤ gW; omega) _), HS.out.1.2.2.2.setCell (by have := HGW.out; show w.heap.size ≤ gW; omega) _⟩, ⟨_, K1.set 0 _⟩, HS.out.2.2.1.other (by have := HB11.out.2.1; show gW ≠ gX; omega) _, HS.out.2.2.2.st HNE.out.1 HNE.out.2 _ _⟩ ?_
          clear k0' k1' kl HS K1
          clear hK K; (try simp only [Act.put, List.setIfInBounds_toArray, List.set_cons_zero, List.set_cons_succ])
          refine ord_take RD 14 (at_list (by rw [HOP.out]; rfl)) HNS.out HPQ.out (by rw [HOP.out]; kernel_rfl) (by rw [HOP.out]; kernel_rfl) (by rw [HOP.out]; rfl) (fun K hK => ?_); apply Exists.intro; refine ⟨fun W hSW => ?_, hK _ ?_⟩; (focus ((try dsimp only at hSW); go_simp; try with_reducible rfl)); clear hK K; (try simp only [Act.put, List.setIfInBounds_toArray, List.set_cons_zero, List.set_cons_succ])
          refine ord_done (by rw [HOP.out]; kernel_rfl) (fun We hWW hSW => HN.out _ _ ?_); clear HOP HNS HPQ HN RD; (try dsimp only at hSW)
          have hend : Inp w We gW m r A n c p2 := ⟨hSW.1, HL.out.past hWW⟩
          have HEND := Lib.hid (And.intro hend hSW.2.2.2)
          clear hend hSW hWW HL
          go_wp2_with fail
          refine ⟨⟨i + 1, by have := HLT.out; omega, by first | rfl | go_num, (by rw [HG2.out, HA2.out]; try (cases xb <;> rfl)), by rw [HP.out.1]; exact HEND.out.1, HEND.out.2⟩, by simp [intOf]; have := HLT.out; omega⟩
    · have i8 : i = 8 := by omega
      subst i8
      have HI := Lib.hid I.1.2.2.2
      clear I hb hlt hi
      go_wp2_with fail
      go_ret
      exact ⟨rfl, HI.out⟩
end Go.Proofs.Ytemiecghdmagnaa.maW
