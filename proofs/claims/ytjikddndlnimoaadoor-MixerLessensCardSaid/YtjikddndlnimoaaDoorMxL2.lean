/- MixerLessens, by a walk. -/
import Derived.Test.YtjikddndlnimoaaDoorMxA2
namespace Go.Proofs.YtjikddndlnimoaaDoor.mxL
set_option maxRecDepth 100000
open Go.RowKit Go.Proofs.YtjikddndlnimoaaDoor.base Go.Proofs.YtjikddndlnimoaaDoor.rfP Go.Proofs.YtjikddndlnimoaaDoor.mxP Go.Proofs.YtjikddndlnimoaaDoor.mxW Go.Proofs.YtjikddndlnimoaaDoor.sqP Go.Proofs.YtjikddndlnimoaaDoor.sqW
set_option linter.unusedVariables false
set_option linter.unusedSimpArgs false
set_option maxHeartbeats 1500000 in
theorem lessens (P : Option Addr) (m c : Nat) (rs : List RY) (set : Int) (B : Option Addr) (n d : Nat) (ys : List Int) (bit : Bool) (w : World) (h : RowsY w P m c rs) (hi : In8 w B n d ys) (hT : Tab w) :
    Calls Tryd.prog 5 #[.agg #[.slice P m c], .int .i64 set, .slice B n d, .bool bit] w fun e w' => e = .returned (.bool true) ∧ Below w.heap.size w w' := by
  have HT := Lib.hid hT
  have H := Lib.hid (And.intro h hi)
  have HL := Lib.hid (rows_len h)
  have S0 : Hid (MxAt (w.alloc (.cells #[.slice P m c] 24)) w.heap.size P m c rs ∧ Below w.heap.size w (w.alloc (.cells #[.slice P m c] 24))) := Lib.hid ⟨mxAt_new h, by (repeat' (first | (with_reducible exact Below.refl _ _) | (with_reducible assumption) | (with_reducible refine below_drewN ?_ _) | (with_reducible refine below_new ?_ _) | (with_reducible refine Below.alloc ?_ ?_ _) | (with_reducible refine Below.drew ?_) | (with_reducible refine Below.setCell ?_ ?_ _) | (with_reducible apply below_at; (case k => (with_reducible assumption)); (case hB => omega)) | (with_reducible apply below_on; (with_reducible assumption)) | (go_size; done) | (with_reducible apply size_of)))⟩
  clear h hi hT
  go_enter Tryd.func5, Tryd.ntmps5
  go_wp2_with fail
  generalize hw0 : (w.alloc (.cells #[.slice P m c] 24)) = w0 at *
  clear hw0
  refine (alive w0 (HT.out.below S0.out.2)).mono ?_
  rintro e w1 ⟨rfl, b1⟩
  have S1 : Hid (MxAt w1 w.heap.size P m c rs ∧ Below w.heap.size w w1) := Lib.hid ⟨S0.out.1.past b1, below_bs S0.out.2 b1⟩
  clear b1 S0
  have x1 := S1.out.1.cell
  go_wp2_with fail
  clear x1
  refine (fit_any P m c rs set B n d ys w1 S1.out.1.rows (H.out.2.past S1.out.2)).mono ?_
  rintro e w2 ⟨rfl, b2⟩
  have S2 : Hid (MxAt w2 w.heap.size P m c rs ∧ Below w.heap.size w w2) := Lib.hid ⟨S1.out.1.past b2, below_bs S1.out.2 b2⟩
  clear b2 S1
  cases hf : fitM (numsY rs) set ys
  · clear hf
    go_wp2_with fail
    go_ret
    exact ⟨rfl, S2.out.2⟩
  obtain ⟨f1, f2⟩ := fitM_iff hf
  obtain ⟨a1, a2, a3, a4⟩ := mAsk_zero f2
  obtain ⟨k, rfl⟩ : ∃ k : Nat, set = k := ⟨set.toNat, by omega⟩
  have hkm : k < m := by have := HL.out; omega
  have HA := Lib.hid f2
  have HV : Hid (mixV (numsY rs) (k : Int) ys = mixD ((numsY rs).getD k []) ys ∧ mixQ (numsY rs) (k : Int) ys = sq (mixD ((numsY rs).getD k []) ys)) := Lib.hid (by unfold mixV mixQ; rw [if_pos f2, if_pos f2, Int.toNat_natCast]; exact ⟨rfl, rfl⟩)
  have HB := Lib.hid (rows_bd H.out.1 k hkm)
  have HLO := Lib.hid (fun off => learnM_ok a1 (k := k) (by omega) a4 off)
  have hcb := clamp_bd (dotP ((numsY rs).getD k []) ys / 65536)
  have hqb := sq_bd (mixD ((numsY rs).getD k []) ys)
  obtain ⟨ws, hws⟩ : ∃ ws, (numsY rs).getD k [] = ws := ⟨_, rfl⟩
  obtain ⟨dd, hdd⟩ : ∃ dd, mixD ws ys = dd := ⟨_, rfl⟩
  obtain ⟨p, hp⟩ : ∃ p, sq dd = p := ⟨_, rfl⟩
  rw [hws] at HV HB HLO hcb hqb
  change -2047 ≤ mixD ws ys ∧ mixD ws ys ≤ 2047 at hcb
  rw [hdd] at HV hcb hqb
  rw [hp] at HV hqb
  obtain ⟨c0, c1⟩ := hcb
  obtain ⟨p0, p1⟩ := hqb
  have hla := learn_at bit f2 p0 p1
  obtain ⟨off, hoff⟩ : ∃ off, offP p bit = off := ⟨_, rfl⟩
  rw [hoff] at hla
  have HLA := Lib.hid hla
  have HV2 : Hid (mixV (learnM (numsY rs) k ys off) (k : Int) ys = mixD (tauL ws ys off) ys ∧ mixQ (learnM (numsY rs) k ys off) (k : Int) ys = sq (mixD (tauL ws ys off) ys)) := Lib.hid (by unfold mixV mixQ; rw [if_pos hla.2.2, if_pos hla.2.2, Int.toNat_natCast, (HLO.out off).2.2]; exact ⟨rfl, rfl⟩)
  have hup : (bit = true → dd ≤ mixD (tauL ws ys off) ys) ∧ (bit = false → mixD (tauL ws ys off) ys ≤ dd) := ⟨fun e => by
      subst e
      rw [← hdd]
      exact mix_up (by rw [← hoff]; unfold offP; simp; omega) HB.out, fun e => by
      subst e
      rw [← hdd]
      exact mix_down (by rw [← hoff]; unfold offP; simp; omega) HB.out⟩
  obtain ⟨cc, hcc⟩ : ∃ cc, mixD (tauL ws ys off) ys = cc := ⟨_, rfl⟩
  rw [hcc] at HV2 hup
  have hq2 : (bit = true → p ≤ sq cc) ∧ (bit = false → sq cc ≤ p) := ⟨fun e => by rw [← hp]; exact sq_mono (hup.1 e), fun e => by rw [← hp]; exact sq_mono (hup.2 e)⟩
  obtain ⟨q, hq⟩ : ∃ q, sq cc = q := ⟨_, rfl⟩
  rw [hq] at HV2 hq2
  have HUP := Lib.hid (And.intro hup hq2)
  clear hf f1 f2 a1 a2 a3 a4 hkm hws hdd hp hla hoff hup hcc hq2 hq
  have x1 := S2.out.1.cell
  go_wp2_with fail
  clear x1
  refine (Mix_any P m c rs k B n d ys w2 S2.out.1.rows (H.out.2.past S2.out.2) (HT.out.below S2.out.2)).mono ?_
  rintro e w3 ⟨rfl, b3⟩
  rw [HV.out.1, HV.out.2, HA.out]
  have S3 : Hid (MxAt w3 w.heap.size P m c rs ∧ Below w.heap.size w w3) := Lib.hid ⟨S2.out.1.past b3, below_bs S2.out.2 b3⟩
  clear b3 S2
  have x1 := S3.out.1.cell
  go_wp2_with fail
  clear x1
  refine (Learn_any P m c rs k B n d ys p bit w3 S3.out.1.rows (H.out.2.past S3.out.2)).mono ?_
  rintro e v4 ⟨A4, n4, d4, q4, rfl, o4, e4, b4⟩
  rw [HLA.out.1]
  rw [HLA.out.2.1] at e4
  have E4 := Lib.hid e4
  have S4 : Hid (MxAt (v4.alloc (.cells #[.slice A4 n4 d4] 24)) v4.heap.size A4 n4 d4 q4 ∧ Below w.heap.size w (v4.alloc (.cells #[.slice A4 n4 d4] 24))) := Lib.hid ⟨mxAt_new o4.rows, below_al (below_bs S3.out.2 b4) _⟩
  clear o4 e4 b4 S3
  go_upto_region 6 with fail
  generalize hw4 : (v4.alloc (.cells #[.slice A4 n4 d4] 24)) = w4 at *
  generalize v4.heap.size = g4 at *
  clear hw4
  have x1 := S4.out.1.cell
  go_wp2_with fail
  clear x1
  refine (Mix_any A4 n4 d4 q4 k B n d ys w4 S4.out.1.rows (H.out.2.past S4.out.2) (HT.out.below S4.out.2)).mono ?_
  rintro e w5 ⟨rfl, b5⟩
  rw [E4.out, HV2.out.1, HV2.out.2, HLA.out.2.2]
  have S5 : Hid (MxAt w5 g4 A4 n4 d4 q4 ∧ Below w.heap.size w w5) := Lib.hid ⟨S4.out.1.past b5, below_bs S4.out.2 b5⟩
  clear b5 S4
  have x1 := S5.out.1.cell
  go_wp2_with fail
  clear x1
  refine (rCheck_any A4 n4 d4 q4 w5 S5.out.1.rows).mono ?_
  rintro e w6 ⟨rfl, b6⟩
  rw [E4.out, mxE_yes (HLO.out off).1]
  have HB6 := Lib.hid (below_bs S5.out.2 b6)
  clear b6
  cases bit
  · have h1 := HUP.out.1.2 rfl
    have h2 := HUP.out.2.2 rfl
    go_wp2_with fail
    go_ret
    exact ⟨rfl, HB6.out⟩
  · have h1 := HUP.out.1.1 rfl
    have h2 := HUP.out.2.1 rfl
    go_wp2_with fail
    go_ret
    exact ⟨rfl, HB6.out⟩
theorem lessens_law (P : Option Addr) (m c : Nat) (rs : List RY) (set : Int) (B : Option Addr) (bn bc : Nat) (zs : List Int) (bit : Bool) (w : World) (h : RowsY w P m c rs) (_ : -9223372036854775808 ≤ set) (_ : set ≤ 9223372036854775807) (hb : IsRow .i32 w B bn bc zs) (hT : Tab w) :
    Calls Tryd.prog 5 #[.agg #[.slice P m c], .int .i64 set, .slice B bn bc, .bool bit] w fun e w' => e = .returned (.bool true) ∧ Below w.heap.size w w' :=
  lessens P m c rs set B bn bc _ bit w h (in8_of hb) hT
end Go.Proofs.YtjikddndlnimoaaDoor.mxL
