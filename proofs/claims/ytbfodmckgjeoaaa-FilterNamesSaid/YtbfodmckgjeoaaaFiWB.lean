/- Filters: bytes at places, of both; places of the reference, by walks. -/
import Derived.Test.YtbfodmckgjeoaaaFiWA
namespace Go.Proofs.Ytbfodmckgjeoaaa.fiW
set_option maxRecDepth 100000
open Go.RowKit Go.Proofs.Ytbfodmckgjeoaaa.base Go.Proofs.Ytbfodmckgjeoaaa.fiP
set_option linter.unusedVariables false
set_option linter.unusedSimpArgs false
set_option maxRecDepth 100000
set_option maxHeartbeats 2000000 in
theorem moved_any (b : List Int) (A : Option Addr) (n c : Nat) (w : World) (h : Ib w A n c b) (hl : n ≤ 20000) :
    Calls Try.prog 31 #[.slice A n c] w fun e w' => ∃ A' c', e = .returned (.slice A' n c') ∧ OwnI w' w.heap.size 5 .u8 (.slice A' n c') (nm tab b) ∧ Below w.heap.size w w' := by
  have HH := Lib.hid h
  have hn : b.length = n := h.e
  have HN := Lib.hid hn
  have HL := Lib.hid hl
  have n9 : (n : Int) ≤ 20000 := by omega
  have n8 : n ≤ 140737488355328 := by omega
  clear h hn hl
  go_enter Try.func31, Try.ntmps31
  go_wp2_with fail
  refine (allBytes_any w).mono ?_
  rintro e w1 ⟨g, rfl, o1, hb1⟩
  have HO1 := Lib.hid o1
  have HB1 := Lib.hid hb1
  have HG := Lib.hid o1.base_le
  clear o1 hb1
  go_wp2_with (refine make8 rfl _ _ rfl .i64 .i64 n rfl rfl n8 w1.heap.size (Nat.le_refl _) ?_; intro w2 o2 hb2; have HO2 := Lib.hid o2; have HB2 := Lib.hid hb2; clear o2 hb2)
  have HO3 := Lib.hid (HO1.out.below HB2.out (Nat.le_refl _))
  have HB3 := Lib.hid (HB1.out.trans (HB2.out.mono HB1.out.size))
  obtain ⟨m, hm⟩ : ∃ m, w1.heap.size = m := ⟨_, rfl⟩
  rw [hm] at HO2 HB2 ⊢
  have HGM : Hid (g ≠ m ∧ w.heap.size ≤ g ∧ w.heap.size ≤ m) := Lib.hid ⟨by have := HG.out; omega, HG.out.1, by rw [← hm]; exact HB1.out.size⟩
  clear HO1 HB1 HB2 HG hm
  go_loopw [13] (fun j wr => ∃ (k : Nat) (l zs : List Int), k ≤ n ∧ j = .int .i64 k ∧ Full l ∧ zs.length = k ∧ zs ++ nm l (b.drop k) = nm tab b ∧ OwnI wr w.heap.size 5 .u8 (.slice (some ⟨g, 0, none⟩) 256 256) l ∧ OwnI wr w.heap.size 5 .u8 (.slice (some ⟨m, 0, none⟩) n n) (zs ++ List.replicate (n - k) 0) ∧ Below w.heap.size w wr) (fun j _ => n - (intOf j).toNat)
  case atStart => exact ⟨0, tab, [], Nat.zero_le _, rfl, tab_full, rfl, rfl, HO3.out, HO2.out.mono HGM.out.2.2, HB3.out⟩
  case round =>
    obtain ⟨k, l, zs, hk, rfl, hf, ht, hz, ol, om, acc⟩ := hrel
    have HF := Lib.hid hf
    have HT := Lib.hid ht
    have HZ := Lib.hid hz
    have HOL := Lib.hid ol
    have HOM := Lib.hid om
    have HACC := Lib.hid acc
    by_cases hlt : k < n
    · obtain ⟨bb, off, rfl, hbb, hc⟩ := in_at HH.out acc hlt
      have p1 := hc k hlt
      have HLT := Lib.hid hlt
      have k1 : (k : Int) < n := by omega
      have k2 : k < n := hlt
      obtain ⟨x1, x2⟩ := at_bd HH.out.bd k
      have HS := Lib.hid (nm_step (l := l) (k := k) (b := b) (by rw [HN.out]; exact hlt))
      generalize b.getD k 0 = x at *
      obtain ⟨i, rfl⟩ := Int.eq_ofNat_of_zero_le x1
      rw [Int.toNat_natCast] at HS
      have i1 : (i : Int) < 256 := by omega
      have i2 : i < 256 := by omega
      have HI := Lib.hid i2
      have p4 := ol.cell i (by rw [HF.out.len]; exact i2)
      obtain ⟨y1, y2⟩ := HF.out.bd i
      generalize l.getD i 0 = y at *
      have p2 := om.cell k (by rw [List.length_append, ht, List.length_replicate]; omega)
      have p3 := om.frozen k
      generalize (zs ++ List.replicate (n - k) 0).getD k 0 = y0 at *
      clear hk hf ht hz ol om acc hlt hc
      go_wp2_with fail
      have HO5 := Lib.hid (own_set (p := ⟨m, k, none⟩) HOL.out (by simpa [Value.ownBlock] using HGM.out.1) (.int .u8 y))
      refine (toFront_any l g i _ _ HO5.out HF.out.len HI.out).mono ?_
      rintro e w6 ⟨rfl, o6, k6, b6⟩
      have e6 : (zs ++ List.replicate (n - k) 0).set k y = (zs ++ [y]) ++ List.replicate (n - (k + 1)) 0 := by
        have := HLT.out
        rw [← HT.out] at this ⊢
        rw [show n - zs.length = n - (zs.length + 1) + 1 by omega, List.replicate_succ]
        simp
      have hm6 := own_else (HOM.out.store k y) k6 (by simpa [Value.ownBlock] using fun e : m = g => HGM.out.1 e.symm)
      rw [e6] at hm6
      have HM6 := Lib.hid hm6
      have HO6 := Lib.hid o6
      have HA6 : Hid (Below w.heap.size w w6) := Lib.hid ((Below.setCell HACC.out HGM.out.2.2 _).trans (b6.mono HGM.out.2.1))
      clear hm6 o6 k6 b6 e6 p1 p2 p3 p4
      go_wp2_with fail
      go_roundw
      case rel => exact ⟨k + 1, mv l i, zs ++ [y], HLT.out, by go_num, HF.out.mv HI.out, by rw [List.length_append, HT.out]; rfl, by rw [← HZ.out, HS.out]; simp, HO6.out, HM6.out, HA6.out⟩
      case measure => simp [intOf]; have := HLT.out; omega
    · obtain rfl : k = n := by omega
      have k1 : ¬ (k : Int) < k := by omega
      have HE : Hid (zs ++ List.replicate (k - k) 0 = nm tab b) := Lib.hid (by
        have := hz
        rw [List.drop_eq_nil_of_le (by rw [HN.out]; omega)] at this
        simpa [nm] using this)
      clear hk hf ht hz ol om acc hlt
      go_wp2_with fail
      go_ret
      exact ⟨_, k, rfl, by have := HOM.out; rw [HE.out] at this; exact this, HACC.out⟩
/-- Behind an append onto one row, another one that stands at a later block. -/
theorem own_behind {w w' : World} {C g n cap : Nat} {v : Value} {l : List Int} (h : OwnI w C 5 .u8 (.slice (some ⟨g, 0, none⟩) n cap) l) (hb : w.grownBy w' v.ownBlock) (hv : ∀ q, v.ownBlock = some q → q < C) : OwnI w' C 5 .u8 (.slice (some ⟨g, 0, none⟩) n cap) l :=
  h.kept hb (.inr (by
    intro e
    have := hv g e.symm
    have := h.base_le
    omega))
set_option maxHeartbeats 2000000 in
theorem rNamed (b : List Int) (A : Option Addr) (n c : Nat) (w : World) (h : Ib w A n c b) (hl : n ≤ 20000) :
    Calls Try.prog 47 #[.slice A n c] w fun e w' => ∃ A' c', e = .returned (.slice A' n c') ∧ OwnI w' w.heap.size 5 .u8 (.slice A' n c') (nm tab b) ∧ Below w.heap.size w w' := by
  have HH := Lib.hid h
  have hn : b.length = n := h.e
  have HN := Lib.hid hn
  have HL := Lib.hid hl
  have n9 : (n : Int) ≤ 20000 := by omega
  clear h hn hl
  go_enter Try.func47, Try.ntmps47
  go_wp2_with fail
  refine (rTable w).mono ?_
  rintro e w1 ⟨A1, c1, rfl, o1, hb1⟩
  have HO1 := Lib.hid o1
  have HB1 := Lib.hid hb1
  clear o1 hb1
  go_wp2_with fail
  go_loopw [3, 4, 5] (fun t v j wr => ∃ (k : Nat) (l zs : List Int) (C D : Nat) (B B2 : Option Addr) (d d2 : Nat), k ≤ n ∧ j = .int .i64 k ∧ t = .slice B 256 d ∧ v = .slice B2 k d2 ∧ Full l ∧ zs.length = k ∧ zs ++ nm l (b.drop k) = nm tab b ∧ w.heap.size ≤ C ∧ (∀ q, (Value.slice B2 k d2).ownBlock = some q → q < C) ∧ OwnI wr C 5 .u8 (.slice B 256 d) l ∧ OwnI wr w.heap.size 5 .u8 (.slice B2 k d2) zs ∧ Below w.heap.size w wr) (fun _ _ j _ => n - (intOf j).toNat)
  case atStart => exact ⟨0, tab, [], w.heap.size, 0, A1, none, c1, 0, Nat.zero_le _, rfl, rfl, rfl, tab_full, rfl, rfl, Nat.le_refl _, by simp [Value.ownBlock], HO1.out, OwnI.nil _ _ _ _, HB1.out⟩
  case round =>
    obtain ⟨k, l, zs, C, -, B, B2, d, d2, hk, rfl, rfl, rfl, hf, ht, hz, hC, hv, ol, oo, acc⟩ := hrel
    have HF := Lib.hid hf
    have HT := Lib.hid ht
    have HZ := Lib.hid hz
    have HC := Lib.hid hC
    have HV := Lib.hid hv
    have HOO := Lib.hid oo
    have HACC := Lib.hid acc
    by_cases hlt : k < n
    · obtain ⟨g, rfl, hg1, hg2, -⟩ := ol.form (by intro e; have := hf.len; rw [e] at this; simp at this)
      have HOT := Lib.hid ol
      obtain ⟨bb, off, rfl, hbb, hc⟩ := in_at HH.out acc hlt
      have p1 := hc k hlt
      have HBB := Lib.hid hbb
      have HP1 : Hid (w.cell? ⟨bb, off + k, none⟩ = some (.int .u8 (b.getD k 0))) := Lib.hid (by rw [← acc.cell (p := ⟨bb, off + k, none⟩) hbb]; exact p1)
      have HLT := Lib.hid hlt
      have k1 : (k : Int) < n := by omega
      have k2 : k < n := hlt
      obtain ⟨x1, x2⟩ := at_bd HH.out.bd k
      have HS := Lib.hid (nm_step (l := l) (k := k) (b := b) (by rw [HN.out]; exact hlt))
      generalize b.getD k 0 = x at *
      obtain ⟨i, rfl⟩ := Int.eq_ofNat_of_zero_le x1
      rw [Int.toNat_natCast] at HS
      have i1 : (i : Int) < 256 := by omega
      have i2 : i < 256 := by omega
      have HI := Lib.hid i2
      have p4 := ol.cell i (by rw [HF.out.len]; exact i2)
      obtain ⟨y1, y2⟩ := HF.out.bd i
      generalize l.getD i 0 = y at *
      have HACC2 := HACC
      clear hk hf ht hz hC hv ol oo acc hlt hc hg1 hg2 hbb
      go_wp2_with ((at_builtin; refine app8 rfl _ _ rfl w.heap.size _ zs rfl (HOO.out.below ((Below.refl _ _).alloc (Nat.le_refl _) _) (Nat.le_refl _)) (some ⟨_, 0, none⟩) 1 1 [y] rfl rfl (has_lit (zs := [y]) rfl (by simp [maxLen])) (k + 1) (by rw [HT.out]) (by have := HLT.out; have := HL.out; omega) (by have := HACC2.out.size; simp; omega) ?_; intro A4 c4 w4 ho4 hg4 hb4; have HO4 := Lib.hid ho4; have HA4 : Hid (Below w.heap.size w w4) := Lib.hid ((Below.alloc HACC2.out HACC2.out.size _).trans hb4); have HT4 := Lib.hid (own_behind (HOT.out.below ((Below.refl _ _).alloc (Nat.le_refl _) _) (Nat.le_refl _)) hg4 HV.out); clear ho4 hg4 hb4); have p5 : w4.cell? ⟨bb, off + k, none⟩ = some (.int .u8 (i : Int)) := (by rw [HA4.out.cell (p := ⟨bb, off + k, none⟩) HBB.out]; exact HP1.out))
      refine (rMoved l _ d i _ _ HT4.out HF.out.len HI.out).mono ?_
      rintro e w6 ⟨A6, c6, rfl, o6, b6⟩
      have HO6 := Lib.hid o6
      have HA6 := Lib.hid (HA4.out.trans (b6.mono HA4.out.size))
      have HO7 := Lib.hid (HO4.out.below b6 (Nat.le_refl _))
      have HQ : Hid (∀ q, (Value.slice A4 (k + 1) c4).ownBlock = some q → q < w4.heap.size) := Lib.hid (fun q hq => (World.ownsRow.lt HO4.out q hq).2)
      clear o6 b6 p1 p4 p5
      go_wp2_with fail
      go_roundw
      case rel => exact ⟨k + 1, mv l i, zs ++ [y], w4.heap.size, 0, A6, A4, c6, c4, HLT.out, by go_num, rfl, rfl, HF.out.mv HI.out, by rw [List.length_append, HT.out]; rfl, by rw [← HZ.out, HS.out]; simp, HA4.out.size, HQ.out, HO6.out, HO7.out, HA6.out⟩
      case measure => simp [intOf]; have := HLT.out; omega
    · obtain rfl : k = n := by omega
      have k1 : ¬ (k : Int) < k := by omega
      have HE : Hid (zs = nm tab b) := Lib.hid (by
        have := hz
        rw [List.drop_eq_nil_of_le (by rw [HN.out]; omega)] at this
        simpa [nm] using this)
      clear hk hf ht hz hC hv ol oo acc hlt
      go_wp2_with fail
      go_ret
      exact ⟨_, d2, rfl, by rw [← HE.out]; exact HOO.out, HACC.out⟩
set_option maxHeartbeats 2000000 in
theorem rFronts (b : List Int) (A : Option Addr) (n c : Nat) (w : World) (h : Ib w A n c b) (hl : n ≤ 20000) :
    Calls Try.prog 42 #[.slice A n c] w fun e w' => ∃ A' c', e = .returned (.slice A' n c') ∧ OwnI w' w.heap.size 5 .u8 (.slice A' n c') (fr tab b) ∧ Below w.heap.size w w' := by
  have HH := Lib.hid h
  have hn : b.length = n := h.e
  have HN := Lib.hid hn
  have HL := Lib.hid hl
  have n9 : (n : Int) ≤ 20000 := by omega
  clear h hn hl
  go_enter Try.func42, Try.ntmps42
  go_wp2_with fail
  refine (rTable w).mono ?_
  rintro e w1 ⟨A1, c1, rfl, o1, hb1⟩
  have HO1 := Lib.hid o1
  have HB1 := Lib.hid hb1
  clear o1 hb1
  go_wp2_with fail
  go_loopw [3, 4, 5] (fun t v j wr => ∃ (k : Nat) (l zs : List Int) (C D : Nat) (B B2 : Option Addr) (d d2 : Nat), k ≤ n ∧ j = .int .i64 k ∧ t = .slice B 256 d ∧ v = .slice B2 k d2 ∧ Full l ∧ zs.length = k ∧ zs ++ fr l (b.drop k) = fr tab b ∧ w.heap.size ≤ C ∧ (∀ q, (Value.slice B2 k d2).ownBlock = some q → q < C) ∧ OwnI wr C 5 .u8 (.slice B 256 d) l ∧ OwnI wr w.heap.size 5 .u8 (.slice B2 k d2) zs ∧ Below w.heap.size w wr) (fun _ _ j _ => n - (intOf j).toNat)
  case atStart => exact ⟨0, tab, [], w.heap.size, 0, A1, none, c1, 0, Nat.zero_le _, rfl, rfl, rfl, tab_full, rfl, rfl, Nat.le_refl _, by simp [Value.ownBlock], HO1.out, OwnI.nil _ _ _ _, HB1.out⟩
  case round =>
    obtain ⟨k, l, zs, C, -, B, B2, d, d2, hk, rfl, rfl, rfl, hf, ht, hz, hC, hv, ol, oo, acc⟩ := hrel
    have HF := Lib.hid hf
    have HT := Lib.hid ht
    have HZ := Lib.hid hz
    have HC := Lib.hid hC
    have HV := Lib.hid hv
    have HOO := Lib.hid oo
    have HACC := Lib.hid acc
    by_cases hlt : k < n
    · obtain ⟨g, rfl, hg1, hg2, -⟩ := ol.form (by intro e; have := hf.len; rw [e] at this; simp at this)
      have HOT := Lib.hid ol
      obtain ⟨bb, off, rfl, hbb, hc⟩ := in_at HH.out acc hlt
      have HP1 := Lib.hid (hc k hlt)
      have HBB : Hid (bb < wr.heap.size) := Lib.hid (Nat.lt_of_lt_of_le hbb acc.size)
      have HLT := Lib.hid hlt
      have k1 : (k : Int) < n := by omega
      have k2 : k < n := hlt
      obtain ⟨x1, x2⟩ := at_bd HH.out.bd k
      have HS := Lib.hid (fr_step (l := l) (k := k) (b := b) (by rw [HN.out]; exact hlt))
      have hi := HF.out.ix x1 x2
      generalize b.getD k 0 = x at *
      have HX := Lib.hid (fun j => ix_ne (l := l) (c := x) (j := j))
      generalize hix : ix l x = i at *
      have HI := Lib.hid hi
      have i1 : (i : Int) ≤ 255 := by omega
      have i2 : IntKind.u8.wrap (i : Int) = i := IntWalk.u8_in _ (by omega)
      clear hk hf ht hz hC hv ol oo acc hlt hc hg1 hg2 hbb hix hi
      obtain ⟨wa, hwa⟩ : ∃ wa, wa = wr := ⟨_, rfl⟩
      subst hwa
      go_wp2_with fail
      go_loopw [6] (fun v wz => ∃ a : Nat, a ≤ i ∧ v = .int .i64 a ∧ Below wa.heap.size wa wz) (fun v _ => i - (intOf v).toNat)
      case atStart => exact ⟨0, Nat.zero_le _, rfl, Below.refl _ _⟩
      case round =>
        obtain ⟨a, ha, rfl, acz⟩ := hrel
        have HAZ := Lib.hid acz
        have HA := Lib.hid ha
        have p1 : wr.cell? ⟨bb, off + k, none⟩ = some (.int .u8 x) := by rw [acz.cell (p := ⟨bb, off + k, none⟩) HBB.out]; exact HP1.out
        have hot := HOT.out.below acz (Nat.le_refl _)
        have p2 := hot.cell a (by rw [HF.out.len]; have := HI.out.1; omega)
        have a1 : (a : Int) < 256 := by omega
        have a2 : a < 256 := by omega
        obtain ⟨y1, y2⟩ := HF.out.bd a
        by_cases hai : a = i
        · subst hai
          have e1 : l.getD a 0 = x := HI.out.2
          rw [e1] at p2
          have HOO := Lib.hid (HOO.out.below acz (Nat.le_refl _))
          have HOT := Lib.hid hot
          have HACC2 := Lib.hid (HACC.out.trans (acz.mono HACC.out.size))
          have hxx : (x != x) = false := by simp
          clear acz ha hot e1 y1 y2
          go_wp2_with fail
          go_quiet (fail)
          clear p1 p2 hxx
          have HOO := Lib.hid (HOO.out.below (w' := wr.drewN nq) (below_drewN (Below.refl _ _) _) (Nat.le_refl _))
          have HOT := Lib.hid (HOT.out.below (w' := wr.drewN nq) (below_drewN (Below.refl _ _) _) (Nat.le_refl _))
          have HACC2 := Lib.hid (HACC2.out.trans (below_drewN (w := wr) (Below.refl _ _) nq |>.mono HACC2.out.size))
          generalize wr.drewN nq = wq at *
          go_wp2_with ((at_builtin; refine app8 rfl _ _ rfl w.heap.size _ zs rfl (HOO.out.below ((Below.refl _ _).alloc (Nat.le_refl _) _) (Nat.le_refl _)) (some ⟨_, 0, none⟩) 1 1 [(a : Int)] rfl rfl (has_lit (zs := [(a : Int)]) rfl (by simp [maxLen])) (k + 1) (by rw [HT.out]) (by have := HLT.out; have := HL.out; omega) (by have := HACC2.out.size; simp; omega) ?_; intro A4 c4 w4 ho4 hg4 hb4; have HO4 := Lib.hid ho4; have HA4 : Hid (Below w.heap.size w w4) := Lib.hid ((Below.alloc HACC2.out HACC2.out.size _).trans hb4); have HT4 := Lib.hid (own_behind (HOT.out.below ((Below.refl _ _).alloc (Nat.le_refl _) _) (Nat.le_refl _)) hg4 HV.out); clear ho4 hg4 hb4))
          refine (rMoved l _ d a _ _ HT4.out HF.out.len HI.out.1).mono ?_
          rintro e w6 ⟨A6, c6, rfl, o6, b6⟩
          have HO6 := Lib.hid o6
          have HA6 := Lib.hid (HA4.out.trans (b6.mono HA4.out.size))
          have HO7 := Lib.hid (HO4.out.below b6 (Nat.le_refl _))
          have HQ : Hid (∀ q, (Value.slice A4 (k + 1) c4).ownBlock = some q → q < w4.heap.size) := Lib.hid (fun q hq => (World.ownsRow.lt HO4.out q hq).2)
          clear o6 b6
          go_wp2_with fail
          go_roundw
          case rel => exact ⟨k + 1, mv l a, zs ++ [(a : Int)], w4.heap.size, 0, A6, A4, c6, c4, HLT.out, by go_num, rfl, rfl, HF.out.mv HI.out.1, by rw [List.length_append, HT.out]; rfl, by rw [← HZ.out, HS.out]; simp, HA4.out.size, HQ.out, HO6.out, HO7.out, HA6.out⟩
          case measure => simp [intOf]; have := HLT.out; omega
        · have hne : (l.getD a 0 != x) = true := by simpa using HX.out a (by omega)
          generalize l.getD a 0 = y at *
          have HLT2 : Hid (a < i) := Lib.hid (by omega)
          clear acz ha hot hai
          go_wp2_with fail
          go_quiet (fail)
          go_wp2_with fail
          go_roundw
          case rel => exact ⟨a + 1, HLT2.out, by go_num, by have := HAZ.out; (repeat' (first | (with_reducible exact Below.refl _ _) | (with_reducible assumption) | (with_reducible refine below_drewN ?_ _) | (with_reducible refine below_new ?_ _) | (with_reducible refine Below.alloc ?_ ?_ _) | (with_reducible refine Below.drew ?_) | (with_reducible refine Below.setCell ?_ ?_ _) | (with_reducible apply below_at; (case k => (with_reducible assumption)); (case hB => omega)) | (with_reducible apply below_on; (with_reducible assumption)) | (go_size; done) | (with_reducible apply size_of)))⟩
          case measure => simp [intOf]; have := HLT2.out; omega
    · obtain rfl : k = n := by omega
      have k1 : ¬ (k : Int) < k := by omega
      have HE : Hid (zs = fr tab b) := Lib.hid (by
        have := hz
        rw [List.drop_eq_nil_of_le (by rw [HN.out]; omega)] at this
        simpa [fr] using this)
      clear hk hf ht hz hC hv ol oo acc hlt
      go_wp2_with fail
      go_ret
      exact ⟨_, d2, rfl, by rw [← HE.out]; exact HOO.out, HACC.out⟩
end Go.Proofs.Ytbfodmckgjeoaaa.fiW
