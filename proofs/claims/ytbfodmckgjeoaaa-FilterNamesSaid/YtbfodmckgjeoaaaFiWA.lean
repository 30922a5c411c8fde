/- Filters: places in a list in which bytes move to the front, and back, of both, by walks. -/
import Derived.Test.YtbfodmckgjeoaaaFiW9
namespace Go.Proofs.Ytbfodmckgjeoaaa.fiW
set_option maxRecDepth 100000
open Go.RowKit Go.Proofs.Ytbfodmckgjeoaaa.base Go.Proofs.Ytbfodmckgjeoaaa.fiP
set_option linter.unusedVariables false
set_option linter.unusedSimpArgs false
set_option maxRecDepth 100000
theorem fr_step {b : List Int} {l : List Int} {k : Nat} (h : k < b.length) : fr l (b.drop k) = (ix l (b.getD k 0) : Int) :: fr (mv l (ix l (b.getD k 0))) (b.drop (k + 1)) := by
  rw [drop_cons h, fr]
theorem nm_step {b : List Int} {l : List Int} {k : Nat} (h : k < b.length) : nm l (b.drop k) = l.getD (b.getD k 0).toNat 0 :: nm (mv l (b.getD k 0).toNat) (b.drop (k + 1)) := by
  rw [drop_cons h, nm]
/-- The bytes at address A, in every world that keeps what is below. -/
theorem ib_past {w wr : World} {A : Option Addr} {n c : Nat} {b : List Int} (h : Ib w A n c b) (hb : Below w.heap.size w wr) : Ib wr A n c b := h.below hb
/-- A row that is grown leaves the others. -/
theorem own_apart {w w' : World} {B : Nat} {v : Value} {zs : List Int} {g n cap : Nat} {l : List Int} (h : OwnI w B 5 .u8 (.slice (some ⟨g, 0, none⟩) n cap) l) (hb : w.grownBy w' v.ownBlock) (hne : v.ownBlock ≠ some g) : OwnI w' B 5 .u8 (.slice (some ⟨g, 0, none⟩) n cap) l :=
  h.kept hb (.inr (by simpa [Value.ownBlock] using fun e => hne e.symm))
set_option maxHeartbeats 2000000 in
theorem places_any (b : List Int) (A : Option Addr) (n c : Nat) (w : World) (h : Ib w A n c b) (hl : n ≤ 20000) :
    Calls Try.prog 27 #[.slice A n c] w fun e w' => ∃ A' c', e = .returned (.slice A' n c') ∧ OwnI w' w.heap.size 5 .u8 (.slice A' n c') (fr tab b) ∧ Below w.heap.size w w' := by
  have HH := Lib.hid h
  have hn : b.length = n := h.e
  have HN := Lib.hid hn
  have HL := Lib.hid hl
  have n9 : (n : Int) ≤ 20000 := by omega
  have n8 : n ≤ 140737488355328 := by omega
  clear h hn hl
  go_enter Try.func27, Try.ntmps27
  go_wp2_with fail
  refine (allBytes_any w).mono ?_
  rintro e w1 ⟨g, rfl, o1, hb1⟩
  have HO1 := Lib.hid o1
  have HB1 := Lib.hid hb1
  have HG := Lib.hid o1.base_le
  clear o1 hb1
  go_wp2_with (refine make8 rfl _ _ rfl .i64 .i64 n rfl rfl n8 w1.heap.size (Nat.le_refl _) ?_; intro w2 o2 hb2; have HO2 := Lib.hid o2; have HB2 := Lib.hid hb2; clear o2 hb2)
  have HO3 := Lib.hid (HO1.out.below HB2.out (Nat.le_refl _))
  have HB3 := Lib.hid (HB1.out.trans (HB2.out.mono HB1.out.size))
  obtain ⟨m, hm⟩ : ∃ m, w1.heap.size = m := ⟨_, rfl⟩
  rw [hm] at HO2 HB2 ⊢
  have HGM : Hid (g ≠ m ∧ w.heap.size ≤ g ∧ w.heap.size ≤ m) := Lib.hid ⟨by have := HG.out; omega, HG.out.1, by rw [← hm]; exact HB1.out.size⟩
  clear HO1 HB1 HB2 HG hm
  go_loopw [14] (fun j wr => ∃ (k : Nat) (l zs : List Int), k ≤ n ∧ j = .int .i64 k ∧ Full l ∧ zs.length = k ∧ zs ++ fr l (b.drop k) = fr tab b ∧ OwnI wr w.heap.size 5 .u8 (.slice (some ⟨g, 0, none⟩) 256 256) l ∧ OwnI wr w.heap.size 5 .u8 (.slice (some ⟨m, 0, none⟩) n n) (zs ++ List.replicate (n - k) 0) ∧ Below w.heap.size w wr) (fun j _ => n - (intOf j).toNat)
  case atStart => exact ⟨0, tab, [], Nat.zero_le _, rfl, tab_full, rfl, rfl, HO3.out, HO2.out.mono HGM.out.2.2, HB3.out⟩
  case round =>
    obtain ⟨k, l, zs, hk, rfl, hf, ht, hz, ol, om, acc⟩ := hrel
    have HF := Lib.hid hf
    have HT := Lib.hid ht
    have HZ := Lib.hid hz
    have HOL := Lib.hid ol
    have HOM := Lib.hid om
    have HACC := Lib.hid acc
    by_cases hlt : k < n
    · obtain ⟨bb, off, rfl, hbb, hc⟩ := in_at HH.out acc hlt
      have p1 := hc k hlt
      have HLT := Lib.hid hlt
      have k1 : (k : Int) < n := by omega
      have k2 : k < n := hlt
      obtain ⟨x1, x2⟩ := at_bd HH.out.bd k
      have HS := Lib.hid (fr_step (l := l) (k := k) (b := b) (by rw [HN.out]; exact hlt))
      have hi := HF.out.ix x1 x2
      generalize b.getD k 0 = x at *
      generalize hix : ix l x = i at *
      have HIX := Lib.hid hix
      have HI := Lib.hid hi
      have i1 : (i : Int) ≤ 255 := by omega
      have i2 : IntKind.u8.wrap (i : Int) = i := IntWalk.u8_in _ (by omega)
      have p2 := om.cell k (by rw [List.length_append, ht, List.length_replicate]; omega)
      have p3 := om.frozen k
      generalize (zs ++ List.replicate (n - k) 0).getD k 0 = y at *
      clear hk hf ht hz ol om acc hlt hc hix hi
      go_wp2_with fail
      refine (IndexByte_any l _ _ x _ HOL.out.has HF.out x1 x2).mono ?_
      rintro e w5 ⟨rfl, rfl⟩
      rw [HIX.out]
      go_wp2_with fail
      have HO5 := Lib.hid (own_set (p := ⟨m, k, none⟩) HOL.out (by simpa [Value.ownBlock] using HGM.out.1) (.int .u8 (i : Int)))
      refine (toFront_any l g i _ _ HO5.out HF.out.len HI.out.1).mono ?_
      rintro e w6 ⟨rfl, o6, k6, b6⟩
      have hk2 : zs.length = k := HT.out
      have e6 : (zs ++ List.replicate (n - k) 0).set k (i : Int) = (zs ++ [(i : Int)]) ++ List.replicate (n - (k + 1)) 0 := by
        rw [← HT.out]
        rw [show n - zs.length = n - (zs.length + 1) + 1 by omega, List.replicate_succ]
        simp
      have hm6 := own_else (HOM.out.store k (i : Int)) k6 (by simpa [Value.ownBlock] using fun e : m = g => HGM.out.1 e.symm)
      rw [e6] at hm6
      have HM6 := Lib.hid hm6
      have HO6 := Lib.hid o6
      have HA6 : Hid (Below w.heap.size w w6) := Lib.hid ((Below.setCell HACC.out HGM.out.2.2 _).trans (b6.mono HGM.out.2.1))
      clear hm6 o6 k6 b6 e6 hk2 p1 p2 p3
      go_wp2_with fail
      go_roundw
      case rel => exact ⟨k + 1, mv l i, zs ++ [(i : Int)], HLT.out, by go_num, HF.out.mv HI.out.1, by rw [List.length_append, HT.out]; rfl, by rw [← HZ.out, HS.out]; simp, HO6.out, HM6.out, HA6.out⟩
      case measure => simp [intOf]; have := HLT.out; omega
    · obtain rfl : k = n := by omega
      have k1 : ¬ (k : Int) < k := by omega
      have HE : Hid (zs ++ List.replicate (k - k) 0 = fr tab b) := Lib.hid (by
        have := hz
        rw [List.drop_eq_nil_of_le (by rw [HN.out]; omega)] at this
        simpa [fr] using this)
      clear hk hf ht hz ol om acc hlt
      go_wp2_with fail
      go_ret
      exact ⟨_, k, rfl, by have := HOM.out; rw [HE.out] at this; exact this, HACC.out⟩
end Go.Proofs.Ytbfodmckgjeoaaa.fiW
