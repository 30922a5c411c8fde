/- AdaptParts, whole. -/
import Derived.Test.YtipbafcjmeibpaaAdL5
namespace Go.Proofs.Ytipbafcjmeibpaa.adL
open Go.RowKit Go.Proofs.Ytipbafcjmeibpaa.base Go.Proofs.Ytipbafcjmeibpaa.adP Go.Proofs.Ytipbafcjmeibpaa.adW Go.Proofs.Ytipbafcjmeibpaa.cntP Go.Proofs.Ytipbafcjmeibpaa.stP
set_option linter.unusedVariables false

theorem parts (A B : Option Addr) (lp ln cp cn : Nat) (m : Ad) (s : Int) (C : Option Addr) (len cap : Nat) (z : List Int) (at_ : Int) (w : World) (hf : AdIn w A B lp ln m ∧ lp ≤ cp ∧ ln ≤ cn) (s0 : 0 ≤ s) (s1 : s ≤ 255) (hr : IsRow .u8 w C len cap z) (_ : -9223372036854775808 ≤ at_) (_ : at_ ≤ 9223372036854775807) :
    Calls Try.prog 7 #[.agg #[.int .i32 (m).l, .slice A lp cp, .slice B ln cn], .int .u8 s, .slice C len cap, .int .i64 at_] w fun e w' => e = .returned (.bool true) ∧ Below w.heap.size w w' := by
  have hcap : len ≤ cap ∧ cap ≤ maxLen := by
    rcases hr with ⟨_, rfl, rfl, _⟩ | ⟨x, _, h1, h2, _⟩
    · exact ⟨Nat.le_refl _, Nat.zero_le _⟩
    · exact ⟨h1, h2⟩
  obtain ⟨hh, hlen, hm, hw⟩ := has_of_row hr
  have hz : ∀ z_1 ∈ z.take len, 0 ≤ z_1 ∧ z_1 ≤ 255 := fun x hx => bounds_u8 (hw x hx)
  generalize hzs : z.take len = zs at *
  subst hlen
  unfold maxLen at hm hcap
  have hm' : zs.length ≤ 9223372036854775807 := by omega
  cases hfit : fitB m lp ln s 0
  · exact parts_bad m A B lp ln cp cn s C cap zs at_ w hf.1 s0 s1 hh hz hm' (.inl hfit)
  · by_cases h1' : (100 : Int) < zs.length
    · exact parts_bad m A B lp ln cp cn s C cap zs at_ w hf.1 s0 s1 hh hz hm' (.inr (.inl ⟨hfit, h1'⟩))
    · cases hb : bitsB zs
      · exact parts_bad m A B lp ln cp cn s C cap zs at_ w hf.1 s0 s1 hh hz hm' (.inr (.inr (.inl ⟨hfit, h1', hb⟩)))
      · by_cases h2' : at_ < 0
        · exact parts_bad m A B lp ln cp cn s C cap zs at_ w hf.1 s0 s1 hh hz hm' (.inr (.inr (.inr (.inl ⟨hfit, h1', hb, h2'⟩))))
        · by_cases h3 : (zs.length : Int) < at_
          · exact parts_bad m A B lp ln cp cn s C cap zs at_ w hf.1 s0 s1 hh hz hm' (.inr (.inr (.inr (.inr ⟨hfit, h1', hb, h2', h3⟩))))
          · obtain ⟨n, rfl⟩ := Int.eq_ofNat_of_zero_le (show 0 ≤ at_ by omega)
            obtain ⟨_, _, hk, _⟩ := fit_bd hfit
            obtain ⟨ha, c1⟩ := (atE_zero m s).1 hk
            obtain ⟨rfl, rfl⟩ := ad_len hf.1 ha
            have hall := (bitsB_iff zs).1 hb
            have hbits := bits_two hb hz
            have b1 : bitsB (zs.take n) = true := (bitsB_iff _).2 fun z h => hall z (List.mem_of_mem_take h)
            have b2 : bitsB (zs.drop n) = true := (bitsB_iff _).2 fun z h => hall z (List.mem_of_mem_drop h)
            have hbt : ∀ z ∈ zs.take n, z = 0 ∨ z = 1 := fun z h => hbits z (List.mem_of_mem_take h)
            obtain ⟨m1, m2⟩ := sRun_bd (zs.take n) s0 c1 hbt
            have ok2 := ruM_ok (zs.take n) ha s0 c1 hbt
            have ok9 := ruM_ok zs ha s0 c1 hbits
            have e3 : ruM (ruM m s (zs.take n)) (sRun s (zs.take n)) (zs.drop n) = ruM m s zs := by rw [← ruM_app, List.take_append_drop]
            have e4 : sRun (sRun s (zs.take n)) (zs.drop n) = sRun s zs := by
              unfold sRun
              rw [← List.foldl_append, List.take_append_drop]
            exact parts_main m (ruM m s (zs.take n)) (ruM m s zs) A B cp cn s (sRun s (zs.take n)) (sRun s zs) C cap n zs w hf.1 hf.2.1 hf.2.2 s0 c1 ha hfit hh hz (by omega) hcap.1 (by omega) (by omega) hb rfl rfl e3 rfl rfl e4
              (by rw [stR, if_pos c1, if_neg (by omega), if_pos hb]) (by rw [stRE, if_pos c1, if_neg (by omega), if_pos hb]) ok2 ok9 m1 m2 (ruM_l _ _ _) (ruM_l _ _ _)
              (fun hlt => ⟨ok2, m1, m2, hbits _ (by rw [List.getD_eq_getElem?_getD, List.getElem?_eq_getElem hlt]; exact List.getElem_mem hlt)⟩) b1 b2
end Go.Proofs.Ytipbafcjmeibpaa.adL
