/- EncoderStays, by a walk. -/
import Derived.Test.YtdnccnaihkajmaaEncL2
namespace Go.Proofs.Ytdnccnaihkajmaa.encL
open Go.RowKit Go.Proofs.Ytdnccnaihkajmaa.base Go.Proofs.Ytdnccnaihkajmaa.encP Go.Proofs.Ytdnccnaihkajmaa.encW
set_option linter.unusedVariables false
set_option linter.unusedSimpArgs false

theorem runS_pre : ∀ (ps : List Int) (bs : List Bool) (s : Int × Int × List Int), ∃ t, (runS ps bs s).2.2 = s.2.2 ++ t
  | [], _, s => ⟨[], by simp [runS]⟩
  | _ :: _, [], s => ⟨[], by simp [runS]⟩
  | p :: ps, b :: bs, s => by
    obtain ⟨t, h⟩ := runS_pre ps bs ((pu s.1 s.2.1 p b).1, (pu s.1 s.2.1 p b).2.1, s.2.2 ++ (pu s.1 s.2.1 p b).2.2)
    exact ⟨(pu s.1 s.2.1 p b).2.2 ++ t, by rw [runS, h, List.append_assoc]⟩
theorem runS_cut : ∀ (k : Nat) (ps : List Int) (bs : List Bool) (s : Int × Int × List Int), runS ps bs s = runS (ps.drop k) (bs.drop k) (runS (ps.take k) (bs.take k) s)
  | 0, ps, bs, s => by cases ps <;> simp [runS]
  | k + 1, [], bs, s => by simp [runS]
  | k + 1, p :: ps, [], s => by simp [runS, runS_nil]
  | k + 1, p :: ps, b :: bs, s => by simp only [List.drop_succ_cons, List.take_succ_cons, runS]; exact runS_cut k ps bs _
theorem runS_front (k : Nat) (ps : List Int) (bs : List Bool) : ∃ t, (runS ps bs s0).2.2 = (runS (ps.take k) (bs.take k) s0).2.2 ++ t := by
  rw [runS_cut k ps bs s0]; exact runS_pre _ _ _
theorem cell_on {w x : World} {b o : Nat} {v : Value} (h : w.cell? ⟨b, o, none⟩ = some v) (hb : Below w.heap.size w x) : x.cell? ⟨b, o, none⟩ = some v := by rw [hb.cell (p := ⟨b, o, none⟩) (lt_of_cell h)]; exact h
theorem has_other {w : World} {g : Nat} {a b : Int} {A B : Option Addr} {n c : Nat} {zs : List Int} (h : Has .u8 w A zs) (K : Lies (w) (g) 25 [.int .u32 (a), .int .u32 (b), .slice (B) (n) (c)]) (i : Nat) (x : Value) : Has .u8 (w.setCell ⟨g, i, none⟩ x) A zs := by
  rcases h with rfl | ⟨b', off, rfl, hb, hc⟩
  · exact .inl rfl
  · rcases Nat.eq_zero_or_pos zs.length with h0 | hp
    · exact .inl (List.eq_nil_of_length_eq_zero h0)
    · have hne : b' ≠ g := by
        rintro rfl
        have h1 := hc 0 hp
        have h2 := K.cell (off + 0)
        rw [h1] at h2
        match off with
        | 0 => simp at h2
        | 1 => simp at h2
        | 2 => simp at h2
        | k + 3 => simp at h2
      exact Has.set (.inr ⟨b', off, rfl, hb, hc⟩) (p := ⟨g, i, none⟩) (fun a ha => by injection ha with ha; subst ha; exact hne) x
theorem has_store3 {w : World} {g : Nat} {a b a' b' : Int} {A B B' : Option Addr} {n c n' c' : Nat} {zs : List Int} (h : Has .u8 w A zs) (K : Lies (w) (g) 25 [.int .u32 (a), .int .u32 (b), .slice (B) (n) (c)]) :
    Has .u8 (((w.setCell ⟨g, 0, none⟩ (.int .u32 a')).setCell ⟨g, 1, none⟩ (.int .u32 b')).setCell ⟨g, 2, none⟩ (.slice B' n' c')) A zs :=
  has_other (has_other (has_other h K 0 _) (K.set 0 (.int .u32 a')) 1 _) ((K.set 0 (.int .u32 a')).set 1 (.int .u32 b')) 2 _
set_option maxHeartbeats 1000000 in
theorem Begins_yes (A B : Option Addr) (n m c d : Nat) (zs ys ts : List Int) (w : World) (hA : Has .u8 w A zs) (hn : zs.length = n) (hc : n ≤ c) (hm : n ≤ 140737488355000) (hB : Has .u8 w B ys) (hy : ys.length = m) (hz : zs = ys ++ ts) :
    Calls Try.prog 25 #[.slice A n c, .slice B m d] w fun e w' => e = .returned (.bool true) ∧ ∃ k, w' = w.drewN k := by
  have hmn : m ≤ n := by rw [← hn, ← hy, hz, List.length_append]; omega
  have ht : zs.take m = ys := by rw [hz, ← hy]; simp
  have cv1 : ∀ k, (convert 23 9 (.slice A m c)).run Try.prog (w.drewN k) = .ok (.string (bstr ys)) (w.drewN k) := fun k => by
    have := hA.front m
    rw [ht] at this
    exact conv8 (this.below (below_drewN (Below.refl _ _) k) (Nat.le_refl _)) hy
  have cv2 : ∀ k, (convert 23 9 (.slice B m d)).run Try.prog (w.drewN k) = .ok (.string (bstr ys)) (w.drewN k) := fun k => conv8 (hB.below (below_drewN (Below.refl _ _) k) (Nat.le_refl _)) hy
  have i1 : (m : Int) ≤ n := by omega
  have i2 : (n : Int) ≤ c := by omega
  have i3 : (m : Int) ≤ c := by omega
  have i4 : (0 : Int) ≤ m := by omega
  have hd : decide ((m : Int) ≤ n) = true := by simpa using i1
  generalize bstr ys = s at *
  clear ht hz hy hn hA hB
  go_enter Try.func25, Try.ntmps25
  go_wp2
  go_quiet (fail)
  go_wp2
  go_ret
  exact ⟨by simp, _, rfl⟩
end Go.Proofs.Ytdnccnaihkajmaa.encL
