/- Plain: costs of lists. No program. -/
import Derived.Test.YtaehjhjbbkblbaaCostPlain
import Derived.Test.YtaehjhjbbkblbaaEncPlain3
namespace Go.Proofs.Ytaehjhjbbkblbaa.costP
open Go.RowKit Go.Proofs.Ytaehjhjbbkblbaa.encP

/-- Something done for each pair of two lists. -/
def fold2 {S : Type} (f : S → Int → Bool → S) : List Int → List Bool → S → S
  | p :: ps, b :: bs, s => fold2 f ps bs (f s p b)
  | _, _, s => s
theorem fold2_nil {S : Type} (f : S → Int → Bool → S) (ps : List Int) (s : S) : fold2 f ps [] s = s := by cases ps <;> rfl
theorem fold2_snoc {S : Type} (f : S → Int → Bool → S) : ∀ (ps : List Int) (bs : List Bool) (s : S) (k : Nat), k < ps.length → k < bs.length →
    fold2 f (ps.take (k + 1)) (bs.take (k + 1)) s = f (fold2 f (ps.take k) (bs.take k) s) (ps.getD k 0) (bs.getD k false)
  | p :: ps, b :: bs, s, 0, _, _ => by simp [fold2]
  | p :: ps, b :: bs, s, k + 1, h1, h2 => by
    have := fold2_snoc f ps bs (f s p b) k (by simpa using h1) (by simpa using h2)
    simpa [fold2] using this
  | [], _, _, _, h1, _ => by simp at h1
  | _ :: _, [], _, _, _, h2 => by simp at h2
theorem fold2_cut {S : Type} (f : S → Int → Bool → S) : ∀ (k : Nat) (ps : List Int) (bs : List Bool) (s : S), fold2 f ps bs s = fold2 f (ps.drop k) (bs.drop k) (fold2 f (ps.take k) (bs.take k) s)
  | 0, ps, bs, s => by cases ps <;> simp [fold2]
  | k + 1, [], bs, s => by simp [fold2]
  | k + 1, p :: ps, [], s => by simp [fold2, fold2_nil]
  | k + 1, p :: ps, b :: bs, s => by simp only [List.drop_succ_cons, List.take_succ_cons, fold2]; exact fold2_cut f k ps bs _
/-- What holds of each step holds of all. -/
theorem fold2_inv {S : Type} {f : S → Int → Bool → S} {I : S → Prop} {q : Int → Bool} (h : ∀ s p b, q p = true → I s → I (f s p b)) : ∀ (ps : List Int) (bs : List Bool) (s : S), ps.all q = true → I s → I (fold2 f ps bs s)
  | p :: ps, b :: bs, s, ha, hi => by
    rw [List.all_cons, Bool.and_eq_true] at ha
    exact fold2_inv h ps bs _ ha.2 (h s p b ha.1 hi)
  | [], _, s, _, hi => by simpa [fold2] using hi
  | _ :: _, [], s, _, hi => by simpa [fold2] using hi
theorem all_take {ps : List Int} {q : Int → Bool} (h : ps.all q = true) (k : Nat) : (ps.take k).all q = true := List.all_eq_true.2 fun z hz => List.all_eq_true.1 h z (List.mem_of_mem_take hz)
theorem all_drop {ps : List Int} {q : Int → Bool} (h : ps.all q = true) (k : Nat) : (ps.drop k).all q = true := List.all_eq_true.2 fun z hz => List.all_eq_true.1 h z (List.mem_of_mem_drop hz)

def idN (s : Int) (p : Int) (b : Bool) : Int := s + btV p b
def idS (ps : List Int) (bs : List Bool) : Int := fold2 idN ps bs 0
theorem btV_bd (p : Int) (b : Bool) : 0 ≤ btV p b ∧ btV p b ≤ 786432 ∨ cOk p = true := by
  unfold btV
  cases h : cOk p
  · left; simp
  · right; rfl
/-- The state of coding: the range, the cost, how many bytes. -/
def cN (s : Int × Int × Int × Int) (p : Int) (b : Bool) : Int × Int × Int × Int := ((pu s.1 s.2.1 p b).1, (pu s.1 s.2.1 p b).2.1, s.2.2.1 + ctV s.1 s.2.1 p b, s.2.2.2 + (pu s.1 s.2.1 p b).2.2.length)
def c0 : Int × Int × Int × Int := (0, 4294967295, 0, 0)
def cS (ps : List Int) (bs : List Bool) : Int × Int × Int × Int := fold2 cN ps bs c0
theorem cOk_pOk {p : Int} (h : cOk p = true) : pOk p = true := by
  obtain ⟨a, b⟩ := (cOk_iff p).1 h
  exact (pOk_iff p).2 ⟨by omega, b⟩
def CGood (s : Int × Int × Int × Int) : Prop := 0 ≤ s.1 ∧ s.1 < s.2.1 ∧ s.2.1 ≤ 4294967295 ∧ s.1 / 16777216 ≠ s.2.1 / 16777216
theorem cgood_nxt (s : Int × Int × Int × Int) (p : Int) (b : Bool) (hp : cOk p = true) (h : CGood s) : CGood (cN s p b) := by
  obtain ⟨h1, h2, h3, h4⟩ := h
  obtain ⟨k1, k2, k3, k4, k5, k6⟩ := pu_ok (b := b) h1 h2 h3 (cOk_pOk hp)
  exact ⟨k1, k2, k3, k4⟩
theorem cgood_all {ps : List Int} {bs : List Bool} (h : ps.all cOk = true) : CGood (cS ps bs) := fold2_inv (I := CGood) cgood_nxt ps bs c0 h (by unfold CGood c0; decide)
end Go.Proofs.Ytaehjhjbbkblbaa.costP
