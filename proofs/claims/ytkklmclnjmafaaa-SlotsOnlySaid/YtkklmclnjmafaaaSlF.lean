/- Finding, by itself; whole slots stored. -/
import Derived.Test.YtkklmclnjmafaaaSlT
import Derived.Test.YtkklmclnjmafaaaHashW
namespace Go.Proofs.Ytkklmclnjmafaaa.slP
set_option maxRecDepth 100000
set_option linter.unusedVariables false
def plN (n : Nat) (h : Int) : Nat := (h % (n : Int)).toNat
def bes (q : Nat) : Nat := if q % 2 = 0 then q + 1 else q - 1
def ckN (h : Int) : Int := h / 16777216
def fndB (fl : List Int) (n : Nat) (h : Int) : Bool := decide (chA fl (plN n h) = ckN h) || decide (chA fl (bes (plN n h)) = ckN h)
def lkN (fl : List Int) (n : Nat) (h : Int) : Nat :=
  if chA fl (plN n h) = ckN h then plN n h else if chA fl (bes (plN n h)) = ckN h then bes (plN n h)
  else if stP.stT (stA fl (bes (plN n h)) 0) < stP.stT (stA fl (plN n h) 0) then bes (plN n h) else plN n h
def newS (h : Int) : List Int := [ckN h, 0, 0, 0, 0, 0, 0, 0, 0, 0, 0, 0, 0, 0, 0, 0]
def fdL (fl : List Int) (n : Nat) (h : Int) : List Int := if fndB fl n h = true then fl else base.setL fl (lkN fl n h * 16) (newS h)
def fdT (lv : Int) (n : Nat) (fl : List Int) (h : Int) : TV := if okB lv n fl = true then ⟨lv, n, fdL fl n h⟩ else zT
def fdP (lv : Int) (n : Nat) (fl : List Int) (h : Int) : Int := if okB lv n fl = true then (lkN fl n h : Int) else 0
theorem fd_ok {lv : Int} {n : Nat} {fl : List Int} {h : Int} (k : okB lv n fl = true) : fdT lv n fl h = ⟨lv, n, fdL fl n h⟩ ∧ fdP lv n fl h = (lkN fl n h : Int) ∧ okE lv n fl = 0 := ⟨if_pos k, if_pos k, if_pos k⟩
theorem fd_bad {lv : Int} {n : Nat} {fl : List Int} {h : Int} (k : ¬ okB lv n fl = true) : fdT lv n fl h = zT ∧ fdP lv n fl h = 0 ∧ okE lv n fl = 8 := ⟨if_neg k, if_neg k, if_neg k⟩
theorem lk_1 {fl : List Int} {n q : Nat} {h : Int} (hq : plN n h = q) (h1 : chA fl q = ckN h) : lkN fl n h = q ∧ fdL fl n h = fl ∧ fndB fl n h = true := by
  have e : fndB fl n h = true := by simp [fndB, hq, h1]
  exact ⟨by rw [lkN, hq, if_pos h1], by rw [fdL, if_pos e], e⟩
theorem lk_2 {fl : List Int} {n q : Nat} {h : Int} (hq : plN n h = q) (h1 : ¬ chA fl q = ckN h) (h2 : chA fl (bes q) = ckN h) : lkN fl n h = bes q ∧ fdL fl n h = fl ∧ fndB fl n h = true := by
  have e : fndB fl n h = true := by simp [fndB, hq, h2]
  exact ⟨by rw [lkN, hq, if_neg h1, if_pos h2], by rw [fdL, if_pos e], e⟩
theorem lk_no {fl : List Int} {n q : Nat} {h : Int} (hq : plN n h = q) (h1 : ¬ chA fl q = ckN h) (h2 : ¬ chA fl (bes q) = ckN h) : fndB fl n h = false ∧ fdL fl n h = base.setL fl (lkN fl n h * 16) (newS h) := by
  have e : fndB fl n h = false := by simp [fndB, hq, h1, h2]
  exact ⟨e, by rw [fdL, e]; rfl⟩
theorem lk_3 {fl : List Int} {n q : Nat} {h : Int} (hq : plN n h = q) (h1 : ¬ chA fl q = ckN h) (h2 : ¬ chA fl (bes q) = ckN h) (h3 : stP.stT (stA fl (bes q) 0) < stP.stT (stA fl q 0)) : lkN fl n h = bes q ∧ fdL fl n h = base.setL fl (bes q * 16) (newS h) := by
  have e : lkN fl n h = bes q := by rw [lkN, hq, if_neg h1, if_neg h2, if_pos h3]
  exact ⟨e, by rw [(lk_no hq h1 h2).2, e]⟩
theorem lk_4 {fl : List Int} {n q : Nat} {h : Int} (hq : plN n h = q) (h1 : ¬ chA fl q = ckN h) (h2 : ¬ chA fl (bes q) = ckN h) (h3 : ¬ stP.stT (stA fl (bes q) 0) < stP.stT (stA fl q 0)) : lkN fl n h = q ∧ fdL fl n h = base.setL fl (q * 16) (newS h) := by
  have e : lkN fl n h = q := by rw [lkN, hq, if_neg h1, if_neg h2, if_neg h3]
  exact ⟨e, by rw [(lk_no hq h1 h2).2, e]⟩
theorem sz_pow {lv : Int} (h : 0 ≤ lv ∧ lv ≤ 7) : (szN lv : Int) = 2 ^ (4 + lv.toNat) := by
  unfold szN
  rw [Int.pow_add]; simp
theorem sz_even {lv : Int} (h : 0 ≤ lv ∧ lv ≤ 7) : szN lv % 2 = 0 := by unfold szN; omega
theorem bes_lt {n q : Nat} (he : n % 2 = 0) (hq : q < n) : bes q < n := by unfold bes; split <;> omega
theorem pl_lt {n : Nat} (h : Int) (hn : 0 < n) : plN n h < n := by
  unfold plN
  have := Int.emod_lt_of_pos h (show (0 : Int) < n by omega)
  have := Int.emod_nonneg h (show (n : Int) ≠ 0 by omega)
  omega
theorem pl_cast {n : Nat} (h : Int) (hn : 0 < n) : h % (n : Int) = (plN n h : Int) := by
  unfold plN
  have := Int.emod_nonneg h (show (n : Int) ≠ 0 by omega)
  omega
end Go.Proofs.Ytkklmclnjmafaaa.slP
namespace Go.Proofs.Ytkklmclnjmafaaa.slW
set_option maxRecDepth 100000
open Go.RowKit Go.Proofs.Ytkklmclnjmafaaa.base Go.Proofs.Ytkklmclnjmafaaa.slP
set_option linter.unusedVariables false
set_option linter.unusedSimpArgs false
theorem xor_all : ∀ q : Fin 2048, bits .xor .i64 ((q.val : Nat) : Int) 1 = (bes q.val : Int) := by decide +kernel
theorem xor_bes {q : Nat} (h : q < 2048) : bits .xor .i64 (q : Int) 1 = (bes q : Int) := xor_all ⟨q, h⟩
theorem place_ok {lv : Int} {n : Nat} {fl : List Int} (h : Int) (k : okB lv n fl = true) : hashW.placeE (n : Int) = 0 ∧ hashW.placeV h (n : Int) = (plN n h : Int) ∧ plN n h < n ∧ bes (plN n h) < n ∧ n ≤ 2048 ∧ 16 ≤ n := by
  obtain ⟨h1, h2, h3⟩ := (ok_iff lv n fl).1 k
  have h4 := sz_le h1.2
  have hs : hashW.sizeB (n : Int) = true := (hashW.sizeB_iff _).2 ⟨4 + lv.toNat, by omega, by rw [h2]; exact sz_pow h1⟩
  have hp := pl_lt (n := n) h (by omega)
  have he : n % 2 = 0 := by rw [h2]; exact sz_even h1
  refine ⟨by rw [hashW.placeE, if_pos hs], by rw [hashW.placeV, if_pos hs]; exact pl_cast h (by omega), hp, bes_lt he hp, by omega, by omega⟩
theorem lies_cells {g g' : Nat} {t : TypeId} {cs : List Value} (h : g' ≠ g) : ∀ (vs : List Value) (o : Nat) {w : World}, Lies w g t cs → Lies (w.setCells g' o vs) g t cs
  | [], o, w, k => k
  | v :: r, o, w, k => by
    rw [World.setCells]
    exact lies_cells h r (o + 1) (Lies.other k (p := ⟨g', o, none⟩) h v)
theorem below_cells {B g : Nat} (hg : B ≤ g) {w : World} : ∀ (vs : List Value) (o : Nat) {w' : World}, Below B w w' → Below B w (w'.setCells g o vs)
  | [], o, w', k => k
  | v :: r, o, w', k => by
    rw [World.setCells]
    exact below_cells hg r (o + 1) (Below.setCell k (p := ⟨g, o, none⟩) hg v)
theorem own_there {w : World} {B g n c o m : Nat} {fl : List Int} (k : OwnS w B (.slice (some ⟨g, 0, none⟩) n c) n fl) (h : o + m ≤ fl.length) : w.there g o m := fun j hj => ⟨by rw [k.cell (o + j) (by omega)]; rfl, k.frozen (o + j)⟩
theorem wp_slot {ops : Array Oper} {rest : List Oper} {o : Oper} {a : Act} {w : World} {Q : Exit → Act → World → Prop} {B g n c off : Nat} {fl l : List Int} (hgd : o.guard = none) (p x : Operand) (ho : o.op = .store 31 p x)
    (k : OwnS w B (.slice (some ⟨g, 0, none⟩) n c) n fl) (hl : l.length = 16) (hf : off + 16 ≤ fl.length) (hp : a.eval p = .pointer (some ⟨g, off, none⟩)) (hx : a.eval x = .agg (va l))
    (H : wpList Try.prog ops Q rest (a.put o.dst undef) (w.setCells g off (l.map (Value.int .u8)))) : wpList Try.prog ops Q (o :: rest) a w := by
  unfold va at hx
  refine wpList_store_mid (P := Try.prog) hgd 31 p x ho g off _ hp hx ?_ ?_ ?_ ?_
  · simpa [hl] using own_there k (m := 16) hf
  · have := info16 hl; simpa using this
  · exact all_oneCell_toArray ones
  · exact H
theorem prioW (l : List Int) (s : Int) (w : World) (hl : l.length = 16) (hs : l.getD 1 0 = s) (h0 : 0 ≤ s) (h1 : s < 193) : Calls Try.prog 36 #[.agg (va l)] w fun e w' => e = .returned (.int .i32 (stP.stT s)) ∧ Below w.heap.size w w' := prio_any l s w hl hs ⟨h0, by omega⟩
end Go.Proofs.Ytkklmclnjmafaaa.slW
