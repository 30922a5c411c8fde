/- Filters: a byte moved to the front and its place, of the reference and of the library, by walks. -/
import Derived.Test.YtbfodmckgjeoaaaFiW8
namespace Go.Proofs.Ytbfodmckgjeoaaa.fiW
set_option maxRecDepth 100000
open Go.RowKit Go.Proofs.Ytbfodmckgjeoaaa.base Go.Proofs.Ytbfodmckgjeoaaa.fiP
set_option linter.unusedVariables false
set_option linter.unusedSimpArgs false
theorem own_cap {w : World} {B : Nat} {e : TypeId} {k : IntKind} {A : Option Addr} {n cap : Nat} {zs : List Int} (h : OwnI w B e k (.slice A n cap) zs) : n ≤ cap ∧ cap ≤ 9223372036854775807 := by
  rcases h.2 with ⟨h', h0⟩ | ⟨g, cap', cur, h', hb, hg, h1, h2, _⟩
  · injection h' with _ h2 h3
    omega
  · injection h' with _ h3 h4
    subst h3 h4
    unfold maxLen at h2
    exact ⟨h1, by omega⟩
theorem mv_parts {l : List Int} {i : Nat} : [l.getD i 0] ++ l.take i ++ l.drop (i + 1) = mv l i := by simp [mv]
set_option maxRecDepth 100000 in
set_option maxHeartbeats 1000000 in
theorem rMoved (l : List Int) (A : Option Addr) (c i B : Nat) (w : World) (h : OwnI w B 5 .u8 (.slice A 256 c) l) (hl : l.length = 256) (hi : i < 256) :
    Calls Try.prog 52 #[.slice A 256 c, .int .i64 (i : Int)] w fun e w' => ∃ A' c', e = .returned (.slice A' 256 c') ∧ OwnI w' w.heap.size 5 .u8 (.slice A' 256 c') (mv l i) ∧ Below w.heap.size w w' := by
  obtain ⟨g, rfl, hg0, hg1, -⟩ := h.form (by intro e; rw [e] at hl; simp at hl)
  obtain ⟨c1, c2⟩ := own_cap h
  have HO := Lib.hid h
  have HL := Lib.hid hl
  have HI := Lib.hid hi
  have i1 : (i : Int) < 256 := by omega
  have i2 : i < 256 := hi
  have i4 : (i : Int) ≤ c := by omega
  have i6 : (i : Int) + 1 ≤ 256 := by omega
  have i7 : i + 1 ≤ 256 := by omega
  have i8 : i ≤ c := by omega
  have w1 : IntKind.i64.wrap ((i : Int) + 1) = (i : Int) + 1 := IntWalk.i64_in _ (by omega)
  have w2 : ((i : Int) + 1).toNat = i + 1 := by omega
  have w3 : (0 : Int) ≤ (i : Int) + 1 := by omega
  have p1 := h.cell i (by rw [hl]; exact hi)
  have HG := Lib.hid hg1
  have HM := Lib.hid (mv_parts (l := l) (i := i))
  have HD := Lib.hid (h.has.cut (n := i + 1) (cap := c) (by rw [hl]; omega) (by rw [hl]; omega))
  have HT := Lib.hid (h.has.front i)
  have HA' : Hid (Has .u8 w (if c = i + 1 then some (⟨g, 0, none⟩ : Addr) else some ⟨g, i + 1, none⟩) (l.drop (i + 1))) := Lib.hid (by
    have := HD.out
    simpa [addr_add] using this)
  have LT : Hid ((l.take i).length = i) := Lib.hid (by rw [List.length_take, hl]; omega)
  have LD : Hid ((l.drop (i + 1)).length = 256 - (i + 1)) := Lib.hid (by rw [List.length_drop, hl])
  generalize l.getD i 0 = x at *
  generalize l.take i = l1 at *
  generalize l.drop (i + 1) = l2 at *
  have P1 := Lib.hid p1
  clear h hl hi p1 hg0 hg1 HD
  go_enter Try.func52, Try.ntmps52
  go_wp2_with fail
  (have RD := drawn_roads (S := fun x' => Below w.heap.size w x') (fun _ n h => below_drewN h n)); refine region_ord _ Drawn RD (Below.drew (Below.refl _ _)) (by kernel_rfl) ?_; intro ops Q' hops hPQ hN; (have HNS : Hid (Region.noSelect ops = true) := Lib.hid (by rw [hops]; kernel_rfl)); (have hsz : ops.size = 15 := (by rw [hops]; rfl)); have HOP := Lib.hid hops; have HPQ := Lib.hid hPQ; have HN := Lib.hid hN; rw [hsz]; clear hops hsz hPQ hN
  refine ord_take RD 0 (at_list (by rw [HOP.out]; rfl)) HNS.out HPQ.out (by rw [HOP.out]; kernel_rfl) (by rw [HOP.out]; kernel_rfl) (by rw [HOP.out]; rfl) (fun K hK => ?_); apply Exists.intro; refine ⟨fun W hSW => ?_, hK _ ?_⟩; (focus ((try dsimp only at hSW); go_simp; try with_reducible rfl)); clear hK K; (try simp only [Act.put, List.setIfInBounds_toArray, List.set_cons_zero, List.set_cons_succ])
  refine ord_take RD 1 (at_list (by rw [HOP.out]; rfl)) HNS.out HPQ.out (by rw [HOP.out]; kernel_rfl) (by rw [HOP.out]; kernel_rfl) (by rw [HOP.out]; rfl) (fun K hK => ?_); apply Exists.intro; refine ⟨fun W hSW => ?_, hK _ ?_⟩; (focus ((try dsimp only at hSW); go_simp; try with_reducible rfl)); clear hK K; (try simp only [Act.put, List.setIfInBounds_toArray, List.set_cons_zero, List.set_cons_succ])
  refine ord_take RD 2 (at_list (by rw [HOP.out]; rfl)) HNS.out HPQ.out (by rw [HOP.out]; kernel_rfl) (by rw [HOP.out]; kernel_rfl) (by rw [HOP.out]; rfl) (fun K hK => ?_); apply Exists.intro; refine ⟨fun W hSW => ?_, hK _ ?_⟩; (focus ((try dsimp only at hSW); go_simp; try with_reducible rfl)); clear hK K; (try simp only [Act.put, List.setIfInBounds_toArray, List.set_cons_zero, List.set_cons_succ])
  refine ord_take RD 3 (at_list (by rw [HOP.out]; rfl)) HNS.out HPQ.out (by rw [HOP.out]; kernel_rfl) (by rw [HOP.out]; kernel_rfl) (by rw [HOP.out]; rfl) (fun K hK => ?_); apply Exists.intro; refine ⟨fun W hSW => ?_, hK _ ?_⟩; (focus ((try dsimp only at hSW); have p1 : W.cell? ⟨g, i, none⟩ = some (.int .u8 x) := (by rw [hSW.cell (p := ⟨g, i, none⟩) HG.out]; exact P1.out); go_simp; try with_reducible rfl)); clear hK K; (try simp only [Act.put, List.setIfInBounds_toArray, List.set_cons_zero, List.set_cons_succ])
  refine ord_take RD 5 (at_list (by rw [HOP.out]; rfl)) HNS.out HPQ.out (by rw [HOP.out]; kernel_rfl) (by rw [HOP.out]; kernel_rfl) (by rw [HOP.out]; rfl) (fun K hK => ?_); apply Exists.intro; refine ⟨fun W hSW => ?_, hK _ ?_⟩; (focus ((try dsimp only at hSW); go_simp; try with_reducible rfl)); clear hK K; (try simp only [Act.put, List.setIfInBounds_toArray, List.set_cons_zero, List.set_cons_succ])
  refine ord_take RD 6 (at_list (by rw [HOP.out]; rfl)) HNS.out HPQ.out (by rw [HOP.out]; kernel_rfl) (by rw [HOP.out]; kernel_rfl) (by rw [HOP.out]; rfl) (fun K hK => ?_); apply Exists.intro; refine ⟨fun W hSW => ?_, hK _ ?_⟩; (focus ((try dsimp only at hSW); go_simp; try with_reducible rfl)); clear hK K; (try simp only [Act.put, List.setIfInBounds_toArray, List.set_cons_zero, List.set_cons_succ])
  refine ord_take RD 7 (at_list (by rw [HOP.out]; rfl)) HNS.out HPQ.out (by rw [HOP.out]; kernel_rfl) (by rw [HOP.out]; kernel_rfl) (by rw [HOP.out]; rfl) (fun K hK => ?_); apply Exists.intro; refine ⟨fun W hSW => ?_, hK _ ?_⟩; (focus ((try dsimp only at hSW); go_simp; try with_reducible rfl)); clear hK K; (try simp only [Act.put, List.setIfInBounds_toArray, List.set_cons_zero, List.set_cons_succ])
  refine ord_take RD 9 (at_list (by rw [HOP.out]; rfl)) HNS.out HPQ.out (by rw [HOP.out]; kernel_rfl) (by rw [HOP.out]; kernel_rfl) (by rw [HOP.out]; rfl) (fun K hK => ?_); apply Exists.intro; refine ⟨fun W hSW => ?_, hK _ ?_⟩; (focus ((try dsimp only at hSW); go_simp; try with_reducible rfl)); clear hK K; (try simp only [Act.put, List.setIfInBounds_toArray, List.set_cons_zero, List.set_cons_succ])
  refine ord_take RD 10 (at_list (by rw [HOP.out]; rfl)) HNS.out HPQ.out (by rw [HOP.out]; kernel_rfl) (by rw [HOP.out]; kernel_rfl) (by rw [HOP.out]; rfl) (fun K hK => ?_); apply Exists.intro; refine ⟨fun W hSW => ?_, hK _ ?_⟩; (focus ((try dsimp only at hSW); go_simp; try with_reducible rfl)); clear hK K; (try simp only [Act.put, List.setIfInBounds_toArray, List.set_cons_zero, List.set_cons_succ])
  refine ord_take RD 11 (at_list (by rw [HOP.out]; rfl)) HNS.out HPQ.out (by rw [HOP.out]; kernel_rfl) (by rw [HOP.out]; kernel_rfl) (by rw [HOP.out]; rfl) (fun K hK => ?_); apply Exists.intro; refine ⟨fun W hSW => ?_, hK _ ?_⟩; (focus ((try dsimp only at hSW); go_simp; try with_reducible rfl)); clear hK K; (try simp only [Act.put, List.setIfInBounds_toArray, List.set_cons_zero, List.set_cons_succ])
  refine ord_take RD 12 (at_list (by rw [HOP.out]; rfl)) HNS.out HPQ.out (by rw [HOP.out]; kernel_rfl) (by rw [HOP.out]; kernel_rfl) (by rw [HOP.out]; rfl) (fun K hK => ?_); apply Exists.intro; refine ⟨fun W hSW => ?_, hK _ ?_⟩; (focus ((try dsimp only at hSW); go_simp; try with_reducible rfl)); clear hK K; (try simp only [Act.put, List.setIfInBounds_toArray, List.set_cons_zero, List.set_cons_succ])
  refine ord_one RD 4 (by rw [HOP.out]; kernel_rfl) (at_list (by rw [HOP.out]; rfl)) (by rw [HOP.out]; rfl) (fun W1 hWW hSW K hK => ?_); (try dsimp only at hSW)
  go_simp
  have HS1 := Lib.hid hSW
  refine hK _ _ (HS1.out.alloc HS1.out.size _) ?_
  clear hK K; (try simp only [Act.put, List.setIfInBounds_toArray, List.set_cons_zero, List.set_cons_succ])
  refine ord_one RD 8 (by rw [HOP.out]; kernel_rfl) (at_list (by rw [HOP.out]; rfl)) (by rw [HOP.out]; rfl) (fun W2 hWW hSW K hK => ?_); (try dsimp only at hSW)
  have HL1 : Hid (OwnI W2 w.heap.size 5 .u8 (.slice (some ⟨W1.heap.size, 0, none⟩) 1 1) [x]) := Lib.hid (by
    obtain ⟨nn, rfl⟩ := hWW
    exact OwnI.lit W1 5 .u8 [x] w.heap.size HS1.out.size (by simp [maxLen]))
  have HS2 := Lib.hid hSW
  clear hWW hSW
  refine wp_app8 rfl _ _ rfl w.heap.size _ [x] rfl HL1.out (some ⟨g, 0, none⟩) i c l1 rfl LT.out (HT.out.below HS2.out (Nat.le_refl _)) (1 + i) (by simp) (by omega) HS2.out.size ?_
  intro A4 c4 w4 o4 g4 b4
  have HO4 := Lib.hid o4
  have HS4 := Lib.hid (HS2.out.trans (b4.mono (Nat.le_refl _)))
  refine hK _ _ HS4.out ?_
  clear o4 g4 b4
  clear hK K; (try simp only [Act.put, List.setIfInBounds_toArray, List.set_cons_zero, List.set_cons_succ])
  refine ord_one RD 13 (by rw [HOP.out]; kernel_rfl) (at_list (by rw [HOP.out]; rfl)) (by rw [HOP.out]; rfl) (fun W3 hWW hSW K hK => ?_); (try dsimp only at hSW)
  have HL3 : Hid (OwnI W3 w.heap.size 5 .u8 (.slice A4 (1 + i) c4) ([x] ++ l1)) := Lib.hid (by
    obtain ⟨nn, rfl⟩ := hWW
    exact HO4.out.below (below_drewN (Below.refl _ _) _) (Nat.le_refl _))
  have HS3 := Lib.hid hSW
  clear hWW hSW
  refine wp_app8 rfl _ _ rfl w.heap.size _ ([x] ++ l1) rfl HL3.out _ (255 - i) _ l2 rfl (by rw [LD.out]; omega) (HA'.out.below HS3.out (Nat.le_refl _)) 256 (by rw [List.length_append, LT.out]; simp; omega) (by omega) HS3.out.size ?_
  intro A5 c5 w5 o5 g5 b5
  have HO5 := Lib.hid o5
  have HS5 := Lib.hid (HS3.out.trans (b5.mono (Nat.le_refl _)))
  refine hK _ _ HS5.out ?_
  clear o5 g5 b5
  clear hK K; (try simp only [Act.put, List.setIfInBounds_toArray, List.set_cons_zero, List.set_cons_succ])
  refine ord_take RD 14 (at_list (by rw [HOP.out]; rfl)) HNS.out HPQ.out (by rw [HOP.out]; kernel_rfl) (by rw [HOP.out]; kernel_rfl) (by rw [HOP.out]; rfl) (fun K hK => ?_); apply Exists.intro; refine ⟨fun W hSW => ?_, hK _ ?_⟩; (focus ((try dsimp only at hSW); go_simp; try with_reducible rfl)); clear hK K; (try simp only [Act.put, List.setIfInBounds_toArray, List.set_cons_zero, List.set_cons_succ])
  refine ord_done (by rw [HOP.out]; kernel_rfl) (fun W6 hWW hSW => HN.out _ _ ?_); clear HOP HNS HPQ HN RD; (try dsimp only at hSW)
  obtain ⟨nn, rfl⟩ := hWW
  go_wp2_with fail
  all_goals
    go_ret
    exact ⟨A5, c5, rfl, by have := HO5.out; rw [HM.out] at this; exact this.below (below_drewN (Below.refl _ _) _) (Nat.le_refl _), hSW⟩
theorem indexByte_ix : ∀ {l : List Int} {c : Int}, (∀ z ∈ l, 0 ≤ z ∧ z ≤ 255) → 0 ≤ c → c ≤ 255 → c ∈ l → Lib.indexByte (Lib.bytesOf l) c.toNat.toUInt8 = (ix l c : Int)
  | [], c, _, _, _, h => by simp at h
  | z :: r, c, hb, h0, h1, h => by
    have hz := hb z (by simp)
    have e : (UInt8.ofNat z.toNat == c.toNat.toUInt8) = decide (z = c) := by
      by_cases hzc : z = c
      · subst hzc; simp
      · have : ¬ UInt8.ofNat z.toNat = c.toNat.toUInt8 := by
          intro hh
          have := congrArg UInt8.toNat hh
          simp at this
          omega
        simp [hzc, this]
    show Lib.indexByte (UInt8.ofNat z.toNat :: Lib.bytesOf r) _ = _
    unfold Lib.indexByte ix
    rw [e]
    by_cases hzc : z = c
    · simp [hzc]
    · have hr : c ∈ r := by
        rcases List.mem_cons.1 h with h | h
        · exact absurd h.symm hzc
        · exact h
      have := indexByte_ix (fun z hz => hb z (by simp [hz])) h0 h1 hr
      rw [this]
      have e1 : ((ix r c : Int) == -1) = false := by simp
      simp [hzc, e1]
theorem run_indexByteSlice_at {w : World} {b off : Nat} {l : List Int} {x : Int} (hc : ∀ i, i < l.length → w.cell? ⟨b, off + i, none⟩ = some (.int .u8 (l.getD i 0))) (hl : Full l) (x0 : 0 ≤ x) (x1 : x ≤ 255) (c : Nat) :
    (Extern.BytealgIndexByte.indexByte #[.slice (some ⟨b, off, none⟩) 256 c, .int .u8 x]).run Try.prog w = .ok (.int .i64 (ix l x : Nat)) w := by
  rw [Lib.run_indexByteSlice (P := Try.prog) w b off 256 c l hl.len (fun i hi => hc i (by rw [hl.len]; exact hi)) x, indexByte_ix (fun z hz => (hl.all z).1 hz) x0 x1 ((hl.all x).2 ⟨x0, x1⟩)]
set_option maxHeartbeats 400000 in
theorem IndexByte_any (l : List Int) (A : Option Addr) (c : Nat) (x : Int) (w : World) (h : Has .u8 w A l) (hl : Full l) (x0 : 0 ≤ x) (x1 : x ≤ 255) :
    Calls Try.prog 39 #[.slice A 256 c, .int .u8 x] w fun e w' => e = .returned (.int .i64 (ix l x : Nat)) ∧ w' = w := by
  obtain ⟨b, off, rfl, hb, hc⟩ := has_some h (by rw [hl.len]; omega)
  have HC := Lib.hid (run_indexByteSlice_at hc hl x0 x1)
  clear hc h
  go_enter Try.func39, Try.ntmps39
  go_wp2
  rw [run_callFunc_extern Try.func50 (by kernel_rfl) (by kernel_rfl) (by kernel_rfl) (e := Extern.BytealgIndexByte.indexByte) (by kernel_rfl), HC.out c]
  simp only [Result.andThen]
  rw [Oper.upon_value]
  go_wp2
  go_ret
  exact ⟨rfl, rfl⟩
end Go.Proofs.Ytbfodmckgjeoaaa.fiW
