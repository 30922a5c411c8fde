/- Strings mixed into a row, by walks. -/
import Derived.Test.YtacllaeccdgnmaaPaW2
import Derived.StillTailTactics
namespace Go.Proofs.Ytacllaeccdgnmaa.paW
set_option maxRecDepth 100000
open Go.RowKit Go.Proofs.Ytacllaeccdgnmaa.base Go.Proofs.Ytacllaeccdgnmaa.paP
set_option linter.unusedVariables false
set_option linter.unusedSimpArgs false
set_option maxRecDepth 100000
set_option maxHeartbeats 2000000 in
/-- One string mixed in: w0 is the world in which the strings came in, and the row is younger. -/
theorem mix1 (P : Option Addr) (m d gl g n c i W : Nat) (rs : List R8) (zs s : List Int) (w0 w : World) (hr : RowsB w0 P m d rs) (hg : Lies w0 gl 22 [.slice P m d]) (hi : i < m) (hs : (rs.getD i r80).b = s)
    (acc : Below w0.heap.size w0 w) (ho : OwnI w w0.heap.size 5 .u8 (.slice (some ⟨g, 0, none⟩) n c) zs) (hz : zs.length = W + 2) (hn : n = W + 2) (hW : s.length ≤ W) (hW2 : W ≤ 5000) (bz : Byt zs) :
    Calls Try.prog 38 #[.slice (some ⟨g, 0, none⟩) n c, .int .i64 (i : Int), .pointer (some ⟨gl, 0, none⟩)] w fun e w' => e = .returned (.slice (some ⟨g, 0, none⟩) n c) ∧ OwnI w' w0.heap.size 5 .u8 (.slice (some ⟨g, 0, none⟩) n c) (mx zs (fr s W)) ∧ Below w0.heap.size w0 w' := by
  obtain ⟨b, off, rfl, hb, hc⟩ := rb_cell hr hi
  have hin := hr.h.get i (by rw [hr.l]; exact hi)
  have hcA := hc i hi
  obtain ⟨r, hrr⟩ : ∃ r, rs.getD i r80 = r := ⟨_, rfl⟩
  rw [hrr] at hcA hin hs
  obtain ⟨A, l, cc, bb⟩ := r
  have hsb : bb = s := hs
  subst hsb
  have hl : bb.length = l := hin.e
  have HIN := Lib.hid hin
  have HG := Lib.hid hg
  have HC := Lib.hid (And.intro hb hcA)
  have HA := Lib.hid acc
  have HZ := Lib.hid (And.intro hz (And.intro hn bz))
  have HW := Lib.hid (And.intro hl (And.intro hW hW2))
  have HO := Lib.hid ho
  have gB := ho.base_le
  have HGB := Lib.hid gB
  -- the facts of the world on entry
  have p0 : w.cell? ⟨gl, 0, none⟩ = some (.slice (some ⟨b, off, none⟩) m d) := (hg.past acc).one.1
  have p1 : w.cell? ⟨b, off + i, none⟩ = some (.slice A l cc) := by rw [acc.cell (p := ⟨b, off + i, none⟩) hb]; exact hcA
  have p2 := ho.cell 0 (by omega)
  have p3 := ho.frozen 0
  have z0 := byt_getD bz 0
  have z1 := byt_getD bz 1
  have ho1 := ho.store 0 (xo (zs.getD 0 0) ((l / 256 : Nat) : Int))
  have p4 := ho1.cell 1 (by rw [List.length_set]; omega)
  have p5 := ho1.frozen 1
  have e1 : (zs.set 0 (xo (zs.getD 0 0) ((l / 256 : Nat) : Int))).getD 1 0 = zs.getD 1 0 := by simp [List.getD_eq_getElem?_getD]
  rw [e1] at p4
  have ho2 := ho1.store 1 (xo (zs.getD 1 0) ((l % 256 : Nat) : Int))
  have e2 := mk_start bb hz bz.nn
  rw [hl] at e2
  rw [e2] at ho2
  have x0 : bits .xor .u8 (zs.getD 0 0) ((l / 256 : Nat) : Int) = xo (zs.getD 0 0) ((l / 256 : Nat) : Int) := xo_bits z0 (by omega)
  have x1 : bits .xor .u8 (zs.getD 1 0) ((l % 256 : Nat) : Int) = xo (zs.getD 1 0) ((l % 256 : Nat) : Int) := xo_bits z1 (by omega)
  have l1 : (l : Int) ≤ 5000 := by omega
  have l0 : 0 ≤ (l : Int) := by omega
  have n1 : (1 : Int) < n := by omega
  have n0 : (0 : Int) < n := by omega
  have n2 : (n : Int) ≤ 5002 := by omega
  have i1 : (i : Int) < m := by omega
  have i0 : 0 ≤ (i : Int) := by omega
  have v1 : IntKind.u8.wrap ((l : Int) / 256) = ((l / 256 : Nat) : Int) := by
    have : (l : Int) / 256 = ((l / 256 : Nat) : Int) := by omega
    rw [this]; exact IntWalk.u8_in _ (by omega)
  have v2 : IntKind.u8.wrap (l : Int) = ((l % 256 : Nat) : Int) := by
    show (l : Int) % 256 = _
    omega
  have HO2 := Lib.hid ho2
  generalize zs.getD 0 0 = za at *
  generalize zs.getD 1 0 = zb at *
  generalize ((l / 256 : Nat) : Int) = hi8 at *
  generalize ((l % 256 : Nat) : Int) = lo8 at *
  generalize xo za hi8 = xa at *
  generalize xo zb lo8 = xb at *
  clear hr hg hi acc ho hz hn hW hW2 bz hc hin hcA hl ho1 ho2 e1 e2 gB hrr hs hb
  go_enter Try.func38, Try.ntmps38
  go_wp2_with fail
  go_loopw [29] (fun i wr => ∃ q : Nat, q ≤ l ∧ i = .int .i64 (q : Int) ∧ OwnI wr w0.heap.size 5 .u8 (.slice (some ⟨g, 0, none⟩) n c) (mx zs (frK bb W q)) ∧ Below w0.heap.size w0 wr) (fun i _ => l - (intOf i).toNat)
  case atStart => exact ⟨0, Nat.zero_le _, rfl, HO2.out, Below.setCell (Below.setCell HA.out (by have := HGB.out; simp; omega) _) (by have := HGB.out; simp; omega) _⟩
  case round =>
    obtain ⟨q, hq, rfl, own, hacc⟩ := hrel
    have HOQ := Lib.hid own
    have HAQ := Lib.hid hacc
    by_cases hlt : q < l
    · obtain ⟨j, hj⟩ : ∃ j, 2 + q = j := ⟨_, rfl⟩
      have hbl : bb.length = l := HIN.out.e
      obtain ⟨b2, o2, rfl, hb2, hc2⟩ := has_some (zs := bb) HIN.out.h (by rw [hbl]; omega)
      have q3 : wr.cell? ⟨b2, o2 + q, none⟩ = some (.int .u8 (bb.getD q 0)) := by rw [hacc.cell (p := ⟨b2, o2 + q, none⟩) hb2]; exact hc2 q (by show q < bb.length; omega)
      have q0 : wr.cell? ⟨gl, 0, none⟩ = some (.slice (some ⟨b, off, none⟩) m d) := (HG.out.past hacc).one.1
      have q1 : wr.cell? ⟨b, off + i, none⟩ = some (.slice (some ⟨b2, o2, none⟩) l cc) := by rw [hacc.cell (p := ⟨b, off + i, none⟩) HC.out.1]; exact HC.out.2
      have hml : (mx zs (frK bb W q)).length = W + 2 := by rw [mx_len, frK_len HW.out.2.1 (by omega), HZ.out.1]; omega
      have q4 := own.cell j (by rw [hml]; have := HW.out; omega)
      have q5 := own.frozen j
      have mb : Byt (mx zs (frK bb W q)) := mx_byt HZ.out.2.2 (frK_byt HIN.out.b (by omega))
      have HS := Lib.hid (mk_step HZ.out.1 HZ.out.2.2.nn HW.out.2.1 (k := q) (by omega))
      rw [hj] at HS
      have x5 := xo_bits (byt_getD mb j) (byt_getD HIN.out.b q)
      have jw : IntKind.i64.wrap (2 + (q : Int)) = (j : Int) := by
        rw [show (2 : Int) + q = j by omega]; exact IntWalk.i64_in _ (by have := HW.out; omega)
      have j1 : (j : Int) < n := by have := HW.out; have := HZ.out.2.1; omega
      have j0 : 0 ≤ (j : Int) := by omega
      have qq1 : (q : Int) < l := by omega
      have qq0 : 0 ≤ (q : Int) := by omega
      have HLT := Lib.hid hlt
      generalize (mx zs (frK bb W q)).getD j 0 = va at *
      have e9 : (InR.b HIN.out) = HIN.out.b := rfl
      clear e9
      dsimp only at x5
      generalize bb.getD q 0 = ya at *
      clear own hacc hlt hq hc2 hb2 hml mb hj hbl
      go_wp2_with fail
      go_still_tail 14, (by kernel_rfl)
      go_wp2_with fail
      refine ⟨⟨q + 1, by have := HLT.out; omega, by go_num, ?_, ?_⟩, by simp [intOf]; have := HLT.out; omega⟩
      · rw [← HS.out]
        exact HOQ.out.store j _
      · exact (Below.setCell HAQ.out (p := ⟨g, j, none⟩) (by have := HGB.out; simp; omega) _).drew
    · obtain rfl : q = l := by omega
      have qq1 : ¬ (q : Int) < q := by omega
      have HE : Hid (frK bb W q = fr bb W) := Lib.hid (by rw [← frK_end, HW.out.1])
      clear own hacc hlt hq
      go_wp2_with fail
      go_ret
      exact ⟨rfl, by rw [← HE.out]; exact HOQ.out, HAQ.out⟩
end Go.Proofs.Ytacllaeccdgnmaa.paW
