/- bytes.Repeat of one byte; bytes.Equal, by walks. -/
import Derived.Test.YtbfodmckgjeoaaaFiWB
import Derived.Lib.MakeNoZero
import Derived.Test.YtbfodmckgjeoaaaStr
import Derived.Test.YtbfodmckgjeoaaaBits
import Derived.Deep.Cut
import Derived.Deep.DeepCutAuto
import Derived.Deep.DeepMust
namespace Go.Proofs.Ytbfodmckgjeoaaa.fiW
set_option maxRecDepth 100000
open Go.RowKit Go.Proofs.Ytbfodmckgjeoaaa.base Go.Proofs.Ytbfodmckgjeoaaa.fiP
set_option linter.unusedVariables false
set_option linter.unusedSimpArgs false
set_option maxRecDepth 100000
theorem and_low (n : Nat) (hn : n ≤ 8192) : bits .and .u64 (n : Int) 4294967295 = (n : Int) := by
  show IntKind.u64.wrap (((BitVec.ofInt 64 (n : Int)) &&& (BitVec.ofInt 64 (2 ^ 32 - 1))).toNat : Int) = _
  rw [mask_toNat 64 n 32 (by omega)]
  have e : (n : Int) % 2 ^ 32 = n := by
    have : (2 : Int) ^ 32 = 4294967296 := by decide
    rw [this]; omega
  rw [e]
  exact IntWalk.u64_in _ (by omega)
set_option maxHeartbeats 400000 in
theorem Mul64_one (n : Nat) (hn : n ≤ 8192) (w : World) : Calls Try.prog 57 #[.int .u64 1, .int .u64 (n : Int)] w fun e w' => e = .returned (.tuple #[.int .u64 0, .int .u64 (n : Int)]) ∧ w' = w := by
  have n1 : (n : Int) ≤ 8192 := by omega
  have n2 : 0 ≤ (n : Int) := by omega
  have a1 : bits .and .u64 1 4294967295 = 1 := by decide
  have a0 : bits .and .u64 0 4294967295 = 0 := by decide
  have an : bits .and .u64 (n : Int) 4294967295 = n := and_low n hn
  have d1 : (n : Int) / 4294967296 = 0 := by omega
  have w1 : IntKind.u64.wrap (n : Int) = n := IntWalk.u64_in _ (by omega)
  go_enter Try.func57, Try.ntmps57
  go_wp2_with fail
  go_ret2
  exact ⟨rfl, rfl⟩
set_option maxHeartbeats 400000 in
theorem Mul_one (n : Nat) (hn : n ≤ 8192) (w : World) : Calls Try.prog 54 #[.int .u64 1, .int .u64 (n : Int)] w fun e w' => e = .returned (.tuple #[.int .u64 0, .int .u64 (n : Int)]) ∧ w' = w := by
  go_enter Try.func54, Try.ntmps54
  go_wp2_with (first | (go_at_call 57; refine (Mul64_one n hn _).mono ?_; rintro e w' ⟨rfl, rfl⟩))
  go_ret2
  exact ⟨rfl, rfl⟩
set_option maxHeartbeats 400000 in
theorem Equal_any (A B : Option Addr) (n m c d : Nat) (xs ys : List Int) (w : World) (hA : Has .u8 w A xs) (eA : xs.length = n) (hB : Has .u8 w B ys) (eB : ys.length = m) (bx : Byt xs) (by_ : Byt ys) :
    Calls Try.prog 45 #[.slice A n c, .slice B m d] w fun e w' => e = .returned (.bool (decide (xs = ys))) ∧ w' = w := by
  have h1 := conv8 (c := c) hA eA
  have h2 := conv8 (c := d) hB eB
  go_enter Try.func45, Try.ntmps45
  go_wp2_with fail
  go_ret
  refine ⟨?_, rfl⟩
  show Ending.returned (.bool ((bstr xs).toList == (bstr ys).toList)) = _
  rw [bstr_beq bx by_]
/-- A block whose first cells are the byte x, as far as p. -/
def Run (w : World) (g p : Nat) (x : Int) (cur : List Value) : Prop := w.heap[g]? = some (.cells cur.toArray 5 (0, 0)) ∧ cur.take p = List.replicate p (.int .u8 x)
theorem run_more {cur : List Value} {p q : Nat} {v : Value} (h : cur.take p = List.replicate p v) (hpq : p + q ≤ cur.length) : (splice cur p (List.replicate q v)).take (p + q) = List.replicate (p + q) v := by
  unfold splice
  rw [h, ← List.append_assoc, List.replicate_append_replicate]
  exact List.take_left' (by simp)
theorem has_run {w : World} {g p : Nat} {x : Int} {cur : List Value} (h : Run w g p x cur) (hp : p ≤ cur.length) : Has .u8 w (some ⟨g, 0, none⟩) (List.replicate p x) := by
  refine .inr ⟨g, 0, rfl, lt_of_block h.1, fun i hi => ?_⟩
  have hi2 : i < p := by simpa using hi
  have e : (List.replicate p x).getD i 0 = x := by simp [List.getD_eq_getElem?_getD, hi2]
  rw [e, Nat.zero_add]
  have h1 : (cur.take p)[i]? = cur[i]? := by rw [List.getElem?_take, if_pos hi2]
  have h2 : cur[i]? = some (.int .u8 x) := by rw [← h1, h.2]; simp [hi2]
  have hb := h.1
  simp [World.cell?, hb, h2]
theorem Run.past {w w' : World} {g p : Nat} {x : Int} {cur : List Value} (h : Run w g p x cur) (hb : Below w.heap.size w w') : Run w' g p x cur := ⟨by rw [hb.block g (lt_of_block h.1)]; exact h.1, h.2⟩
theorem one_cell {w : World} {b o : Nat} {v : Value} (h : w.cell? ⟨b, o, none⟩ = some v) : ∀ (j : Nat) u, [v][j]? = some u → w.cell? ((⟨b, o, none⟩ : Addr).add j) = some u := by
  intro j u hu
  match j with
  | 0 => simp at hu; subst hu; rw [addr_add]; exact h
  | j + 1 => simp at hu
theorem wp_splice {w : World} {o : Oper} {a : Act} {K : Act → World → Prop} {Q : Exit → Act → World → Prop} (hgd : o.guard = none) (d s : Operand)
    (ho : o.op = .call { callee := .builtin .copy, args := #[d, s], argTypes := #[24, 24] })
    (dp sp : Option Addr) (dLen dCap sLen sCap : Nat) (hd : a.eval d = .slice dp dLen dCap) (hs : a.eval s = .slice sp sLen sCap)
    (g off : Nat) (cur : List Value) (t : TypeId) (hg : w.heap[g]? = some (.cells cur.toArray t (0, 0))) (cs : List Value) (hn : cs.length = Nat.min sLen dLen)
    (hpos : 0 < cs.length → dp = some ⟨g, off, none⟩ ∧ ∃ ad, sp = some ad ∧ ∀ (j : Nat) v, cs[j]? = some v → w.cell? (ad.add j) = some v)
    (hfit : off + cs.length ≤ cur.length) (h1 : ∀ v ∈ cs, v.oneCell' = true) (B : Nat) (w0 : World) (hb : Below B w0 w) (hBg : B ≤ g)
    (h : ∀ w', Hid (w'.heap[g]? = some (.cells (splice cur off cs).toArray t (0, 0))) → Below B w0 w' → K (a.put o.dst (goInt cs.length)) w') : Oper.wp Try.prog o a w K Q := by
  have hsz : (Try.prog.info? 5).map (·.size) = some 1 := by obtain ⟨i, hi, -, h1, -⟩ := info8; rw [hi]; exact congrArg some h1
  have := step_copy_splice (P := Try.prog) (E := True) (ops := #[]) (K := K) (Q := Q) hgd d s _ _ ho 5 Try.underlying24 hsz dp sp dLen dCap sLen sCap hd hs g off cur t hg cs hn hpos hfit h1 B w0 hb hBg h
  rwa [if_pos (by simp [Region.wanted, hgd])] at this
set_option maxHeartbeats 1000000 in
theorem Repeat_one (b o c n : Nat) (x : Int) (w : World) (hx : w.cell? ⟨b, o, none⟩ = some (.int .u8 x)) (h1 : 1 ≤ n) (h2 : n ≤ 8192) :
    Calls Try.prog 44 #[.slice (some ⟨b, o, none⟩) 1 c, .int .i64 (n : Int)] w fun e w' => ∃ A', e = .returned (.slice A' n n) ∧ Has .u8 w' A' (List.replicate n x) ∧ Below w.heap.size w w' := by
  have n1 : (1 : Int) ≤ n := by omega
  have n2 : (n : Int) ≤ 8192 := by omega
  have n0 : ¬ (n : Int) = 0 := by omega
  have n3 : ((n : Int) == 0) = false := by simpa using n0
  have w1 : IntKind.u64.wrap (n : Int) = n := IntWalk.u64_in _ (by omega)
  have w2 : IntKind.i64.wrap (n : Int) = n := IntWalk.i64_in _ (by omega)
  have HX := Lib.hid hx
  have HN := Lib.hid (And.intro h1 h2)
  clear hx h1 h2
  go_enter Try.func44, Try.ntmps44
  go_upto_region 5 with fail
  go_wp2_with (first | (go_at_call 54; refine (Mul_one n HN.out.2 _).mono ?_; rintro e w' ⟨rfl, rfl⟩))
  obtain ⟨cs, hrun, hle, hmx⟩ := Lib.run_makeNoZero (P := Try.prog) w' #[3] 24 5 Try.underlying24 n (by omega)
  rw [run_callFunc_extern Try.func55 (by kernel_rfl) (by kernel_rfl) (by kernel_rfl) (e := Extern.BytealgMakeNoZero.makeNoZero #[3] #[24]) (by kernel_rfl), hrun]
  simp only [Result.andThen]
  rw [Oper.upon_value]
  have HS : Hid (cs.toList.length = cs.size) := Lib.hid (by simp)
  have HG0 : Hid ((w'.drew.drew.alloc (.cells cs 5)).heap[w'.heap.size]? = some (.cells cs.toList.toArray 5 (0, 0))) := Lib.hid (by simpa using heap_alloc_new w'.drew.drew (.cells cs 5))
  have HB0 : Hid (Below w'.heap.size w' (w'.drew.drew.alloc (.cells cs 5))) := Lib.hid (((Below.refl _ _).drew.drew).alloc (Nat.le_refl _) _)
  have HX0 : Hid ((w'.drew.drew.alloc (.cells cs 5)).cell? ⟨b, o, none⟩ = some (.int .u8 x)) := Lib.hid (by rw [HB0.out.cell (p := ⟨b, o, none⟩) (lt_of_cell HX.out)]; exact HX.out)
  have hsz : (Try.prog.info? 5).map (·.size) = some 1 := by obtain ⟨i, hi, -, h1, -⟩ := info8; rw [hi]; exact congrArg some h1
  have HZ := Lib.hid hsz
  have l1 : (n : Int) ≤ cs.size := by omega
  have HLE := Lib.hid hle
  clear hrun hmx hsz
  generalize w'.drew.drew.alloc (.cells cs 5) = w0 at *
  generalize cs.toList = cur at *
  generalize cs.size = M at *
  obtain ⟨g, hg⟩ : ∃ g, w'.heap.size = g := ⟨_, rfl⟩
  have HGG := Lib.hid hg
  rw [hg] at HG0 HB0 ⊢
  clear hg
  go_wp2_with ((show wpList _ _ _ ({ dst := _, op := Op.call { callee := Callee.builtin Builtin.copy, args := _, argTypes := _ }, type := _, pos := _, after := _, guard := _ } :: _) _ _); go_loud (refine wpList_copy_splice rfl _ _ _ _ rfl 5 Try.underlying24 HZ.out _ _ _ _ _ _ rfl rfl g 0 cur 5 HG0.out [.int .u8 x] (by have := HN.out; simp [Nat.min_def]; omega) (fun _ => ⟨rfl, _, rfl, one_cell HX0.out⟩) (by simp; have := HN.out; have := HS.out; have := HLE.out; omega) (by simp [Value.oneCell']) g w' HB0.out (Nat.le_refl _) ?_); intro w2 hg2 hb2)
  have HR : Hid (Run w2 g 1 x (splice cur 0 [.int .u8 x]) ∧ (splice cur 0 [.int .u8 x]).length = M) := Lib.hid ⟨⟨hg2.out, by have := HN.out; have := HS.out; have := HLE.out; match cur, HS.out with | [], h => simp at h; omega | v :: r, _ => rfl⟩, by rw [length_splice _ _ _ (by simp; have := HN.out; have := HS.out; have := HLE.out; omega), HS.out]⟩
  have HB2 := Lib.hid hb2
  clear hg2 hb2
  go_loopw [10] (fun v wr => ∃ (p : Nat) (cu : List Value), 1 ≤ p ∧ p ≤ n ∧ v = .int .i64 p ∧ cu.length = M ∧ Run wr g p x cu ∧ Below g w' wr) (fun v _ => n - (intOf v).toNat)
  case atStart => exact ⟨1, _, Nat.le_refl _, HN.out.1, rfl, HR.out.2, HR.out.1, HB2.out⟩
  case round =>
    obtain ⟨p, cu, hp1, hpn, rfl, hM, hR, hB⟩ := hrel
    have HP := Lib.hid (And.intro hp1 hpn)
    have HM := Lib.hid hM
    have HRR := Lib.hid hR
    have HBB := Lib.hid hB
    by_cases hlt : p < n
    · have p1 : (p : Int) < n := by omega
      have p2 : p < n := hlt
      have p3 : (p : Int) ≤ n := by omega
      have p4 : p ≤ n := hpn
      have p5 : min (p : Int) n = p := by omega
      have p6 : ¬ n = p := by omega
      have p7 : ¬ (n : Int) < p := by omega
      have HLT := Lib.hid hlt
      clear hp1 hpn hM hR hB hlt
      go_upto_region 20 with fail
      (have RD := drawn_roads (S := fun _ => True) (fun _ _ h => h)); refine region_ord _ Drawn RD trivial (by kernel_rfl) ?_; intro ops Q' hops hPQ hN; (have HNS : Hid (Region.noSelect ops = true) := Lib.hid (by rw [hops]; kernel_rfl)); (have hsz : ops.size = 10 := (by rw [hops]; rfl)); have HOP := Lib.hid hops; have HPQ := Lib.hid hPQ; have HN := Lib.hid hN; rw [hsz]; clear hops hsz hPQ hN
      refine ord_take RD 0 (at_list (by rw [HOP.out]; rfl)) HNS.out HPQ.out (by rw [HOP.out]; kernel_rfl) (by rw [HOP.out]; kernel_rfl) (by rw [HOP.out]; rfl) (fun K hK => ?_); apply Exists.intro; refine ⟨fun W hSW => ?_, hK _ ?_⟩; (focus ((try dsimp only at hSW); go_simp; try with_reducible rfl)); clear hK K; (try simp only [Act.put, List.setIfInBounds_toArray, List.set_cons_zero, List.set_cons_succ])
      refine ord_take RD 1 (at_list (by rw [HOP.out]; rfl)) HNS.out HPQ.out (by rw [HOP.out]; kernel_rfl) (by rw [HOP.out]; kernel_rfl) (by rw [HOP.out]; rfl) (fun K hK => ?_); apply Exists.intro; refine ⟨fun W hSW => ?_, hK _ ?_⟩; (focus ((try dsimp only at hSW); go_simp; try with_reducible rfl)); clear hK K; (try simp only [Act.put, List.setIfInBounds_toArray, List.set_cons_zero, List.set_cons_succ])
      refine ord_take RD 2 (at_list (by rw [HOP.out]; rfl)) HNS.out HPQ.out (by rw [HOP.out]; kernel_rfl) (by rw [HOP.out]; kernel_rfl) (by rw [HOP.out]; rfl) (fun K hK => ?_); apply Exists.intro; refine ⟨fun W hSW => ?_, hK _ ?_⟩; (focus ((try dsimp only at hSW); go_simp; try with_reducible rfl)); clear hK K; (try simp only [Act.put, List.setIfInBounds_toArray, List.set_cons_zero, List.set_cons_succ])
      refine ord_take RD 3 (at_list (by rw [HOP.out]; rfl)) HNS.out HPQ.out (by rw [HOP.out]; kernel_rfl) (by rw [HOP.out]; kernel_rfl) (by rw [HOP.out]; rfl) (fun K hK => ?_); apply Exists.intro; refine ⟨fun W hSW => ?_, hK _ ?_⟩; (focus ((try dsimp only at hSW); go_simp; try with_reducible rfl)); clear hK K; (try simp only [Act.put, List.setIfInBounds_toArray, List.set_cons_zero, List.set_cons_succ])
      refine ord_take RD 4 (at_list (by rw [HOP.out]; rfl)) HNS.out HPQ.out (by rw [HOP.out]; kernel_rfl) (by rw [HOP.out]; kernel_rfl) (by rw [HOP.out]; rfl) (fun K hK => ?_); apply Exists.intro; refine ⟨fun W hSW => ?_, hK _ ?_⟩; (focus ((try dsimp only at hSW); go_simp; try with_reducible rfl)); clear hK K; (try simp only [Act.put, List.setIfInBounds_toArray, List.set_cons_zero, List.set_cons_succ])
      refine ord_take RD 5 (at_list (by rw [HOP.out]; rfl)) HNS.out HPQ.out (by rw [HOP.out]; kernel_rfl) (by rw [HOP.out]; kernel_rfl) (by rw [HOP.out]; rfl) (fun K hK => ?_); apply Exists.intro; refine ⟨fun W hSW => ?_, hK _ ?_⟩; (focus ((try dsimp only at hSW); go_simp; try with_reducible rfl)); clear hK K; (try simp only [Act.put, List.setIfInBounds_toArray, List.set_cons_zero, List.set_cons_succ])
      refine ord_take RD 6 (at_list (by rw [HOP.out]; rfl)) HNS.out HPQ.out (by rw [HOP.out]; kernel_rfl) (by rw [HOP.out]; kernel_rfl) (by rw [HOP.out]; rfl) (fun K hK => ?_); apply Exists.intro; refine ⟨fun W hSW => ?_, hK _ ?_⟩; (focus ((try dsimp only at hSW); go_simp; try with_reducible rfl)); clear hK K; (try simp only [Act.put, List.setIfInBounds_toArray, List.set_cons_zero, List.set_cons_succ])
      refine ord_one RD 7 (by rw [HOP.out]; kernel_rfl) (at_list (by rw [HOP.out]; rfl)) (by rw [HOP.out]; rfl) (fun W hWW hSW K hK => ?_); (try dsimp only at hSW)
      obtain ⟨q, rfl⟩ := hWW
      obtain ⟨r, hr⟩ : ∃ r, min p (n - p) = r := ⟨_, rfl⟩
      refine wp_splice rfl _ _ rfl _ _ _ _ _ _ rfl rfl g p cu 5 HRR.out.1 (List.replicate r (.int .u8 x)) (by rw [List.length_replicate, ← hr]) (fun _ => ⟨rfl, _, rfl, ?_⟩) (by rw [List.length_replicate, HM.out]; have := HLE.out; have := HLT.out; omega) (by intro v hv; rw [(List.mem_replicate.1 hv).2]; rfl) g w' (below_drewN HBB.out.drew q) (Nat.le_refl _) ?_
      · intro j u hu
        have hj : j < r := by
          rcases Nat.lt_or_ge j r with c | c
          · exact c
          · rw [List.getElem?_eq_none (by simpa using c)] at hu; cases hu
        rw [List.getElem?_replicate, if_pos hj] at hu
        injection hu with hu
        subst hu
        have h1 := has_run HRR.out (by rw [HM.out]; have := HLE.out; have := HLT.out; omega)
        rcases h1 with h0 | ⟨b', o', e, _, hc⟩
        · have h9 := congrArg List.length h0; rw [List.length_replicate] at h9; have := HP.out.1; exact absurd h9 (Nat.ne_of_gt this)
        · injection e with e
          injection e with e1 e2
          subst e1 e2
          have := hc j (by simp; omega)
          rw [addr_add]
          have e3 : (List.replicate p x).getD j 0 = x := by simp [List.getD_eq_getElem?_getD, show j < p by omega]
          rw [e3] at this
          exact this
      · intro w3 hg3 hb3
        refine hK _ _ trivial ?_
        have HR3 : Hid (Run w3 g (p + r) x (splice cu p (List.replicate r (.int .u8 x))) ∧ (splice cu p (List.replicate r (.int .u8 x))).length = M) := Lib.hid ⟨⟨hg3.out, run_more HRR.out.2 (by rw [HM.out]; have := HLE.out; have := HLT.out; omega)⟩, by rw [length_splice _ _ _ (by rw [List.length_replicate, HM.out]; have := HLE.out; have := HLT.out; omega), HM.out]⟩
        have HB3 := Lib.hid hb3
        have HRL : Hid (1 ≤ r ∧ r ≤ n - p) := Lib.hid (by have := HP.out; have := HLT.out; omega)
        have w5 : IntKind.i64.wrap ((p : Int) + r) = (p : Int) + r := IntWalk.i64_in _ (by have := HP.out; omega)
        clear hg3 hb3 hr
        rw [List.length_replicate]
        clear hK K; (try simp only [Act.put, List.setIfInBounds_toArray, List.set_cons_zero, List.set_cons_succ])
        refine ord_take RD 8 (at_list (by rw [HOP.out]; rfl)) HNS.out HPQ.out (by rw [HOP.out]; kernel_rfl) (by rw [HOP.out]; kernel_rfl) (by rw [HOP.out]; rfl) (fun K hK => ?_); apply Exists.intro; refine ⟨fun W hSW => ?_, hK _ ?_⟩; (focus ((try dsimp only at hSW); go_simp; try with_reducible rfl)); clear hK K; (try simp only [Act.put, List.setIfInBounds_toArray, List.set_cons_zero, List.set_cons_succ])
        refine ord_take RD 9 (at_list (by rw [HOP.out]; rfl)) HNS.out HPQ.out (by rw [HOP.out]; kernel_rfl) (by rw [HOP.out]; kernel_rfl) (by rw [HOP.out]; rfl) (fun K hK => ?_); apply Exists.intro; refine ⟨fun W hSW => ?_, hK _ ?_⟩; (focus ((try dsimp only at hSW); go_simp; try with_reducible rfl)); clear hK K; (try simp only [Act.put, List.setIfInBounds_toArray, List.set_cons_zero, List.set_cons_succ])
        refine ord_done (by rw [HOP.out]; kernel_rfl) (fun W4 hWW hSW => HN.out _ _ ?_); clear HOP HNS HPQ HN RD; (try dsimp only at hSW)
        obtain ⟨q4, rfl⟩ := hWW
        go_wp2_with fail
        go_roundw
        case rel => exact ⟨p + r, _, by have := HP.out.1; omega, by have := HRL.out; have := HLT.out; omega, by go_num, HR3.out.2, HR3.out.1, below_drewN HB3.out _⟩
        case measure => simp [intOf]; have := HRL.out; have := HLT.out; omega
    · obtain rfl : p = n := by omega
      have p1 : ¬ (p : Int) < p := by omega
      clear hp1 hpn hM hR hB hlt
      go_wp2_with fail
      go_ret
      exact ⟨_, rfl, has_run HRR.out (by rw [HM.out]; exact HLE.out), by rw [HGG.out]; exact HBB.out⟩
end Go.Proofs.Ytbfodmckgjeoaaa.fiW
