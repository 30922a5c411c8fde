/- Members copied, what is great, members compared: as in member/XMbW7 and XMbW8, for a seat without sums. -/
import Derived.Test.YthckpenindchlaaMbW4
import Derived.Test.YthckpenindchlaaRowE
import Derived.Test.YthckpenindchlaaOrd
import Derived.Deep.DeepCutAuto
namespace Go.Proofs.Ythckpenindchlaa.spT
set_option maxRecDepth 100000
open Go.RowKit Go.Proofs.Ythckpenindchlaa.base Go.Proofs.Ythckpenindchlaa.mbW
set_option linter.unusedVariables false
set_option linter.unusedSimpArgs false
set_option maxRecDepth 100000
def mbE (m : Mb) : List Value := [.string m.nm, .slice m.r.A m.r.n m.r.c]
def ME : Enc Mb where
  enc := mbE
  n := 2
  T := 53
  d := mb0
  len := fun x => rfl
  one := fun x v hv => by
    simp only [mbE, List.mem_cons, List.not_mem_nil, or_false] at hv
    rcases hv with rfl | rfl <;> rfl
  pos := by decide
theorem IM : Enc.Info ME Try.prog 23 40 := ⟨Try.underlying23, by
  obtain ⟨i, h1, h2, h3, h4⟩ := info_parts (P := Try.prog) (e := 53) (z := .agg #[.string .empty, .slice none 0 0]) (size := 2) (bytes := 40) (by kernel_rfl)
  exact ⟨i, _, h1, h2, h3, h4, rfl⟩⟩
theorem memOf {w : World} {A : Option Addr} {ms : List Mb} (h : ME.Has w A ms) (hin : ∀ m ∈ ms, InR w m.r) : HasM w A ms := by
  refine ⟨?_, hin⟩
  rcases h with h | ⟨b, off, e, hb, hc⟩
  · exact .inl h
  · refine .inr ⟨b, off, e, hb, fun i hi => ?_⟩
    have hr := Enc.Has.rng (E := ME) (w := w) (b := b) (off := off) (xs := ms) (.inr ⟨b, off, rfl, hb, hc⟩) hi
    have h0 := hr 0 (.string (ms.getD i mb0).nm) rfl
    have h1 := hr 1 (.slice (ms.getD i mb0).r.A (ms.getD i mb0).r.n (ms.getD i mb0).r.c) rfl
    exact ⟨h0, h1⟩
/-- A slice of bytes whose block is one of bytes. -/
def DataU (w : World) (r : R8) : Prop := r.b = [] ∨ ∃ g cur fr, r.A = some ⟨g, 0, none⟩ ∧ w.heap[g]? = some (.cells cur 5 fr)
theorem DataU.past {w w' : World} {r : R8} (h : DataU w r) (hb : Below w.heap.size w w') : DataU w' r := by
  rcases h with h | ⟨g, cur, fr, h1, h2⟩
  · exact .inl h
  · exact .inr ⟨g, cur, fr, h1, by rw [hb.block g (lt_of_block h2)]; exact h2⟩
theorem data_grown {w w' : World} {r : R8} (h : InR w r) (hd : DataU w r) {B : Nat} {v : Value} {xs : List Mb} (ho : ME.Own w B v xs) (hg : w.grownBy w' v.ownBlock) : InR w' r ∧ DataU w' r := by
  have hne : ∀ g cur fr, w.heap[g]? = some (.cells cur 5 fr) → some g ≠ v.ownBlock := by
    intro g cur fr hh e
    rcases ho.2 with ⟨rfl, _⟩ | ⟨g', cap, cur', rfl, _, hh', _⟩
    · simp [Value.ownBlock] at e
    · have : g = g' := by simpa [Value.ownBlock] using e
      subst this
      rw [hh] at hh'
      injection hh' with h1
      injection h1 with _ h2
      exact absurd h2 (by show (5 : TypeId) ≠ 53; decide)
  rcases hd with hd | ⟨g, cur, fr, h1, h2⟩
  · exact ⟨⟨.inl hd, h.e, h.c1, h.c2, h.b⟩, .inl hd⟩
  · have hgne := hne g cur fr h2
    refine ⟨⟨?_, h.e, h.c1, h.c2, h.b⟩, .inr ⟨g, cur, fr, h1, by rw [hg.block g (lt_of_block h2) hgne]; exact h2⟩⟩
    rcases h.h with h0 | ⟨b, off, e, hb, hc⟩
    · exact .inl h0
    · rw [h1] at e
      injection e with e
      injection e with e1 e2
      subst e1 e2
      exact .inr ⟨g, 0, h1, Nat.lt_of_lt_of_le hb hg.size, fun i hi => hg.cell (hc i hi) hgne⟩
theorem op_app0 {w : World} {o : Oper} {a : Act} {K : Act → World → Prop} {Q : Exit → Act → World → Prop} (s x : Operand)
    (ho : o.op = .call { callee := .builtin .append, args := #[s, x], argTypes := #[51, 51] })
    (D : Option Addr) (hs : a.eval s = .slice D 0 0) (A : Option Addr) (m c : Nat) (ys : List Int) (hx : a.eval x = .slice A m c) (hm : ys.length = m) (hr : Has .u8 w A ys) (hb : ∀ z ∈ ys, 0 ≤ z ∧ z ≤ 255) (h63 : m ≤ 140737488355328)
    (h : ∀ A' c' w', InR w' ⟨A', m, c', ys⟩ → DataU w' ⟨A', m, c', ys⟩ → Below w.heap.size w w' → K (a.put o.dst (.slice A' m c')) w') : Oper.wp Try.prog o a w K Q := by
  subst hm
  obtain ⟨i, hi, hz, h1, h2⟩ := info8
  obtain ⟨A', c', w', hrun, k2, k3, k4⟩ := run_append_zero (P := Try.prog) w _ o.type 5 i (.int .u8 0) 1 Try.underlying51 hi hz h1 h2 rfl .u8 D A c ys hr (by simp only [maxLen]; omega) (by omega)
  unfold Oper.wp execOp
  simp only [ho, resolve, invoke, builtin, Sem.run_bind, Sem.run_pure, Result.andThen_ok, List.map_toArray, List.map_cons, List.map_nil, hs, hx, hrun]
  rcases k4 with ⟨rfl, _, rfl, _⟩ | k4
  · exact h A' 0 w' ⟨.inl rfl, rfl, Nat.le_refl _, (by show 0 ≤ 9223372036854775807; omega), by simp⟩ (.inl rfl) k3
  · rcases k4.2 with ⟨e, h0⟩ | ⟨g, cap, cur, e, hB, hh, hnc, hcm, hcs, ht⟩
    · injection e with e1 e2 e3
      subst e3
      have : ys = [] := List.eq_nil_of_length_eq_zero e2
      exact h A' 0 w' ⟨k2, rfl, by show ys.length ≤ 0; omega, (by show 0 ≤ 9223372036854775807; omega), hb⟩ (.inl this) k3
    · injection e with e1 e2 e3
      subst e3
      exact h A' c' w' ⟨k2, rfl, hnc, (by show c' ≤ 9223372036854775807; unfold maxLen at hcm; omega), hb⟩ (.inr ⟨g, cur, _, e1, hh⟩) k3
/-- Members as they were. -/
def AsM (ms ts : List Mb) : Prop := ∀ j, j < ts.length → (ts.getD j mb0).nm = (ms.getD j mb0).nm ∧ (ts.getD j mb0).r.b = (ms.getD j mb0).r.b ∧ (ts.getD j mb0).r.n = (ms.getD j mb0).r.n
theorem AsM.snoc {ms ts : List Mb} (h : AsM ms ts) {t : Mb} (h1 : t.nm = (ms.getD ts.length mb0).nm) (h2 : t.r.b = (ms.getD ts.length mb0).r.b) (h3 : t.r.n = (ms.getD ts.length mb0).r.n) : AsM ms (ts ++ [t]) := by
  intro j hj
  rw [List.length_append] at hj
  rcases Nat.lt_or_ge j ts.length with hlt | hge
  · have e : (ts ++ [t]).getD j mb0 = ts.getD j mb0 := by
      rw [List.getD_eq_getElem?_getD, List.getD_eq_getElem?_getD, List.getElem?_append_left hlt]
    rw [e]; exact h j hlt
  · have hj2 : j = ts.length := by simp at hj; omega
    subst hj2
    have e : (ts ++ [t]).getD ts.length mb0 = t := by
      rw [List.getD_eq_getElem?_getD, List.getElem?_append_right (Nat.le_refl _), Nat.sub_self]; rfl
    rw [e]; exact ⟨h1, h2, h3⟩
/-- What the reference's Twin answers. -/
def TwP (ms : List Mb) (m : Nat) (w : World) (e : Ending) (w' : World) : Prop := ∃ (A : Option Addr) (c : Nat) (ts : List Mb), e = .returned (.slice A m c) ∧ ts.length = m ∧ m ≤ c ∧ c ≤ maxLen ∧ HasM w' A ts ∧ AsM ms ts ∧ Below w.heap.size w w'
set_option maxHeartbeats 6400000 in
theorem Twin_any (ms : List Mb) (P : Option Addr) (m d : Nat) (w : World) (hR : MemB w P m d ms) (hm30 : m ≤ 30) (hN : ∀ k, k < m → (ms.getD k mb0).r.n ≤ 10000) :
    Calls Try.prog 8 #[.slice P m d] w (TwP ms m w) := by
  have m9 : (m : Int) ≤ 30 := by omega
  have HR := Lib.hid hR
  have HL := Lib.hid hR.l
  have HN := Lib.hid hN
  have H30 := Lib.hid hm30
  clear hR hN hm30
  go_enter Try.func8, Try.ntmps8
  go_wp2_with fail
  go_loopw [3, 4] (fun rv iv wr => ∃ (k : Nat) (A : Option Addr) (c : Nat) (ts : List Mb), k ≤ m ∧ iv = .int .i64 (k : Int) ∧ rv = .slice A k c ∧ ts.length = k ∧ ME.Own wr w.heap.size (.slice A k c) ts ∧ (∀ t ∈ ts, InR wr t.r ∧ DataU wr t.r) ∧ AsM ms ts ∧ Below w.heap.size w wr) (fun _ iv _ => m - (intOf iv).toNat)
  case atStart => exact ⟨0, none, 0, [], Nat.zero_le _, rfl, rfl, rfl, Enc.Own.nil _ _, by simp, by intro j hj; simp at hj, Below.refl _ _⟩
  case round =>
    obtain ⟨k, A, c, ts, hk, rfl, rfl, hts, own, hin, has, acc⟩ := hrel
    rename World => wr
    have HO := Lib.hid own
    have HTS := Lib.hid hts
    have HIN := Lib.hid hin
    have HAS := Lib.hid has
    have HACC := Lib.hid acc
    by_cases hlt : k < m
    · obtain ⟨b, off, rfl, hb⟩ := HR.out.h.some (by rw [HL.out]; omega)
      have HCE := Lib.hid (fun x' (h : Below w.heap.size w x') => memCell HR.out hlt h)
      have HMI := Lib.hid (memIn HR.out hlt)
      have HK := Lib.hid hlt
      have HNK := Lib.hid (HN.out k hlt)
      have HSN := Lib.hid (fun t => AsM.snoc (ms := ms) (ts := ts) has (t := t))
      rw [hts] at HSN
      have k1 : (k : Int) < m := by omega
      have k0 : 0 ≤ (k : Int) := by omega
      generalize ms.getD k mb0 = q at *
      obtain ⟨nm, rA, rn, rc, rb⟩ := q
      dsimp only at HNK HMI HCE HSN
      clear hk hlt own acc hb hts hin has
      go_upto_region 5 with fail
      (have RD := grows_roads (S := fun x' => Below wr.heap.size wr x') (fun a b h1 h2 => h2.trans (h1.mono h2.size))); refine region_ordT 15 _ Grows RD (Below.drew (Below.refl _ _)) (by kernel_rfl) (by decide) ?_; intro ops Q' hops hPQ hN; (have HNS : Hid (Region.noSelect ops = true ∧ Region.sinkB .any ops 15 = true ∧ Region.chainB .any ops 15 = true ∧ 15 < ops.size) := Lib.hid (by rw [hops]; exact ⟨by kernel_rfl, by kernel_rfl, by kernel_rfl, by decide⟩)); (have hsz : ops.size = 17 := (by rw [hops]; rfl)); have HOP := Lib.hid hops; have HPQ := Lib.hid hPQ; have HN := Lib.hid hN; rw [hsz]; clear hops hsz hPQ hN
      refine ordT_take RD 0 (at_list (by rw [HOP.out]; rfl)) HNS.out HPQ.out (by rw [HOP.out]; kernel_rfl) (by rw [HOP.out]; kernel_rfl) (by rw [HOP.out]; rfl) (fun K hK => ?_); apply Exists.intro; refine ⟨fun W hSW => ?_, hK _ ?_⟩; (focus ((try dsimp only at hSW); go_simp; try with_reducible rfl)); clear hK K; (try simp only [Act.put, List.setIfInBounds_toArray, List.set_cons_zero, List.set_cons_succ])
      refine ordT_take RD 1 (at_list (by rw [HOP.out]; rfl)) HNS.out HPQ.out (by rw [HOP.out]; kernel_rfl) (by rw [HOP.out]; kernel_rfl) (by rw [HOP.out]; rfl) (fun K hK => ?_); apply Exists.intro; refine ⟨fun W hSW => ?_, hK _ ?_⟩; (focus ((try dsimp only at hSW); go_simp; try with_reducible rfl)); clear hK K; (try simp only [Act.put, List.setIfInBounds_toArray, List.set_cons_zero, List.set_cons_succ])
      refine ordT_take RD 2 (at_list (by rw [HOP.out]; rfl)) HNS.out HPQ.out (by rw [HOP.out]; kernel_rfl) (by rw [HOP.out]; kernel_rfl) (by rw [HOP.out]; rfl) (fun K hK => ?_); apply Exists.intro; refine ⟨fun W hSW => ?_, hK _ ?_⟩; (focus ((try dsimp only at hSW); go_simp; try with_reducible rfl)); clear hK K; (try simp only [Act.put, List.setIfInBounds_toArray, List.set_cons_zero, List.set_cons_succ])
      refine ordT_take RD 3 (at_list (by rw [HOP.out]; rfl)) HNS.out HPQ.out (by rw [HOP.out]; kernel_rfl) (by rw [HOP.out]; kernel_rfl) (by rw [HOP.out]; rfl) (fun K hK => ?_); apply Exists.intro; refine ⟨fun W hSW => ?_, hK _ ?_⟩; (focus ((try dsimp only at hSW); go_simp; try with_reducible rfl)); clear hK K; (try simp only [Act.put, List.setIfInBounds_toArray, List.set_cons_zero, List.set_cons_succ])
      refine ordT_take RD 4 (at_list (by rw [HOP.out]; rfl)) HNS.out HPQ.out (by rw [HOP.out]; kernel_rfl) (by rw [HOP.out]; kernel_rfl) (by rw [HOP.out]; rfl) (fun K hK => ?_); apply Exists.intro; refine ⟨fun W hSW => ?_, hK _ ?_⟩; (focus ((try dsimp only at hSW); go_simp; try with_reducible rfl)); clear hK K; (try simp only [Act.put, List.setIfInBounds_toArray, List.set_cons_zero, List.set_cons_succ])
      refine ordT_take RD 5 (at_list (by rw [HOP.out]; rfl)) HNS.out HPQ.out (by rw [HOP.out]; kernel_rfl) (by rw [HOP.out]; kernel_rfl) (by rw [HOP.out]; rfl) (fun K hK => ?_); apply Exists.intro; refine ⟨fun W hSW => ?_, hK _ ?_⟩; (focus ((try dsimp only at hSW); have y1 := (HCE.out _ (mb_bb HACC.out hSW)).1; go_simp; try with_reducible rfl)); clear hK K; (try simp only [Act.put, List.setIfInBounds_toArray, List.set_cons_zero, List.set_cons_succ])
      refine ordT_take RD 7 (at_list (by rw [HOP.out]; rfl)) HNS.out HPQ.out (by rw [HOP.out]; kernel_rfl) (by rw [HOP.out]; kernel_rfl) (by rw [HOP.out]; rfl) (fun K hK => ?_); apply Exists.intro; refine ⟨fun W hSW => ?_, hK _ ?_⟩; (focus ((try dsimp only at hSW); go_simp; try with_reducible rfl)); clear hK K; (try simp only [Act.put, List.setIfInBounds_toArray, List.set_cons_zero, List.set_cons_succ])
      refine ordT_take RD 8 (at_list (by rw [HOP.out]; rfl)) HNS.out HPQ.out (by rw [HOP.out]; kernel_rfl) (by rw [HOP.out]; kernel_rfl) (by rw [HOP.out]; rfl) (fun K hK => ?_); apply Exists.intro; refine ⟨fun W hSW => ?_, hK _ ?_⟩; (focus ((try dsimp only at hSW); go_simp; try with_reducible rfl)); clear hK K; (try simp only [Act.put, List.setIfInBounds_toArray, List.set_cons_zero, List.set_cons_succ])
      refine ordT_take RD 9 (at_list (by rw [HOP.out]; rfl)) HNS.out HPQ.out (by rw [HOP.out]; kernel_rfl) (by rw [HOP.out]; kernel_rfl) (by rw [HOP.out]; rfl) (fun K hK => ?_); apply Exists.intro; refine ⟨fun W hSW => ?_, hK _ ?_⟩; (focus ((try dsimp only at hSW); go_simp; try with_reducible rfl)); clear hK K; (try simp only [Act.put, List.setIfInBounds_toArray, List.set_cons_zero, List.set_cons_succ])
      refine ordT_take RD 10 (at_list (by rw [HOP.out]; rfl)) HNS.out HPQ.out (by rw [HOP.out]; kernel_rfl) (by rw [HOP.out]; kernel_rfl) (by rw [HOP.out]; rfl) (fun K hK => ?_); apply Exists.intro; refine ⟨fun W hSW => ?_, hK _ ?_⟩; (focus ((try dsimp only at hSW); go_simp; try with_reducible rfl)); clear hK K; (try simp only [Act.put, List.setIfInBounds_toArray, List.set_cons_zero, List.set_cons_succ])
      refine ordT_take RD 11 (at_list (by rw [HOP.out]; rfl)) HNS.out HPQ.out (by rw [HOP.out]; kernel_rfl) (by rw [HOP.out]; kernel_rfl) (by rw [HOP.out]; rfl) (fun K hK => ?_); apply Exists.intro; refine ⟨fun W hSW => ?_, hK _ ?_⟩; (focus ((try dsimp only at hSW); have y2 := (HCE.out _ (mb_bb HACC.out hSW)).2; go_simp; try with_reducible rfl)); clear hK K; (try simp only [Act.put, List.setIfInBounds_toArray, List.set_cons_zero, List.set_cons_succ])
      refine ordT_one RD 6 (by rw [HOP.out]; kernel_rfl) (at_list (by rw [HOP.out]; rfl)) (by rw [HOP.out]; rfl) (fun W1 hWW hSW K hK => ?_); (try dsimp only at hSW)
      go_simp
      refine hK _ _ (mb_bb hSW (mb_new _ _)) ?_
      clear hSW hWW
      clear hK K; (try simp only [Act.put, List.setIfInBounds_toArray, List.set_cons_zero, List.set_cons_succ])
      refine ordT_one RD 12 (by rw [HOP.out]; kernel_rfl) (at_list (by rw [HOP.out]; rfl)) (by rw [HOP.out]; rfl) (fun W2 hWW hSW K hK => ?_); (try dsimp only at hSW)
      refine op_app0 _ _ rfl (some ⟨_, 0, none⟩) rfl rA rn rc rb rfl HMI.out.e (HMI.out.h.below (mb_bb HACC.out hSW) (Nat.le_refl _)) HMI.out.b (by have := HNK.out; omega) ?_
      intro A3 c3 w3 hin3 hdu3 hb3
      have I3 := Lib.hid (And.intro hin3 hdu3)
      refine hK _ _ (mb_bb hSW hb3) ?_
      clear hSW hWW hin3 hdu3 hb3
      clear hK K; (try simp only [Act.put, List.setIfInBounds_toArray, List.set_cons_zero, List.set_cons_succ])
      refine ordT_take RD 13 (at_list (by rw [HOP.out]; rfl)) HNS.out HPQ.out (by rw [HOP.out]; kernel_rfl) (by rw [HOP.out]; kernel_rfl) (by rw [HOP.out]; rfl) (fun K hK => ?_); apply Exists.intro; refine ⟨fun W hSW => ?_, hK _ ?_⟩; (focus ((try dsimp only at hSW); go_simp; try with_reducible rfl)); clear hK K; (try simp only [Act.put, List.setIfInBounds_toArray, List.set_cons_zero, List.set_cons_succ])
      refine ordT_one RD 14 (by rw [HOP.out]; kernel_rfl) (at_list (by rw [HOP.out]; rfl)) (by rw [HOP.out]; rfl) (fun W4 hWW hSW K hK => ?_); (try dsimp only at hSW)
      have I4 := Lib.hid (And.intro (I3.out.1.below hWW (Nat.le_refl _)) (I3.out.2.past hWW))
      go_simp
      have G := mb_new W4 (.cells #[.string nm, .slice A3 rn c3] 53)
      have I5 := Lib.hid (And.intro (I4.out.1.below G (Nat.le_refl _)) (I4.out.2.past G))
      have HLT := Lib.hid (Enc.lit ME W4 [⟨nm, ⟨A3, rn, c3, rb⟩⟩] rfl)
      refine hK _ _ (mb_bb hSW G) ?_
      clear hSW hWW I3 I4
      clear hK K; (try simp only [Act.put, List.setIfInBounds_toArray, List.set_cons_zero, List.set_cons_succ])
      generalize hW5 : (W4.alloc (.cells #[.string nm, .slice A3 rn c3] 53)) = w5 at *
      have HLT5 : Hid (ME.Has w5 (some ⟨W4.heap.size, 0, none⟩) [⟨nm, ⟨A3, rn, c3, rb⟩⟩]) := Lib.hid (by rw [← hW5]; exact HLT.out)
      clear HLT hW5 G
      refine ordT_end (by rw [HOP.out]; kernel_rfl) (fun W6 hWW hSW => ?_); rw [HOP.out]; simp only [List.drop_succ_cons, List.drop_zero]; have hN := HN.out; clear HOP HNS HPQ HN RD; (try dsimp only at hSW)
      have O6 := Lib.hid (HO.out.past hSW)
      have L6 := Lib.hid (HLT5.out.past hWW)
      have I6 := Lib.hid (And.intro (I5.out.1.below hWW (Nat.le_refl _)) (I5.out.2.past hWW))
      have J6 := Lib.hid (fun t ht => And.intro ((HIN.out t ht).1.below hSW (Nat.le_refl _)) ((HIN.out t ht).2.past hSW))
      have B6 := Lib.hid (mb_bb HACC.out hSW)
      clear hSW hWW HLT5 I5 HIN HO HACC
      go_wp2_with (at_builtin; refine Enc.app ME IM (by decide) (by rfl) _ _ rfl w.heap.size _ ts rfl O6.out ⟨W4.heap.size, 0, none⟩ 1 1 [⟨nm, ⟨A3, rn, c3, rb⟩⟩] rfl rfl L6.out (by rw [HTS.out]; have := H30.out; have := HK.out; omega) B6.out.size (k + 1) (by rw [HTS.out]) ?_; intro A7 c7 w7 ho7 hg7 hb7)
      go_roundw
      case rel =>
        refine ⟨k + 1, A7, c7, ts ++ [⟨nm, ⟨A3, rn, c3, rb⟩⟩], HK.out, by go_num, rfl, by rw [List.length_append, HTS.out]; rfl, ho7, fun t ht => ?_, HSN.out _ rfl rfl rfl, B6.out.trans hb7⟩
        rcases List.mem_append.1 ht with h | h
        · exact data_grown (J6.out t h).1 (J6.out t h).2 O6.out hg7
        · simp only [List.mem_cons, List.not_mem_nil, or_false] at h
          subst h
          exact data_grown I6.out.1 I6.out.2 O6.out hg7
      case measure => simp [intOf]; have := HK.out; omega
    · have k1 : ¬ (k : Int) < m := by omega
      obtain rfl : k = m := by omega
      clear hk hlt own acc hts hin has
      go_wp2_with fail
      go_ret
      show TwP _ _ _ _ _
      exact ⟨A, c, ts, rfl, HTS.out, HO.out.len.2.1, HO.out.len.2.2, memOf HO.out.has (fun t ht => (HIN.out t ht).1), HAS.out, HACC.out⟩
def GrM (ms : List Mb) (m : Nat) (e : Ending) : Prop := ∃ b : Bool, e = .returned (.bool b) ∧ (b = false → m ≤ 30 ∧ ∀ k, k < m → (ms.getD k mb0).nm.size ≤ 100 ∧ (ms.getD k mb0).r.n ≤ 10000)
theorem snocG {ms : List Mb} {k : Nat} (h : ∀ j, j < k → (ms.getD j mb0).nm.size ≤ 100 ∧ (ms.getD j mb0).r.n ≤ 10000) {q : Mb} (hq : ms.getD k mb0 = q) (h1 : q.nm.size ≤ 100) (h2 : q.r.n ≤ 10000) : ∀ j, j < k + 1 → (ms.getD j mb0).nm.size ≤ 100 ∧ (ms.getD j mb0).r.n ≤ 10000 := by
  intro j hj
  rcases Nat.lt_or_ge j k with h' | h'
  · exact h j h'
  · have : j = k := by omega
    subst this
    rw [hq]; exact ⟨h1, h2⟩
set_option maxHeartbeats 3200000 in
theorem Great_any (ms : List Mb) (P : Option Addr) (m d : Nat) (w : World) (hR : MemB w P m d ms) :
    Calls Try.prog 7 #[.slice P m d] w fun e w' => GrM ms m e ∧ w' = w := by
  have HR := Lib.hid hR
  have HL := Lib.hid hR.l
  have m1 : (m : Int) ≤ 9223372036854775807 := by have := hR.c1; have := hR.c2; omega
  clear hR
  go_enter Try.func7, Try.ntmps7
  go_wp2_with fail
  go_loopw [3] (fun iv wr => ∃ k : Nat, k ≤ m ∧ k ≤ 31 ∧ iv = .int .i64 (k : Int) ∧ (∀ j, j < k → (ms.getD j mb0).nm.size ≤ 100 ∧ (ms.getD j mb0).r.n ≤ 10000) ∧ wr = w) (fun iv _ => m - (intOf iv).toNat)
  case atStart => exact ⟨0, Nat.zero_le _, by omega, rfl, by intro j hj; omega, rfl⟩
  case round =>
    obtain ⟨k, hk, hk31, rfl, hs, rfl⟩ := hrel
    rename World => w
    have HS := Lib.hid hs
    by_cases hlt : k < m
    · have k1 : (k : Int) < m := by omega
      have k0 : 0 ≤ (k : Int) := by omega
      by_cases h30 : k ≤ 30
      · have k3 : (k : Int) ≤ 30 := by omega
        obtain ⟨b, off, rfl, hb⟩ := HR.out.h.some (by rw [HL.out]; omega)
        obtain ⟨x1, x2⟩ := memCell HR.out hlt (Below.refl w.heap.size w)
        have HMI := Lib.hid (memIn HR.out hlt)
        have HK := Lib.hid (And.intro hlt h30)
        generalize hq : ms.getD k mb0 = q at *
        obtain ⟨nm, rA, rn, rc, rb⟩ := q
        have HQ := Lib.hid hq
        have r9 : (rn : Int) ≤ 9223372036854775807 := by have := HMI.out.c1; have := HMI.out.c2; dsimp only at *; omega
        dsimp only at x1 x2
        clear hk hk31 hs hlt h30 hq HMI
        by_cases c1 : (100 : Int) < nm.size
        · (go_wp2_with fail; go_ret; exact ⟨⟨true, rfl, fun h => by cases h⟩, rfl⟩)
        · by_cases c2 : (10000 : Int) < rn
          · (go_wp2_with fail; go_ret; exact ⟨⟨true, rfl, fun h => by cases h⟩, rfl⟩)
          · have HC := Lib.hid (And.intro c1 c2)
            by_cases c3 : (600 : Int) < rn
            · by_cases c4 : (rn : Int) < 8000
              · (go_wp2_with fail; go_ret; exact ⟨⟨true, rfl, fun h => by cases h⟩, rfl⟩)
              · go_wp2_with fail
                go_roundw
                case rel => exact ⟨k + 1, HK.out.1, by have := HK.out.2; omega, by go_num, snocG HS.out HQ.out (by have := HC.out; dsimp only; omega) (by have := HC.out; dsimp only; omega), by trivial⟩
                case measure => simp [intOf]; have := HK.out; omega
            · go_wp2_with fail
              go_roundw
              case rel => exact ⟨k + 1, HK.out.1, by have := HK.out.2; omega, by go_num, snocG HS.out HQ.out (by have := HC.out; dsimp only; omega) (by have := HC.out; dsimp only; omega), by trivial⟩
              case measure => simp [intOf]; have := HK.out; omega
      · have k3 : ¬ (k : Int) ≤ 30 := by omega
        have m3 : (30 : Int) < m := by omega
        clear hk hk31 hs hlt h30
        (go_wp2_with fail; go_ret; exact ⟨⟨true, rfl, fun h => by cases h⟩, rfl⟩)
    · have k1 : ¬ (k : Int) < m := by omega
      obtain rfl : k = m := by omega
      by_cases h30 : k ≤ 30
      · have m3 : ¬ (30 : Int) < k := by omega
        have H30 := Lib.hid h30
        clear hk hk31 hs hlt h30
        go_wp2_with fail
        go_ret
        exact ⟨⟨false, rfl, fun _ => ⟨H30.out, HS.out⟩⟩, rfl⟩
      · have m3 : (30 : Int) < k := by omega
        clear hk hk31 hs hlt h30
        (go_wp2_with fail; go_ret; exact ⟨⟨true, rfl, fun h => by cases h⟩, rfl⟩)
set_option maxHeartbeats 6400000 in
theorem SameMembers_any (ms ts : List Mb) (P Q : Option Addr) (m d c : Nat) (w : World) (hR : MemB w P m d ms) (hT : MemB w Q m c ts) (has : AsM ms ts) (hm30 : m ≤ 30) :
    Calls Try.prog 15 #[.slice P m d, .slice Q m c] w fun e w' => e = .returned (.bool true) ∧ Below w.heap.size w w' := by
  have m9 : (m : Int) ≤ 30 := by omega
  have HR := Lib.hid hR
  have HT := Lib.hid hT
  have HL := Lib.hid hR.l
  have HLT := Lib.hid hT.l
  have HAS := Lib.hid has
  clear hR hT has hm30
  go_enter Try.func15, Try.ntmps15
  go_wp2_with fail
  go_loopw [5] (fun iv wr => ∃ k : Nat, k ≤ m ∧ iv = .int .i64 (k : Int) ∧ Below w.heap.size w wr) (fun iv _ => m - (intOf iv).toNat)
  case atStart => exact ⟨0, Nat.zero_le _, rfl, Below.refl _ _⟩
  case round =>
    obtain ⟨k, hk, rfl, hw⟩ := hrel
    rename World => wr
    have HW := Lib.hid hw
    by_cases hlt : k < m
    · obtain ⟨b, off, rfl, hb⟩ := HR.out.h.some (by rw [HL.out]; omega)
      obtain ⟨b2, off2, rfl, hb2⟩ := HT.out.h.some (by rw [HLT.out]; omega)
      have XA := Lib.hid (fun x' (h : Below w.heap.size w x') => memCell HR.out hlt h)
      have XB := Lib.hid (fun x' (h : Below w.heap.size w x') => memCell HT.out hlt h)
      have HMA := Lib.hid (memIn HR.out hlt)
      have HMB := Lib.hid (memIn HT.out hlt)
      obtain ⟨e1, e2, e3⟩ := HAS.out k (by rw [HLT.out]; exact hlt)
      have HK := Lib.hid hlt
      have k1 : (k : Int) < m := by omega
      have k0 : 0 ≤ (k : Int) := by omega
      generalize ms.getD k mb0 = q at *
      generalize ts.getD k mb0 = t at *
      obtain ⟨nm, rA, rn, rc, rb⟩ := q
      obtain ⟨nm2, rA2, rn2, rc2, rb2⟩ := t
      dsimp only at XA XB HMA HMB e1 e2 e3
      subst e1 e2 e3
      clear hk hlt hw hb hb2
      go_upto_region 6 with fail
      (have RD := drawn_roads (S := fun x' => Below w.heap.size w x') (fun _ n h => below_drewN h n)); refine region_ord _ Drawn RD HW.out.drew (by kernel_rfl) ?_; intro ops Q' hops hPQ hN; (have HNS : Hid (Region.noSelect ops = true) := Lib.hid (by rw [hops]; kernel_rfl)); (have hsz : ops.size = 26 := (by rw [hops]; rfl)); have HOP := Lib.hid hops; have HPQ := Lib.hid hPQ; have HN := Lib.hid hN; rw [hsz]; clear hops hsz hPQ hN
      refine ord_take RD 0 (at_list (by rw [HOP.out]; rfl)) HNS.out HPQ.out (by rw [HOP.out]; kernel_rfl) (by rw [HOP.out]; kernel_rfl) (by rw [HOP.out]; rfl) (fun K hK => ?_); apply Exists.intro; refine ⟨fun W hSW => ?_, hK _ ?_⟩; (focus ((try dsimp only at hSW); go_simp; try with_reducible rfl)); clear hK K; (try simp only [Act.put, List.setIfInBounds_toArray, List.set_cons_zero, List.set_cons_succ])
      refine ord_take RD 1 (at_list (by rw [HOP.out]; rfl)) HNS.out HPQ.out (by rw [HOP.out]; kernel_rfl) (by rw [HOP.out]; kernel_rfl) (by rw [HOP.out]; rfl) (fun K hK => ?_); apply Exists.intro; refine ⟨fun W hSW => ?_, hK _ ?_⟩; (focus ((try dsimp only at hSW); go_simp; try with_reducible rfl)); clear hK K; (try simp only [Act.put, List.setIfInBounds_toArray, List.set_cons_zero, List.set_cons_succ])
      refine ord_take RD 2 (at_list (by rw [HOP.out]; rfl)) HNS.out HPQ.out (by rw [HOP.out]; kernel_rfl) (by rw [HOP.out]; kernel_rfl) (by rw [HOP.out]; rfl) (fun K hK => ?_); apply Exists.intro; refine ⟨fun W hSW => ?_, hK _ ?_⟩; (focus ((try dsimp only at hSW); go_simp; try with_reducible rfl)); clear hK K; (try simp only [Act.put, List.setIfInBounds_toArray, List.set_cons_zero, List.set_cons_succ])
      refine ord_take RD 3 (at_list (by rw [HOP.out]; rfl)) HNS.out HPQ.out (by rw [HOP.out]; kernel_rfl) (by rw [HOP.out]; kernel_rfl) (by rw [HOP.out]; rfl) (fun K hK => ?_); apply Exists.intro; refine ⟨fun W hSW => ?_, hK _ ?_⟩; (focus ((try dsimp only at hSW); go_simp; try with_reducible rfl)); clear hK K; (try simp only [Act.put, List.setIfInBounds_toArray, List.set_cons_zero, List.set_cons_succ])
      refine ord_take RD 4 (at_list (by rw [HOP.out]; rfl)) HNS.out HPQ.out (by rw [HOP.out]; kernel_rfl) (by rw [HOP.out]; kernel_rfl) (by rw [HOP.out]; rfl) (fun K hK => ?_); apply Exists.intro; refine ⟨fun W hSW => ?_, hK _ ?_⟩; (focus ((try dsimp only at hSW); have y1 := (XA.out _ hSW).1; go_simp; try with_reducible rfl)); clear hK K; (try simp only [Act.put, List.setIfInBounds_toArray, List.set_cons_zero, List.set_cons_succ])
      refine ord_take RD 5 (at_list (by rw [HOP.out]; rfl)) HNS.out HPQ.out (by rw [HOP.out]; kernel_rfl) (by rw [HOP.out]; kernel_rfl) (by rw [HOP.out]; rfl) (fun K hK => ?_); apply Exists.intro; refine ⟨fun W hSW => ?_, hK _ ?_⟩; (focus ((try dsimp only at hSW); go_simp; try with_reducible rfl)); clear hK K; (try simp only [Act.put, List.setIfInBounds_toArray, List.set_cons_zero, List.set_cons_succ])
      refine ord_take RD 6 (at_list (by rw [HOP.out]; rfl)) HNS.out HPQ.out (by rw [HOP.out]; kernel_rfl) (by rw [HOP.out]; kernel_rfl) (by rw [HOP.out]; rfl) (fun K hK => ?_); apply Exists.intro; refine ⟨fun W hSW => ?_, hK _ ?_⟩; (focus ((try dsimp only at hSW); go_simp; try with_reducible rfl)); clear hK K; (try simp only [Act.put, List.setIfInBounds_toArray, List.set_cons_zero, List.set_cons_succ])
      refine ord_take RD 7 (at_list (by rw [HOP.out]; rfl)) HNS.out HPQ.out (by rw [HOP.out]; kernel_rfl) (by rw [HOP.out]; kernel_rfl) (by rw [HOP.out]; rfl) (fun K hK => ?_); apply Exists.intro; refine ⟨fun W hSW => ?_, hK _ ?_⟩; (focus ((try dsimp only at hSW); go_simp; try with_reducible rfl)); clear hK K; (try simp only [Act.put, List.setIfInBounds_toArray, List.set_cons_zero, List.set_cons_succ])
      refine ord_take RD 8 (at_list (by rw [HOP.out]; rfl)) HNS.out HPQ.out (by rw [HOP.out]; kernel_rfl) (by rw [HOP.out]; kernel_rfl) (by rw [HOP.out]; rfl) (fun K hK => ?_); apply Exists.intro; refine ⟨fun W hSW => ?_, hK _ ?_⟩; (focus ((try dsimp only at hSW); go_simp; try with_reducible rfl)); clear hK K; (try simp only [Act.put, List.setIfInBounds_toArray, List.set_cons_zero, List.set_cons_succ])
      refine ord_take RD 9 (at_list (by rw [HOP.out]; rfl)) HNS.out HPQ.out (by rw [HOP.out]; kernel_rfl) (by rw [HOP.out]; kernel_rfl) (by rw [HOP.out]; rfl) (fun K hK => ?_); apply Exists.intro; refine ⟨fun W hSW => ?_, hK _ ?_⟩; (focus ((try dsimp only at hSW); have y1 := (XB.out _ hSW).1; go_simp; try with_reducible rfl)); clear hK K; (try simp only [Act.put, List.setIfInBounds_toArray, List.set_cons_zero, List.set_cons_succ])
      refine ord_take RD 10 (at_list (by rw [HOP.out]; rfl)) HNS.out HPQ.out (by rw [HOP.out]; kernel_rfl) (by rw [HOP.out]; kernel_rfl) (by rw [HOP.out]; rfl) (fun K hK => ?_); apply Exists.intro; refine ⟨fun W hSW => ?_, hK _ ?_⟩; (focus ((try dsimp only at hSW); go_simp; try with_reducible rfl)); clear hK K; (try simp only [Act.put, List.setIfInBounds_toArray, List.set_cons_zero, List.set_cons_succ])
      refine ord_take RD 11 (at_list (by rw [HOP.out]; rfl)) HNS.out HPQ.out (by rw [HOP.out]; kernel_rfl) (by rw [HOP.out]; kernel_rfl) (by rw [HOP.out]; rfl) (fun K hK => ?_); apply Exists.intro; refine ⟨fun W hSW => ?_, hK _ ?_⟩; (focus ((try dsimp only at hSW); go_simp; try with_reducible rfl)); clear hK K; (try simp only [Act.put, List.setIfInBounds_toArray, List.set_cons_zero, List.set_cons_succ])
      refine ord_take RD 12 (at_list (by rw [HOP.out]; rfl)) HNS.out HPQ.out (by rw [HOP.out]; kernel_rfl) (by rw [HOP.out]; kernel_rfl) (by rw [HOP.out]; rfl) (fun K hK => ?_); apply Exists.intro; refine ⟨fun W hSW => ?_, hK _ ?_⟩; (focus ((try dsimp only at hSW); go_simp; try with_reducible rfl)); clear hK K; (try simp only [Act.put, List.setIfInBounds_toArray, List.set_cons_zero, List.set_cons_succ])
      refine ord_take RD 13 (at_list (by rw [HOP.out]; rfl)) HNS.out HPQ.out (by rw [HOP.out]; kernel_rfl) (by rw [HOP.out]; kernel_rfl) (by rw [HOP.out]; rfl) (fun K hK => ?_); apply Exists.intro; refine ⟨fun W hSW => ?_, hK _ ?_⟩; (focus ((try dsimp only at hSW); go_simp; try with_reducible rfl)); clear hK K; (try simp only [Act.put, List.setIfInBounds_toArray, List.set_cons_zero, List.set_cons_succ])
      refine ord_take RD 14 (at_list (by rw [HOP.out]; rfl)) HNS.out HPQ.out (by rw [HOP.out]; kernel_rfl) (by rw [HOP.out]; kernel_rfl) (by rw [HOP.out]; rfl) (fun K hK => ?_); apply Exists.intro; refine ⟨fun W hSW => ?_, hK _ ?_⟩; (focus ((try dsimp only at hSW); go_simp; try with_reducible rfl)); clear hK K; (try simp only [Act.put, List.setIfInBounds_toArray, List.set_cons_zero, List.set_cons_succ])
      refine ord_take RD 15 (at_list (by rw [HOP.out]; rfl)) HNS.out HPQ.out (by rw [HOP.out]; kernel_rfl) (by rw [HOP.out]; kernel_rfl) (by rw [HOP.out]; rfl) (fun K hK => ?_); apply Exists.intro; refine ⟨fun W hSW => ?_, hK _ ?_⟩; (focus ((try dsimp only at hSW); go_simp; try with_reducible rfl)); clear hK K; (try simp only [Act.put, List.setIfInBounds_toArray, List.set_cons_zero, List.set_cons_succ])
      refine ord_take RD 16 (at_list (by rw [HOP.out]; rfl)) HNS.out HPQ.out (by rw [HOP.out]; kernel_rfl) (by rw [HOP.out]; kernel_rfl) (by rw [HOP.out]; rfl) (fun K hK => ?_); apply Exists.intro; refine ⟨fun W hSW => ?_, hK _ ?_⟩; (focus ((try dsimp only at hSW); have y1 := (XA.out _ hSW).2; go_simp; try with_reducible rfl)); clear hK K; (try simp only [Act.put, List.setIfInBounds_toArray, List.set_cons_zero, List.set_cons_succ])
      refine ord_take RD 17 (at_list (by rw [HOP.out]; rfl)) HNS.out HPQ.out (by rw [HOP.out]; kernel_rfl) (by rw [HOP.out]; kernel_rfl) (by rw [HOP.out]; rfl) (fun K hK => ?_); apply Exists.intro; refine ⟨fun W hSW => ?_, hK _ ?_⟩; (focus ((try dsimp only at hSW); (have cv := conv8 (n := rn2) (c := rc) (HMA.out.h.below hSW (Nat.le_refl _)) HMA.out.e); go_simp; try with_reducible rfl)); clear hK K; (try simp only [Act.put, List.setIfInBounds_toArray, List.set_cons_zero, List.set_cons_succ])
      refine ord_take RD 18 (at_list (by rw [HOP.out]; rfl)) HNS.out HPQ.out (by rw [HOP.out]; kernel_rfl) (by rw [HOP.out]; kernel_rfl) (by rw [HOP.out]; rfl) (fun K hK => ?_); apply Exists.intro; refine ⟨fun W hSW => ?_, hK _ ?_⟩; (focus ((try dsimp only at hSW); go_simp; try with_reducible rfl)); clear hK K; (try simp only [Act.put, List.setIfInBounds_toArray, List.set_cons_zero, List.set_cons_succ])
      refine ord_take RD 19 (at_list (by rw [HOP.out]; rfl)) HNS.out HPQ.out (by rw [HOP.out]; kernel_rfl) (by rw [HOP.out]; kernel_rfl) (by rw [HOP.out]; rfl) (fun K hK => ?_); apply Exists.intro; refine ⟨fun W hSW => ?_, hK _ ?_⟩; (focus ((try dsimp only at hSW); go_simp; try with_reducible rfl)); clear hK K; (try simp only [Act.put, List.setIfInBounds_toArray, List.set_cons_zero, List.set_cons_succ])
      refine ord_take RD 20 (at_list (by rw [HOP.out]; rfl)) HNS.out HPQ.out (by rw [HOP.out]; kernel_rfl) (by rw [HOP.out]; kernel_rfl) (by rw [HOP.out]; rfl) (fun K hK => ?_); apply Exists.intro; refine ⟨fun W hSW => ?_, hK _ ?_⟩; (focus ((try dsimp only at hSW); go_simp; try with_reducible rfl)); clear hK K; (try simp only [Act.put, List.setIfInBounds_toArray, List.set_cons_zero, List.set_cons_succ])
      refine ord_take RD 21 (at_list (by rw [HOP.out]; rfl)) HNS.out HPQ.out (by rw [HOP.out]; kernel_rfl) (by rw [HOP.out]; kernel_rfl) (by rw [HOP.out]; rfl) (fun K hK => ?_); apply Exists.intro; refine ⟨fun W hSW => ?_, hK _ ?_⟩; (focus ((try dsimp only at hSW); go_simp; try with_reducible rfl)); clear hK K; (try simp only [Act.put, List.setIfInBounds_toArray, List.set_cons_zero, List.set_cons_succ])
      refine ord_take RD 22 (at_list (by rw [HOP.out]; rfl)) HNS.out HPQ.out (by rw [HOP.out]; kernel_rfl) (by rw [HOP.out]; kernel_rfl) (by rw [HOP.out]; rfl) (fun K hK => ?_); apply Exists.intro; refine ⟨fun W hSW => ?_, hK _ ?_⟩; (focus ((try dsimp only at hSW); have y1 := (XB.out _ hSW).2; go_simp; try with_reducible rfl)); clear hK K; (try simp only [Act.put, List.setIfInBounds_toArray, List.set_cons_zero, List.set_cons_succ])
      refine ord_take RD 23 (at_list (by rw [HOP.out]; rfl)) HNS.out HPQ.out (by rw [HOP.out]; kernel_rfl) (by rw [HOP.out]; kernel_rfl) (by rw [HOP.out]; rfl) (fun K hK => ?_); apply Exists.intro; refine ⟨fun W hSW => ?_, hK _ ?_⟩; (focus ((try dsimp only at hSW); (have cv := conv8 (n := rn2) (c := rc2) (HMB.out.h.below hSW (Nat.le_refl _)) HMB.out.e); go_simp; try with_reducible rfl)); clear hK K; (try simp only [Act.put, List.setIfInBounds_toArray, List.set_cons_zero, List.set_cons_succ])
      refine ord_take RD 24 (at_list (by rw [HOP.out]; rfl)) HNS.out HPQ.out (by rw [HOP.out]; kernel_rfl) (by rw [HOP.out]; kernel_rfl) (by rw [HOP.out]; rfl) (fun K hK => ?_); apply Exists.intro; refine ⟨fun W hSW => ?_, hK _ ?_⟩; (focus ((try dsimp only at hSW); go_simp; try with_reducible rfl)); clear hK K; (try simp only [Act.put, List.setIfInBounds_toArray, List.set_cons_zero, List.set_cons_succ])
      refine ord_take RD 25 (at_list (by rw [HOP.out]; rfl)) HNS.out HPQ.out (by rw [HOP.out]; kernel_rfl) (by rw [HOP.out]; kernel_rfl) (by rw [HOP.out]; rfl) (fun K hK => ?_); apply Exists.intro; refine ⟨fun W hSW => ?_, hK _ ?_⟩; (focus ((try dsimp only at hSW); go_simp; try with_reducible rfl)); clear hK K; (try simp only [Act.put, List.setIfInBounds_toArray, List.set_cons_zero, List.set_cons_succ])
      refine ord_done (by rw [HOP.out]; kernel_rfl) (fun W1 hWW hSW => HN.out _ _ ?_); clear HOP HNS HPQ HN RD; (try dsimp only at hSW)
      have HSW := Lib.hid hSW
      clear hWW hSW
      go_wp2_with fail
      refine ⟨⟨k + 1, HK.out, by go_num, HSW.out⟩, by simp [intOf]; have := HK.out; omega⟩
    · have k1 : ¬ (k : Int) < m := by omega
      clear hk hlt hw
      go_wp2_with fail
      go_ret
      exact ⟨rfl, HW.out⟩
end Go.Proofs.Ythckpenindchlaa.spT
