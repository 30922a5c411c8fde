/- Digests, by a walk. -/
import Derived.Test.YtphakelncjogpaaDoorShW9
import Derived.Test.YtphakelncjogpaaDoorShPlain3
import Derived.OwnWalk
namespace Go.Proofs.YtphakelncjogpaaDoor.shW
set_option maxRecDepth 100000
open Go.RowKit Go.Proofs.YtphakelncjogpaaDoor.base Go.Proofs.YtphakelncjogpaaDoor.shP
set_option linter.unusedVariables false
set_option linter.unusedSimpArgs false
def rows5 : List Int := [1732584193, 4023233417, 2562383102, 271733878, 3285377520]
/-- The variable's cells hold the first words. -/
def Tab (w : World) : Prop := 1 < w.heap.size ∧ ∀ i, i < 5 → w.cell? ⟨1, i, none⟩ = some (.int .u32 (rows5.getD i 0))
theorem Tab.below {w w' : World} {B : Nat} (h : Tab w) (hb : Below B w w') (hB : w.heap.size ≤ B) : Tab w' :=
  ⟨Nat.lt_of_lt_of_le h.1 hb.size, fun i hi => by rw [hb.cell (p := ⟨1, i, none⟩) (Nat.lt_of_lt_of_le h.1 hB)]; exact h.2 i hi⟩
theorem first_in : In5 first := by unfold In5 first; simp
/-- make([]byte, 0, n). -/
theorem make8_room {w : World} {ops : Array Oper} {rest : List Oper} {o : Oper} {a : Act} {Q : Exit → Act → World → Prop} (hg : o.guard = none) (l c : Operand) (hop : o.op = Op.makeSlice 35 l c)
    (kl kc : IntKind) (n : Nat) (hl : a.eval l = .int kl 0) (hc : a.eval c = .int kc (n : Int)) (hn : n ≤ 140737488355328) (base : Nat) (hbase : base ≤ w.heap.size)
    (h : ∀ w', OwnI w' base 5 .u8 (.slice (some ⟨w.heap.size, 0, none⟩) 0 n) [] → Below w.heap.size w w' → wpList Tryd.prog ops Q rest (a.put o.dst (.slice (some ⟨w.heap.size, 0, none⟩) 0 n)) w') : wpList Tryd.prog ops Q (o :: rest) a w := by
  obtain ⟨i, hi, hz, h1, h2⟩ := info8
  refine wpList_make_own w hg l c _ hop base 5 i (.int .u8 0) 1 Tryd.underlying35 hi hz h1 kl kc (n : Int) n hl hc rfl (by rw [h2]; omega) (by simp only [maxLen]; omega) hbase fun w' hown hgr => h w' hown ?_
  exact (Below.refl _ _).grown hgr (Nat.le_refl _) (by simp)
theorem doBlocks' (h : W5) (b : List Int) (A : Option Addr) (m n d : Nat) (w : World) (hn : 64 * m = n) (hA : Has .u8 w A b) (hl : b.length = n) (hd : n ≤ d) (hm : n ≤ 1000000) (hb : ∀ z ∈ b, 0 ≤ z ∧ z ≤ 255) (hh : In5 h) :
    Calls Tryd.prog 53 #[.agg #[.int .u32 h.a, .int .u32 h.b, .int .u32 h.c, .int .u32 h.d, .int .u32 h.e], .slice A n d] w fun e w' => e = .returned (.agg #[.int .u32 (blks b m h).a, .int .u32 (blks b m h).b, .int .u32 (blks b m h).c, .int .u32 (blks b m h).d, .int .u32 (blks b m h).e]) ∧ Below w.heap.size w w' := by
  subst hn
  exact doBlocks h b A m d w hA hl hd hm hb hh
theorem doBlocksF (b : List Int) (A : Option Addr) (m n d : Nat) (w : World) (hn : 64 * m = n) (hA : Has .u8 w A b) (hl : b.length = n) (hd : n ≤ d) (hm : n ≤ 1000000) (hb : ∀ z ∈ b, 0 ≤ z ∧ z ≤ 255) :
    Calls Tryd.prog 53 #[.agg #[.int .u32 1732584193, .int .u32 4023233417, .int .u32 2562383102, .int .u32 271733878, .int .u32 3285377520], .slice A n d] w fun e w' => e = .returned (.agg #[.int .u32 (blks b m first).a, .int .u32 (blks b m first).b, .int .u32 (blks b m first).c, .int .u32 (blks b m first).d, .int .u32 (blks b m first).e]) ∧ Below w.heap.size w w' := doBlocks' first b A m n d w hn hA hl hd hm hb first_in
theorem bd_take {b : List Int} (hb : ∀ z ∈ b, 0 ≤ z ∧ z ≤ 255) (n : Nat) : ∀ z ∈ b.take n, 0 ≤ z ∧ z ≤ 255 := fun z h => hb z (List.mem_of_mem_take h)
theorem z20_new (w : World) {g : Nat} (hg : w.heap.size = g) : Lies (w.alloc (.cells #[.int .u8 0, .int .u8 0, .int .u8 0, .int .u8 0, .int .u8 0, .int .u8 0, .int .u8 0, .int .u8 0, .int .u8 0, .int .u8 0, .int .u8 0, .int .u8 0, .int .u8 0, .int .u8 0, .int .u8 0, .int .u8 0, .int .u8 0, .int .u8 0, .int .u8 0, .int .u8 0] 52)) g 52 z20 := Lies.fresh_at (cs := z20) hg
theorem wordBytes' (h : W5) (w : World) (hh : In5 h) : Calls Tryd.prog 55 #[.agg #[.int .u32 h.a, .int .u32 h.b, .int .u32 h.c, .int .u32 h.d, .int .u32 h.e]] w fun e w' => e = .returned (.agg (darr (wbytes h))) ∧ Below w.heap.size w w' := wordBytes h w hh
set_option maxRecDepth 100000 in
set_option maxHeartbeats 4000000 in
theorem digest_any (b : List Int) (A : Option Addr) (n d : Nat) (w : World) (hT : Tab w) (hA : Has .u8 w A b) (hl : b.length = n) (hd : n ≤ d) (hn : n ≤ 20000) (hb : ∀ z ∈ b, 0 ≤ z ∧ z ≤ 255) :
    Calls Tryd.prog 42 #[.slice A n d] w fun e w' => e = .returned (.agg (darr (digest b))) ∧ Below w.heap.size w w' := by
  have n1 : (n : Int) ≤ 20000 := by omega
  have HTB := Lib.hid hT
  have HA := Lib.hid hA
  have HL := Lib.hid hl
  have HB := Lib.hid hb
  have HD := Lib.hid hd
  obtain ⟨m, hm⟩ : ∃ m, 64 * m = n - n % 64 := ⟨n / 64, by omega⟩
  obtain ⟨q, hq⟩ : ∃ q, 64 * m = q := ⟨_, rfl⟩
  have HQ := Lib.hid hq
  have HM : Hid (q = n - n % 64) := Lib.hid (by omega)
  have q1 : (n : Int) - (n : Int) % 64 = (q : Int) := by omega
  have q2 : (q : Int) ≤ n := by omega
  have q3 : (n : Int) ≤ d := by omega
  have q4 : (q : Int) ≤ d := by omega
  have q5 : 0 ≤ (q : Int) := by omega
  clear hT hA hl hb hm hq hd hn
  go_enter Tryd.func42, Tryd.ntmps42
  go_upto_region 2 with fail
  have HZ0 := Lib.hid (z20_new w rfl)
  generalize hw0 : w.alloc (.cells #[.int .u8 0, .int .u8 0, .int .u8 0, .int .u8 0, .int .u8 0, .int .u8 0, .int .u8 0, .int .u8 0, .int .u8 0, .int .u8 0, .int .u8 0, .int .u8 0, .int .u8 0, .int .u8 0, .int .u8 0, .int .u8 0, .int .u8 0, .int .u8 0, .int .u8 0, .int .u8 0] 52) = w0 at *
  have HB0 : Hid (Below w.heap.size w w0) := Lib.hid (by rw [← hw0]; exact (Below.refl _ _).alloc (Nat.le_refl _) _)
  have hT0 : Tab w0 := HTB.out.below HB0.out (Nat.le_refl _)
  have g0 := hT0.2 0 (by omega)
  have g1 := hT0.2 1 (by omega)
  have g2 := hT0.2 2 (by omega)
  have g3 := hT0.2 3 (by omega)
  have g4 := hT0.2 4 (by omega)
  simp only [rows5, List.getD_cons_zero, List.getD_cons_succ] at g0 g1 g2 g3 g4
  have gl := hT0.1
  have hs0 : w0.heap.size = w.heap.size + 1 := by rw [← hw0]; simp
  have HS0 := Lib.hid hs0
  clear hw0 hT0 hs0
  go_cut [4] (fun s wx => ∃ g : Nat, s = .pointer (some ⟨g, 0, none⟩) ∧ Lies (wx) (g) 98 (c5 (blks (b.take q) m first)) ∧ Lies wx w.heap.size 52 z20 ∧ Below w.heap.size w wx)
  case first =>
    go_region_law (first | (go_simp; go_at_call 53; refine (doBlocksF (b.take q) A m q d _ HQ.out ((HA.out.below (by have := HB0.out; (repeat' (first | (with_reducible exact Below.refl _ _) | (with_reducible assumption) | (with_reducible refine below_drewN ?_ _) | (with_reducible refine below_new ?_ _) | (with_reducible refine Below.alloc ?_ ?_ _) | (with_reducible refine Below.drew ?_) | (with_reducible refine Below.setCell ?_ ?_ _) | (with_reducible apply below_at; (case k => (with_reducible assumption)); (case hB => omega)) | (with_reducible apply below_on; (with_reducible assumption)) | (go_size; done) | (with_reducible apply size_of)))) (Nat.le_refl _)).front q) (by rw [List.length_take, HL.out]; omega) (by omega) (by omega) (bd_take HB.out q)).mono ?_; rintro e w1 ⟨rfl, hb1⟩; first | (refine lay (P := Lies w1 w0.heap.size 98 [.int .u32 0, .int .u32 0, .int .u32 0, .int .u32 0, .int .u32 0]) ?_ ?_; (focus ((repeat' (first | (with_reducible assumption) | (with_reducible exact Lies.fresh _ _ _) | (with_reducible apply Lies.fresh_at; (first | (with_reducible rfl) | (simp; done))) | (with_reducible refine Lies.drew ?_) | (with_reducible refine Lies.drewN ?_ _) | (with_reducible refine Lies.alloc ?_ _) | (with_reducible apply Lies.past; case hb => (with_reducible assumption)) | (with_reducible apply Lies.keeps; (case k => (with_reducible assumption)); (case ht => decide)) | (with_reducible apply Lies.store3) | (with_reducible apply Lies.other; case hp => (first | omega | (simp; done) | (simp; omega))))); done)); intro L9; obtain ⟨b0, b1, b2, b3, b4⟩ := five (v := ⟨0, 0, 0, 0, 0⟩) L9; obtain ⟨f0, f1, f2, f3, f4⟩ := free5 L9; have lb := L9.lt; have HL9 := Lib.hid L9; clear L9) | skip))
    all_goals
      clear g0 g1 g2 g3 g4 gl
      go_wp2_with fail
      go_meet
    · exact ⟨w1.heap.size, rfl, Lies.fresh _ _ (c5 _), by have := HZ0.out; (repeat' (first | (with_reducible assumption) | (with_reducible exact Lies.fresh _ _ _) | (with_reducible apply Lies.fresh_at; (first | (with_reducible rfl) | (simp; done))) | (with_reducible refine Lies.drew ?_) | (with_reducible refine Lies.drewN ?_ _) | (with_reducible refine Lies.alloc ?_ _) | (with_reducible apply Lies.past; case hb => (with_reducible assumption)) | (with_reducible apply Lies.keeps; (case k => (with_reducible assumption)); (case ht => decide)) | (with_reducible apply Lies.store3) | (with_reducible apply Lies.other; case hp => (first | omega | (simp; done) | (simp; omega))))), by have := HB0.out; (repeat' (first | (with_reducible exact Below.refl _ _) | (with_reducible assumption) | (with_reducible refine below_drewN ?_ _) | (with_reducible refine below_new ?_ _) | (with_reducible refine Below.alloc ?_ ?_ _) | (with_reducible refine Below.drew ?_) | (with_reducible refine Below.setCell ?_ ?_ _) | (with_reducible apply below_at; (case k => (with_reducible assumption)); (case hB => omega)) | (with_reducible apply below_on; (with_reducible assumption)) | (go_size; done) | (with_reducible apply size_of)))⟩
    all_goals
      have hs0 := HS0.out
      exact ⟨w0.heap.size, rfl, lies_set5 (v := ⟨0, 0, 0, 0, 0⟩) HL9.out _, by have := HZ0.out; (repeat' (first | (with_reducible assumption) | (with_reducible exact Lies.fresh _ _ _) | (with_reducible apply Lies.fresh_at; (first | (with_reducible rfl) | (simp; done))) | (with_reducible refine Lies.drew ?_) | (with_reducible refine Lies.drewN ?_ _) | (with_reducible refine Lies.alloc ?_ _) | (with_reducible apply Lies.past; case hb => (with_reducible assumption)) | (with_reducible apply Lies.keeps; (case k => (with_reducible assumption)); (case ht => decide)) | (with_reducible apply Lies.store3) | (with_reducible apply Lies.other; case hp => (first | omega | (simp; done) | (simp; omega))))), by have := HB0.out; have hle : w.heap.size ≤ w0.heap.size := (by omega); (repeat' (first | (with_reducible exact Below.refl _ _) | (with_reducible assumption) | (with_reducible refine below_drewN ?_ _) | (with_reducible refine below_new ?_ _) | (with_reducible refine Below.alloc ?_ ?_ _) | (with_reducible refine Below.drew ?_) | (with_reducible refine Below.setCell ?_ ?_ _) | (with_reducible apply below_at; (case k => (with_reducible assumption)); (case hB => omega)) | (with_reducible apply below_on; (with_reducible assumption)) | (go_size; done) | (with_reducible apply size_of)))⟩
  case rest =>
    obtain ⟨g, rfl, K, Z, acc⟩ := hcut
    rename World => w2
    have HK := Lib.hid K
    have HZ := Lib.hid Z
    have HACC := Lib.hid acc
    have HI := Lib.hid (blks_in (l := b.take q) first_in m)
    obtain ⟨k, hk, hk2⟩ := rest_64 n
    have HKK := Lib.hid hk
    have HK2 := Lib.hid hk2
    obtain ⟨r, hr⟩ : ∃ r, n - q = r := ⟨_, rfl⟩
    have HR : Hid (r = n % 64) := Lib.hid (by have := HM.out; omega)
    have r63 : (r : Int) ≤ 63 := by have := HR.out; omega
    have HRL : Hid ((b.drop q).length = r) := Lib.hid (by rw [List.length_drop, HL.out]; omega)
    have HDQ : Hid (n ≤ d ∧ q ≤ n) := Lib.hid (by omega)
    obtain ⟨D, hD⟩ : ∃ D : Option Addr, (if d = q then A else A.map (·.add q)) = D := ⟨_, rfl⟩
    have HBP : Hid (∀ z ∈ b.drop q ++ padL n, 0 ≤ z ∧ z ≤ 255) := Lib.hid (fun z hz => by
      rcases List.mem_append.1 hz with h | h
      · exact HB.out z (List.mem_of_mem_drop h)
      · exact padL_bd n z h)
    have HHD : Hid (Has .u8 w D (b.drop q)) := Lib.hid (by rw [← hD]; exact HA.out.cut (by rw [HL.out]; omega) (by rw [HL.out]; omega))
    clear K Z acc hk hk2 g0 g1 g2 g3 g4 gl HB0 HZ0 HS0
    generalize hv : blks (b.take q) m first = v at *
    have HV := Lib.hid hv
    clear hv
    go_wp2_with (first | (at_make; go_loud (refine make8_room rfl _ _ rfl .i64 .i64 128 rfl rfl (by omega) w2.heap.size (Nat.le_refl _) ?_; intro w3 own3 hb3; have HO3 := Lib.hid own3; have HB3 := Lib.hid hb3; clear own3 hb3)) | (at_builtin; refine app8 rfl (.tmp 18) (.tmp 21) rfl w2.heap.size _ [] rfl HO3.out D r (d - q) (b.drop q) rfl HRL.out (HHD.out.below (by have := HACC.out; have := HB3.out; (repeat' (first | (with_reducible exact Below.refl _ _) | (with_reducible assumption) | (with_reducible refine below_drewN ?_ _) | (with_reducible refine below_new ?_ _) | (with_reducible refine Below.alloc ?_ ?_ _) | (with_reducible refine Below.drew ?_) | (with_reducible refine Below.setCell ?_ ?_ _) | (with_reducible apply below_at; (case k => (with_reducible assumption)); (case hB => omega)) | (with_reducible apply below_on; (with_reducible assumption)) | (go_size; done) | (with_reducible apply size_of)))) (Nat.le_refl _)) r (by simp) (by omega) HB3.out.size ?_; intro A4 c4 w4 own4 gr4 bel4; rw [List.nil_append] at own4; have HO4 := Lib.hid own4; have HB4 := Lib.hid bel4; clear own4 gr4 bel4))
    clear hD
    refine (padding n _ (by omega)).mono ?_
    rintro e w5 ⟨A5, c5', rfl, own5, bel5⟩
    have HO5 := Lib.hid own5
    have HB5 := Lib.hid bel5
    have HO4 := Lib.hid (HO4.out.below bel5 (Nat.le_refl _))
    clear own5 bel5
    rename_i KX hKX
    refine hKX _ _ ?_
    go_wp2_with (at_builtin; go_loud (refine app8 rfl (.tmp 23) (.tmp 26) rfl w2.heap.size _ (b.drop q) rfl HO4.out A5 (zerosN n + 9) c5' (padL n) rfl (padL_len n) HO5.out.has (64 * k) (by rw [HRL.out, HR.out]; exact HKK.out) (by have := HKK.out; have := zerosN_lt n; have := HR.out; omega) (by have := HB3.out.size; have := HB4.out.size; have := HB5.out.size; omega) ?_; intro A6 c6 w6 own6 gr6 bel6; have HO6 := Lib.hid own6; have HB6 := Lib.hid bel6; clear own6 gr6 bel6; have HK6 := Lib.hid ((((HK.out.past HB3.out).below HB4.out (Nat.lt_of_lt_of_le HK.out.lt (Nat.le_refl _))).past HB5.out).below HB6.out HK.out.lt); have HZ6 := Lib.hid ((((HZ.out.past HB3.out).below HB4.out HZ.out.lt).past HB5.out).below HB6.out HZ.out.lt); have HACC6 := Lib.hid (show Below w.heap.size w w6 by have h0 := HACC.out; have h3 := HB3.out; have h4 := HB4.out; have h5 := HB5.out; have h6 := HB6.out; have hle := h0.size; (repeat' (first | (with_reducible exact Below.refl _ _) | (with_reducible assumption) | (with_reducible refine below_drewN ?_ _) | (with_reducible refine below_new ?_ _) | (with_reducible refine Below.alloc ?_ ?_ _) | (with_reducible refine Below.drew ?_) | (with_reducible refine Below.setCell ?_ ?_ _) | (with_reducible apply below_at; (case k => (with_reducible assumption)); (case hB => omega)) | (with_reducible apply below_on; (with_reducible assumption)) | (go_size; done) | (with_reducible apply size_of)))); obtain ⟨p0, p1, p2, p3, p4⟩ := five HK6.out; have lt6 := HK6.out.lt))

    refine (doBlocks' v (b.drop q ++ padL n) A6 k (64 * k) c6 _ rfl HO6.out.has (by rw [List.length_append, HRL.out, padL_len, HR.out]; exact HKK.out) (by have := HO6.out.val; obtain ⟨_, _, e, _, hle⟩ := this; injection e with e1 e2 e3; omega) (by have := HK2.out; omega) (HBP.out) HI.out).mono ?_
    rintro e w7 ⟨rfl, hb7⟩
    have HI7 := Lib.hid (blks_in (l := b.drop q ++ padL n) HI.out k)
    generalize hv7 : blks (b.drop q ++ padL n) k v = v7 at *
    have HV7 := Lib.hid hv7
    have HB7 := Lib.hid hb7
    clear hv7 hb7
    go_wp2_with fail
    refine (wordBytes' v7 _ HI7.out).mono ?_
    rintro e w8 ⟨rfl, hb8⟩
    have HB8 := Lib.hid hb8
    have HZ8 := Lib.hid ((HZ6.out.past HB7.out).past hb8)
    have HP := Lib.hid (done1 v7)
    clear hb8
    go_wp2_with (show wpList _ _ _ ({ dst := none, op := Op.store 52 _ _, type := _, pos := _, after := _, guard := none } :: _) _ _; go_must (refine wpList_store_arr (P := Tryd.prog) rfl 52 (.tmp 2) (.tmp 31) rfl w.heap.size ?c4 (darr (wbytes v7)) ?c0 52 _ HZ8.out rfl HP.out (info20 v7) ?_); (case c4 => rfl); (case c0 => rfl); intro w9 hR9 hb9 hz9)
    refine bodyPost_ret (results_cell_row (P := Tryd.prog) Tryd.results42 _ _ _ _ _ _ _ rfl hR9 Tryd.underlying52 rfl (info20 v7)) rfl ⟨?_, ?_⟩
    · have hdc := digest_cut b m (by rw [HL.out]; have := HQ.out; have := HM.out; omega)
      rw [HL.out, HQ.out, HV.out, padL_len, show (n % 64 + (zerosN n + 9)) / 64 = k by have := HKK.out; omega, HV7.out] at hdc
      rw [hdc]
    · have h6 := HACC6.out
      have h7 := HB7.out
      have h8 := HB8.out
      exact ((h6.trans (h7.mono h6.size)).trans (h8.mono (Nat.le_trans h6.size h7.size))).trans hb9
end Go.Proofs.YtphakelncjogpaaDoor.shW
