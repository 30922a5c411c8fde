/- Learning of the reference, by walks. -/
import Derived.Test.YtjikddndlnimoaaMxW8
import Derived.Test.YtjikddndlnimoaaRfWD
namespace Go.Proofs.Ytjikddndlnimoaa.mxP
set_option maxRecDepth 100000
open Go.Proofs.Ytjikddndlnimoaa.base Go.Proofs.Ytjikddndlnimoaa.rfP Go.Proofs.Ytjikddndlnimoaa.fixP
theorem floor14 (s : Int) : (if Int.tmod s 16384 < 0 then Int.tdiv s 16384 - 1 else Int.tdiv s 16384) = s / 16384 := by
  have h := Int.tdiv_eq_ediv (a := s) (b := 16384)
  have hs : Int.sign 16384 = 1 := rfl
  rw [hs] at h
  have hm := Int.mul_tdiv_add_tmod s 16384
  split <;> (split at h <;> omega)
theorem tauT_snoc {ws ins : List Int} {off : Int} (h : ws.length = 8) (h' : ins.length = 8) (k : Nat) (hk : k < 8) : (tauL ws ins off).take k ++ [tau (ws.getD k 0) (ins.getD k 0) off] = (tauL ws ins off).take (k + 1) := by
  rw [take_snoc 0 _ k (by rw [tauL_len h h']; exact hk), tauL_at h h' k hk]
theorem tauT_len {ws ins : List Int} {off : Int} (h : ws.length = 8) (h' : ins.length = 8) (k : Nat) (hk : k ≤ 8) : ((tauL ws ins off).take k).length = k := by
  rw [List.length_take, tauL_len h h']; omega
theorem tauT_8 {ws ins : List Int} {off : Int} (h : ws.length = 8) (h' : ins.length = 8) : (tauL ws ins off).take 8 = tauL ws ins off := List.take_of_length_le (by rw [tauL_len h h']; exact Nat.le_refl _)
end Go.Proofs.Ytjikddndlnimoaa.mxP
namespace Go.Proofs.Ytjikddndlnimoaa.mxW
set_option maxRecDepth 100000
open Go.RowKit Go.Proofs.Ytjikddndlnimoaa.base Go.Proofs.Ytjikddndlnimoaa.rfP Go.Proofs.Ytjikddndlnimoaa.mxP Go.Proofs.Ytjikddndlnimoaa.fixP
set_option linter.unusedVariables false
set_option linter.unusedSimpArgs false
set_option maxHeartbeats 800000 in
theorem Taught_any (A B : Option Addr) (c d : Nat) (ws ins : List Int) (p : Int) (bit : Bool) (w : World) (hA : Has .i32 w A ws) (hw : ws.length = 8) (bw : ∀ z ∈ ws, -2147483648 ≤ z ∧ z ≤ 2147483647) (hB : Has .i32 w B ins) (hi : inB ins = true) (p0 : 0 ≤ p) (p1 : p ≤ 4095) :
    Calls Try.prog 19 #[.slice A 8 c, .slice B 8 d, .int .i32 p, .bool bit] w fun e w' => ∃ A c, e = .returned (.slice A 8 c) ∧ OwnI w' w.heap.size 21 .i32 (.slice A 8 c) (tauL ws ins (offP p bit)) ∧ Below w.heap.size w w' := by
  have hil := ((inB_iff _).1 hi).1
  obtain ⟨b1, o1, rfl, hb1, hc1⟩ := has_some hA (by omega)
  obtain ⟨b2, o2, rfl, hb2, hc2⟩ := has_some hB (by omega)
  have HC1 : Hid (∀ wr k, Below w.heap.size w wr → k < 8 → wr.cell? ⟨b1, o1 + k, none⟩ = some (.int .i32 (ws.getD k 0))) := Lib.hid (fun wr k hx hk => ((bcell hx).1 b1 _ hb1).trans (hc1 k (by omega)))
  have HC2 : Hid (∀ wr k, Below w.heap.size w wr → k < 8 → wr.cell? ⟨b2, o2 + k, none⟩ = some (.int .i32 (ins.getD k 0))) := Lib.hid (fun wr k hx hk => ((bcell hx).1 b2 _ hb2).trans (hc2 k (by omega)))
  have HWB : Hid (∀ k, k < 8 → -2147483648 ≤ ws.getD k 0 ∧ ws.getD k 0 ≤ 2147483647) := Lib.hid (fun k hk => by
    rw [List.getD_eq_getElem?_getD, List.getElem?_eq_getElem (by omega)]
    exact bw _ (List.getElem_mem _))
  have HIB := Lib.hid (fun k hk => inB_at hi k hk)
  obtain ⟨ob0, ob1⟩ := off_bd bit p0 p1
  have HOF : Hid (∀ wr, Calls Try.prog 23 #[.int .i32 p, .bool bit] wr fun e w' => e = .returned (.int .i64 (offP p bit)) ∧ Below wr.heap.size wr w') := Lib.hid (fun wr => (Off_any p bit wr (by omega) (by omega)).mono fun e w' ⟨h1, h2⟩ => ⟨h1, h2 ▸ Below.refl _ _⟩)
  clear p0 p1
  generalize offP p bit = off at *
  have HSN := Lib.hid (fun k hk => tauT_snoc (off := off) hw hil k hk)
  have HTL := Lib.hid (fun k hk => tauT_len (off := off) hw hil k hk)
  have HT8 := Lib.hid (tauT_8 (off := off) hw hil)
  have HT0 : Hid ((tauL ws ins off).take 0 = []) := Lib.hid rfl
  clear hA hB hw hil bw hi hc1 hc2
  generalize tauL ws ins off = T at *
  have HOB := Lib.hid (And.intro ob0 ob1)
  clear ob0 ob1
  go_enter Try.func19, Try.ntmps19
  go_wp2_with fail
  go_loopw [9, 10] (fun av iv wr => ∃ (k : Nat) (A : Option Addr) (c : Nat), k ≤ 8 ∧ iv = .int .i64 k ∧ av = .slice A k c ∧ OwnI wr w.heap.size 21 .i32 (.slice A k c) (T.take k) ∧ Below w.heap.size w wr) (fun _ iv _ => 8 - (intOf iv).toNat)
  case atStart => exact ⟨0, none, 0, by omega, rfl, rfl, by rw [HT0.out]; exact OwnI.nil _ _ _ _, Below.refl _ _⟩
  case round =>
    obtain ⟨k, A, c, hk, rfl, rfl, ho, hb⟩ := hrel
    have HO := Lib.hid ho
    have HB := Lib.hid hb
    clear ho hb
    by_cases hlt : k < 8
    · have HLT := Lib.hid hlt
      have k1 : (k : Int) < 8 := by omega
      have k0 : 0 ≤ (k : Int) := by omega
      have z1 := HC1.out
      have hwb := HWB.out k hlt
      have hib := HIB.out k hlt
      have hst := step_bd hib.1 hib.2 HOB.out.1 HOB.out.2
      have HLX : Hid (∀ wr, Below w.heap.size w wr → wr.cell? ⟨b1, o1 + k, none⟩ = some (.int .i32 (ws.getD k 0)) ∧ wr.cell? ⟨b2, o2 + k, none⟩ = some (.int .i32 (ins.getD k 0))) := Lib.hid (fun wr hb => ⟨HC1.out wr k hb hlt, HC2.out wr k hb hlt⟩)
      have HS := Lib.hid (HSN.out k hlt)
      have HL := Lib.hid (HTL.out k hk)
      have hta : tau (ws.getD k 0) (ins.getD k 0) off = sat (ws.getD k 0 + rnd (ins.getD k 0 * off * 7) 14) := rfl
      clear hlt hk z1
      generalize ws.getD k 0 = v at *
      generalize ins.getD k 0 = x at *
      obtain ⟨v0, v1⟩ := hwb
      obtain ⟨x0, x1⟩ := hib
      have e1 : IntKind.i64.wrap x = x := IntWalk.i64_in _ (by omega)
      generalize hxo : x * off = xo at *
      obtain ⟨c0, c1⟩ := hst
      have w3 : IntKind.i64.wrap xo = xo := IntWalk.i64_in _ (by omega)
      rw [rnd14] at hta
      have hfl := floor14 (xo * 7 + 8192)
      have hsi := sat_is (v + (xo * 7 + 8192) / 16384)
      rw [← hta] at hsi
      have htb := tau_bd v x off
      generalize tau v x off = t at *
      obtain ⟨s, hs⟩ : ∃ s, xo * 7 + 8192 = s := ⟨_, rfl⟩
      rw [hs] at hfl hsi
      obtain ⟨fq, hfq⟩ : ∃ fq, s / 16384 = fq := ⟨_, rfl⟩
      rw [hfq] at hfl hsi
      have f0 : -32768 ≤ fq := by omega
      have f1 : fq ≤ 32767 := by omega
      have s0 : -58700000 ≤ s := by omega
      have s1 : s ≤ 58700000 := by omega
      obtain ⟨qt, hqt⟩ : ∃ qt, Int.tdiv s 16384 = qt := ⟨_, rfl⟩
      obtain ⟨rt, hrt⟩ : ∃ rt, Int.tmod s 16384 = rt := ⟨_, rfl⟩
      rw [hqt, hrt] at hfl
      have w4 : -9223372036854775808 ≤ qt ∧ qt ≤ 9223372036854775807 := by rw [← hqt]; have := Int.tdiv_eq_ediv (a := s) (b := 16384); have hs : Int.sign 16384 = 1 := rfl; rw [hs] at this; split at this <;> omega
      have HF := Lib.hid hfl
      have HI := Lib.hid hsi
      have HQ := Lib.hid (And.intro hqt hrt)
      have HSS := Lib.hid hs
      obtain ⟨t0, t1⟩ := htb
      have w5 : IntKind.i64.wrap (xo * 7) = xo * 7 := IntWalk.i64_in _ (by omega)
      have w6 : IntKind.i64.wrap (xo * 7 + 8192) = s := by rw [hs]; exact IntWalk.i64_in _ (by omega)
      clear hta hfl hsi hqt hrt hfq hs c0 c1
      go_upto_region 5 with fail
      go_cut [11] (fun v wx => v = .int .i64 s ∧ Below wr.heap.size wr wx)
      case first =>
        (have RD := grows_roads (S := fun x' => Below wr.heap.size wr x') (fun a b h1 h2 => below_bs h2 h1)); refine region_ord _ Grows RD (Below.drew (Below.refl wr.heap.size wr)) (by kernel_rfl) ?_; intro ops Q' hops hPQ hN; (have HNS : Hid (Region.noSelect ops = true) := Lib.hid (by rw [hops]; kernel_rfl)); (have hsz : ops.size = 12 := (by rw [hops]; rfl)); have HOP := Lib.hid hops; have HPQ := Lib.hid hPQ; have HN := Lib.hid hN; rw [hsz]; clear hops hsz hPQ hN
        refine ord_take RD 0 (at_list (by rw [HOP.out]; rfl)) HNS.out HPQ.out (by rw [HOP.out]; kernel_rfl) (by rw [HOP.out]; kernel_rfl) (by rw [HOP.out]; rfl) (fun K hK => ?_); apply Exists.intro; refine ⟨fun W hSW => ?_, hK _ ?_⟩; (focus ((try dsimp only at hSW); go_simp; try with_reducible rfl)); clear hK K; (try simp only [Act.put, List.setIfInBounds_toArray, List.set_cons_zero, List.set_cons_succ])
        refine ord_take RD 1 (at_list (by rw [HOP.out]; rfl)) HNS.out HPQ.out (by rw [HOP.out]; kernel_rfl) (by rw [HOP.out]; kernel_rfl) (by rw [HOP.out]; rfl) (fun K hK => ?_); apply Exists.intro; refine ⟨fun W hSW => ?_, hK _ ?_⟩; (focus ((try dsimp only at hSW); go_simp; try with_reducible rfl)); clear hK K; (try simp only [Act.put, List.setIfInBounds_toArray, List.set_cons_zero, List.set_cons_succ])
        refine ord_take RD 2 (at_list (by rw [HOP.out]; rfl)) HNS.out HPQ.out (by rw [HOP.out]; kernel_rfl) (by rw [HOP.out]; kernel_rfl) (by rw [HOP.out]; rfl) (fun K hK => ?_); apply Exists.intro; refine ⟨fun W hSW => ?_, hK _ ?_⟩; (focus ((try dsimp only at hSW); go_simp; try with_reducible rfl)); clear hK K; (try simp only [Act.put, List.setIfInBounds_toArray, List.set_cons_zero, List.set_cons_succ])
        refine ord_take RD 3 (at_list (by rw [HOP.out]; rfl)) HNS.out HPQ.out (by rw [HOP.out]; kernel_rfl) (by rw [HOP.out]; kernel_rfl) (by rw [HOP.out]; rfl) (fun K hK => ?_); apply Exists.intro; refine ⟨fun W hSW => ?_, hK _ ?_⟩; (focus ((try dsimp only at hSW); (have z1 := (HLX.out _ (below_bs HB.out hSW)).2); go_simp; try with_reducible rfl)); clear hK K; (try simp only [Act.put, List.setIfInBounds_toArray, List.set_cons_zero, List.set_cons_succ])
        refine ord_take RD 4 (at_list (by rw [HOP.out]; rfl)) HNS.out HPQ.out (by rw [HOP.out]; kernel_rfl) (by rw [HOP.out]; kernel_rfl) (by rw [HOP.out]; rfl) (fun K hK => ?_); apply Exists.intro; refine ⟨fun W hSW => ?_, hK _ ?_⟩; (focus ((try dsimp only at hSW); go_simp; try with_reducible rfl)); clear hK K; (try simp only [Act.put, List.setIfInBounds_toArray, List.set_cons_zero, List.set_cons_succ])
        refine ord_take RD 5 (at_list (by rw [HOP.out]; rfl)) HNS.out HPQ.out (by rw [HOP.out]; kernel_rfl) (by rw [HOP.out]; kernel_rfl) (by rw [HOP.out]; rfl) (fun K hK => ?_); apply Exists.intro; refine ⟨fun W hSW => ?_, hK _ ?_⟩; (focus ((try dsimp only at hSW); go_simp; try with_reducible rfl)); clear hK K; (try simp only [Act.put, List.setIfInBounds_toArray, List.set_cons_zero, List.set_cons_succ])
        refine ord_take RD 6 (at_list (by rw [HOP.out]; rfl)) HNS.out HPQ.out (by rw [HOP.out]; kernel_rfl) (by rw [HOP.out]; kernel_rfl) (by rw [HOP.out]; rfl) (fun K hK => ?_); apply Exists.intro; refine ⟨fun W hSW => ?_, hK _ ?_⟩; (focus ((try dsimp only at hSW); go_simp; try with_reducible rfl)); clear hK K; (try simp only [Act.put, List.setIfInBounds_toArray, List.set_cons_zero, List.set_cons_succ])
        refine ord_take RD 7 (at_list (by rw [HOP.out]; rfl)) HNS.out HPQ.out (by rw [HOP.out]; kernel_rfl) (by rw [HOP.out]; kernel_rfl) (by rw [HOP.out]; rfl) (fun K hK => ?_); apply Exists.intro; refine ⟨fun W hSW => ?_, hK _ ?_⟩; (focus ((try dsimp only at hSW); go_simp; exact (HOF.out W))); clear hK K; (try simp only [Act.put, List.setIfInBounds_toArray, List.set_cons_zero, List.set_cons_succ])
        refine ord_take RD 8 (at_list (by rw [HOP.out]; rfl)) HNS.out HPQ.out (by rw [HOP.out]; kernel_rfl) (by rw [HOP.out]; kernel_rfl) (by rw [HOP.out]; rfl) (fun K hK => ?_); apply Exists.intro; refine ⟨fun W hSW => ?_, hK _ ?_⟩; (focus ((try dsimp only at hSW); go_simp; try with_reducible rfl)); clear hK K; (try simp only [Act.put, List.setIfInBounds_toArray, List.set_cons_zero, List.set_cons_succ])
        refine ord_take RD 9 (at_list (by rw [HOP.out]; rfl)) HNS.out HPQ.out (by rw [HOP.out]; kernel_rfl) (by rw [HOP.out]; kernel_rfl) (by rw [HOP.out]; rfl) (fun K hK => ?_); apply Exists.intro; refine ⟨fun W hSW => ?_, hK _ ?_⟩; (focus ((try dsimp only at hSW); go_simp; try with_reducible rfl)); clear hK K; (try simp only [Act.put, List.setIfInBounds_toArray, List.set_cons_zero, List.set_cons_succ])
        refine ord_take RD 10 (at_list (by rw [HOP.out]; rfl)) HNS.out HPQ.out (by rw [HOP.out]; kernel_rfl) (by rw [HOP.out]; kernel_rfl) (by rw [HOP.out]; rfl) (fun K hK => ?_); apply Exists.intro; refine ⟨fun W hSW => ?_, hK _ ?_⟩; (focus ((try dsimp only at hSW); go_simp; try with_reducible rfl)); clear hK K; (try simp only [Act.put, List.setIfInBounds_toArray, List.set_cons_zero, List.set_cons_succ])
        refine ord_take RD 11 (at_list (by rw [HOP.out]; rfl)) HNS.out HPQ.out (by rw [HOP.out]; kernel_rfl) (by rw [HOP.out]; kernel_rfl) (by rw [HOP.out]; rfl) (fun K hK => ?_); apply Exists.intro; refine ⟨fun W hSW => ?_, hK _ ?_⟩; (focus ((try dsimp only at hSW); go_simp; try with_reducible rfl)); clear hK K; (try simp only [Act.put, List.setIfInBounds_toArray, List.set_cons_zero, List.set_cons_succ])
        refine ord_done (by rw [HOP.out]; kernel_rfl) (fun W9 hWW hSW => HN.out _ _ ?_); clear HOP HNS HPQ HN RD; (try dsimp only at hSW)
        have h := HSS.out
        have h := HSS.out
        have HN9 := Lib.hid hSW
        clear hSW hWW
        go_wp2_with fail
        go_meet
        exact ⟨by first | rfl | simp [h], HN9.out⟩
      case rest =>
        obtain ⟨rfl, hbw⟩ := hcut
        have HB2 := Lib.hid (below_bs HB.out hbw)
        have HB3 := Lib.hid hbw
        clear hbw
        rename World => wn
        go_upto_region 6 with fail
        go_cut [12] (fun v wx => v = .int .i64 qt ∧ wn = wx)
        case first =>
          have h := HQ.out.1
          go_wp2_with fail
          go_meet
          exact ⟨rfl, rfl⟩
        case rest =>
          obtain ⟨rfl, rfl⟩ := hcut
          go_upto_if 32 with fail
          go_cut [12] (fun v wx => v = .int .i64 fq ∧ wn = wx)
          case first =>
            have h := HF.out
            have h2 := HQ.out.2
            have w3' : -9223372036854775808 ≤ qt - 1 ∧ qt ≤ 9223372036854775807 := by split at h <;> omega
            obtain ⟨w3a, w3b⟩ := w3'
            by_cases hr : rt < 0
            · rw [if_pos hr] at h
              go_wp2_with fail
              go_meet
              exact ⟨by first | rfl | rw [← h], rfl⟩
            · rw [if_neg hr] at h
              go_wp2_with fail
              go_meet
              exact ⟨by first | rfl | rw [h], rfl⟩
          case rest =>
            obtain ⟨rfl, rfl⟩ := hcut
            have z1 := (HLX.out wn HB2.out).1
            have w7 : IntKind.i64.wrap v = v := IntWalk.i64_in _ (by omega)
            have w8 : IntKind.i64.wrap (v + fq) = v + fq := IntWalk.i64_in _ (by omega)
            have hi := HI.out
            by_cases m1 : 2147483647 < v + fq
            · obtain rfl : t = 2147483647 := by omega
              clear hi
              go_wp2_with (at_builtin; refine app32 rfl _ _ rfl w.heap.size _ _ rfl ((HO.out.below HB3.out (Nat.le_refl _)).below ((Below.refl _ _).alloc (Nat.le_refl _) _) (Nat.le_refl _)) (some ⟨wn.heap.size, 0, none⟩) 1 1 [2147483647] rfl rfl (has_lit (zs := [2147483647]) rfl (by simp [maxLen])) (k + 1) ?c0 ?c1 ?c2 ?_; (case c0 => rw [HL.out]); (case c1 => (have := HLT.out; omega)); (case c2 => (have h1 := HB2.out.size; simp; omega)); intro A5 c5 w5 ho5 hl5 hb5; rw [HS.out] at ho5; have HO5 := Lib.hid ho5; have HB5 := Lib.hid hb5; clear ho5 hl5 hb5)
              go_roundw
              case rel => exact ⟨k + 1, A5, c5, by have := HLT.out; omega, by go_num, rfl, HO5.out, (HB2.out.alloc HB2.out.size _).trans HB5.out⟩
              case measure => simp [intOf]; have := HLT.out; omega
            by_cases m2 : v + fq < -2147483648
            · obtain rfl : t = -2147483648 := by omega
              clear hi
              go_wp2_with (at_builtin; refine app32 rfl _ _ rfl w.heap.size _ _ rfl ((HO.out.below HB3.out (Nat.le_refl _)).below ((Below.refl _ _).alloc (Nat.le_refl _) _) (Nat.le_refl _)) (some ⟨wn.heap.size, 0, none⟩) 1 1 [-2147483648] rfl rfl (has_lit (zs := [-2147483648]) rfl (by simp [maxLen])) (k + 1) ?c0 ?c1 ?c2 ?_; (case c0 => rw [HL.out]); (case c1 => (have := HLT.out; omega)); (case c2 => (have h1 := HB2.out.size; simp; omega)); intro A5 c5 w5 ho5 hl5 hb5; rw [HS.out] at ho5; have HO5 := Lib.hid ho5; have HB5 := Lib.hid hb5; clear ho5 hl5 hb5)
              go_roundw
              case rel => exact ⟨k + 1, A5, c5, by have := HLT.out; omega, by go_num, rfl, HO5.out, (HB2.out.alloc HB2.out.size _).trans HB5.out⟩
              case measure => simp [intOf]; have := HLT.out; omega
            obtain rfl : t = v + fq := by omega
            have q1 : (if v + fq < 2147483647 then v + fq else 2147483647) = v + fq := by split <;> omega
            have q2 : (if -2147483648 < v + fq then v + fq else -2147483648) = v + fq := by split <;> omega
            clear hi
            go_wp2_with (at_builtin; refine app32 rfl _ _ rfl w.heap.size _ _ rfl ((HO.out.below HB3.out (Nat.le_refl _)).below ((Below.refl _ _).alloc (Nat.le_refl _) _) (Nat.le_refl _)) (some ⟨wn.heap.size, 0, none⟩) 1 1 [v + fq] rfl rfl (has_lit (zs := [v + fq]) rfl (by simp [maxLen])) (k + 1) ?c0 ?c1 ?c2 ?_; (case c0 => rw [HL.out]); (case c1 => (have := HLT.out; omega)); (case c2 => (have h1 := HB2.out.size; simp; omega)); intro A5 c5 w5 ho5 hl5 hb5; rw [HS.out] at ho5; have HO5 := Lib.hid ho5; have HB5 := Lib.hid hb5; clear ho5 hl5 hb5)
            go_roundw
            case rel => exact ⟨k + 1, A5, c5, by have := HLT.out; omega, by go_num, rfl, HO5.out, (HB2.out.alloc HB2.out.size _).trans HB5.out⟩
            case measure => simp [intOf]; have := HLT.out; omega
    · obtain rfl : k = 8 := by omega
      clear hlt hk
      go_wp2_with fail
      go_ret
      exact ⟨A, c, rfl, by have := HO.out; rwa [HT8.out] at this, HB.out⟩
end Go.Proofs.Ytjikddndlnimoaa.mxW
