/- Run of package states and of its reference, by walks. -/
import Derived.Test.YtipbafcjmeibpaaStW3
namespace Go.Proofs.Ytipbafcjmeibpaa.stW
open Go.RowKit Go.Proofs.Ytipbafcjmeibpaa.base Go.Proofs.Ytipbafcjmeibpaa.cntP Go.Proofs.Ytipbafcjmeibpaa.stP Go.Proofs.Ytipbafcjmeibpaa.cntW
set_option linter.unusedVariables false
set_option linter.unusedSimpArgs false
set_option maxHeartbeats 1000000 in
theorem after2_any (c : Cnt) (A : Option Addr) (len cap : Nat) (zs : List Int) (g : Nat) (w w0 : World) (hci : CntIn c) (hz : ∀ z ∈ zs, 0 ≤ z ∧ z ≤ 255) (hr : Has .u8 w0 A zs) (hW : Below w0.heap.size w0 w) (hlen : zs.length = len) (hl : len ≤ 9223372036854775807) (hp : Lies w g 35 [.slice A len cap]) :
    Calls Try.prog 39 #[.agg #[.int .i32 (c).a, .int .i32 (c).b, .int .u8 (c).l], .pointer (some ⟨g, 0, none⟩)] w fun e w' => e = .returned (.tuple #[.agg #[.int .i32 (runC c zs).a, .int .i32 (runC c zs).b, .int .u8 (runC c zs).l], .int .i64 (runE c zs)]) ∧ Below w.heap.size w w' := by
  obtain ⟨q0, q1⟩ := hp.one
  have lq := hp.lt
  have lq1 : g < w.heap.size + 1 := by omega
  have lq2 : g < w.heap.size + 1 + 1 := by omega
  have HR := Lib.hid hr
  have HZ := Lib.hid hz
  have HL := Lib.hid hlen
  have HW := Lib.hid hW
  clear hp hr hz hlen hW
  go_enter Try.func39, Try.ntmps39
  go_wp2_with fail
  refine (Run_any c A len cap zs _ hci HZ.out (HR.out.below (by have := HW.out; (repeat' (first | (with_reducible exact Below.refl _ _) | (with_reducible assumption) | (with_reducible refine below_drewN ?_ _) | (with_reducible refine below_new ?_ _) | (with_reducible refine Below.alloc ?_ ?_ _) | (with_reducible refine Below.drew ?_) | (with_reducible refine Below.setCell ?_ ?_ _) | (with_reducible apply below_at; (case k => (with_reducible assumption)); (case hB => omega)) | (with_reducible apply below_on; (with_reducible assumption)) | (go_size; done) | (with_reducible apply size_of)))) (Nat.le_refl _)) HL.out hl).mono ?_
  rintro e w2 ⟨rfl, hb2⟩
  obtain ⟨c0, c1, c2, g0, g1, g2⟩ := Lies.three (show Lies w2 (w.heap.size + 1) 70 [.int .i32 0, .int .i32 0, .int .u8 0] by (repeat' (first | (with_reducible assumption) | (with_reducible exact Lies.fresh _ _ _) | (with_reducible apply Lies.fresh_at; (first | (with_reducible rfl) | (simp; done))) | (with_reducible refine Lies.drew ?_) | (with_reducible refine Lies.drewN ?_ _) | (with_reducible refine Lies.alloc ?_ _) | (with_reducible apply Lies.past; case hb => (with_reducible assumption)) | (with_reducible apply Lies.keeps; (case k => (with_reducible assumption)); (case ht => decide)) | (with_reducible apply Lies.store3) | (with_reducible apply Lies.other; case hp => (first | omega | (simp; done) | (simp; omega))))))
  have l7 : w.heap.size + 1 < w2.heap.size := by have := hb2.size; simp at this; omega
  go_wp2
  refine bodyPost_ret (by simp [results, Try.results39, go_sem, c0, c1, c2]; try rfl) rfl ?_
  exact ⟨rfl, by (repeat' (first | (with_reducible exact Below.refl _ _) | (with_reducible assumption) | (with_reducible refine below_drewN ?_ _) | (with_reducible refine below_new ?_ _) | (with_reducible refine Below.alloc ?_ ?_ _) | (with_reducible refine Below.drew ?_) | (with_reducible refine Below.setCell ?_ ?_ _) | (with_reducible apply below_at; (case k => (with_reducible assumption)); (case hB => omega)) | (with_reducible apply below_on; (with_reducible assumption)) | (go_size; done) | (with_reducible apply size_of)))⟩
theorem run_facts {s : Int} {c : Cnt} {zs : List Int} (h1 : 0 ≤ s) (c1 : s < 193) (hB : sBack s = c) (hok : ok c = true) (hz : ∀ z ∈ zs, 0 ≤ z ∧ z ≤ 255) :
    runE c zs = stRE s zs ∧ (stRE s zs = 0 → ok (runC c zs) = true ∧ stR s zs = sOf (runC c zs)) ∧ (stRE s zs = 0 ∨ stRE s zs ≠ 0 ∧ stR s zs = 0) := by
  have e1 : runE c zs = stRE s zs := by unfold runE stRE; rw [if_pos hok, if_pos c1]
  have hs : sOf c = s := by rw [← hB]; exact sOf_sBack h1 c1
  refine ⟨e1, fun h0 => ?_, ?_⟩
  · unfold stRE at h0
    rw [if_pos c1] at h0
    split at h0
    · cases h0
    · rename_i hl
      split at h0
      · rename_i hb
        have hall : ∀ z ∈ zs, z = 0 ∨ z = 1 := fun z hm => by
          have := hz z hm
          have := (bitsB_iff zs).1 hb z hm
          omega
        have e2 : runC c zs = run c zs := by rw [runC, if_pos hok, if_neg hl, if_pos hb]
        rw [e2]
        refine ⟨run_ok zs hok hall, ?_⟩
        rw [stR, if_pos c1, if_neg hl, if_pos hb, ← sRun_of zs c hok hall, hs]
      · cases h0
  · unfold stRE stR
    rw [if_pos c1, if_pos c1]
    split
    · right; exact ⟨by decide, rfl⟩
    · split
      · left; rfl
      · right; exact ⟨by decide, rfl⟩
set_option maxHeartbeats 1000000 in
theorem RunS_any (s : Int) (A : Option Addr) (len cap : Nat) (zs : List Int) (w : World) (h1 : 0 ≤ s) (h2 : s ≤ 255) (hz : ∀ z ∈ zs, 0 ≤ z ∧ z ≤ 255) (hr : Has .u8 w A zs) (hlen : zs.length = len) (hl : len ≤ 9223372036854775807) :
    Calls Try.prog 25 #[.int .u8 s, .slice A len cap] w fun e w' => e = .returned (.tuple #[.int .u8 (stR s zs), .int .i64 (stRE s zs)]) ∧ Below w.heap.size w w' := by
  by_cases c1 : s < 193
  · obtain ⟨c, hB, hok, hci, e1, e2, e3, e4, e5⟩ := back_facts h1 c1
    obtain ⟨f1, f2, f3⟩ := run_facts (zs := zs) h1 c1 hB hok hz
    have HE1 := Lib.hid e1
    have HE2 := Lib.hid e2
    have HF1 := Lib.hid f1
    have HZ := Lib.hid hz
    have HR := Lib.hid hr
    have HL := Lib.hid hlen
    clear e1 e2 e3 e4 e5 hok hB f1 hz hr hlen
    generalize hd : runC c zs = d at *
    generalize he : stRE s zs = er at *
    have HD := Lib.hid hd
    have HER := Lib.hid he
    clear hd he
    by_cases h0 : er = 0
    · subst h0
      obtain ⟨g1, g2⟩ := f2 rfl
      have HG := Lib.hid g1
      have HG2 := Lib.hid g2
      clear f2 f3 g1 g2
      go_enter Try.func25, Try.ntmps25
      go_wp2_with (first | (go_at_call 52; refine (Count_any _ _ h1 h2).mono ?_; rintro e w1 ⟨rfl, hb1⟩; rw [HE1.out, HE2.out]) | (go_at_call 39; refine (after2_any c A len cap zs w.heap.size _ w hci HZ.out HR.out (by (repeat' (first | (with_reducible exact Below.refl _ _) | (with_reducible assumption) | (with_reducible refine below_drewN ?_ _) | (with_reducible refine below_new ?_ _) | (with_reducible refine Below.alloc ?_ ?_ _) | (with_reducible refine Below.drew ?_) | (with_reducible refine Below.setCell ?_ ?_ _) | (with_reducible apply below_at; (case k => (with_reducible assumption)); (case hB => omega)) | (with_reducible apply below_on; (with_reducible assumption)) | (go_size; done) | (with_reducible apply size_of)))) HL.out hl ((Lies.past (Lies.fresh w 35 [.slice A len cap]) hb1).alloc _)).mono ?_; rintro e w2 ⟨rfl, hb2⟩; rw [HD.out, HF1.out]; refine lay (P := Lies w2 w1.heap.size 70 [.int .i32 c.a, .int .i32 c.b, .int .u8 c.l]) ?_ ?_; (focus ((repeat' (first | (with_reducible assumption) | (with_reducible exact Lies.fresh _ _ _) | (with_reducible apply Lies.fresh_at; (first | (with_reducible rfl) | (simp; done))) | (with_reducible refine Lies.drew ?_) | (with_reducible refine Lies.drewN ?_ _) | (with_reducible refine Lies.alloc ?_ _) | (with_reducible apply Lies.past; case hb => (with_reducible assumption)) | (with_reducible apply Lies.keeps; (case k => (with_reducible assumption)); (case ht => decide)) | (with_reducible apply Lies.store3) | (with_reducible apply Lies.other; case hp => (first | omega | (simp; done) | (simp; omega))))); done)); intro L6; obtain ⟨d0, d1, d2, f0, f1, f2⟩ := L6.three; have l6 := L6.lt; clear L6) | (go_at_call 53; refine (Number_ok d.a d.b d.l _ HG.out).mono ?_; rintro e w' ⟨rfl, hb3⟩) | go_in)
      go_ret2
      exact ⟨(by rw [HG2.out]; try rfl), by (repeat' (first | (with_reducible exact Below.refl _ _) | (with_reducible assumption) | (with_reducible refine below_drewN ?_ _) | (with_reducible refine below_new ?_ _) | (with_reducible refine Below.alloc ?_ ?_ _) | (with_reducible refine Below.drew ?_) | (with_reducible refine Below.setCell ?_ ?_ _) | (with_reducible apply below_at; (case k => (with_reducible assumption)); (case hB => omega)) | (with_reducible apply below_on; (with_reducible assumption)) | (go_size; done) | (with_reducible apply size_of)))⟩
    · have hg : stR s zs = 0 := by rcases f3 with h | h
                                   · exact absurd h h0
                                   · exact h.2
      have hne : (er == 0) = false := by simpa using h0
      have HG2 := Lib.hid hg
      clear f2 f3 hg h0
      go_enter Try.func25, Try.ntmps25
      go_wp2_with (first | (go_at_call 52; refine (Count_any _ _ h1 h2).mono ?_; rintro e w1 ⟨rfl, hb1⟩; rw [HE1.out, HE2.out]) | (go_at_call 39; refine (after2_any c A len cap zs w.heap.size _ w hci HZ.out HR.out (by (repeat' (first | (with_reducible exact Below.refl _ _) | (with_reducible assumption) | (with_reducible refine below_drewN ?_ _) | (with_reducible refine below_new ?_ _) | (with_reducible refine Below.alloc ?_ ?_ _) | (with_reducible refine Below.drew ?_) | (with_reducible refine Below.setCell ?_ ?_ _) | (with_reducible apply below_at; (case k => (with_reducible assumption)); (case hB => omega)) | (with_reducible apply below_on; (with_reducible assumption)) | (go_size; done) | (with_reducible apply size_of)))) HL.out hl ((Lies.past (Lies.fresh w 35 [.slice A len cap]) hb1).alloc _)).mono ?_; rintro e w2 ⟨rfl, hb2⟩; rw [HD.out, HF1.out]; refine lay (P := Lies w2 w1.heap.size 70 [.int .i32 c.a, .int .i32 c.b, .int .u8 c.l]) ?_ ?_; (focus ((repeat' (first | (with_reducible assumption) | (with_reducible exact Lies.fresh _ _ _) | (with_reducible apply Lies.fresh_at; (first | (with_reducible rfl) | (simp; done))) | (with_reducible refine Lies.drew ?_) | (with_reducible refine Lies.drewN ?_ _) | (with_reducible refine Lies.alloc ?_ _) | (with_reducible apply Lies.past; case hb => (with_reducible assumption)) | (with_reducible apply Lies.keeps; (case k => (with_reducible assumption)); (case ht => decide)) | (with_reducible apply Lies.store3) | (with_reducible apply Lies.other; case hp => (first | omega | (simp; done) | (simp; omega))))); done)); intro L6; obtain ⟨d0, d1, d2, f0, f1, f2⟩ := L6.three; have l6 := L6.lt; clear L6) | go_in)
      go_ret2
      exact ⟨(by rw [HG2.out]; try rfl), by (repeat' (first | (with_reducible exact Below.refl _ _) | (with_reducible assumption) | (with_reducible refine below_drewN ?_ _) | (with_reducible refine below_new ?_ _) | (with_reducible refine Below.alloc ?_ ?_ _) | (with_reducible refine Below.drew ?_) | (with_reducible refine Below.setCell ?_ ?_ _) | (with_reducible apply below_at; (case k => (with_reducible assumption)); (case hB => omega)) | (with_reducible apply below_on; (with_reducible assumption)) | (go_size; done) | (with_reducible apply size_of)))⟩
  · have e1 : cntC s = ⟨0, 0, 0⟩ := by unfold cntC; rw [if_neg c1]
    have e2 : cntE s = 2 := by unfold cntE; rw [if_neg c1]
    have HE1 := Lib.hid e1
    have HE2 := Lib.hid e2
    clear e1 e2 hr hlen
    go_enter Try.func25, Try.ntmps25
    go_wp2_with (first | (go_at_call 52; refine (Count_any _ _ h1 h2).mono ?_; rintro e w' ⟨rfl, hb1⟩; rw [HE1.out, HE2.out]) | go_in)
    go_ret2
    exact ⟨by simp [stR, stRE, Int.not_lt.mpr c1], by (repeat' (first | (with_reducible exact Below.refl _ _) | (with_reducible assumption) | (with_reducible refine below_drewN ?_ _) | (with_reducible refine below_new ?_ _) | (with_reducible refine Below.alloc ?_ ?_ _) | (with_reducible refine Below.drew ?_) | (with_reducible refine Below.setCell ?_ ?_ _) | (with_reducible apply below_at; (case k => (with_reducible assumption)); (case hB => omega)) | (with_reducible apply below_on; (with_reducible assumption)) | (go_size; done) | (with_reducible apply size_of)))⟩
end Go.Proofs.Ytipbafcjmeibpaa.stW
