/- Filters: Check of both, the list of all bytes, a byte moved to the front, by walks. -/
import Derived.Test.YtbfodmckgjeoaaaFiW6
import Derived.Test.YtbfodmckgjeoaaaFiPlain3
import Derived.Test.YtbfodmckgjeoaaaFiSame
import Derived.Laws.CopyOwn
import Derived.Lib.BytesEntry
import Derived.Laws.Externs
namespace Go.Proofs.Ytbfodmckgjeoaaa.fiW
set_option maxRecDepth 100000
open Go.RowKit Go.Proofs.Ytbfodmckgjeoaaa.base Go.Proofs.Ytbfodmckgjeoaaa.fiP
set_option linter.unusedVariables false
set_option linter.unusedSimpArgs false
/-- What Check says. -/
def ckF (f : Int × Int) : Int := if okF f = true then 0 else 8
set_option maxHeartbeats 1000000 in
theorem rCheck (k n : Int) (w : World) : Calls Try.prog 15 #[.agg #[.int .u8 k, .int .i64 n]] w fun e w' => e = .returned (.int .i64 (ckF (k, n))) ∧ Below w.heap.size w w' := by
  (by_cases k1 : k = 1; (case pos => (subst k1; by_cases n1 : 1 ≤ n; (case pos => (by_cases n8 : n ≤ 8; (case pos => (have HV : Hid (ckF (1, n) = 0) := Lib.hid (by simp [ckF, okF]; try omega); go_enter Try.func15, Try.ntmps15; go_wp2_with fail; go_ret; exact ⟨by rw [HV.out]; try rfl, by (repeat' (first | (with_reducible exact Below.refl _ _) | (with_reducible assumption) | (with_reducible refine below_drewN ?_ _) | (with_reducible refine below_new ?_ _) | (with_reducible refine Below.alloc ?_ ?_ _) | (with_reducible refine Below.drew ?_) | (with_reducible refine Below.setCell ?_ ?_ _) | (with_reducible apply below_at; (case k => (with_reducible assumption)); (case hB => omega)) | (with_reducible apply below_on; (with_reducible assumption)) | (go_size; done) | (with_reducible apply size_of)))⟩)); (case neg => (have HV : Hid (ckF (1, n) = 8) := Lib.hid (by simp [ckF, okF]; try omega); go_enter Try.func15, Try.ntmps15; go_wp2_with fail; go_ret; exact ⟨by rw [HV.out]; try rfl, by (repeat' (first | (with_reducible exact Below.refl _ _) | (with_reducible assumption) | (with_reducible refine below_drewN ?_ _) | (with_reducible refine below_new ?_ _) | (with_reducible refine Below.alloc ?_ ?_ _) | (with_reducible refine Below.drew ?_) | (with_reducible refine Below.setCell ?_ ?_ _) | (with_reducible apply below_at; (case k => (with_reducible assumption)); (case hB => omega)) | (with_reducible apply below_on; (with_reducible assumption)) | (go_size; done) | (with_reducible apply size_of)))⟩)))); (case neg => (have HV : Hid (ckF (1, n) = 8) := Lib.hid (by simp [ckF, okF]; try omega); go_enter Try.func15, Try.ntmps15; go_wp2_with fail; go_ret; exact ⟨by rw [HV.out]; try rfl, by (repeat' (first | (with_reducible exact Below.refl _ _) | (with_reducible assumption) | (with_reducible refine below_drewN ?_ _) | (with_reducible refine below_new ?_ _) | (with_reducible refine Below.alloc ?_ ?_ _) | (with_reducible refine Below.drew ?_) | (with_reducible refine Below.setCell ?_ ?_ _) | (with_reducible apply below_at; (case k => (with_reducible assumption)); (case hB => omega)) | (with_reducible apply below_on; (with_reducible assumption)) | (go_size; done) | (with_reducible apply size_of)))⟩)))); (case neg => (have e1 : (k == 1) = false := by simpa using k1); by_cases k2 : k = 2; (case pos => (subst k2; clear k1 e1; by_cases n0 : n = 0; (case pos => (subst n0; (have HV : Hid (ckF (2, 0) = 0) := Lib.hid (by simp [ckF, okF]; try omega); go_enter Try.func15, Try.ntmps15; go_wp2_with fail; go_ret; exact ⟨by rw [HV.out]; try rfl, by (repeat' (first | (with_reducible exact Below.refl _ _) | (with_reducible assumption) | (with_reducible refine below_drewN ?_ _) | (with_reducible refine below_new ?_ _) | (with_reducible refine Below.alloc ?_ ?_ _) | (with_reducible refine Below.drew ?_) | (with_reducible refine Below.setCell ?_ ?_ _) | (with_reducible apply below_at; (case k => (with_reducible assumption)); (case hB => omega)) | (with_reducible apply below_on; (with_reducible assumption)) | (go_size; done) | (with_reducible apply size_of)))⟩))); (case neg => ((have e0 : (n == 0) = false := by simpa using n0); (have HV : Hid (ckF (2, n) = 8) := Lib.hid (by simp [ckF, okF]; try omega); go_enter Try.func15, Try.ntmps15; go_wp2_with fail; go_ret; exact ⟨by rw [HV.out]; try rfl, by (repeat' (first | (with_reducible exact Below.refl _ _) | (with_reducible assumption) | (with_reducible refine below_drewN ?_ _) | (with_reducible refine below_new ?_ _) | (with_reducible refine Below.alloc ?_ ?_ _) | (with_reducible refine Below.drew ?_) | (with_reducible refine Below.setCell ?_ ?_ _) | (with_reducible apply below_at; (case k => (with_reducible assumption)); (case hB => omega)) | (with_reducible apply below_on; (with_reducible assumption)) | (go_size; done) | (with_reducible apply size_of)))⟩))))); (case neg => (have e2 : (k == 2) = false := by simpa using k2); by_cases k3 : k = 3; (case pos => (subst k3; clear k1 e1 k2 e2; by_cases n0 : n = 0; (case pos => (subst n0; (have HV : Hid (ckF (3, 0) = 0) := Lib.hid (by simp [ckF, okF]; try omega); go_enter Try.func15, Try.ntmps15; go_wp2_with fail; go_ret; exact ⟨by rw [HV.out]; try rfl, by (repeat' (first | (with_reducible exact Below.refl _ _) | (with_reducible assumption) | (with_reducible refine below_drewN ?_ _) | (with_reducible refine below_new ?_ _) | (with_reducible refine Below.alloc ?_ ?_ _) | (with_reducible refine Below.drew ?_) | (with_reducible refine Below.setCell ?_ ?_ _) | (with_reducible apply below_at; (case k => (with_reducible assumption)); (case hB => omega)) | (with_reducible apply below_on; (with_reducible assumption)) | (go_size; done) | (with_reducible apply size_of)))⟩))); (case neg => ((have e0 : (n == 0) = false := by simpa using n0); (have HV : Hid (ckF (3, n) = 8) := Lib.hid (by simp [ckF, okF]; try omega); go_enter Try.func15, Try.ntmps15; go_wp2_with fail; go_ret; exact ⟨by rw [HV.out]; try rfl, by (repeat' (first | (with_reducible exact Below.refl _ _) | (with_reducible assumption) | (with_reducible refine below_drewN ?_ _) | (with_reducible refine below_new ?_ _) | (with_reducible refine Below.alloc ?_ ?_ _) | (with_reducible refine Below.drew ?_) | (with_reducible refine Below.setCell ?_ ?_ _) | (with_reducible apply below_at; (case k => (with_reducible assumption)); (case hB => omega)) | (with_reducible apply below_on; (with_reducible assumption)) | (go_size; done) | (with_reducible apply size_of)))⟩))))); (case neg => ((have e3 : (k == 3) = false := by simpa using k3); (have HV : Hid (ckF (k, n) = 8) := Lib.hid (by simp [ckF, okF, k1, k2, k3])); go_enter Try.func15, Try.ntmps15; go_wp2_with fail; go_ret; exact ⟨by rw [HV.out]; try rfl, by (repeat' (first | (with_reducible exact Below.refl _ _) | (with_reducible assumption) | (with_reducible refine below_drewN ?_ _) | (with_reducible refine below_new ?_ _) | (with_reducible refine Below.alloc ?_ ?_ _) | (with_reducible refine Below.drew ?_) | (with_reducible refine Below.setCell ?_ ?_ _) | (with_reducible apply below_at; (case k => (with_reducible assumption)); (case hB => omega)) | (with_reducible apply below_on; (with_reducible assumption)) | (go_size; done) | (with_reducible apply size_of)))⟩)))))
set_option maxHeartbeats 1000000 in
theorem Check_any (k n : Int) (w : World) : Calls Try.prog 14 #[.agg #[.int .u8 k, .int .i64 n]] w fun e w' => e = .returned (.int .i64 (ckF (k, n))) ∧ Below w.heap.size w w' := by
  (by_cases k1 : k = 1; (case pos => (subst k1; by_cases n1 : 1 ≤ n; (case pos => (by_cases n8 : n ≤ 8; (case pos => (have HV : Hid (ckF (1, n) = 0) := Lib.hid (by simp [ckF, okF]; try omega); go_enter Try.func14, Try.ntmps14; go_wp2_with fail; go_ret; exact ⟨by rw [HV.out]; try rfl, by (repeat' (first | (with_reducible exact Below.refl _ _) | (with_reducible assumption) | (with_reducible refine below_drewN ?_ _) | (with_reducible refine below_new ?_ _) | (with_reducible refine Below.alloc ?_ ?_ _) | (with_reducible refine Below.drew ?_) | (with_reducible refine Below.setCell ?_ ?_ _) | (with_reducible apply below_at; (case k => (with_reducible assumption)); (case hB => omega)) | (with_reducible apply below_on; (with_reducible assumption)) | (go_size; done) | (with_reducible apply size_of)))⟩)); (case neg => (have HV : Hid (ckF (1, n) = 8) := Lib.hid (by simp [ckF, okF]; try omega); go_enter Try.func14, Try.ntmps14; go_wp2_with fail; go_ret; exact ⟨by rw [HV.out]; try rfl, by (repeat' (first | (with_reducible exact Below.refl _ _) | (with_reducible assumption) | (with_reducible refine below_drewN ?_ _) | (with_reducible refine below_new ?_ _) | (with_reducible refine Below.alloc ?_ ?_ _) | (with_reducible refine Below.drew ?_) | (with_reducible refine Below.setCell ?_ ?_ _) | (with_reducible apply below_at; (case k => (with_reducible assumption)); (case hB => omega)) | (with_reducible apply below_on; (with_reducible assumption)) | (go_size; done) | (with_reducible apply size_of)))⟩)))); (case neg => (have HV : Hid (ckF (1, n) = 8) := Lib.hid (by simp [ckF, okF]; try omega); go_enter Try.func14, Try.ntmps14; go_wp2_with fail; go_ret; exact ⟨by rw [HV.out]; try rfl, by (repeat' (first | (with_reducible exact Below.refl _ _) | (with_reducible assumption) | (with_reducible refine below_drewN ?_ _) | (with_reducible refine below_new ?_ _) | (with_reducible refine Below.alloc ?_ ?_ _) | (with_reducible refine Below.drew ?_) | (with_reducible refine Below.setCell ?_ ?_ _) | (with_reducible apply below_at; (case k => (with_reducible assumption)); (case hB => omega)) | (with_reducible apply below_on; (with_reducible assumption)) | (go_size; done) | (with_reducible apply size_of)))⟩)))); (case neg => (have e1 : (k == 1) = false := by simpa using k1); by_cases k2 : k = 2; (case pos => (subst k2; clear k1 e1; by_cases n0 : n = 0; (case pos => (subst n0; (have HV : Hid (ckF (2, 0) = 0) := Lib.hid (by simp [ckF, okF]; try omega); go_enter Try.func14, Try.ntmps14; go_wp2_with fail; go_ret; exact ⟨by rw [HV.out]; try rfl, by (repeat' (first | (with_reducible exact Below.refl _ _) | (with_reducible assumption) | (with_reducible refine below_drewN ?_ _) | (with_reducible refine below_new ?_ _) | (with_reducible refine Below.alloc ?_ ?_ _) | (with_reducible refine Below.drew ?_) | (with_reducible refine Below.setCell ?_ ?_ _) | (with_reducible apply below_at; (case k => (with_reducible assumption)); (case hB => omega)) | (with_reducible apply below_on; (with_reducible assumption)) | (go_size; done) | (with_reducible apply size_of)))⟩))); (case neg => ((have e0 : (n == 0) = false := by simpa using n0); (have HV : Hid (ckF (2, n) = 8) := Lib.hid (by simp [ckF, okF]; try omega); go_enter Try.func14, Try.ntmps14; go_wp2_with fail; go_ret; exact ⟨by rw [HV.out]; try rfl, by (repeat' (first | (with_reducible exact Below.refl _ _) | (with_reducible assumption) | (with_reducible refine below_drewN ?_ _) | (with_reducible refine below_new ?_ _) | (with_reducible refine Below.alloc ?_ ?_ _) | (with_reducible refine Below.drew ?_) | (with_reducible refine Below.setCell ?_ ?_ _) | (with_reducible apply below_at; (case k => (with_reducible assumption)); (case hB => omega)) | (with_reducible apply below_on; (with_reducible assumption)) | (go_size; done) | (with_reducible apply size_of)))⟩))))); (case neg => (have e2 : (k == 2) = false := by simpa using k2); by_cases k3 : k = 3; (case pos => (subst k3; clear k1 e1 k2 e2; by_cases n0 : n = 0; (case pos => (subst n0; (have HV : Hid (ckF (3, 0) = 0) := Lib.hid (by simp [ckF, okF]; try omega); go_enter Try.func14, Try.ntmps14; go_wp2_with fail; go_ret; exact ⟨by rw [HV.out]; try rfl, by (repeat' (first | (with_reducible exact Below.refl _ _) | (with_reducible assumption) | (with_reducible refine below_drewN ?_ _) | (with_reducible refine below_new ?_ _) | (with_reducible refine Below.alloc ?_ ?_ _) | (with_reducible refine Below.drew ?_) | (with_reducible refine Below.setCell ?_ ?_ _) | (with_reducible apply below_at; (case k => (with_reducible assumption)); (case hB => omega)) | (with_reducible apply below_on; (with_reducible assumption)) | (go_size; done) | (with_reducible apply size_of)))⟩))); (case neg => ((have e0 : (n == 0) = false := by simpa using n0); (have HV : Hid (ckF (3, n) = 8) := Lib.hid (by simp [ckF, okF]; try omega); go_enter Try.func14, Try.ntmps14; go_wp2_with fail; go_ret; exact ⟨by rw [HV.out]; try rfl, by (repeat' (first | (with_reducible exact Below.refl _ _) | (with_reducible assumption) | (with_reducible refine below_drewN ?_ _) | (with_reducible refine below_new ?_ _) | (with_reducible refine Below.alloc ?_ ?_ _) | (with_reducible refine Below.drew ?_) | (with_reducible refine Below.setCell ?_ ?_ _) | (with_reducible apply below_at; (case k => (with_reducible assumption)); (case hB => omega)) | (with_reducible apply below_on; (with_reducible assumption)) | (go_size; done) | (with_reducible apply size_of)))⟩))))); (case neg => ((have e3 : (k == 3) = false := by simpa using k3); (have HV : Hid (ckF (k, n) = 8) := Lib.hid (by simp [ckF, okF, k1, k2, k3])); go_enter Try.func14, Try.ntmps14; go_wp2_with fail; go_ret; exact ⟨by rw [HV.out]; try rfl, by (repeat' (first | (with_reducible exact Below.refl _ _) | (with_reducible assumption) | (with_reducible refine below_drewN ?_ _) | (with_reducible refine below_new ?_ _) | (with_reducible refine Below.alloc ?_ ?_ _) | (with_reducible refine Below.drew ?_) | (with_reducible refine Below.setCell ?_ ?_ _) | (with_reducible apply below_at; (case k => (with_reducible assumption)); (case hB => omega)) | (with_reducible apply below_on; (with_reducible assumption)) | (go_size; done) | (with_reducible apply size_of)))⟩)))))
/-! ### The list of all bytes -/
theorem tab_at {k : Nat} (h : k < 256) : tab.getD k 0 = k := by
  unfold tab; rw [List.getD_eq_getElem?_getD, List.getElem?_map, List.getElem?_range h]; rfl
theorem tab_snoc {k : Nat} (h : k < 256) : tab.take (k + 1) = tab.take k ++ [(k : Int)] := by
  rw [take_snoc 0 tab k (by rw [tab_len]; exact h), tab_at h]
theorem tab_all : tab.take 256 = tab := List.take_of_length_le (by rw [tab_len]; omega)
theorem tab_take {k : Nat} (h : k ≤ 256) : (tab.take k).length = k := by rw [List.length_take, tab_len]; omega
set_option maxHeartbeats 1000000 in
theorem rTable (w : World) : Calls Try.prog 51 #[] w fun e w' => ∃ A' c', e = .returned (.slice A' 256 c') ∧ OwnI w' w.heap.size 5 .u8 (.slice A' 256 c') tab ∧ Below w.heap.size w w' := by
  go_enter Try.func51, Try.ntmps51
  go_wp2_with fail
  go_loopw [1, 2] (fun v j wr => ∃ (k : Nat) (B : Option Addr) (d : Nat), k ≤ 256 ∧ j = .int .i64 k ∧ v = .slice B k d ∧ OwnI wr w.heap.size 5 .u8 (.slice B k d) (tab.take k) ∧ Below w.heap.size w wr) (fun _ j _ => 256 - (intOf j).toNat)
  case atStart => exact ⟨0, none, 0, Nat.zero_le _, rfl, rfl, by rw [List.take_zero]; exact OwnI.nil _ _ _ _, Below.refl _ _⟩
  case round =>
    obtain ⟨k, B, d, hk, rfl, rfl, own, acc⟩ := hrel
    have HO := Lib.hid own
    have HACC := Lib.hid acc
    by_cases hlt : k < 256
    · have HLT := Lib.hid hlt
      have k1 : (k : Int) < 256 := by omega
      have z1 : IntKind.u8.wrap (k : Int) = k := IntWalk.u8_in _ (by omega)
      clear hk own acc hlt
      go_wp2_with (at_builtin; refine app8 rfl _ _ rfl w.heap.size _ (tab.take k) rfl (HO.out.below ((Below.refl _ _).alloc (Nat.le_refl _) _) (Nat.le_refl _)) (some ⟨_, 0, none⟩) 1 1 [(k : Int)] rfl rfl (has_lit (zs := [(k : Int)]) rfl (by simp [maxLen])) (k + 1) (by rw [tab_take (by have := HLT.out; omega)]) (by have := HLT.out; omega) (by have := HACC.out.size; simp; omega) ?_; intro A4 c4 w4 ho4 hg4 hb4; have HA4 : Hid (Below w.heap.size w w4) := Lib.hid ((Below.alloc HACC.out HACC.out.size _).trans hb4))
      go_roundw
      case rel => exact ⟨k + 1, A4, c4, HLT.out, by go_num, rfl, by rw [tab_snoc HLT.out]; exact ho4, HA4.out⟩
      case measure => simp [intOf]; have := HLT.out; omega
    · obtain rfl : k = 256 := by omega
      clear hk own acc hlt
      go_wp2_with fail
      go_ret
      exact ⟨B, d, rfl, by have := HO.out; rwa [tab_all] at this, HACC.out⟩
set_option maxHeartbeats 1000000 in
theorem allBytes_any (w : World) : Calls Try.prog 38 #[] w fun e w' => ∃ g, e = .returned (.slice (some ⟨g, 0, none⟩) 256 256) ∧ OwnI w' w.heap.size 5 .u8 (.slice (some ⟨g, 0, none⟩) 256 256) tab ∧ Below w.heap.size w w' := by
  go_enter Try.func38, Try.ntmps38
  go_wp2_with (refine make8 rfl _ _ rfl .i64 .i64 256 rfl rfl (by omega) w.heap.size (Nat.le_refl _) ?_; intro w1 o1 hb1; have HO1 := Lib.hid o1; have HB1 := Lib.hid hb1; clear o1 hb1)
  generalize hg0 : w.heap.size = g0 at HO1 HB1 ⊢
  have HG0 := Lib.hid hg0
  clear hg0
  go_loopw [6] (fun j wr => ∃ k : Nat, k ≤ 256 ∧ j = .int .i64 k ∧ OwnI wr g0 5 .u8 (.slice (some ⟨g0, 0, none⟩) 256 256) (fill 0 tab k) ∧ Below g0 w wr) (fun j _ => 256 - (intOf j).toNat)
  case atStart => exact ⟨0, Nat.zero_le _, rfl, by rw [fill_zero, tab_len]; exact HO1.out, HB1.out⟩
  case round =>
    obtain ⟨k, hk, rfl, own, acc⟩ := hrel
    have HO := Lib.hid own
    have HACC := Lib.hid acc
    by_cases hlt : k < 256
    · have HLT := Lib.hid hlt
      have k1 : (k : Int) < 256 := by omega
      have z1 : IntKind.u8.wrap (k : Int) = k := IntWalk.u8_in _ (by omega)
      have p1 := own.cell k (by rw [fill_len (by rw [tab_len]; omega), tab_len]; exact hlt)
      have p2 := own.frozen k
      have HG := Lib.hid own.base_le
      generalize (fill 0 tab k).getD k 0 = x at *
      clear hk own acc
      have k2 : k < 256 := hlt
      clear hlt
      go_wp2_with fail
      go_roundw
      case rel =>
        refine ⟨k + 1, HLT.out, by go_num, ?_, ?_⟩
        · rw [← fill_set (d := 0) (by rw [tab_len]; exact HLT.out), tab_at HLT.out]
          exact HO.out.store k _
        · exact Below.setCell HACC.out HG.out.1 _
      case measure => simp [intOf]; have := HLT.out; omega
    · obtain rfl : k = 256 := by omega
      clear hk own acc hlt
      go_wp2_with fail
      go_ret
      exact ⟨g0, rfl, by have := HO.out; rw [fill_all (by rw [tab_len]; omega)] at this; rw [HG0.out]; exact this, by rw [HG0.out]; exact HACC.out⟩
/-! ### copy within a row of the call's own -/
/-- No other block was changed, and none was made. -/
def Else (g : Nat) (w w' : World) : Prop := w'.heap.size = w.heap.size ∧ ∀ k, k ≠ g → w'.heap[k]? = w.heap[k]?
theorem Else.set {g : Nat} {w w' : World} (h : Else g w w') (i : Nat) (v : Value) : Else g w (w'.setCell ⟨g, i, none⟩ v) :=
  ⟨by rw [← h.1]; simp [World.setCell], fun k hk => (Below.heap_setCell w' ⟨g, i, none⟩ v k hk).trans (h.2 k hk)⟩
theorem own_else {w w' : World} {B g : Nat} {e : TypeId} {k : IntKind} {v : Value} {zs : List Int} (h : OwnI w B e k v zs) (hE : Else g w w') (hne : v.ownBlock ≠ some g) : OwnI w' B e k v zs := by
  refine ⟨h.1, ?_⟩
  rcases h.2 with h2 | ⟨g', cap, cur, hv, hB, hg, r⟩
  · exact .inl h2
  · exact .inr ⟨g', cap, cur, hv, hB, by rw [hE.2 g' (fun e => hne (by rw [hv, e]; rfl))]; exact hg, r⟩
theorem splice_take {α : Type} (M T ys : List α) (off : Nat) (h : off + ys.length ≤ M.length) : ((M ++ T).take off ++ ys ++ (M ++ T).drop (off + ys.length)).take M.length = M.take off ++ (ys ++ M.drop (off + ys.length)) := by
  have e1 : (M ++ T).take off = M.take off := List.take_append_of_le_length (by omega)
  have e2 : (M ++ T).drop (off + ys.length) = M.drop (off + ys.length) ++ T := List.drop_append_of_le_length h
  rw [e1, e2]
  have e : M.take off ++ ys ++ (M.drop (off + ys.length) ++ T) = (M.take off ++ (ys ++ M.drop (off + ys.length))) ++ T := by simp
  rw [e]
  exact List.take_left' (by simp; omega)
theorem wp_copy8 {w : World} {o : Oper} {a : Act} {K : Act → World → Prop} {Q : Exit → Act → World → Prop} (hgd : o.guard = none) (d s : Operand)
    (ho : o.op = .call { callee := .builtin .copy, args := #[d, s], argTypes := #[24, 24] })
    (B g off dLen dCap n cap : Nat) (zs ys : List Int) (hown : OwnI w B 5 .u8 (.slice (some ⟨g, 0, none⟩) n cap) zs) (hd : a.eval d = .slice (some ⟨g, off, none⟩) dLen dCap)
    (ad : Addr) (sLen sCap : Nat) (hs : a.eval s = .slice (some ad) sLen sCap) (hr : ∀ j, j < ys.length → w.cell? (ad.add j) = some (.int .u8 (ys.getD j 0))) (hy : ys.length = min sLen dLen) (hfit : off + ys.length ≤ zs.length)
    (h : ∀ w', OwnI w' B 5 .u8 (.slice (some ⟨g, 0, none⟩) n cap) (splice zs off ys) → Else g w w' → Below g w w' → K (a.put o.dst (goInt ys.length)) w') : Oper.wp Try.prog o a w K Q := by
  obtain ⟨hl, h2⟩ := hown
  rcases h2 with ⟨h', _⟩ | ⟨g', cap', cur, hv, hB, hg, hnc, hcm, hcs, ht⟩
  · cases h'
  · injection hv with v1 v2 v3
    injection v1 with v1
    injection v1 with v1
    subst v1 v2 v3
    obtain ⟨i, hi, hz, h1, -⟩ := info8
    have hsz : cur.toList.length = cap := by rw [Array.length_toList]; omega
    have hrun := run_copy_row (P := Try.prog) w 24 24 o.type 5 g off dLen dCap ad sLen sCap cur 5 (ys.map (Value.int .u8)) Try.underlying24 (by rw [hi]; exact congrArg some h1) hg (by rw [List.length_map]; exact hy)
      (fun j v hv => by
        rw [List.getElem?_map] at hv
        have hj : j < ys.length := by
          rcases Nat.lt_or_ge j ys.length with c | c
          · exact c
          · rw [List.getElem?_eq_none c] at hv; cases hv
        rw [hr j hj]
        rw [List.getElem?_eq_getElem hj] at hv
        rw [List.getD_eq_getElem?_getD, List.getElem?_eq_getElem hj]
        exact hv) (by rw [List.length_map]; have : zs.length = zs.length := rfl; omega) one_ints
    rw [List.length_map] at hrun
    unfold Oper.wp execOp
    simp only [ho, resolve, invoke, builtin, Sem.run_bind, Sem.run_pure, Result.andThen_ok, List.map_toArray, List.map_cons, List.map_nil, hd, hs, hrun]
    have hsp : (splice zs off ys).length = zs.length := length_splice zs off ys hfit
    refine h _ ⟨by simp, .inr ⟨g, cap, _, by rw [hsp], hB, setRow_heap w g cur _ _ _ hg, by rw [hsp]; exact hnc, hcm, ?_, ?_⟩⟩ ?_ ?_
    · simp; omega
    · have hz2 : zs.map (Value.int .u8) = cur.toList.take (zs.length * 1) := ht.symm
      have hz3 : cur.toList = zs.map (Value.int .u8) ++ cur.toList.drop (zs.length * 1) := by rw [hz2, List.take_append_drop]
      rw [hsp, hz3]
      have := splice_take (zs.map (Value.int .u8)) (cur.toList.drop (zs.length * 1)) (ys.map (Value.int .u8)) off (by simpa using hfit)
      rw [List.length_map, List.length_map] at this
      simpa [splice, List.map_append, List.map_take, List.map_drop] using this
    · exact ⟨by simp [World.setRow], fun k hk => setRow_other w g k _ hk⟩
    · exact below_setRow (Below.refl _ _) (Nat.le_refl _) _
end Go.Proofs.Ytbfodmckgjeoaaa.fiW
