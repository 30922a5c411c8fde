/- Sum, Pad, Block, by walks. -/
import Derived.Test.YtphakelncjogpaaDoorShWA
namespace Go.Proofs.YtphakelncjogpaaDoor.shW
set_option maxRecDepth 100000
open Go.RowKit Go.Proofs.YtphakelncjogpaaDoor.base Go.Proofs.YtphakelncjogpaaDoor.shP
set_option linter.unusedVariables false
set_option linter.unusedSimpArgs false
theorem results_cell_tmp {P : Program} {fn : Func} {p t : Tmp} {ty : TypeId} (h : fn.results = #[.cell p ty, .tmp t]) (tmps : Array Value) (w : World) (g : Nat) (T : TypeId) (cs : Array Value) (fr : Nat × Nat) (d : TypeDesc)
    (hp : tmps.getD p undef = .pointer (some ⟨g, 0, none⟩)) (hg : w.heap[g]? = some (.cells cs T fr))
    (hu : P.underlying ty = some d) (hd : (match d with | .struct _ | .array _ _ => true | _ => false) = true) (hi : (P.info? ty).map (·.size) = some cs.size) :
    (results fn tmps).run P w = .ok (.tuple #[.agg cs, tmps.getD t undef]) w := by
  have hp' : tmps[p]?.getD undef = .pointer (some ⟨g, 0, none⟩) := by simpa using hp
  simp [results, h, hp', asAddr, run_loadVar_row w g T ty cs fr d hg hu hd hi]
def zd : List Int := List.replicate 20 0
def sumE (b : List Int) : Int := if b.length ≤ 20000 then 0 else 4
def sumV (b : List Int) : List Int := if b.length ≤ 20000 then digest b else zd
theorem z20_arr : z20.toArray = darr zd := rfl
theorem info20z : (Tryd.prog.info? 52).map (·.size) = some (darr zd).size := by kernel_rfl
theorem zd_one : ∀ u ∈ (darr zd).toList, u.oneCell' = true := by
  intro u hu
  simp only [darr, List.mem_map] at hu
  obtain ⟨i, _, rfl⟩ := hu
  rfl
theorem dg_form (b : List Int) : ∃ v : W5, digest b = wbytes v := ⟨_, rfl⟩
set_option maxRecDepth 100000 in
set_option maxHeartbeats 4000000 in
theorem Sum_any (b : List Int) (A : Option Addr) (n d : Nat) (w : World) (hT : Tab w) (hA : Has .u8 w A b) (hl : b.length = n) (hd : n ≤ d) (hm : n ≤ 9223372036854775807) (hb : ∀ z ∈ b, 0 ≤ z ∧ z ≤ 255) :
    Calls Tryd.prog 30 #[.slice A n d] w fun e w' => e = .returned (.tuple #[.agg (darr (sumV b)), .int .i64 (sumE b)]) ∧ Below w.heap.size w w' := by
  have n9 : (n : Int) ≤ 9223372036854775807 := by omega
  have HTB := Lib.hid hT
  have HA := Lib.hid hA
  have HL := Lib.hid hl
  have HB := Lib.hid hb
  have HD := Lib.hid hd
  have HZ0 := Lib.hid (z20_new w rfl)
  by_cases h : (n : Int) ≤ 20000
  · have HV : Hid (sumE b = 0 ∧ sumV b = digest b) := Lib.hid ⟨by rw [sumE, if_pos (by omega)], by rw [sumV, if_pos (by omega)]⟩
    have HN : Hid (n ≤ 20000) := Lib.hid (by omega)
    obtain ⟨v, hv⟩ := dg_form b
    have HVV := Lib.hid hv
    have HP := Lib.hid (done1 v)
    clear hT hA hl hb hd hm hv
    go_enter Tryd.func30, Tryd.ntmps30
    go_wp2_with fail
    refine (digest_any b A n d _ (HTB.out.below ((Below.refl _ _).alloc (Nat.le_refl _) _) (Nat.le_refl _)) (HA.out.below ((Below.refl _ _).alloc (Nat.le_refl _) _) (Nat.le_refl _)) HL.out HD.out HN.out HB.out).mono ?_
    rintro e w1 ⟨rfl, hb1⟩
    rw [HVV.out]
    have HZ1 := Lib.hid (HZ0.out.past hb1)
    have HB1 : Hid (Below w.heap.size w w1) := Lib.hid (by (repeat' (first | (with_reducible exact Below.refl _ _) | (with_reducible assumption) | (with_reducible refine below_drewN ?_ _) | (with_reducible refine below_new ?_ _) | (with_reducible refine Below.alloc ?_ ?_ _) | (with_reducible refine Below.drew ?_) | (with_reducible refine Below.setCell ?_ ?_ _) | (with_reducible apply below_at; (case k => (with_reducible assumption)); (case hB => omega)) | (with_reducible apply below_on; (with_reducible assumption)) | (go_size; done) | (with_reducible apply size_of))))
    clear hb1
    go_wp2_with (show wpList _ _ _ ({ dst := none, op := Op.store 52 _ _, type := _, pos := _, after := _, guard := none } :: _) _ _; go_must (refine wpList_store_arr (P := Tryd.prog) rfl 52 (.tmp 2) (.tmp 9) rfl w.heap.size ?c4 (darr (wbytes v)) ?c0 52 _ HZ1.out rfl HP.out (info20 v) ?_); (case c4 => rfl); (case c0 => rfl); intro w9 hR9 hb9 hz9)
    refine bodyPost_ret (results_cell_tmp (P := Tryd.prog) Tryd.results30 _ _ _ _ _ _ _ rfl hR9 Tryd.underlying52 rfl (info20 v)) rfl ⟨?_, ?_⟩
    · rw [HV.out.1, HV.out.2, HVV.out]; rfl
    · have := HB1.out; exact this.trans hb9
  · have HV : Hid (sumE b = 4 ∧ sumV b = zd) := Lib.hid ⟨by rw [sumE, if_neg (by omega)], by rw [sumV, if_neg (by omega)]⟩
    clear hT hA hl hb hd hm
    go_enter Tryd.func30, Tryd.ntmps30
    have HP := Lib.hid zd_one
    go_wp2_with (show wpList _ _ _ ({ dst := none, op := Op.store 52 _ _, type := _, pos := _, after := _, guard := none } :: _) _ _; go_must (refine wpList_store_arr (P := Tryd.prog) rfl 52 (.tmp 2) (.tmp 7) rfl w.heap.size ?c4 (darr zd) ?c0 52 _ HZ0.out rfl HP.out info20z ?_); (case c4 => rfl); (case c0 => rfl); intro w9 hR9 hb9 hz9)
    refine bodyPost_ret (results_cell_tmp (P := Tryd.prog) Tryd.results30 _ _ _ _ _ _ _ rfl hR9 Tryd.underlying52 rfl info20z) rfl ⟨?_, ?_⟩
    · rw [HV.out.1, HV.out.2]; rfl
    · exact Below.trans (by (repeat' (first | (with_reducible exact Below.refl _ _) | (with_reducible assumption) | (with_reducible refine below_drewN ?_ _) | (with_reducible refine below_new ?_ _) | (with_reducible refine Below.alloc ?_ ?_ _) | (with_reducible refine Below.drew ?_) | (with_reducible refine Below.setCell ?_ ?_ _) | (with_reducible apply below_at; (case k => (with_reducible assumption)); (case hB => omega)) | (with_reducible apply below_on; (with_reducible assumption)) | (go_size; done) | (with_reducible apply size_of)))) hb9
end Go.Proofs.YtphakelncjogpaaDoor.shW
