/- The chapter's examples. -/
import Derived.Test.YtphakelncjogpaaDoorMbL2
import Derived.Test.YtphakelncjogpaaDoorPk0
namespace Go.Proofs.YtphakelncjogpaaDoor.mbW
set_option maxRecDepth 100000
open Go.RowKit Go.Proofs.YtphakelncjogpaaDoor.base Go.Proofs.YtphakelncjogpaaDoor.shP Go.Proofs.YtphakelncjogpaaDoor.shW Go.Proofs.YtphakelncjogpaaDoor.ocP Go.Proofs.YtphakelncjogpaaDoor.ocW
open Go.Proofs.YtphakelncjogpaaDoor.trW (IsD sv zd_isD digest_isD z20_at)
set_option linter.unusedVariables false
set_option linter.unusedSimpArgs false
set_option maxRecDepth 100000
def dN : List Int := [218, 57, 163, 238, 94, 107, 75, 13, 50, 85, 191, 239, 149, 96, 24, 144, 175, 216, 7, 9]
theorem dN_is : digest [] = dN := by decide +kernel
theorem dN_isD : IsD dN := by rw [← dN_is]; exact digest_isD []
def aN : ByteArray := ⟨#[97]⟩
def qa : Mb := ⟨aN, r80⟩
def ra : Rc := ⟨aN, 0, dN⟩
theorem nm_a : nmB aN = true := by decide +kernel
theorem ck_a : ckE [qa] = 0 := by
  rw [ck_ok (ms := [qa]) (by simp) (by simp [sumD, qa, r80]) (fun k hk => by
    obtain rfl : k = 0 := by simpa using hk
    exact nm_a)]
  exact tw_all (fun i hi k hk => by simp [nms] at hi; omega)
theorem of_a : ofL [qa] = [ra] := by
  show [recOf qa] = [ra]
  unfold recOf
  rw [show qa.r.b = [] from rfl, dN_is]; rfl
theorem vl_a : vlE [ra] = 0 := by
  rw [vl_ok (rs := [ra]) (by simp) (fun k hk => by
    obtain rfl : k = 0 := by simpa using hk
    exact ⟨nm_a, by decide, by decide, fun _ => dN_is.symm⟩) (by decide)]
  exact tw_all (fun i hi k hk => by simp [rnms] at hi; omega)
theorem tab_a : tabB [ra] = [1, 97, 0, 0] ++ dN := by decide +kernel
theorem wr_a : wrV [ra] = [1, 97, 0, 0] ++ dN := by rw [wr_ok vl_a, tab_a]
theorem want_a : ((bstr ([1, 97, 0, 0] ++ dN)).toList == ((bstr [1, 97, 0, 0]) ++ (bstr dN)).toList) = true := by decide +kernel
def abN : ByteArray := ⟨#[97, 32, 98]⟩
theorem ck_ab : ckE [⟨abN, r80⟩] = 8 := ck_bad (ms := [⟨abN, r80⟩]) (by simp) (by simp [sumD, r80]) (k := 0) (by simp) (by decide +kernel)
set_option maxHeartbeats 3200000 in
theorem none_any (w : World) : Calls Tryd.prog 28 #[] w fun e w' => e = .returned (.agg (darr dN)) ∧ Below w.heap.size w w' := by
  have Y := Lib.hid (z20_at w rfl)
  have B0 := Lib.hid (mb_new w (.cells #[.int .u8 0, .int .u8 0, .int .u8 0, .int .u8 0, .int .u8 0, .int .u8 0, .int .u8 0, .int .u8 0, .int .u8 0, .int .u8 0, .int .u8 0, .int .u8 0, .int .u8 0, .int .u8 0, .int .u8 0, .int .u8 0, .int .u8 0, .int .u8 0, .int .u8 0, .int .u8 0] 52))
  go_enter Tryd.func28, Tryd.ntmps28
  go_wp2_with (first | (show wpList _ _ _ ({ dst := none, op := Op.store 52 _ _, type := _, pos := _, after := _, guard := _ } :: _) _ _; go_must (refine trW.wp_st (g := w.heap.size) (l := dN) (by rfl) _ _ rfl (Y.out) (zd_isD.len) (dN_isD.len) rfl rfl ?_); intro w3 hR3 hg3 hb3 hz3))
  refine bodyPost_ret (trW.ret_1 (by exact Tryd.results28) _ _ _ (dN_isD.len) rfl (hR3)) rfl ?_
  exact ⟨rfl, B0.out.trans hb3⟩
end Go.Proofs.YtphakelncjogpaaDoor.mbW
