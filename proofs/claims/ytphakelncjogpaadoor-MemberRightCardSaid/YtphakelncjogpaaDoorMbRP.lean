/- Records of valid members are valid, by plain facts. -/
import Derived.Test.YtphakelncjogpaaDoorMbA
namespace Go.Proofs.YtphakelncjogpaaDoor.mbW
set_option maxRecDepth 100000
open Go.RowKit Go.Proofs.YtphakelncjogpaaDoor.base Go.Proofs.YtphakelncjogpaaDoor.shP Go.Proofs.YtphakelncjogpaaDoor.shW
open Go.Proofs.YtphakelncjogpaaDoor.trW (IsD sv zd_isD digest_isD z20_at)
set_option linter.unusedVariables false
set_option linter.unusedSimpArgs false
set_option maxRecDepth 100000
theorem ck_tw {ms : List Mb} (h : ckE ms = 0) : twE (nms ms) = 0 := by
  have h2 := h
  unfold ckE at h2
  split at h2
  · omega
  · split at h2
    · omega
    · split at h2
      · exact h2
      · omega
theorem rnms_of (ms : List Mb) : rnms (ofL ms) = nms ms := by
  unfold rnms ofL nms
  rw [List.map_map]; rfl
theorem sumZ_of : ∀ ms : List Mb, sumZ (ofL ms) = sumD ms
  | [] => rfl
  | m :: l => by
    have := sumZ_of l
    unfold sumZ ofL at this ⊢
    simp only [List.map_cons, List.sum_cons, sumD]
    rw [this]
    show ((m.r.n : Int)) + _ = _
    omega
theorem rok_of {ms : List Mb} (h : ckE ms = 0) {k : Nat} (hk : k < ms.length) (he : (ms.getD k mb0).r.b.length = (ms.getD k mb0).r.n) : rok (recOf (ms.getD k mb0)) := by
  have h1 := sumD_get ms k hk
  have h2 := (ck_zero h).2
  refine ⟨?_, by show (0 : Int) ≤ ((ms.getD k mb0).r.n : Int); omega, by show ((ms.getD k mb0).r.n : Int) ≤ 8192; omega, fun hz => ?_⟩
  · refine nm_of_ck h _ ?_
    rw [show (recOf (ms.getD k mb0)).nm = (ms.getD k mb0).nm from rfl, ← nms_get ms hk, List.getD_eq_getElem?_getD, List.getElem?_eq_getElem (by rw [nms_len]; exact hk)]
    exact List.getElem_mem _
  · have hz2 : ((ms.getD k mb0).r.n : Int) = 0 := hz
    have : (ms.getD k mb0).r.b = [] := List.eq_nil_of_length_eq_zero (by omega)
    show digest (ms.getD k mb0).r.b = digest []
    rw [this]
theorem vl_of {ms : List Mb} (h : ckE ms = 0) (he : ∀ k, k < ms.length → (ms.getD k mb0).r.b.length = (ms.getD k mb0).r.n) : vlE (ofL ms) = 0 := by
  have hz := ck_zero h
  rw [vl_ok (rs := ofL ms) (by rw [ofL_len]; omega) (fun k hk => by rw [ofL_len] at hk; rw [ofL_get ms hk]; exact rok_of h hk (he k hk)) (by rw [sumZ_of]; omega), rnms_of]
  exact ck_tw h
theorem vl_one {ms : List Mb} (h : ckE ms = 0) {k : Nat} (hk : k < ms.length) (he : (ms.getD k mb0).r.b.length = (ms.getD k mb0).r.n) : vlE [recOf (ms.getD k mb0)] = 0 := by
  have h1 := rok_of h hk he
  rw [vl_ok (rs := [recOf (ms.getD k mb0)]) (by simp) (fun j hj => by
    obtain rfl : j = 0 := by simpa using hj
    exact h1) (by have := h1.2.2.1; show ¬ 8192 < (recOf (ms.getD k mb0)).sz + 0; omega)]
  exact tw_all (fun i hi k hk => by simp [rnms] at hi; omega)
theorem fst_of {ms : List Mb} (h : ckE ms = 0) {k : Nat} (hk : k < ms.length) : Fst (ofL ms) (ms.getD k mb0).nm k := by
  refine ⟨by rw [ofL_len]; exact hk, by rw [ofL_get ms hk]; rfl, fun j hj e => ?_⟩
  rw [ofL_get ms (by omega)] at e
  have e2 : (ms.getD j mb0).nm = (ms.getD k mb0).nm := e
  have := tw_at (ss := nms ms) (i := k) (k := j) (by rw [nms_len]; exact hk) hj (by rw [nms_get ms hk, nms_get ms (by omega)]; exact e2.symm)
  rw [ck_tw h] at this
  cases this
theorem longer (s : ByteArray) : s ++ ⟨#[120]⟩ ≠ s := fun e => by
  have := congrArg ByteArray.size e
  rw [ByteArray.size_append] at this
  have h : (⟨#[120]⟩ : ByteArray).size = 1 := rfl
  omega
theorem rt_x (q : Mb) : rtB (recOf q) ⟨q.nm ++ ⟨#[120]⟩, q.r⟩ = false := rt_no (fun e => longer q.nm (by
  have := congrArg Rc.nm e
  exact this.symm))
end Go.Proofs.YtphakelncjogpaaDoor.mbW
