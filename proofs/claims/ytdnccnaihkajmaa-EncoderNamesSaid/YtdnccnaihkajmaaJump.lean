/- A body with a label that a goto goes back to: the code behind the label is walked once. Over any program. -/
import Derived.WalkKit
import Derived.Tactics
import Derived.ScopeJumps
namespace Go.Proofs.Ytdnccnaihkajmaa.base
open Go.RowKit

theorem wp_jumps {P : Program} {a : Act} {w : World} {Q : Exit → Act → World → Prop} {c rest : Code} (l : Nat) (J : Act → World → Prop) (μ : Act → World → Nat) (hf : findLabel c l = some rest)
    (pass : ∀ a w, J a w → rest.wp P (Exit.jump l (fun a' w' => J a' w' ∧ μ a' w' < μ a w) Q) a w)
    (first : (∀ a w, J a w → rest.wp P (Exit.jump l J Q) a w) → c.wp P (Exit.jump l J Q) a w) : (Code.scope c).wp P Q a w := by
  refine wp_scope_jumps l J μ hf (first fun a w h => ?_) pass
  refine Code.wp_mono (fun e a' w' hq => ?_) (pass a w h)
  cases e <;> first | exact hq | exact ⟨hq.1, hq.2.1⟩
/-- The same, where the label stands before an empty statement (as the translation lays it). -/
theorem wp_jumps1 {P : Program} {a : Act} {w : World} {Q : Exit → Act → World → Prop} {c x : Code} (l : Nat) (J : Act → World → Prop) (μ : Act → World → Nat) (hf : findLabel c l = some (.seq .skip x))
    (pass : ∀ a w, J a w → x.wp P (Exit.jump l (fun a' w' => J a' w' ∧ μ a' w' < μ a w) Q) a w)
    (first : (∀ a w, J a w → x.wp P (Exit.jump l J Q) a w) → c.wp P (Exit.jump l J Q) a w) : (Code.scope c).wp P Q a w := by
  refine wp_scope_jumps l J μ hf (first fun a w h => ?_) fun a w h => wp_seq (wp_skip (pass a w h))
  refine Code.wp_mono (fun e a' w' hq => ?_) (pass a w h)
  cases e <;> first | exact hq | exact ⟨hq.1, hq.2.1⟩
end Go.Proofs.Ytdnccnaihkajmaa.base
