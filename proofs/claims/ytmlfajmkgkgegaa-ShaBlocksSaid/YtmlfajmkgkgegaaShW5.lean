/- Blocks done one after the other, by a walk. -/
import Derived.Test.YtmlfajmkgkgegaaShW4
namespace Go.Proofs.Ytmlfajmkgkgegaa.shW
open Go.RowKit Go.Proofs.Ytmlfajmkgkgegaa.base Go.Proofs.Ytmlfajmkgkgegaa.shP
set_option linter.unusedVariables false
set_option linter.unusedSimpArgs false
theorem dn_in (h : W5) (b : List Int) : In5 (dn h b) := addW_in _ _
theorem blks_in {l : List Int} {h : W5} (hh : In5 h) : ∀ k, In5 (blks l k h)
  | 0 => hh
  | k + 1 => dn_in _ _
theorem bd_cut {b : List Int} (hb : ∀ z ∈ b, 0 ≤ z ∧ z ≤ 255) (i n : Nat) : ∀ z ∈ (b.drop i).take n, 0 ≤ z ∧ z ≤ 255 := fun z h => hb z (List.mem_of_mem_drop (List.mem_of_mem_take h))
theorem doBlock' (h : W5) (b : List Int) (A : Option Addr) (d : Nat) (w : World) (hA : Has .u8 w A b) (hl : b.length = 64) (hd : 64 ≤ d) (hb : ∀ z ∈ b, 0 ≤ z ∧ z ≤ 255) (hh : In5 h) :
    Calls Try.prog 11 #[.agg #[.int .u32 h.a, .int .u32 h.b, .int .u32 h.c, .int .u32 h.d, .int .u32 h.e], .slice A 64 d] w fun e w' => e = .returned (.agg #[.int .u32 (dn h b).a, .int .u32 (dn h b).b, .int .u32 (dn h b).c, .int .u32 (dn h b).d, .int .u32 (dn h b).e]) ∧ Below w.heap.size w w' := doBlock h b A d w hA hl hd hb hh
end Go.Proofs.Ytmlfajmkgkgegaa.shW
