/- A region that draws its order: the condition on the world may be turned into a stronger one on the way (phase.py writes the moves). -/
import Derived.Test.YtlmmebgicanmhaaRows
import Derived.Deep.RegionHeld3
namespace Go.Proofs.Ytlmmebgicanmhaa
open Go

theorem wpAnyH_shift {P : Program} {md : Region.Mode} {ops : Array Oper} {Q : Exit → Act → World → Prop} {S S' : World → Prop} (h : ∀ w, S' w → S w) : ∀ (fuel : Nat) (listed : Array Bool) (a : Act) (w : World), wpAnyH P md ops Q S' fuel listed a w → wpAnyH P md ops Q S fuel listed a w
  | 0, _, _, _, g => g
  | fuel + 1, _, _, _, g => ⟨g.1, fun i hi => wpOp_mono (fun a' w' g' => ⟨h w' g'.1, wpAnyH_shift h fuel _ a' w' g'.2⟩) (g.2 i hi)⟩
end Go.Proofs.Ytlmmebgicanmhaa
