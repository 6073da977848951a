/- Layer 2: the document's own Names; the program answers at all. -/
import Derived.Test.YtakomdopeadcjaaDoorInstOp
import Derived.Test.YtakomdopeadcjaaDoorInstRefs
namespace Go.Proofs.YtakomdopeadcjaaDoor
open Go.RowKit
set_option linter.unusedVariables false

set_option maxHeartbeats 1000000 in
theorem rnames_any (w : World) :
    Calls Tryd.prog 22 #[] w fun e w' => ∃ g, e = .returned (.slice (some ⟨g, 0, none⟩) 58 58) ∧ w.heap.size ≤ g ∧ (∀ k, k < 58 → w'.cell? ⟨g, k, none⟩ = some (.string (nameS k))) ∧ Below w.heap.size w w' := by
  go_enter Tryd.func22, Tryd.ntmps22
  go_wp2
  go_ret
  refine ⟨_, rfl, Nat.le_refl _, ?_, (Below.refl _ _).alloc (Nat.le_refl _) _⟩
  intro k hk
  have hn : (nameL.map fun s => Value.string ⟨s.toArray⟩)[k]? = some (.string (nameS k)) := by
    have : k < nameL.length := hk
    simp [nameS, List.getD, this]
  rw [← hn, ← List.getElem?_toArray]
  simp only [World.cell?, World.alloc, Array.getElem?_push_size]
  rfl

end Go.Proofs.YtakomdopeadcjaaDoor
