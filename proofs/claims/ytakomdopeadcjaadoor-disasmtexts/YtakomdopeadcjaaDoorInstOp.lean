/- Layer 2: what Op answers of any text. -/
import Derived.Test.YtakomdopeadcjaaDoorInstTabs
import Derived.Laws.Strings
namespace Go.Proofs.YtakomdopeadcjaaDoor
open Go.RowKit
set_option linter.unusedVariables false

theorem str_ne {a b : ByteArray} (h : a ≠ b) : (a.toList == b.toList) = false := by
  rw [beq_eq_false_iff_ne, ByteArray.toList_eq, ByteArray.toList_eq]
  intro e
  apply h
  obtain ⟨⟨x⟩⟩ := a
  obtain ⟨⟨y⟩⟩ := b
  simp at e
  rw [e]

theorem names_apart : ∀ i, i < 58 → ∀ j, j < i → nameL.getD j [] ≠ nameL.getD i [] := by decide +kernel
theorem nameS_apart (i j : Nat) (hi : i < 58) (hj : j < i) : nameS j ≠ nameS i := by
  intro h
  apply names_apart i hi j hj
  have : (nameL.getD j []).toArray = (nameL.getD i []).toArray := congrArg ByteArray.data h
  simpa using this

end Go.Proofs.YtakomdopeadcjaaDoor
