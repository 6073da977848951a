/- Layer 10: Load and Store. -/
import Derived.Test.YtcigceaadkjenaaDoorRamGo2
namespace Go.Proofs.YtcigceaadkjenaaDoor
open Go.RowKit
set_option linter.unusedVariables false

theorem numTo_same {f h : Nat → Int} : ∀ k, (∀ i, i < k → f i = h i) → numTo f k = numTo h k
  | 0, _ => rfl
  | k + 1, e => by rw [numTo, numTo, numTo_same k (fun i hi => e i (by omega)), e k (by omega)]

/-- The place of an address that is there. -/
theorem at_of {K : Nat} {addr n : Int} (h : hasB K addr n = true) : ∃ a : Nat, addr = 2147483648 + (a : Int) ∧ n + a ≤ 64 * K ∧ 1 ≤ n ∧ a < 64 * K := by
  obtain ⟨h0, h1, h2⟩ := hasB_yes h
  exact ⟨(addr - 2147483648).toNat, by omega, by omega, h0, by omega⟩
/-- An access that is not odd lies in one page. -/
theorem even_fit {a n : Nat} {addr : Int} (ha : addr = 2147483648 + (a : Int)) (hn : n = 1 ∨ n = 2 ∨ n = 4) (h : addr % (n : Int) = 0) : a % 64 + n ≤ 64 := by
  rcases hn with rfl | rfl | rfl <;> omega

theorem bytesTo_range (x : Int) (n : Nat) : (bytesTo x n).map (Value.int .u8) = (List.range n).map fun i => Value.int .u8 (byteAt x i) := by
  unfold bytesTo; rw [List.map_map]; rfl

end Go.Proofs.YtcigceaadkjenaaDoor
