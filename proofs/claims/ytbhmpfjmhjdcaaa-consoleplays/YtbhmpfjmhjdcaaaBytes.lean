/- What layer 1's functions on bytes do: isSize, Width, Bytes, Number, SameBytes, and the document's own. -/
import Derived.Test.YtbhmpfjmhjdcaaaHex
namespace Go.Proofs.Ytbhmpfjmhjdcaaa
open Go.RowKit
set_option linter.unusedVariables false

def sizeB (n : Int) : Bool := decide (n = 1 ∨ n = 2 ∨ n = 4)
theorem sizeB_t {n : Int} (h : n = 1 ∨ n = 2 ∨ n = 4) : sizeB n = true := by simpa [sizeB] using h
theorem sizeB_f {n : Int} (h : ¬ (n = 1 ∨ n = 2 ∨ n = 4)) : sizeB n = false := by simpa [sizeB] using h
theorem sizeB_yes {n : Int} (h : sizeB n = true) : n = 1 ∨ n = 2 ∨ n = 4 := by simpa [sizeB] using h
theorem sizeB_no {n : Int} (h : sizeB n = false) : ¬ (n = 1 ∨ n = 2 ∨ n = 4) := by simpa [sizeB] using h

/-- Byte i of x, the lowest first; the first k of them. -/
def byteAt (x : Int) (i : Nat) : Int := x / pw (8 * i) % 256
def bytesTo (x : Int) (k : Nat) : List Int := (List.range k).map (byteAt x)
theorem bytesTo_succ (x : Int) (k : Nat) : bytesTo x (k + 1) = bytesTo x k ++ [byteAt x k] := by
  unfold bytesTo; rw [List.range_succ, List.map_append]; rfl
theorem bytesTo_len (x : Int) (k : Nat) : (bytesTo x k).length = k := by simp [bytesTo]
theorem bytesTo_at (x : Int) (k i : Nat) (h : i < k) : (bytesTo x k).getD i 0 = byteAt x i := by
  simp [bytesTo, List.getD, h]
theorem byteAt_bd (x : Int) (i : Nat) : 0 ≤ byteAt x i ∧ byteAt x i < 256 := by unfold byteAt; omega
theorem byte_form (x : Int) (k : Nat) : x / 2 ^ (8 * k) % 256 = byteAt x k := by
  unfold byteAt pw; rw [show (8 * (k : Int)).toNat = 8 * k from by omega]

end Go.Proofs.Ytbhmpfjmhjdcaaa
