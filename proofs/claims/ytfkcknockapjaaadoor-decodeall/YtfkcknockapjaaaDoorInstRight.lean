/- Layer 2: what Right answers of any instruction, and its parts. -/
import Derived.Test.YtfkcknockapjaaaDoorInstTabs
namespace Go.Proofs.YtfkcknockapjaaaDoor
open Go.RowKit
set_option linter.unusedVariables false

def partB (n : Int) (has : Bool) (last : Int) : Bool := if has then decide (0 ≤ n ∧ n ≤ last) else decide (n = 0)
theorem partB_t {n last : Int} (h : 0 ≤ n ∧ n ≤ last) : partB n true last = true := by simpa [partB] using h
theorem partB_f {n last : Int} (h : ¬ (0 ≤ n ∧ n ≤ last)) : partB n true last = false := by simpa [partB] using h

theorem form10 {f : Int} (h : 0 ≤ f ∧ f < 10) : f = 0 ∨ f = 1 ∨ f = 2 ∨ f = 3 ∨ f = 4 ∨ f = 5 ∨ f = 6 ∨ f = 7 ∨ f = 8 ∨ f = 9 := by omega
theorem formZ_lt : ∀ k, k < 58 → 0 ≤ formZ k ∧ formZ k < 10 := by decide +kernel
def hasRdB (f : Int) : Bool := decide (f = 1 ∨ f = 2 ∨ f = 3 ∨ f = 6 ∨ f = 7 ∨ f = 8 ∨ f = 9)
def hasRs1B (f : Int) : Bool := decide (f = 3 ∨ f = 4 ∨ f = 5 ∨ f = 6 ∨ f = 7 ∨ f = 8)
def hasRs2B (f : Int) : Bool := decide (f = 4 ∨ f = 5 ∨ f = 6)
def hasCsrB (f : Int) : Bool := decide (f = 8 ∨ f = 9)

def evenB (x : Int) : Bool := decide (x % 2 = 0)
theorem even_and (x : Int) (h0 : 0 ≤ x) (h1 : x < 4294967296) : bits .and .u32 x 1 = x % 2 := by
  have a := and_low x 1 h0 h1 (by omega) (by omega)
  have p : pw 1 = 2 := by decide
  rw [p] at a
  exact a

def sgB (x h : Int) : Bool := decide (0 - h ≤ signedOf x ∧ signedOf x < h)
theorem sgB_t {x h : Int} (hh : 0 - h ≤ signedOf x ∧ signedOf x < h) : sgB x h = true := by simpa [sgB] using hh
theorem sgB_f {x h : Int} (hh : ¬ (0 - h ≤ signedOf x ∧ signedOf x < h)) : sgB x h = false := by
  unfold sgB; exact decide_eq_false hh
theorem wrap32_sg (x : Int) (h0 : 0 ≤ x) (h1 : x < 4294967296) : wrap32 x = signedOf x := by
  unfold wrap32 signedOf; split <;> omega
theorem signedOf_bd (x : Int) (h0 : 0 ≤ x) (h1 : x < 4294967296) : -2147483648 ≤ signedOf x ∧ signedOf x < 2147483648 := by
  unfold signedOf; split <;> omega

/-- May x be in the part Imm of an instruction of form f? -/
def immB (x f : Int) : Bool :=
  if f = 1 then decide (x % 4096 = 0) else if f = 2 then evenB x && sgB x 1048576 else if f = 3 ∨ f = 5 then sgB x 2048
  else if f = 4 then evenB x && sgB x 4096 else if f = 7 ∨ f = 9 then decide (x < 32) else decide (x = 0)
end Go.Proofs.YtfkcknockapjaaaDoor
