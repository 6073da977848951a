/- Layer 2: what isImm and Right answer of any instruction. -/
import Derived.Test.YtfkcknockapjaaaDoorInstRight
namespace Go.Proofs.YtfkcknockapjaaaDoor
open Go.RowKit
set_option linter.unusedVariables false

theorem low12_and (x : Int) (h0 : 0 ≤ x) (h1 : x < 4294967296) : bits .and .u32 x 4095 = x % 4096 := by
  have a := and_low x 12 h0 h1 (by omega) (by omega)
  have p : pw 12 = 4096 := by decide
  rw [p] at a
  exact a

theorem pw11 : pw 11 = 2048 := by decide
theorem pw12 : pw 12 = 4096 := by decide
theorem pw20 : pw 20 = 1048576 := by decide

/-- Is an instruction right? -/
def rightOf (f rd rs1 rs2 imm csr : Int) : Bool :=
  partB rd (hasRdB f) 31 && (partB rs1 (hasRs1B f) 31 && (partB rs2 (hasRs2B f) 31 && (partB csr (hasCsrB f) 4095 && immB imm f)))
def rightB (op rd rs1 rs2 imm csr : Int) : Bool := opB op && rightOf (formZ op.toNat) rd rs1 rs2 imm csr
theorem rightB_no {op rd rs1 rs2 imm csr : Int} (h : opB op = false) : rightB op rd rs1 rs2 imm csr = false := by simp [rightB, h]
theorem rightB_nat {k : Nat} {rd rs1 rs2 imm csr : Int} (h : k < 58) : rightB k rd rs1 rs2 imm csr = rightOf (formZ k) rd rs1 rs2 imm csr := by
  simp [rightB, opB_t (n := (k : Int)) (by omega)]

end Go.Proofs.YtfkcknockapjaaaDoor
