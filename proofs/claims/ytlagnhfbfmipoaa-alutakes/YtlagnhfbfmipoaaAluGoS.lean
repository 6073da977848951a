/- Layer 7: what alu.Do answers, an instruction each. -/
import Derived.Test.YtlagnhfbfmipoaaAluGo
namespace Go.Proofs.Ytlagnhfbfmipoaa
open Go.RowKit
set_option linter.unusedVariables false

theorem shift_low (b : Nat) (hb : b < 4294967296) : bits .and .u32 (b : Int) 31 = (b : Int) % 32 := by
  have h := and_low (b : Int) 5 (by omega) (by omega) (by omega) (by omega)
  rw [show pw 5 - 1 = 31 from by decide, show pw 5 = 32 from by decide] at h
  exact h

theorem pw_rest (b : Nat) : (2 : Int) ^ (b % 32) = pw ((b : Int) % 32) := by
  unfold pw; rw [show ((b : Int) % 32).toNat = b % 32 from by omega]

end Go.Proofs.Ytlagnhfbfmipoaa
