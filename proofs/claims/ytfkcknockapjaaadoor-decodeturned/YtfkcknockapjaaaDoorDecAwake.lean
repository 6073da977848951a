/- Layer 3: law03's awake. -/
import Derived.Test.YtfkcknockapjaaaDoorDecPut
namespace Go.Proofs.YtfkcknockapjaaaDoor
open Go.RowKit
set_option linter.unusedVariables false

theorem ins_addi : insV 10485907 = .agg #[.int .i64 19, .int .i64 1, .int .i64 0, .int .i64 0, .int .u32 10, .int .i64 0] := by rfl
theorem kind_ecall : (((kindOf 115 : Nat) : Int) != 0) = true := by rfl
theorem kind_zero : (((kindOf 0 : Nat) : Int) != 0) = false := by rfl

set_option maxHeartbeats 1600000 in
theorem dawake_any (w : World) (tf : FormTab w) (tm : MatchTab w) : Calls Tryd.prog 11 #[] w fun e w' => e = .returned (.bool true) ∧ Below w.heap.size w w' := by
  have HF : Hid (FormTab w) := tf
  have HM : Hid (MatchTab w) := tm
  clear tf tm
  go_enter Tryd.func11, Tryd.ntmps11
  go_wp2_with fail
  refine (decode_any 10485907 _ (by omega) (by omega) HF.out HM.out).mono ?_
  rintro e w1 ⟨rfl, hb⟩
  rw [ins_addi]
  go_wp2_with fail
  refine (legal_any 115 _ (by omega) (by omega) (MatchTab.below HM.out hb)).mono ?_
  rintro e w2 ⟨rfl, hw⟩
  have hw := hw.symm; subst hw
  rw [kind_ecall]
  go_wp2_with fail
  refine (legal_any 0 _ (by omega) (by omega) (MatchTab.below HM.out hb)).mono ?_
  rintro e w2 ⟨rfl, hw⟩
  have hw := hw.symm; subst hw
  rw [kind_zero]
  go_wp2
  go_ret
  exact ⟨rfl, hb⟩
end Go.Proofs.YtfkcknockapjaaaDoor
