/- Layer 7: what alu.Do answers, an instruction each. -/
import Derived.Test.YtlagnhfbfmipoaaAluGoS
namespace Go.Proofs.Ytlagnhfbfmipoaa
open Go.RowKit
set_option linter.unusedVariables false

set_option maxRecDepth 100000 in
set_option maxHeartbeats 4000000 in
theorem do7_26 (a b : Nat) (w : World) (ha : a < 4294967296) (hb : b < 4294967296) :
    Calls Try.prog 7 #[.int .i64 26, .int .u32 (a : Int), .int .u32 (b : Int)] w fun e w' => e = .returned (.tuple #[.int .u32 (aluOf 34 a b), .int .i64 0]) ∧ w' = w := by
  have es := shift_low b hb
  obtain ⟨p0, p1⟩ := pw_31 (s := (b : Int) % 32) (by omega) (by omega)
  have dl := div_low a _ p0 ha
  have er := pw_rest b
  have HV : Hid (_ = aluOf 34 a b) := (al34 a b).symm
  go_enter Try.func7, Try.ntmps7
  go_wp2
  go_ret2
  refine ⟨ret_pair (Eq.trans ?_ HV.out), rfl⟩
  first | rfl | (simp only [er]; done) | (rw [er])

set_option maxRecDepth 100000 in
set_option maxHeartbeats 4000000 in
theorem do7_27 (a b : Nat) (w : World) (ha : a < 4294967296) (hb : b < 4294967296) :
    Calls Try.prog 7 #[.int .i64 27, .int .u32 (a : Int), .int .u32 (b : Int)] w fun e w' => e = .returned (.tuple #[.int .u32 (aluOf 35 a b), .int .i64 0]) ∧ w' = w := by
  have es := shift_low b hb
  obtain ⟨a0, a1⟩ := signed_bounds (a : Int) (by omega) (by omega)
  obtain ⟨p0, p1⟩ := pw_31 (s := (b : Int) % 32) (by omega) (by omega)
  have fl := floor_low (signedOf (a : Int)) _ a0 a1 p0
  have ea := signed_wrap (a : Int) (by omega) (by omega)
  have er := pw_rest b
  have HV : Hid (_ = aluOf 35 a b) := (al35 a b).symm
  go_enter Try.func7, Try.ntmps7
  go_wp2
  go_ret2
  refine ⟨ret_pair (Eq.trans ?_ HV.out), rfl⟩
  first | rfl | (simp only [er]; done) | (rw [er])

set_option maxRecDepth 100000 in
set_option maxHeartbeats 4000000 in
theorem do7_36 (a b : Nat) (w : World) (ha : a < 4294967296) (hb : b < 4294967296) :
    Calls Try.prog 7 #[.int .i64 36, .int .u32 (a : Int), .int .u32 (b : Int)] w fun e w' => e = .returned (.tuple #[.int .u32 (aluOf 36 a b), .int .i64 0]) ∧ w' = w := by
  have es := shift_low b hb
  have xo := u32_or_nat a b ha hb
  have HV : Hid (_ = aluOf 36 a b) := (al36 a b).symm
  go_enter Try.func7, Try.ntmps7
  go_wp2
  go_ret2
  refine ⟨ret_pair (Eq.trans ?_ HV.out), rfl⟩
  first | rfl | omega

set_option maxRecDepth 100000 in
set_option maxHeartbeats 4000000 in
theorem do7_37 (a b : Nat) (w : World) (ha : a < 4294967296) (hb : b < 4294967296) :
    Calls Try.prog 7 #[.int .i64 37, .int .u32 (a : Int), .int .u32 (b : Int)] w fun e w' => e = .returned (.tuple #[.int .u32 (aluOf 37 a b), .int .i64 0]) ∧ w' = w := by
  have es := shift_low b hb
  have xo := u32_and_nat a b ha hb
  have HV : Hid (_ = aluOf 37 a b) := (al37 a b).symm
  go_enter Try.func7, Try.ntmps7
  go_wp2
  go_ret2
  refine ⟨ret_pair (Eq.trans ?_ HV.out), rfl⟩
  first | rfl | omega

end Go.Proofs.Ytlagnhfbfmipoaa
