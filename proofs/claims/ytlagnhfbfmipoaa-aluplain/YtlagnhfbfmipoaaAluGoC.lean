/- Layer 7: what alu.Do answers, an instruction each. -/
import Derived.Test.YtlagnhfbfmipoaaAluGoS
namespace Go.Proofs.Ytlagnhfbfmipoaa
open Go.RowKit
set_option linter.unusedVariables false

set_option maxRecDepth 100000 in
set_option maxHeartbeats 4000000 in
theorem do7_29 (a b : Nat) (w : World) (ha : a < 4294967296) (hb : b < 4294967296) :
    Calls Try.prog 7 #[.int .i64 29, .int .u32 (a : Int), .int .u32 (b : Int)] w fun e w' => e = .returned (.tuple #[.int .u32 (aluOf 29 a b), .int .i64 0]) ∧ w' = w := by
  have es := shift_low b hb
  have HV : Hid (_ = aluOf 29 a b) := (al29 a b).symm
  go_enter Try.func7, Try.ntmps7
  go_wp2
  go_ret2
  refine ⟨ret_pair (Eq.trans ?_ HV.out), rfl⟩
  first | rfl | omega

set_option maxRecDepth 100000 in
set_option maxHeartbeats 4000000 in
theorem do7_22 (a b : Nat) (w : World) (ha : a < 4294967296) (hb : b < 4294967296) :
    Calls Try.prog 7 #[.int .i64 22, .int .u32 (a : Int), .int .u32 (b : Int)] w fun e w' => e = .returned (.tuple #[.int .u32 (aluOf 33 a b), .int .i64 0]) ∧ w' = w := by
  have es := shift_low b hb
  have xo := u32_xor_nat a b ha hb
  have HV : Hid (_ = aluOf 33 a b) := (al33 a b).symm
  go_enter Try.func7, Try.ntmps7
  go_wp2
  go_ret2
  refine ⟨ret_pair (Eq.trans ?_ HV.out), rfl⟩
  first | rfl | omega

set_option maxRecDepth 100000 in
set_option maxHeartbeats 4000000 in
theorem do7_23 (a b : Nat) (w : World) (ha : a < 4294967296) (hb : b < 4294967296) :
    Calls Try.prog 7 #[.int .i64 23, .int .u32 (a : Int), .int .u32 (b : Int)] w fun e w' => e = .returned (.tuple #[.int .u32 (aluOf 36 a b), .int .i64 0]) ∧ w' = w := by
  have es := shift_low b hb
  have xo := u32_or_nat a b ha hb
  have HV : Hid (_ = aluOf 36 a b) := (al36 a b).symm
  go_enter Try.func7, Try.ntmps7
  go_wp2
  go_ret2
  refine ⟨ret_pair (Eq.trans ?_ HV.out), rfl⟩
  first | rfl | omega

set_option maxRecDepth 100000 in
set_option maxHeartbeats 4000000 in
theorem do7_24 (a b : Nat) (w : World) (ha : a < 4294967296) (hb : b < 4294967296) :
    Calls Try.prog 7 #[.int .i64 24, .int .u32 (a : Int), .int .u32 (b : Int)] w fun e w' => e = .returned (.tuple #[.int .u32 (aluOf 37 a b), .int .i64 0]) ∧ w' = w := by
  have es := shift_low b hb
  have xo := u32_and_nat a b ha hb
  have HV : Hid (_ = aluOf 37 a b) := (al37 a b).symm
  go_enter Try.func7, Try.ntmps7
  go_wp2
  go_ret2
  refine ⟨ret_pair (Eq.trans ?_ HV.out), rfl⟩
  first | rfl | omega

set_option maxRecDepth 100000 in
set_option maxHeartbeats 4000000 in
theorem do7_25 (a b : Nat) (w : World) (ha : a < 4294967296) (hb : b < 4294967296) :
    Calls Try.prog 7 #[.int .i64 25, .int .u32 (a : Int), .int .u32 (b : Int)] w fun e w' => e = .returned (.tuple #[.int .u32 (aluOf 30 a b), .int .i64 0]) ∧ w' = w := by
  have es := shift_low b hb
  obtain ⟨p0, p1⟩ := pw_31 (s := (b : Int) % 32) (by omega) (by omega)
  have ml := mul_low a _ p0 p1 ha
  have er := pw_rest b
  have HV : Hid (_ = aluOf 30 a b) := (al30 a b).symm
  go_enter Try.func7, Try.ntmps7
  go_wp2
  go_ret2
  refine ⟨ret_pair (Eq.trans ?_ HV.out), rfl⟩
  first | rfl | (simp only [er]; done) | (rw [er])

end Go.Proofs.Ytlagnhfbfmipoaa
