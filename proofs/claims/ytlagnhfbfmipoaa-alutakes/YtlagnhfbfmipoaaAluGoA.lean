/- Layer 7: what alu.Do answers, an instruction each. -/
import Derived.Test.YtlagnhfbfmipoaaAluGoS
namespace Go.Proofs.Ytlagnhfbfmipoaa
open Go.RowKit
set_option linter.unusedVariables false

set_option maxRecDepth 100000 in
set_option maxHeartbeats 4000000 in
theorem do7_28 (a b : Nat) (w : World) (ha : a < 4294967296) (hb : b < 4294967296) :
    Calls Try.prog 7 #[.int .i64 28, .int .u32 (a : Int), .int .u32 (b : Int)] w fun e w' => e = .returned (.tuple #[.int .u32 (aluOf 28 a b), .int .i64 0]) ∧ w' = w := by
  have es := shift_low b hb
  have HV : Hid (_ = aluOf 28 a b) := (al28 a b).symm
  go_enter Try.func7, Try.ntmps7
  go_wp2
  go_ret2
  refine ⟨ret_pair (Eq.trans ?_ HV.out), rfl⟩
  first | rfl | omega

set_option maxRecDepth 100000 in
set_option maxHeartbeats 4000000 in
theorem do7_31 (a b : Nat) (w : World) (ha : a < 4294967296) (hb : b < 4294967296) :
    Calls Try.prog 7 #[.int .i64 31, .int .u32 (a : Int), .int .u32 (b : Int)] w fun e w' => e = .returned (.tuple #[.int .u32 (aluOf 31 a b), .int .i64 0]) ∧ w' = w := by
  have es := shift_low b hb
  obtain ⟨v, hv2⟩ : ∃ v, v = aluOf 31 a b := ⟨_, rfl⟩
  have HV : Hid (v = aluOf 31 a b) := hv2
  have HO : Hid (∀ W : World, Calls Try.prog 16 #[.bool (decide (signedOf (a : Int) < signedOf (b : Int)))] W fun e w' => e = .returned (.int .u32 v) ∧ w' = W) := by
    intro W
    have hv : (if decide (signedOf (a : Int) < signedOf (b : Int)) = true then (1 : Int) else 0) = aluOf 31 a b := by rw [al31]; simp
    rw [hv2, ← hv]
    exact oneIf7_any _ W
  clear hv2
  go_enter Try.func7, Try.ntmps7
  go_wp2_with fail
  refine (below7_any a b _ ha hb).mono ?_; rintro e w1 ⟨rfl, hw⟩; have hw := hw.symm; subst hw
  go_wp2_with fail
  refine Calls.mono (HO.out _) ?_
  rintro e w1 ⟨rfl, hw⟩; have hw := hw.symm; subst hw
  go_wp2
  go_ret2
  exact ⟨ret_pair HV.out, rfl⟩

set_option maxRecDepth 100000 in
set_option maxHeartbeats 4000000 in
theorem do7_32 (a b : Nat) (w : World) (ha : a < 4294967296) (hb : b < 4294967296) :
    Calls Try.prog 7 #[.int .i64 32, .int .u32 (a : Int), .int .u32 (b : Int)] w fun e w' => e = .returned (.tuple #[.int .u32 (aluOf 32 a b), .int .i64 0]) ∧ w' = w := by
  have es := shift_low b hb
  obtain ⟨v, hv2⟩ : ∃ v, v = aluOf 32 a b := ⟨_, rfl⟩
  have HV : Hid (v = aluOf 32 a b) := hv2
  have HO : Hid (∀ W : World, Calls Try.prog 16 #[.bool (decide (a < b))] W fun e w' => e = .returned (.int .u32 v) ∧ w' = W) := by
    intro W
    have hv : (if decide (a < b) = true then (1 : Int) else 0) = aluOf 32 a b := by rw [al32]; simp
    rw [hv2, ← hv]
    exact oneIf7_any _ W
  clear hv2
  go_enter Try.func7, Try.ntmps7
  go_wp2_with fail
  refine Calls.mono (HO.out _) ?_
  rintro e w1 ⟨rfl, hw⟩; have hw := hw.symm; subst hw
  go_wp2
  go_ret2
  exact ⟨ret_pair HV.out, rfl⟩

set_option maxRecDepth 100000 in
set_option maxHeartbeats 4000000 in
theorem do7_33 (a b : Nat) (w : World) (ha : a < 4294967296) (hb : b < 4294967296) :
    Calls Try.prog 7 #[.int .i64 33, .int .u32 (a : Int), .int .u32 (b : Int)] w fun e w' => e = .returned (.tuple #[.int .u32 (aluOf 33 a b), .int .i64 0]) ∧ w' = w := by
  have es := shift_low b hb
  have xo := u32_xor_nat a b ha hb
  have HV : Hid (_ = aluOf 33 a b) := (al33 a b).symm
  go_enter Try.func7, Try.ntmps7
  go_wp2
  go_ret2
  refine ⟨ret_pair (Eq.trans ?_ HV.out), rfl⟩
  first | rfl | omega

set_option maxRecDepth 100000 in
set_option maxHeartbeats 4000000 in
theorem do7_19 (a b : Nat) (w : World) (ha : a < 4294967296) (hb : b < 4294967296) :
    Calls Try.prog 7 #[.int .i64 19, .int .u32 (a : Int), .int .u32 (b : Int)] w fun e w' => e = .returned (.tuple #[.int .u32 (aluOf 28 a b), .int .i64 0]) ∧ w' = w := by
  have es := shift_low b hb
  have HV : Hid (_ = aluOf 28 a b) := (al28 a b).symm
  go_enter Try.func7, Try.ntmps7
  go_wp2
  go_ret2
  refine ⟨ret_pair (Eq.trans ?_ HV.out), rfl⟩
  first | rfl | omega

end Go.Proofs.Ytlagnhfbfmipoaa
