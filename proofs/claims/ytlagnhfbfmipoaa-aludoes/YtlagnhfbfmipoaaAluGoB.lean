/- Layer 7: what alu.Do answers, an instruction each. -/
import Derived.Test.YtlagnhfbfmipoaaAluGoS
namespace Go.Proofs.Ytlagnhfbfmipoaa
open Go.RowKit
set_option linter.unusedVariables false

set_option maxRecDepth 100000 in
set_option maxHeartbeats 4000000 in
theorem do7_30 (a b : Nat) (w : World) (ha : a < 4294967296) (hb : b < 4294967296) :
    Calls Try.prog 7 #[.int .i64 30, .int .u32 (a : Int), .int .u32 (b : Int)] w fun e w' => e = .returned (.tuple #[.int .u32 (aluOf 30 a b), .int .i64 0]) ∧ w' = w := by
  have es := shift_low b hb
  obtain ⟨p0, p1⟩ := pw_31 (s := (b : Int) % 32) (by omega) (by omega)
  have ml := mul_low a _ p0 p1 ha
  have er := pw_rest b
  have HV : Hid (_ = aluOf 30 a b) := (al30 a b).symm
  go_enter Try.func7, Try.ntmps7
  go_wp2
  go_ret2
  refine ⟨ret_pair (Eq.trans ?_ HV.out), rfl⟩
  first | rfl | (simp only [er]; done) | (rw [er])

set_option maxRecDepth 100000 in
set_option maxHeartbeats 4000000 in
theorem do7_34 (a b : Nat) (w : World) (ha : a < 4294967296) (hb : b < 4294967296) :
    Calls Try.prog 7 #[.int .i64 34, .int .u32 (a : Int), .int .u32 (b : Int)] w fun e w' => e = .returned (.tuple #[.int .u32 (aluOf 34 a b), .int .i64 0]) ∧ w' = w := by
  have es := shift_low b hb
  obtain ⟨p0, p1⟩ := pw_31 (s := (b : Int) % 32) (by omega) (by omega)
  have dl := div_low a _ p0 ha
  have er := pw_rest b
  have HV : Hid (_ = aluOf 34 a b) := (al34 a b).symm
  go_enter Try.func7, Try.ntmps7
  go_wp2
  go_ret2
  refine ⟨ret_pair (Eq.trans ?_ HV.out), rfl⟩
  first | rfl | (simp only [er]; done) | (rw [er])

set_option maxRecDepth 100000 in
set_option maxHeartbeats 4000000 in
theorem do7_35 (a b : Nat) (w : World) (ha : a < 4294967296) (hb : b < 4294967296) :
    Calls Try.prog 7 #[.int .i64 35, .int .u32 (a : Int), .int .u32 (b : Int)] w fun e w' => e = .returned (.tuple #[.int .u32 (aluOf 35 a b), .int .i64 0]) ∧ w' = w := by
  have es := shift_low b hb
  obtain ⟨a0, a1⟩ := signed_bounds (a : Int) (by omega) (by omega)
  obtain ⟨p0, p1⟩ := pw_31 (s := (b : Int) % 32) (by omega) (by omega)
  have fl := floor_low (signedOf (a : Int)) _ a0 a1 p0
  have ea := signed_wrap (a : Int) (by omega) (by omega)
  have er := pw_rest b
  have HV : Hid (_ = aluOf 35 a b) := (al35 a b).symm
  go_enter Try.func7, Try.ntmps7
  go_wp2
  go_ret2
  refine ⟨ret_pair (Eq.trans ?_ HV.out), rfl⟩
  first | rfl | (simp only [er]; done) | (rw [er])

set_option maxRecDepth 100000 in
set_option maxHeartbeats 4000000 in
theorem do7_20 (a b : Nat) (w : World) (ha : a < 4294967296) (hb : b < 4294967296) :
    Calls Try.prog 7 #[.int .i64 20, .int .u32 (a : Int), .int .u32 (b : Int)] w fun e w' => e = .returned (.tuple #[.int .u32 (aluOf 31 a b), .int .i64 0]) ∧ w' = w := by
  have es := shift_low b hb
  obtain ⟨v, hv2⟩ : ∃ v, v = aluOf 31 a b := ⟨_, rfl⟩
  have HV : Hid (v = aluOf 31 a b) := hv2
  have HO : Hid (∀ W : World, Calls Try.prog 16 #[.bool (decide (signedOf (a : Int) < signedOf (b : Int)))] W fun e w' => e = .returned (.int .u32 v) ∧ w' = W) := by
    intro W
    have hv : (if decide (signedOf (a : Int) < signedOf (b : Int)) = true then (1 : Int) else 0) = aluOf 31 a b := by rw [al31]; simp
    rw [hv2, ← hv]
    exact oneIf7_any _ W
  clear hv2
  go_enter Try.func7, Try.ntmps7
  go_wp2_with fail
  refine (below7_any a b _ ha hb).mono ?_; rintro e w1 ⟨rfl, hw⟩; have hw := hw.symm; subst hw
  go_wp2_with fail
  refine Calls.mono (HO.out _) ?_
  rintro e w1 ⟨rfl, hw⟩; have hw := hw.symm; subst hw
  go_wp2
  go_ret2
  exact ⟨ret_pair HV.out, rfl⟩

set_option maxRecDepth 100000 in
set_option maxHeartbeats 4000000 in
theorem do7_21 (a b : Nat) (w : World) (ha : a < 4294967296) (hb : b < 4294967296) :
    Calls Try.prog 7 #[.int .i64 21, .int .u32 (a : Int), .int .u32 (b : Int)] w fun e w' => e = .returned (.tuple #[.int .u32 (aluOf 32 a b), .int .i64 0]) ∧ w' = w := by
  have es := shift_low b hb
  obtain ⟨v, hv2⟩ : ∃ v, v = aluOf 32 a b := ⟨_, rfl⟩
  have HV : Hid (v = aluOf 32 a b) := hv2
  have HO : Hid (∀ W : World, Calls Try.prog 16 #[.bool (decide (a < b))] W fun e w' => e = .returned (.int .u32 v) ∧ w' = W) := by
    intro W
    have hv : (if decide (a < b) = true then (1 : Int) else 0) = aluOf 32 a b := by rw [al32]; simp
    rw [hv2, ← hv]
    exact oneIf7_any _ W
  clear hv2
  go_enter Try.func7, Try.ntmps7
  go_wp2_with fail
  refine Calls.mono (HO.out _) ?_
  rintro e w1 ⟨rfl, hw⟩; have hw := hw.symm; subst hw
  go_wp2
  go_ret2
  exact ⟨ret_pair HV.out, rfl⟩

end Go.Proofs.Ytlagnhfbfmipoaa
