/- Layer 13: a timer as numbers: the time, is it up, how long till then; halves of a number of 64 bits. -/
import Derived.Test.YtibhlbggnkobeaaDoorMath
namespace Go.Proofs.YtibhlbggnkobeaaDoor
open Go.RowKit
set_option linter.unusedVariables false

/-- The time at tick k, the offset o. -/
def nowZ (o k : Int) : Int := (k + o) % 18446744073709551616
def upB (o m k : Int) : Bool := decide (m ≤ nowZ o k)
/-- The offset by which the time at tick k is n. -/
def offZ (n k : Int) : Int := (n - k) % 18446744073709551616
def leftZ (o m k : Int) : Int := if m ≤ nowZ o k then 0 else m - nowZ o k
/-- x with w as its lower half, and as its upper one. -/
def lowP (x w : Int) : Int := x / 4294967296 * 4294967296 + w
def highP (x w : Int) : Int := w * 4294967296 + x % 4294967296
theorem nowZ_lt (o k : Int) : 0 ≤ nowZ o k ∧ nowZ o k < 18446744073709551616 := by unfold nowZ; omega
theorem offZ_lt (n k : Int) : 0 ≤ offZ n k ∧ offZ n k < 18446744073709551616 := by unfold offZ; omega
theorem now_off (n k : Int) (h0 : 0 ≤ n) (h1 : n < 18446744073709551616) : nowZ (offZ n k) k = n := by unfold nowZ offZ; omega
theorem lowP_lt {x w : Int} (x0 : 0 ≤ x) (x1 : x < 18446744073709551616) (w0 : 0 ≤ w) (w1 : w < 4294967296) : 0 ≤ lowP x w ∧ lowP x w < 18446744073709551616 := by unfold lowP; omega
theorem highP_lt {x w : Int} (x0 : 0 ≤ x) (x1 : x < 18446744073709551616) (w0 : 0 ≤ w) (w1 : w < 4294967296) : 0 ≤ highP x w ∧ highP x w < 18446744073709551616 := by unfold highP; omega

theorem put_low {x w : Int} (x0 : 0 ≤ x) (x1 : x < 18446744073709551616) (w0 : 0 ≤ w) (w1 : w < 4294967296) : bits .or .u64 (bits .andNot .u64 x 4294967295) w = lowP x w := by
  obtain ⟨X, rfl⟩ := Int.eq_ofNat_of_zero_le x0
  obtain ⟨W, rfl⟩ := Int.eq_ofNat_of_zero_le w0
  have e1 : X &&& (18446744073709551615 - 4294967295) = 2 ^ 32 * (X / 4294967296) := by
    have x1 : X = 2 ^ 32 * (X / 4294967296) + X % 4294967296 := by omega
    rw [show (18446744073709551615 - 4294967295 : Nat) = 2 ^ 32 * 4294967295 + 0 from by decide]
    conv => lhs; rw [x1]
    rw [joint_and 32 _ _ _ _ (by omega) (by omega), Nat.and_zero, Nat.add_zero, show (4294967295 : Nat) = 2 ^ 32 - 1 from by decide, Nat.and_two_pow_sub_one_eq_mod, Nat.mod_eq_of_lt (by omega)]
  have e2 : (2 ^ 32 * (X / 4294967296)) ||| W = 2 ^ 32 * (X / 4294967296) + W := by
    have := joint_or 32 (X / 4294967296) 0 0 W (by omega) (by omega)
    simpa using this
  rw [show (4294967295 : Int) = ((4294967295 : Nat) : Int) from rfl, u64_andNot_nat X _ (by omega) (by omega), e1, u64_or_nat _ _ (by omega) (by omega), e2]
  unfold lowP
  omega
theorem put_high {x w : Int} (x0 : 0 ≤ x) (x1 : x < 18446744073709551616) (w0 : 0 ≤ w) (w1 : w < 4294967296) : bits .or .u64 (bits .andNot .u64 x 18446744069414584320) (w * 4294967296) = highP x w := by
  obtain ⟨X, rfl⟩ := Int.eq_ofNat_of_zero_le x0
  obtain ⟨W, rfl⟩ := Int.eq_ofNat_of_zero_le w0
  have e1 : X &&& (18446744073709551615 - 18446744069414584320) = X % 4294967296 := by
    rw [show (18446744073709551615 - 18446744069414584320 : Nat) = 2 ^ 32 - 1 from by decide, Nat.and_two_pow_sub_one_eq_mod]
  have e2 : (X % 4294967296) ||| (W * 4294967296) = 2 ^ 32 * W + X % 4294967296 := by
    have := joint_or 32 0 (X % 4294967296) W 0 (by omega) (by omega)
    rw [Nat.mul_comm W]
    simpa using this
  rw [show (18446744069414584320 : Int) = ((18446744069414584320 : Nat) : Int) from rfl, u64_andNot_nat X _ (by omega) (by omega), e1, show (W : Int) * 4294967296 = ((W * 4294967296 : Nat) : Int) from by omega, u64_or_nat _ _ (by omega) (by omega), e2]
  unfold highP
  omega
end Go.Proofs.YtibhlbggnkobeaaDoor
