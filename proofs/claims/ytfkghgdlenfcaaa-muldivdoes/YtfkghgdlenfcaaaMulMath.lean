/- Arithmetic of layer 8 (products and quotients of words): no program in sight. -/
import Derived.Test.YtfkghgdlenfcaaaAluMath
namespace Go.Proofs.Ytfkghgdlenfcaaa
open Go.RowKit
set_option linter.unusedVariables false

/-- What the instruction op of the table reckons of the words a and b. -/
def mdOf (op : Int) (a b : Nat) : Int :=
  if op = 50 then (a : Int) * b % 4294967296
  else if op = 51 then signedOf a * signedOf b / 4294967296 % 4294967296
  else if op = 52 then signedOf a * b / 4294967296 % 4294967296
  else if op = 53 then (a : Int) * b / 4294967296
  else if op = 54 then (if b = 0 then 4294967295 else (signedOf a).tdiv (signedOf b) % 4294967296)
  else if op = 55 then (if b = 0 then 4294967295 else (a : Int) / b)
  else if op = 56 then (if b = 0 then (a : Int) else (signedOf a).tmod (signedOf b) % 4294967296)
  else (if b = 0 then (a : Int) else (a : Int) % b)

theorem md50 (a b : Nat) : mdOf 50 a b = (a : Int) * b % 4294967296 := by simp [mdOf]
theorem md51 (a b : Nat) : mdOf 51 a b = signedOf a * signedOf b / 4294967296 % 4294967296 := by simp [mdOf]
theorem md52 (a b : Nat) : mdOf 52 a b = signedOf a * b / 4294967296 % 4294967296 := by simp [mdOf]
theorem md53 (a b : Nat) : mdOf 53 a b = (a : Int) * b / 4294967296 := by simp [mdOf]
theorem md54 (a b : Nat) : mdOf 54 a b = (if b = 0 then 4294967295 else (signedOf a).tdiv (signedOf b) % 4294967296) := by simp [mdOf]
theorem md55 (a b : Nat) : mdOf 55 a b = (if b = 0 then 4294967295 else (a : Int) / b) := by simp [mdOf]
theorem md56 (a b : Nat) : mdOf 56 a b = (if b = 0 then (a : Int) else (signedOf a).tmod (signedOf b) % 4294967296) := by simp [mdOf]
theorem md57 (a b : Nat) : mdOf 57 a b = (if b = 0 then (a : Int) else (a : Int) % b) := by simp [mdOf]

theorem eight {op : Int} (h0 : 50 ≤ op) (h1 : op ≤ 57) : op = 50 ∨ op = 51 ∨ op = 52 ∨ op = 53 ∨ op = 54 ∨ op = 55 ∨ op = 56 ∨ op = 57 := by omega

theorem sgn_lo (x : Int) (h0 : 0 ≤ x) (h1 : x < 4294967296) : -2147483648 ≤ signedOf x ∧ signedOf x < 2147483648 := by
  unfold signedOf; split <;> omega

/-- The product of two words. -/
theorem mul_uu (a b : Int) (a0 : 0 ≤ a) (a1 : a < 4294967296) (b0 : 0 ≤ b) (b1 : b < 4294967296) : 0 ≤ a * b ∧ a * b < 18446744073709551616 := by
  refine ⟨Int.mul_nonneg a0 b0, ?_⟩
  have h1 : a * b ≤ a * 4294967295 := Int.mul_le_mul_of_nonneg_left (by omega) a0
  omega

/-- A product of numbers without too great a size. -/
theorem mul_abs (x y M N : Int) (x0 : -M ≤ x) (x1 : x ≤ M) (y0 : -N ≤ y) (y1 : y ≤ N) (hM : 0 ≤ M) (hN : 0 ≤ N) : -(M * N) ≤ x * y ∧ x * y ≤ M * N := by
  have g : (x * y).natAbs ≤ M.natAbs * N.natAbs := by
    rw [Int.natAbs_mul]
    exact Nat.mul_le_mul (by omega) (by omega)
  have e : ((M.natAbs * N.natAbs : Nat) : Int) = M * N := by
    rw [Int.natCast_mul, Int.natAbs_of_nonneg hM, Int.natAbs_of_nonneg hN]
  generalize x * y = p at *
  generalize M * N = q at *
  omega

theorem mul_ss (a b : Int) (a0 : 0 ≤ a) (a1 : a < 4294967296) (b0 : 0 ≤ b) (b1 : b < 4294967296) : -4611686018427387904 ≤ signedOf a * signedOf b ∧ signedOf a * signedOf b ≤ 4611686018427387904 := by
  have h := sgn_lo a a0 a1
  have g := sgn_lo b b0 b1
  exact mul_abs (signedOf a) (signedOf b) 2147483648 2147483648 (by omega) (by omega) (by omega) (by omega) (by omega) (by omega)

theorem mul_su (a b : Int) (a0 : 0 ≤ a) (a1 : a < 4294967296) (b0 : 0 ≤ b) (b1 : b < 4294967296) : -9223372036854775808 < signedOf a * b ∧ signedOf a * b < 9223372036854775808 := by
  have h := sgn_lo a a0 a1
  have k := mul_abs (signedOf a) b 2147483648 4294967295 (by omega) (by omega) (by omega) (by omega) (by omega) (by omega)
  exact ⟨by omega, by omega⟩

/-- Is it below 0, as a signed number? -/
def negB (x : Int) : Bool := decide (signedOf x < 0)
/-- The opposite, as a word, or the word itself. -/
def negI (t : Bool) (x : Int) : Int := if t = true then (-x) % 4294967296 else x
/-- A signed number without its sign. -/
def sizeW (x : Int) : Int := negI (negB x) x

theorem size_lo (x : Int) (h0 : 0 ≤ x) (h1 : x < 4294967296) : 0 ≤ sizeW x ∧ sizeW x ≤ 2147483648 := by
  unfold sizeW negI negB signedOf; split <;> simp <;> split <;> omega
theorem size_neg (x : Int) (h0 : 0 ≤ x) (h1 : x < 4294967296) (h : negB x = true) : signedOf x = -sizeW x := by
  unfold sizeW; rw [h]
  have g : signedOf x < 0 := by simpa [negB] using h
  unfold signedOf at g ⊢
  unfold negI
  split at g
  · omega
  · rw [if_neg (by assumption), if_pos rfl]; omega
theorem size_pos (x : Int) (h0 : 0 ≤ x) (h1 : x < 4294967296) (h : negB x = false) : signedOf x = sizeW x := by
  unfold sizeW; rw [h]
  have g : 0 ≤ signedOf x := by simpa [negB] using h
  unfold signedOf at g ⊢
  unfold negI
  split at g
  · rw [if_pos (by assumption), if_neg (by decide)]
  · omega
theorem size_ne (x : Int) (h0 : 0 ≤ x) (h1 : x < 4294967296) (h : x ≠ 0) : 0 < sizeW x := by
  cases e : negB x
  · have := size_pos x h0 h1 e
    have k : 0 ≤ signedOf x := by simpa [negB] using e
    have : signedOf x ≠ 0 := by unfold signedOf; split <;> omega
    omega
  · have := size_neg x h0 h1 e
    have k : signedOf x < 0 := by simpa [negB] using e
    omega

theorem neg_lo (t : Bool) (x : Int) (h0 : 0 ≤ x) (h1 : x < 4294967296) : 0 ≤ negI t x ∧ negI t x < 4294967296 := by
  unfold negI; split <;> omega

/-- The quotient, put with its sign. -/
theorem quo_put (a b : Int) (a0 : 0 ≤ a) (a1 : a < 4294967296) (b0 : 0 ≤ b) (b1 : b < 4294967296) (hb : b ≠ 0) :
    negI (negB a != negB b) (sizeW a / sizeW b) = (signedOf a).tdiv (signedOf b) % 4294967296 := by
  have m := size_lo a a0 a1
  have n := size_ne b b0 b1 hb
  have q0 : 0 ≤ sizeW a / sizeW b := Int.ediv_nonneg m.1 (by omega)
  have q1 : sizeW a / sizeW b ≤ sizeW a := Int.ediv_le_self _ m.1
  have e : (sizeW a).tdiv (sizeW b) = sizeW a / sizeW b := Int.tdiv_eq_ediv_of_nonneg m.1
  cases ha : negB a <;> cases hv : negB b
  · rw [size_pos a a0 a1 ha, size_pos b b0 b1 hv, e]; show (_ : Int) = _; unfold negI; simp; omega
  · rw [size_pos a a0 a1 ha, size_neg b b0 b1 hv, Int.tdiv_neg, e]; rfl
  · rw [size_neg a a0 a1 ha, size_pos b b0 b1 hv, Int.neg_tdiv, e]; rfl
  · rw [size_neg a a0 a1 ha, size_neg b b0 b1 hv, Int.neg_tdiv, Int.tdiv_neg, e, Int.neg_neg]; unfold negI; simp; omega

/-- The rest, put with the sign of a. -/
theorem rem_put (a b : Int) (a0 : 0 ≤ a) (a1 : a < 4294967296) (b0 : 0 ≤ b) (b1 : b < 4294967296) (hb : b ≠ 0) :
    negI (negB a) (sizeW a % sizeW b) = (signedOf a).tmod (signedOf b) % 4294967296 := by
  have m := size_lo a a0 a1
  have k := size_lo b b0 b1
  have n := size_ne b b0 b1 hb
  have r0 : 0 ≤ sizeW a % sizeW b := Int.emod_nonneg _ (by omega)
  have r1 : sizeW a % sizeW b < sizeW b := Int.emod_lt_of_pos _ n
  have e : (sizeW a).tmod (sizeW b) = sizeW a % sizeW b := Int.tmod_eq_emod_of_nonneg m.1
  have f : (sizeW a).tmod (signedOf b) = sizeW a % sizeW b := by
    cases hv : negB b
    · rw [size_pos b b0 b1 hv, e]
    · rw [size_neg b b0 b1 hv, Int.tmod_neg, e]
  cases ha : negB a
  · rw [size_pos a a0 a1 ha, f]; unfold negI; simp; omega
  · rw [size_neg a a0 a1 ha, Int.neg_tmod, f]; rfl

/-- A word's upper half, as the program reckons it of a signed product. -/
theorem upper_val (p : Int) : p % 18446744073709551616 / 4294967296 % 4294967296 = p / 4294967296 % 4294967296 := by omega

theorem high_neg (n : Int) (h : n < 0) : (0 - (0 - (n + 1)) / 4294967296 - 1) = n / 4294967296 := by omega

/-- Quotient times what was divided by, and the rest. -/
theorem back_u (a b : Int) (hb : b ≠ 0) : a / b * b + a % b = a := Int.ediv_mul_add_emod a b

theorem back_s (a b : Int) (a0 : 0 ≤ a) (a1 : a < 4294967296) (b0 : 0 ≤ b) (b1 : b < 4294967296) :
    (((signedOf a).tdiv (signedOf b) % 4294967296 * b) % 4294967296 + (signedOf a).tmod (signedOf b) % 4294967296) % 4294967296 = a := by
  have e : (signedOf a).tdiv (signedOf b) * signedOf b + (signedOf a).tmod (signedOf b) = signedOf a := Int.tdiv_mul_add_tmod _ _
  have hb := signed_mod b b0 b1
  have ha := signed_mod a a0 a1
  have g : (signedOf a).tdiv (signedOf b) % 4294967296 * b % 4294967296 = (signedOf a).tdiv (signedOf b) * signedOf b % 4294967296 := by
    rw [Int.mul_emod ((signedOf a).tdiv (signedOf b)) (signedOf b), hb, Int.mul_emod ((signedOf a).tdiv (signedOf b) % 4294967296) b, Int.emod_emod, Int.emod_eq_of_lt b0 b1]
  rw [g, ← Int.add_emod, e, ha]

/-- The upper halves. -/
theorem half_a (a b : Int) (h : 2147483648 ≤ a) : signedOf a * b / 4294967296 = a * b / 4294967296 - b := by
  unfold signedOf
  rw [if_neg (by omega), Int.sub_mul]
  generalize a * b = p
  omega
theorem half_b (a b : Int) (h : 2147483648 ≤ b) : a * signedOf b / 4294967296 = a * b / 4294967296 - a := by
  unfold signedOf
  rw [if_neg (by omega), Int.mul_sub]
  generalize a * b = p
  omega

end Go.Proofs.Ytfkghgdlenfcaaa
