/- Arithmetic of layer 7 (what instructions reckon of two words): no program in sight. -/
import Derived.Test.YtfkghgdlenfcaaaMath
namespace Go.Proofs.Ytfkghgdlenfcaaa
open Go.RowKit
set_option linter.unusedVariables false

/-- F is told bit by bit: o says what a pair of bits gives, by how many of them are 1. -/
structure BitW (F : Nat → Nat → Nat) (o : Nat → Nat) : Prop where
  bit : ∀ a b k, F a b / 2 ^ k % 2 = o (a / 2 ^ k % 2 + b / 2 ^ k % 2)
  lt : ∀ a b, a < 2 ^ 32 → b < 2 ^ 32 → F a b < 2 ^ 32

theorem bool_nat (x : Bool) : x.toNat = if x then 1 else 0 := by cases x <;> rfl

theorem bitW_xor : BitW (fun a b => a ^^^ b) (fun n => if n = 1 then 1 else 0) := by
  constructor
  · intro a b k
    simp only [← Nat.toNat_testBit, Nat.testBit_xor]
    cases a.testBit k <;> cases b.testBit k <;> rfl
  · intro a b h g; exact Nat.xor_lt_two_pow h g

theorem bitW_or : BitW (fun a b => a ||| b) (fun n => if n = 0 then 0 else 1) := by
  constructor
  · intro a b k
    simp only [← Nat.toNat_testBit, Nat.testBit_or]
    cases a.testBit k <;> cases b.testBit k <;> rfl
  · intro a b h g; exact Nat.or_lt_two_pow h g

theorem bitW_and : BitW (fun a b => a &&& b) (fun n => if n = 2 then 1 else 0) := by
  constructor
  · intro a b k
    simp only [← Nat.toNat_testBit, Nat.testBit_and]
    cases a.testBit k <;> cases b.testBit k <;> rfl
  · intro a b h g; exact Nat.and_lt_two_pow _ g

/-- A partial sum and one bit more. -/
theorem bitW_step {F : Nat → Nat → Nat} {o : Nat → Nat} (h : BitW F o) (a b k : Nat) :
    F a b % 2 ^ k + o (a / 2 ^ k % 2 + b / 2 ^ k % 2) * 2 ^ k = F a b % 2 ^ (k + 1) := by
  rw [Nat.mod_pow_succ, h.bit a b k, Nat.mul_comm]

theorem bitW_end {F : Nat → Nat → Nat} {o : Nat → Nat} (h : BitW F o) (a b : Nat) (ha : a < 2 ^ 32) (hb : b < 2 ^ 32) : F a b % 2 ^ 32 = F a b :=
  Nat.mod_eq_of_lt (h.lt a b ha hb)

/-- And and Or together are the sum. -/
theorem and_add_or (n : Nat) : ∀ a b : Nat, a < 2 ^ n → b < 2 ^ n → (a &&& b) + (a ||| b) = a + b := by
  induction n with
  | zero => intro a b ha hb; have : a = 0 := by omega
            have : b = 0 := by omega
            subst a b; rfl
  | succ n ih =>
    intro a b ha hb
    have h1 := ih (a / 2) (b / 2) (by omega) (by omega)
    have e1 : (a &&& b) / 2 = a / 2 &&& b / 2 := Nat.and_div_two
    have e2 : (a ||| b) / 2 = a / 2 ||| b / 2 := Nat.or_div_two
    have f1 := bitW_and.bit a b 0
    have f2 := bitW_or.bit a b 0
    simp only [Nat.pow_zero, Nat.div_one] at f1 f2
    have g1 : (a &&& b) = 2 * ((a &&& b) / 2) + (a &&& b) % 2 := by omega
    have g2 : (a ||| b) = 2 * ((a ||| b) / 2) + (a ||| b) % 2 := by omega
    rw [g1, g2, e1, e2, f1, f2]
    split <;> split <;> omega

/-- Floor division by the document's way. -/
theorem floor_neg (n u : Int) (hu : 0 < u) (hn : n < 0) : 0 - (u - 1 - n) / u = n / u := by
  have h1 := Int.emod_add_mul_ediv n u
  have h2 := Int.emod_nonneg n (show u ≠ 0 by omega)
  have h3 := Int.emod_lt_of_pos n hu
  have e : u - 1 - n = (u - 1 - n % u) + u * (-(n / u)) := by rw [Int.mul_neg]; omega
  rw [e, Int.add_mul_ediv_left _ _ (by omega), Int.ediv_eq_zero_of_lt (by omega) (by omega)]
  omega

theorem signed_mod (x : Int) (h0 : 0 ≤ x) (h1 : x < 4294967296) : signedOf x % 4294967296 = x := by
  unfold signedOf; split <;> omega

theorem signed_add (a b : Int) (a0 : 0 ≤ a) (a1 : a < 4294967296) (b0 : 0 ≤ b) (b1 : b < 4294967296) : (signedOf a + signedOf b) % 4294967296 = (a + b) % 4294967296 := by
  unfold signedOf; split <;> split <;> omega
theorem signed_sub (a b : Int) (a0 : 0 ≤ a) (a1 : a < 4294967296) (b0 : 0 ≤ b) (b1 : b < 4294967296) : (signedOf a - signedOf b) % 4294967296 = (a - b) % 4294967296 := by
  unfold signedOf; split <;> split <;> omega
theorem signed_eq (a b : Int) (a0 : 0 ≤ a) (a1 : a < 4294967296) (b0 : 0 ≤ b) (b1 : b < 4294967296) : signedOf a = signedOf b ↔ a = b := by
  unfold signedOf; split <;> split <;> omega

end Go.Proofs.Ytfkghgdlenfcaaa
