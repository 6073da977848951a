/- Layer 17 as mathematics: who calls and is asked for, in the program's masks and in the document's sums. -/
import Derived.Test.YtlmmebgicanmhaaTrapMath
namespace Go.Proofs.Ytlmmebgicanmhaa
open Go.RowKit
set_option linter.unusedVariables false

theorem bit_test (X A : Nat) : decide (bitsOf (X : Int) (A : Int) 1 = 1) = X.testBit A := by
  have e : bitsOf (X : Int) (A : Int) 1 = ((X / 2 ^ A % 2 : Nat) : Int) := by
    unfold bitsOf
    rw [pw_nat, pw_nat]
    simp
  rw [e, Nat.testBit_eq_decide_div_mod_eq]
  congr 1
  simp only [eq_iff_iff]
  omega

theorem ne_bit (X A : Nat) (hA : A < 32) (h : X < 4294967296) : (bits .and .u32 (X : Int) ((2 ^ A : Nat) : Int) != 0) = X.testBit A := by
  rw [and_bit X A hA (by omega) (by omega), ← bit_test]
  have b := bit_bd (X : Int) A
  have hP : 0 < 2 ^ A := Nat.pow_pos (by omega)
  by_cases g : bitsOf (X : Int) A 1 = 1
  · rw [g, decide_eq_true rfl, bne_iff_ne]; omega
  · rw [show bitsOf (X : Int) A 1 = 0 from by omega]; simp

theorem ask_bit {i c : Int} (A : Nat) (hA : A < 32) (i0 : 0 ≤ i) (i1 : i < 4294967296) (c0 : 0 ≤ c) (c1 : c < 4294967296) :
    (bits .and .u32 (bits .and .u32 c i) ((2 ^ A : Nat) : Int) != 0) = askB i c A := by
  obtain ⟨C, rfl⟩ := Int.eq_ofNat_of_zero_le c0
  obtain ⟨I, rfl⟩ := Int.eq_ofNat_of_zero_le i0
  have hC : C < 4294967296 := by omega
  rw [u32_and_nat C I hC (by omega), ne_bit _ A hA (Nat.lt_of_le_of_lt Nat.and_le_left hC), Nat.testBit_and]
  unfold askB
  rw [bit_test, bit_test]

theorem wake_bits {i c : Int} (i0 : 0 ≤ i) (i1 : i < 4294967296) (c0 : 0 ≤ c) (c1 : c < 4294967296) :
    (bits .and .u32 (bits .and .u32 c i) 2184 != 0) = wakesB i c := by
  obtain ⟨C, rfl⟩ := Int.eq_ofNat_of_zero_le c0
  obtain ⟨I, rfl⟩ := Int.eq_ofNat_of_zero_le i0
  have hC : C < 4294967296 := by omega
  have hX : C &&& I < 4294967296 := Nat.lt_of_le_of_lt Nat.and_le_left hC
  rw [u32_and_nat C I hC (by omega), show (2184 : Int) = ((2184 : Nat) : Int) from rfl, u32_and_nat _ 2184 hX (by omega)]
  have e : (C &&& I) &&& 2184 = ((C &&& I) &&& 2 ^ 3) ||| (((C &&& I) &&& 2 ^ 7) ||| ((C &&& I) &&& 2 ^ 11)) := by
    rw [← Nat.and_or_distrib_left, ← Nat.and_or_distrib_left, show 2 ^ 3 ||| (2 ^ 7 ||| 2 ^ 11) = 2184 from by decide]
  have n3 := ne_bit (C &&& I) 3 (by omega) hX
  have n7 := ne_bit (C &&& I) 7 (by omega) hX
  have n11 := ne_bit (C &&& I) 11 (by omega) hX
  rw [u32_and_nat _ _ hX (by decide)] at n3 n7 n11
  unfold wakesB askB
  have t3 : (C &&& I).testBit 3 = (decide (bitsOf (C : Int) 3 1 = 1) && decide (bitsOf (I : Int) 3 1 = 1)) := by rw [Nat.testBit_and, ← bit_test, ← bit_test]; rfl
  have t7 : (C &&& I).testBit 7 = (decide (bitsOf (C : Int) 7 1 = 1) && decide (bitsOf (I : Int) 7 1 = 1)) := by rw [Nat.testBit_and, ← bit_test, ← bit_test]; rfl
  have t11 : (C &&& I).testBit 11 = (decide (bitsOf (C : Int) 11 1 = 1) && decide (bitsOf (I : Int) 11 1 = 1)) := by rw [Nat.testBit_and, ← bit_test, ← bit_test]; rfl
  rw [← t3, ← t7, ← t11, ← n3, ← n7, ← n11, e]
  generalize (C &&& I) &&& 2 ^ 3 = x
  generalize (C &&& I) &&& 2 ^ 7 = y
  generalize (C &&& I) &&& 2 ^ 11 = z
  have q : (x ||| (y ||| z) = 0) ↔ (x = 0 ∧ y = 0 ∧ z = 0) := by rw [Nat.or_eq_zero_iff, Nat.or_eq_zero_iff]
  rw [Bool.eq_iff_iff]
  simp only [bne_iff_ne, Bool.or_eq_true, ne_eq]
  have h0 : ∀ n : Nat, ((n : Int) = 0) ↔ n = 0 := fun n => by omega
  rw [h0, h0, h0, h0, q]
  omega

theorem ask_sum (i c a : Int) : ((bitsOf c a 1 + bitsOf i a 1) % 4294967296 == 2) = askB i c a := by
  have b := bit_bd c a
  have d := bit_bd i a
  unfold askB
  rw [Bool.eq_iff_iff]
  simp only [beq_iff_eq, Bool.and_eq_true, decide_eq_true_eq]
  omega

/-- Heard, by whether Status's bit 3 is set. -/
theorem heard_deaf {s i c : Int} (h : bitsOf s 3 1 = 0) : heardZ s i c = 0 ∧ heardB s i c = false := by
  unfold heardZ heardB
  rw [if_pos h, h]
  simp
theorem deaf_is {s : Int} (s0 : 0 ≤ s) (s1 : s < 4294967296) : (bits .and .u32 s 8 == 0) = decide (bitsOf s 3 1 = 0) := by
  have h3 : bits .and .u32 s 8 = bitsOf s 3 1 * 8 := and_bit s 3 (by omega) s0 s1
  have b3 := bit_bd s 3
  rw [h3]
  by_cases h : bitsOf s 3 1 = 0
  · rw [h]; rfl
  · rw [show bitsOf s 3 1 = 1 from by omega]; rfl
end Go.Proofs.Ytlmmebgicanmhaa
