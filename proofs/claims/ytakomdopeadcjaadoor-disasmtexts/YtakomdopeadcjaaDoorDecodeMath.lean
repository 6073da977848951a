/- Plain arithmetic of layer 3: which kind of instruction a word is. No program in sight. -/
import Derived.Test.YtakomdopeadcjaaDoorMath
namespace Go.Proofs.YtakomdopeadcjaaDoor
open Go.RowKit
set_option linter.unusedVariables false

/-- The mask and the match of each kind, from 1 on (at place 0: of kind 1). -/
def maskL : List Int := [127, 127, 127, 28799, 28799, 28799, 28799, 28799, 28799, 28799, 28799, 28799, 28799, 28799, 28799, 28799, 28799, 28799, 28799, 28799, 28799, 28799, 28799, 28799, 4261441663, 4261441663, 4261441663, 4261441663, 4261441663, 4261441663, 4261441663, 4261441663, 4261441663, 4261441663, 4261441663, 4261441663, 4261441663, 28799, 28799, 4294967295, 4294967295, 28799, 28799, 28799, 28799, 28799, 28799, 4294967295, 4294967295, 4261441663, 4261441663, 4261441663, 4261441663, 4261441663, 4261441663, 4261441663, 4261441663]
def matchL : List Int := [55, 23, 111, 103, 99, 4195, 16483, 20579, 24675, 28771, 3, 4099, 8195, 16387, 20483, 35, 4131, 8227, 19, 8211, 12307, 16403, 24595, 28691, 4115, 20499, 1073762323, 51, 1073741875, 4147, 8243, 12339, 16435, 20531, 1073762355, 24627, 28723, 15, 4111, 115, 1048691, 4211, 8307, 12403, 20595, 24691, 28787, 807403635, 273678451, 33554483, 33558579, 33562675, 33566771, 33570867, 33574963, 33579059, 33583155]

theorem u32_and7 (y : Int) (h0 : 0 ≤ y) (h1 : y < 4294967296) : bits .and .u32 y 127 = y % 128 := by
  have a := and_low y 7 h0 h1 (by omega) (by omega)
  have p : pw 7 = 128 := by decide
  rw [p] at a
  exact a

theorem nat_and_707f (n : Nat) : n &&& 28799 = n / 4096 % 8 * 4096 + n % 128 := by
  apply Nat.eq_of_testBit_eq
  intro i
  have e1 : n / 4096 % 8 * 4096 + n % 128 = 2 ^ 12 * (n / 2 ^ 12 % 2 ^ 3) + n % 2 ^ 7 := by omega
  rw [e1, Nat.testBit_two_pow_mul_add _ (Nat.lt_of_lt_of_le (Nat.mod_lt _ (by decide)) (by decide)), Nat.testBit_and]
  by_cases h : i < 12
  · rw [if_pos h, Nat.testBit_mod_two_pow]
    have : Nat.testBit 28799 i = decide (i < 7) := by
      revert i; decide
    rw [this, Bool.and_comm]
  · rw [if_neg h, Nat.testBit_mod_two_pow, Nat.testBit_div_two_pow]
    have e2 : i - 12 + 12 = i := by omega
    rw [e2, Bool.and_comm]
    congr 1
    by_cases h2 : i < 15
    · have : i = 12 ∨ i = 13 ∨ i = 14 := by omega
      rcases this with rfl | rfl | rfl <;> rfl
    · rw [show decide (i - 12 < 3) = false from decide_eq_false (by omega)]
      exact Nat.testBit_lt_two_pow (Nat.lt_of_lt_of_le (by decide : 28799 < 2 ^ 15) (Nat.pow_le_pow_right (by decide) (by omega)))

theorem nat_and_fe (n : Nat) (h : n < 4294967296) : n &&& 4261441663 = n / 33554432 * 33554432 + (n / 4096 % 8 * 4096 + n % 128) := by
  have e1 : n = 2 ^ 25 * (n / 2 ^ 25) + n % 2 ^ 25 := (Nat.div_add_mod n (2 ^ 25)).symm
  have e2 : 4261441663 = 2 ^ 25 * 127 + 28799 := by decide
  have e3 : n / 2 ^ 25 &&& 127 = n / 2 ^ 25 := by
    have := Nat.and_two_pow_sub_one_eq_mod (n / 2 ^ 25) 7
    rw [show (2 : Nat) ^ 7 - 1 = 127 from rfl] at this
    rw [this]; exact Nat.mod_eq_of_lt (by omega)
  have := joint_and 25 (n / 2 ^ 25) (n % 2 ^ 25) 127 28799 (Nat.mod_lt _ (by decide)) (by decide)
  rw [← e1, ← e2, e3, nat_and_707f] at this
  rw [this]; omega

theorem u32_and707f (y : Int) (h0 : 0 ≤ y) (h1 : y < 4294967296) : bits .and .u32 y 28799 = y / 4096 % 8 * 4096 + y % 128 := by
  obtain ⟨n, rfl⟩ := Int.eq_ofNat_of_zero_le h0
  rw [u32_and _ 28799 h0 h1 (by omega) (by omega)]
  have := nat_and_707f n
  have e : (28799 : Int).toNat = 28799 := rfl
  rw [e, Int.toNat_natCast, this]; omega

theorem u32_andfe (y : Int) (h0 : 0 ≤ y) (h1 : y < 4294967296) : bits .and .u32 y 4261441663 = y / 33554432 * 33554432 + (y / 4096 % 8 * 4096 + y % 128) := by
  obtain ⟨n, rfl⟩ := Int.eq_ofNat_of_zero_le h0
  rw [u32_and _ 4261441663 h0 h1 (by omega) (by omega)]
  have := nat_and_fe n (by omega)
  have e : (4261441663 : Int).toNat = 4261441663 := rfl
  rw [e, Int.toNat_natCast, this]; omega

theorem u32_andff (y : Int) (h0 : 0 ≤ y) (h1 : y < 4294967296) : bits .and .u32 y 4294967295 = y := by
  have a := and_low y 32 h0 h1 (by omega) (by omega)
  rw [pw_32] at a
  rw [show (4294967295 : Int) = 4294967296 - 1 from rfl, a]
  omega

/-- Which kind a word is; 0: none. -/
def kindOf (w : Int) : Nat := if w % 128 = 55 then (1) else if w % 128 = 23 then (2) else if w % 128 = 111 then (3) else if w % 128 = 103 then (if w / 4096 % 8 = 0 then (4) else 0) else if w % 128 = 99 then (if w / 4096 % 8 = 0 then (5) else if w / 4096 % 8 = 1 then (6) else if w / 4096 % 8 = 4 then (7) else if w / 4096 % 8 = 5 then (8) else if w / 4096 % 8 = 6 then (9) else if w / 4096 % 8 = 7 then (10) else 0) else if w % 128 = 3 then (if w / 4096 % 8 = 0 then (11) else if w / 4096 % 8 = 1 then (12) else if w / 4096 % 8 = 2 then (13) else if w / 4096 % 8 = 4 then (14) else if w / 4096 % 8 = 5 then (15) else 0) else if w % 128 = 35 then (if w / 4096 % 8 = 0 then (16) else if w / 4096 % 8 = 1 then (17) else if w / 4096 % 8 = 2 then (18) else 0) else if w % 128 = 19 then (if w / 4096 % 8 = 0 then (19) else if w / 4096 % 8 = 2 then (20) else if w / 4096 % 8 = 3 then (21) else if w / 4096 % 8 = 4 then (22) else if w / 4096 % 8 = 6 then (23) else if w / 4096 % 8 = 7 then (24) else if w / 4096 % 8 = 1 then (if w / 33554432 = 0 then (25) else 0) else if w / 4096 % 8 = 5 then (if w / 33554432 = 0 then (26) else if w / 33554432 = 32 then (27) else 0) else 0) else if w % 128 = 51 then (if w / 4096 % 8 = 0 then (if w / 33554432 = 0 then (28) else if w / 33554432 = 32 then (29) else if w / 33554432 = 1 then (50) else 0) else if w / 4096 % 8 = 1 then (if w / 33554432 = 0 then (30) else if w / 33554432 = 1 then (51) else 0) else if w / 4096 % 8 = 2 then (if w / 33554432 = 0 then (31) else if w / 33554432 = 1 then (52) else 0) else if w / 4096 % 8 = 3 then (if w / 33554432 = 0 then (32) else if w / 33554432 = 1 then (53) else 0) else if w / 4096 % 8 = 4 then (if w / 33554432 = 0 then (33) else if w / 33554432 = 1 then (54) else 0) else if w / 4096 % 8 = 5 then (if w / 33554432 = 0 then (34) else if w / 33554432 = 32 then (35) else if w / 33554432 = 1 then (55) else 0) else if w / 4096 % 8 = 6 then (if w / 33554432 = 0 then (36) else if w / 33554432 = 1 then (56) else 0) else if w / 4096 % 8 = 7 then (if w / 33554432 = 0 then (37) else if w / 33554432 = 1 then (57) else 0) else 0) else if w % 128 = 15 then (if w / 4096 % 8 = 0 then (38) else if w / 4096 % 8 = 1 then (39) else 0) else if w % 128 = 115 then (if w / 4096 % 8 = 0 then (if w = 115 then (40) else if w = 1048691 then (41) else if w = 807403635 then (48) else if w = 273678451 then (49) else 0) else if w / 4096 % 8 = 1 then (42) else if w / 4096 % 8 = 2 then (43) else if w / 4096 % 8 = 3 then (44) else if w / 4096 % 8 = 5 then (45) else if w / 4096 % 8 = 6 then (46) else if w / 4096 % 8 = 7 then (47) else 0) else 0

theorem hit_1 (w : Int) (h0 : 0 ≤ w) (h1 : w < 4294967296) (a : w % 128 = 55) : bits .and .u32 w (maskL.getD (1 - 1) 0) = matchL.getD (1 - 1) 0 := (u32_and7 w h0 h1).trans (show _ = (55 : Int) by omega)
theorem kind_1 (w : Int) (h0 : 0 ≤ w) (h1 : w < 4294967296) (h : bits .and .u32 w (maskL.getD (1 - 1) 0) = matchL.getD (1 - 1) 0) : kindOf w = 1 := by
  have g : _ = (55 : Int) := (u32_and7 w h0 h1).symm.trans h
  have a : w % 128 = 55 := by omega
  unfold kindOf
  simp [a]
theorem hit_2 (w : Int) (h0 : 0 ≤ w) (h1 : w < 4294967296) (a : w % 128 = 23) : bits .and .u32 w (maskL.getD (2 - 1) 0) = matchL.getD (2 - 1) 0 := (u32_and7 w h0 h1).trans (show _ = (23 : Int) by omega)
theorem kind_2 (w : Int) (h0 : 0 ≤ w) (h1 : w < 4294967296) (h : bits .and .u32 w (maskL.getD (2 - 1) 0) = matchL.getD (2 - 1) 0) : kindOf w = 2 := by
  have g : _ = (23 : Int) := (u32_and7 w h0 h1).symm.trans h
  have a : w % 128 = 23 := by omega
  unfold kindOf
  simp [a]
theorem hit_3 (w : Int) (h0 : 0 ≤ w) (h1 : w < 4294967296) (a : w % 128 = 111) : bits .and .u32 w (maskL.getD (3 - 1) 0) = matchL.getD (3 - 1) 0 := (u32_and7 w h0 h1).trans (show _ = (111 : Int) by omega)
theorem kind_3 (w : Int) (h0 : 0 ≤ w) (h1 : w < 4294967296) (h : bits .and .u32 w (maskL.getD (3 - 1) 0) = matchL.getD (3 - 1) 0) : kindOf w = 3 := by
  have g : _ = (111 : Int) := (u32_and7 w h0 h1).symm.trans h
  have a : w % 128 = 111 := by omega
  unfold kindOf
  simp [a]
theorem hit_4 (w : Int) (h0 : 0 ≤ w) (h1 : w < 4294967296) (a : w % 128 = 103) (b : w / 4096 % 8 = 0) : bits .and .u32 w (maskL.getD (4 - 1) 0) = matchL.getD (4 - 1) 0 := (u32_and707f w h0 h1).trans (show _ = (103 : Int) by omega)
theorem kind_4 (w : Int) (h0 : 0 ≤ w) (h1 : w < 4294967296) (h : bits .and .u32 w (maskL.getD (4 - 1) 0) = matchL.getD (4 - 1) 0) : kindOf w = 4 := by
  have g : _ = (103 : Int) := (u32_and707f w h0 h1).symm.trans h
  have a : w % 128 = 103 := by omega
  have b : w / 4096 % 8 = 0 := by omega
  unfold kindOf
  simp [a, b]
theorem hit_5 (w : Int) (h0 : 0 ≤ w) (h1 : w < 4294967296) (a : w % 128 = 99) (b : w / 4096 % 8 = 0) : bits .and .u32 w (maskL.getD (5 - 1) 0) = matchL.getD (5 - 1) 0 := (u32_and707f w h0 h1).trans (show _ = (99 : Int) by omega)
theorem kind_5 (w : Int) (h0 : 0 ≤ w) (h1 : w < 4294967296) (h : bits .and .u32 w (maskL.getD (5 - 1) 0) = matchL.getD (5 - 1) 0) : kindOf w = 5 := by
  have g : _ = (99 : Int) := (u32_and707f w h0 h1).symm.trans h
  have a : w % 128 = 99 := by omega
  have b : w / 4096 % 8 = 0 := by omega
  unfold kindOf
  simp [a, b]
theorem hit_6 (w : Int) (h0 : 0 ≤ w) (h1 : w < 4294967296) (a : w % 128 = 99) (b : w / 4096 % 8 = 1) : bits .and .u32 w (maskL.getD (6 - 1) 0) = matchL.getD (6 - 1) 0 := (u32_and707f w h0 h1).trans (show _ = (4195 : Int) by omega)
theorem kind_6 (w : Int) (h0 : 0 ≤ w) (h1 : w < 4294967296) (h : bits .and .u32 w (maskL.getD (6 - 1) 0) = matchL.getD (6 - 1) 0) : kindOf w = 6 := by
  have g : _ = (4195 : Int) := (u32_and707f w h0 h1).symm.trans h
  have a : w % 128 = 99 := by omega
  have b : w / 4096 % 8 = 1 := by omega
  unfold kindOf
  simp [a, b]
theorem hit_7 (w : Int) (h0 : 0 ≤ w) (h1 : w < 4294967296) (a : w % 128 = 99) (b : w / 4096 % 8 = 4) : bits .and .u32 w (maskL.getD (7 - 1) 0) = matchL.getD (7 - 1) 0 := (u32_and707f w h0 h1).trans (show _ = (16483 : Int) by omega)
theorem kind_7 (w : Int) (h0 : 0 ≤ w) (h1 : w < 4294967296) (h : bits .and .u32 w (maskL.getD (7 - 1) 0) = matchL.getD (7 - 1) 0) : kindOf w = 7 := by
  have g : _ = (16483 : Int) := (u32_and707f w h0 h1).symm.trans h
  have a : w % 128 = 99 := by omega
  have b : w / 4096 % 8 = 4 := by omega
  unfold kindOf
  simp [a, b]
theorem hit_8 (w : Int) (h0 : 0 ≤ w) (h1 : w < 4294967296) (a : w % 128 = 99) (b : w / 4096 % 8 = 5) : bits .and .u32 w (maskL.getD (8 - 1) 0) = matchL.getD (8 - 1) 0 := (u32_and707f w h0 h1).trans (show _ = (20579 : Int) by omega)
theorem kind_8 (w : Int) (h0 : 0 ≤ w) (h1 : w < 4294967296) (h : bits .and .u32 w (maskL.getD (8 - 1) 0) = matchL.getD (8 - 1) 0) : kindOf w = 8 := by
  have g : _ = (20579 : Int) := (u32_and707f w h0 h1).symm.trans h
  have a : w % 128 = 99 := by omega
  have b : w / 4096 % 8 = 5 := by omega
  unfold kindOf
  simp [a, b]
theorem hit_9 (w : Int) (h0 : 0 ≤ w) (h1 : w < 4294967296) (a : w % 128 = 99) (b : w / 4096 % 8 = 6) : bits .and .u32 w (maskL.getD (9 - 1) 0) = matchL.getD (9 - 1) 0 := (u32_and707f w h0 h1).trans (show _ = (24675 : Int) by omega)
theorem kind_9 (w : Int) (h0 : 0 ≤ w) (h1 : w < 4294967296) (h : bits .and .u32 w (maskL.getD (9 - 1) 0) = matchL.getD (9 - 1) 0) : kindOf w = 9 := by
  have g : _ = (24675 : Int) := (u32_and707f w h0 h1).symm.trans h
  have a : w % 128 = 99 := by omega
  have b : w / 4096 % 8 = 6 := by omega
  unfold kindOf
  simp [a, b]
theorem hit_10 (w : Int) (h0 : 0 ≤ w) (h1 : w < 4294967296) (a : w % 128 = 99) (b : w / 4096 % 8 = 7) : bits .and .u32 w (maskL.getD (10 - 1) 0) = matchL.getD (10 - 1) 0 := (u32_and707f w h0 h1).trans (show _ = (28771 : Int) by omega)
theorem kind_10 (w : Int) (h0 : 0 ≤ w) (h1 : w < 4294967296) (h : bits .and .u32 w (maskL.getD (10 - 1) 0) = matchL.getD (10 - 1) 0) : kindOf w = 10 := by
  have g : _ = (28771 : Int) := (u32_and707f w h0 h1).symm.trans h
  have a : w % 128 = 99 := by omega
  have b : w / 4096 % 8 = 7 := by omega
  unfold kindOf
  simp [a, b]
theorem hit_11 (w : Int) (h0 : 0 ≤ w) (h1 : w < 4294967296) (a : w % 128 = 3) (b : w / 4096 % 8 = 0) : bits .and .u32 w (maskL.getD (11 - 1) 0) = matchL.getD (11 - 1) 0 := (u32_and707f w h0 h1).trans (show _ = (3 : Int) by omega)
theorem kind_11 (w : Int) (h0 : 0 ≤ w) (h1 : w < 4294967296) (h : bits .and .u32 w (maskL.getD (11 - 1) 0) = matchL.getD (11 - 1) 0) : kindOf w = 11 := by
  have g : _ = (3 : Int) := (u32_and707f w h0 h1).symm.trans h
  have a : w % 128 = 3 := by omega
  have b : w / 4096 % 8 = 0 := by omega
  unfold kindOf
  simp [a, b]
theorem hit_12 (w : Int) (h0 : 0 ≤ w) (h1 : w < 4294967296) (a : w % 128 = 3) (b : w / 4096 % 8 = 1) : bits .and .u32 w (maskL.getD (12 - 1) 0) = matchL.getD (12 - 1) 0 := (u32_and707f w h0 h1).trans (show _ = (4099 : Int) by omega)
theorem kind_12 (w : Int) (h0 : 0 ≤ w) (h1 : w < 4294967296) (h : bits .and .u32 w (maskL.getD (12 - 1) 0) = matchL.getD (12 - 1) 0) : kindOf w = 12 := by
  have g : _ = (4099 : Int) := (u32_and707f w h0 h1).symm.trans h
  have a : w % 128 = 3 := by omega
  have b : w / 4096 % 8 = 1 := by omega
  unfold kindOf
  simp [a, b]
theorem hit_13 (w : Int) (h0 : 0 ≤ w) (h1 : w < 4294967296) (a : w % 128 = 3) (b : w / 4096 % 8 = 2) : bits .and .u32 w (maskL.getD (13 - 1) 0) = matchL.getD (13 - 1) 0 := (u32_and707f w h0 h1).trans (show _ = (8195 : Int) by omega)
theorem kind_13 (w : Int) (h0 : 0 ≤ w) (h1 : w < 4294967296) (h : bits .and .u32 w (maskL.getD (13 - 1) 0) = matchL.getD (13 - 1) 0) : kindOf w = 13 := by
  have g : _ = (8195 : Int) := (u32_and707f w h0 h1).symm.trans h
  have a : w % 128 = 3 := by omega
  have b : w / 4096 % 8 = 2 := by omega
  unfold kindOf
  simp [a, b]
theorem hit_14 (w : Int) (h0 : 0 ≤ w) (h1 : w < 4294967296) (a : w % 128 = 3) (b : w / 4096 % 8 = 4) : bits .and .u32 w (maskL.getD (14 - 1) 0) = matchL.getD (14 - 1) 0 := (u32_and707f w h0 h1).trans (show _ = (16387 : Int) by omega)
theorem kind_14 (w : Int) (h0 : 0 ≤ w) (h1 : w < 4294967296) (h : bits .and .u32 w (maskL.getD (14 - 1) 0) = matchL.getD (14 - 1) 0) : kindOf w = 14 := by
  have g : _ = (16387 : Int) := (u32_and707f w h0 h1).symm.trans h
  have a : w % 128 = 3 := by omega
  have b : w / 4096 % 8 = 4 := by omega
  unfold kindOf
  simp [a, b]
theorem hit_15 (w : Int) (h0 : 0 ≤ w) (h1 : w < 4294967296) (a : w % 128 = 3) (b : w / 4096 % 8 = 5) : bits .and .u32 w (maskL.getD (15 - 1) 0) = matchL.getD (15 - 1) 0 := (u32_and707f w h0 h1).trans (show _ = (20483 : Int) by omega)
theorem kind_15 (w : Int) (h0 : 0 ≤ w) (h1 : w < 4294967296) (h : bits .and .u32 w (maskL.getD (15 - 1) 0) = matchL.getD (15 - 1) 0) : kindOf w = 15 := by
  have g : _ = (20483 : Int) := (u32_and707f w h0 h1).symm.trans h
  have a : w % 128 = 3 := by omega
  have b : w / 4096 % 8 = 5 := by omega
  unfold kindOf
  simp [a, b]
theorem hit_16 (w : Int) (h0 : 0 ≤ w) (h1 : w < 4294967296) (a : w % 128 = 35) (b : w / 4096 % 8 = 0) : bits .and .u32 w (maskL.getD (16 - 1) 0) = matchL.getD (16 - 1) 0 := (u32_and707f w h0 h1).trans (show _ = (35 : Int) by omega)
theorem kind_16 (w : Int) (h0 : 0 ≤ w) (h1 : w < 4294967296) (h : bits .and .u32 w (maskL.getD (16 - 1) 0) = matchL.getD (16 - 1) 0) : kindOf w = 16 := by
  have g : _ = (35 : Int) := (u32_and707f w h0 h1).symm.trans h
  have a : w % 128 = 35 := by omega
  have b : w / 4096 % 8 = 0 := by omega
  unfold kindOf
  simp [a, b]
theorem hit_17 (w : Int) (h0 : 0 ≤ w) (h1 : w < 4294967296) (a : w % 128 = 35) (b : w / 4096 % 8 = 1) : bits .and .u32 w (maskL.getD (17 - 1) 0) = matchL.getD (17 - 1) 0 := (u32_and707f w h0 h1).trans (show _ = (4131 : Int) by omega)
theorem kind_17 (w : Int) (h0 : 0 ≤ w) (h1 : w < 4294967296) (h : bits .and .u32 w (maskL.getD (17 - 1) 0) = matchL.getD (17 - 1) 0) : kindOf w = 17 := by
  have g : _ = (4131 : Int) := (u32_and707f w h0 h1).symm.trans h
  have a : w % 128 = 35 := by omega
  have b : w / 4096 % 8 = 1 := by omega
  unfold kindOf
  simp [a, b]
theorem hit_18 (w : Int) (h0 : 0 ≤ w) (h1 : w < 4294967296) (a : w % 128 = 35) (b : w / 4096 % 8 = 2) : bits .and .u32 w (maskL.getD (18 - 1) 0) = matchL.getD (18 - 1) 0 := (u32_and707f w h0 h1).trans (show _ = (8227 : Int) by omega)
theorem kind_18 (w : Int) (h0 : 0 ≤ w) (h1 : w < 4294967296) (h : bits .and .u32 w (maskL.getD (18 - 1) 0) = matchL.getD (18 - 1) 0) : kindOf w = 18 := by
  have g : _ = (8227 : Int) := (u32_and707f w h0 h1).symm.trans h
  have a : w % 128 = 35 := by omega
  have b : w / 4096 % 8 = 2 := by omega
  unfold kindOf
  simp [a, b]
theorem hit_19 (w : Int) (h0 : 0 ≤ w) (h1 : w < 4294967296) (a : w % 128 = 19) (b : w / 4096 % 8 = 0) : bits .and .u32 w (maskL.getD (19 - 1) 0) = matchL.getD (19 - 1) 0 := (u32_and707f w h0 h1).trans (show _ = (19 : Int) by omega)
theorem kind_19 (w : Int) (h0 : 0 ≤ w) (h1 : w < 4294967296) (h : bits .and .u32 w (maskL.getD (19 - 1) 0) = matchL.getD (19 - 1) 0) : kindOf w = 19 := by
  have g : _ = (19 : Int) := (u32_and707f w h0 h1).symm.trans h
  have a : w % 128 = 19 := by omega
  have b : w / 4096 % 8 = 0 := by omega
  unfold kindOf
  simp [a, b]
theorem hit_20 (w : Int) (h0 : 0 ≤ w) (h1 : w < 4294967296) (a : w % 128 = 19) (b : w / 4096 % 8 = 2) : bits .and .u32 w (maskL.getD (20 - 1) 0) = matchL.getD (20 - 1) 0 := (u32_and707f w h0 h1).trans (show _ = (8211 : Int) by omega)
theorem kind_20 (w : Int) (h0 : 0 ≤ w) (h1 : w < 4294967296) (h : bits .and .u32 w (maskL.getD (20 - 1) 0) = matchL.getD (20 - 1) 0) : kindOf w = 20 := by
  have g : _ = (8211 : Int) := (u32_and707f w h0 h1).symm.trans h
  have a : w % 128 = 19 := by omega
  have b : w / 4096 % 8 = 2 := by omega
  unfold kindOf
  simp [a, b]
theorem hit_21 (w : Int) (h0 : 0 ≤ w) (h1 : w < 4294967296) (a : w % 128 = 19) (b : w / 4096 % 8 = 3) : bits .and .u32 w (maskL.getD (21 - 1) 0) = matchL.getD (21 - 1) 0 := (u32_and707f w h0 h1).trans (show _ = (12307 : Int) by omega)
theorem kind_21 (w : Int) (h0 : 0 ≤ w) (h1 : w < 4294967296) (h : bits .and .u32 w (maskL.getD (21 - 1) 0) = matchL.getD (21 - 1) 0) : kindOf w = 21 := by
  have g : _ = (12307 : Int) := (u32_and707f w h0 h1).symm.trans h
  have a : w % 128 = 19 := by omega
  have b : w / 4096 % 8 = 3 := by omega
  unfold kindOf
  simp [a, b]
theorem hit_22 (w : Int) (h0 : 0 ≤ w) (h1 : w < 4294967296) (a : w % 128 = 19) (b : w / 4096 % 8 = 4) : bits .and .u32 w (maskL.getD (22 - 1) 0) = matchL.getD (22 - 1) 0 := (u32_and707f w h0 h1).trans (show _ = (16403 : Int) by omega)
theorem kind_22 (w : Int) (h0 : 0 ≤ w) (h1 : w < 4294967296) (h : bits .and .u32 w (maskL.getD (22 - 1) 0) = matchL.getD (22 - 1) 0) : kindOf w = 22 := by
  have g : _ = (16403 : Int) := (u32_and707f w h0 h1).symm.trans h
  have a : w % 128 = 19 := by omega
  have b : w / 4096 % 8 = 4 := by omega
  unfold kindOf
  simp [a, b]
theorem hit_23 (w : Int) (h0 : 0 ≤ w) (h1 : w < 4294967296) (a : w % 128 = 19) (b : w / 4096 % 8 = 6) : bits .and .u32 w (maskL.getD (23 - 1) 0) = matchL.getD (23 - 1) 0 := (u32_and707f w h0 h1).trans (show _ = (24595 : Int) by omega)
theorem kind_23 (w : Int) (h0 : 0 ≤ w) (h1 : w < 4294967296) (h : bits .and .u32 w (maskL.getD (23 - 1) 0) = matchL.getD (23 - 1) 0) : kindOf w = 23 := by
  have g : _ = (24595 : Int) := (u32_and707f w h0 h1).symm.trans h
  have a : w % 128 = 19 := by omega
  have b : w / 4096 % 8 = 6 := by omega
  unfold kindOf
  simp [a, b]
theorem hit_24 (w : Int) (h0 : 0 ≤ w) (h1 : w < 4294967296) (a : w % 128 = 19) (b : w / 4096 % 8 = 7) : bits .and .u32 w (maskL.getD (24 - 1) 0) = matchL.getD (24 - 1) 0 := (u32_and707f w h0 h1).trans (show _ = (28691 : Int) by omega)
theorem kind_24 (w : Int) (h0 : 0 ≤ w) (h1 : w < 4294967296) (h : bits .and .u32 w (maskL.getD (24 - 1) 0) = matchL.getD (24 - 1) 0) : kindOf w = 24 := by
  have g : _ = (28691 : Int) := (u32_and707f w h0 h1).symm.trans h
  have a : w % 128 = 19 := by omega
  have b : w / 4096 % 8 = 7 := by omega
  unfold kindOf
  simp [a, b]
theorem hit_25 (w : Int) (h0 : 0 ≤ w) (h1 : w < 4294967296) (a : w % 128 = 19) (b : w / 4096 % 8 = 1) (c : w / 33554432 = 0) : bits .and .u32 w (maskL.getD (25 - 1) 0) = matchL.getD (25 - 1) 0 := (u32_andfe w h0 h1).trans (show _ = (4115 : Int) by omega)
theorem kind_25 (w : Int) (h0 : 0 ≤ w) (h1 : w < 4294967296) (h : bits .and .u32 w (maskL.getD (25 - 1) 0) = matchL.getD (25 - 1) 0) : kindOf w = 25 := by
  have g : _ = (4115 : Int) := (u32_andfe w h0 h1).symm.trans h
  have a : w % 128 = 19 := by omega
  have b : w / 4096 % 8 = 1 := by omega
  have c : w / 33554432 = 0 := by omega
  unfold kindOf
  simp [a, b, c]
theorem hit_26 (w : Int) (h0 : 0 ≤ w) (h1 : w < 4294967296) (a : w % 128 = 19) (b : w / 4096 % 8 = 5) (c : w / 33554432 = 0) : bits .and .u32 w (maskL.getD (26 - 1) 0) = matchL.getD (26 - 1) 0 := (u32_andfe w h0 h1).trans (show _ = (20499 : Int) by omega)
theorem kind_26 (w : Int) (h0 : 0 ≤ w) (h1 : w < 4294967296) (h : bits .and .u32 w (maskL.getD (26 - 1) 0) = matchL.getD (26 - 1) 0) : kindOf w = 26 := by
  have g : _ = (20499 : Int) := (u32_andfe w h0 h1).symm.trans h
  have a : w % 128 = 19 := by omega
  have b : w / 4096 % 8 = 5 := by omega
  have c : w / 33554432 = 0 := by omega
  unfold kindOf
  simp [a, b, c]
theorem hit_27 (w : Int) (h0 : 0 ≤ w) (h1 : w < 4294967296) (a : w % 128 = 19) (b : w / 4096 % 8 = 5) (c : w / 33554432 = 32) : bits .and .u32 w (maskL.getD (27 - 1) 0) = matchL.getD (27 - 1) 0 := (u32_andfe w h0 h1).trans (show _ = (1073762323 : Int) by omega)
theorem kind_27 (w : Int) (h0 : 0 ≤ w) (h1 : w < 4294967296) (h : bits .and .u32 w (maskL.getD (27 - 1) 0) = matchL.getD (27 - 1) 0) : kindOf w = 27 := by
  have g : _ = (1073762323 : Int) := (u32_andfe w h0 h1).symm.trans h
  have a : w % 128 = 19 := by omega
  have b : w / 4096 % 8 = 5 := by omega
  have c : w / 33554432 = 32 := by omega
  unfold kindOf
  simp [a, b, c]
theorem hit_28 (w : Int) (h0 : 0 ≤ w) (h1 : w < 4294967296) (a : w % 128 = 51) (b : w / 4096 % 8 = 0) (c : w / 33554432 = 0) : bits .and .u32 w (maskL.getD (28 - 1) 0) = matchL.getD (28 - 1) 0 := (u32_andfe w h0 h1).trans (show _ = (51 : Int) by omega)
theorem kind_28 (w : Int) (h0 : 0 ≤ w) (h1 : w < 4294967296) (h : bits .and .u32 w (maskL.getD (28 - 1) 0) = matchL.getD (28 - 1) 0) : kindOf w = 28 := by
  have g : _ = (51 : Int) := (u32_andfe w h0 h1).symm.trans h
  have a : w % 128 = 51 := by omega
  have b : w / 4096 % 8 = 0 := by omega
  have c : w / 33554432 = 0 := by omega
  unfold kindOf
  simp [a, b, c]
theorem hit_29 (w : Int) (h0 : 0 ≤ w) (h1 : w < 4294967296) (a : w % 128 = 51) (b : w / 4096 % 8 = 0) (c : w / 33554432 = 32) : bits .and .u32 w (maskL.getD (29 - 1) 0) = matchL.getD (29 - 1) 0 := (u32_andfe w h0 h1).trans (show _ = (1073741875 : Int) by omega)
theorem kind_29 (w : Int) (h0 : 0 ≤ w) (h1 : w < 4294967296) (h : bits .and .u32 w (maskL.getD (29 - 1) 0) = matchL.getD (29 - 1) 0) : kindOf w = 29 := by
  have g : _ = (1073741875 : Int) := (u32_andfe w h0 h1).symm.trans h
  have a : w % 128 = 51 := by omega
  have b : w / 4096 % 8 = 0 := by omega
  have c : w / 33554432 = 32 := by omega
  unfold kindOf
  simp [a, b, c]
theorem hit_30 (w : Int) (h0 : 0 ≤ w) (h1 : w < 4294967296) (a : w % 128 = 51) (b : w / 4096 % 8 = 1) (c : w / 33554432 = 0) : bits .and .u32 w (maskL.getD (30 - 1) 0) = matchL.getD (30 - 1) 0 := (u32_andfe w h0 h1).trans (show _ = (4147 : Int) by omega)
theorem kind_30 (w : Int) (h0 : 0 ≤ w) (h1 : w < 4294967296) (h : bits .and .u32 w (maskL.getD (30 - 1) 0) = matchL.getD (30 - 1) 0) : kindOf w = 30 := by
  have g : _ = (4147 : Int) := (u32_andfe w h0 h1).symm.trans h
  have a : w % 128 = 51 := by omega
  have b : w / 4096 % 8 = 1 := by omega
  have c : w / 33554432 = 0 := by omega
  unfold kindOf
  simp [a, b, c]
theorem hit_31 (w : Int) (h0 : 0 ≤ w) (h1 : w < 4294967296) (a : w % 128 = 51) (b : w / 4096 % 8 = 2) (c : w / 33554432 = 0) : bits .and .u32 w (maskL.getD (31 - 1) 0) = matchL.getD (31 - 1) 0 := (u32_andfe w h0 h1).trans (show _ = (8243 : Int) by omega)
theorem kind_31 (w : Int) (h0 : 0 ≤ w) (h1 : w < 4294967296) (h : bits .and .u32 w (maskL.getD (31 - 1) 0) = matchL.getD (31 - 1) 0) : kindOf w = 31 := by
  have g : _ = (8243 : Int) := (u32_andfe w h0 h1).symm.trans h
  have a : w % 128 = 51 := by omega
  have b : w / 4096 % 8 = 2 := by omega
  have c : w / 33554432 = 0 := by omega
  unfold kindOf
  simp [a, b, c]
theorem hit_32 (w : Int) (h0 : 0 ≤ w) (h1 : w < 4294967296) (a : w % 128 = 51) (b : w / 4096 % 8 = 3) (c : w / 33554432 = 0) : bits .and .u32 w (maskL.getD (32 - 1) 0) = matchL.getD (32 - 1) 0 := (u32_andfe w h0 h1).trans (show _ = (12339 : Int) by omega)
theorem kind_32 (w : Int) (h0 : 0 ≤ w) (h1 : w < 4294967296) (h : bits .and .u32 w (maskL.getD (32 - 1) 0) = matchL.getD (32 - 1) 0) : kindOf w = 32 := by
  have g : _ = (12339 : Int) := (u32_andfe w h0 h1).symm.trans h
  have a : w % 128 = 51 := by omega
  have b : w / 4096 % 8 = 3 := by omega
  have c : w / 33554432 = 0 := by omega
  unfold kindOf
  simp [a, b, c]
theorem hit_33 (w : Int) (h0 : 0 ≤ w) (h1 : w < 4294967296) (a : w % 128 = 51) (b : w / 4096 % 8 = 4) (c : w / 33554432 = 0) : bits .and .u32 w (maskL.getD (33 - 1) 0) = matchL.getD (33 - 1) 0 := (u32_andfe w h0 h1).trans (show _ = (16435 : Int) by omega)
theorem kind_33 (w : Int) (h0 : 0 ≤ w) (h1 : w < 4294967296) (h : bits .and .u32 w (maskL.getD (33 - 1) 0) = matchL.getD (33 - 1) 0) : kindOf w = 33 := by
  have g : _ = (16435 : Int) := (u32_andfe w h0 h1).symm.trans h
  have a : w % 128 = 51 := by omega
  have b : w / 4096 % 8 = 4 := by omega
  have c : w / 33554432 = 0 := by omega
  unfold kindOf
  simp [a, b, c]
theorem hit_34 (w : Int) (h0 : 0 ≤ w) (h1 : w < 4294967296) (a : w % 128 = 51) (b : w / 4096 % 8 = 5) (c : w / 33554432 = 0) : bits .and .u32 w (maskL.getD (34 - 1) 0) = matchL.getD (34 - 1) 0 := (u32_andfe w h0 h1).trans (show _ = (20531 : Int) by omega)
theorem kind_34 (w : Int) (h0 : 0 ≤ w) (h1 : w < 4294967296) (h : bits .and .u32 w (maskL.getD (34 - 1) 0) = matchL.getD (34 - 1) 0) : kindOf w = 34 := by
  have g : _ = (20531 : Int) := (u32_andfe w h0 h1).symm.trans h
  have a : w % 128 = 51 := by omega
  have b : w / 4096 % 8 = 5 := by omega
  have c : w / 33554432 = 0 := by omega
  unfold kindOf
  simp [a, b, c]
theorem hit_35 (w : Int) (h0 : 0 ≤ w) (h1 : w < 4294967296) (a : w % 128 = 51) (b : w / 4096 % 8 = 5) (c : w / 33554432 = 32) : bits .and .u32 w (maskL.getD (35 - 1) 0) = matchL.getD (35 - 1) 0 := (u32_andfe w h0 h1).trans (show _ = (1073762355 : Int) by omega)
theorem kind_35 (w : Int) (h0 : 0 ≤ w) (h1 : w < 4294967296) (h : bits .and .u32 w (maskL.getD (35 - 1) 0) = matchL.getD (35 - 1) 0) : kindOf w = 35 := by
  have g : _ = (1073762355 : Int) := (u32_andfe w h0 h1).symm.trans h
  have a : w % 128 = 51 := by omega
  have b : w / 4096 % 8 = 5 := by omega
  have c : w / 33554432 = 32 := by omega
  unfold kindOf
  simp [a, b, c]
theorem hit_36 (w : Int) (h0 : 0 ≤ w) (h1 : w < 4294967296) (a : w % 128 = 51) (b : w / 4096 % 8 = 6) (c : w / 33554432 = 0) : bits .and .u32 w (maskL.getD (36 - 1) 0) = matchL.getD (36 - 1) 0 := (u32_andfe w h0 h1).trans (show _ = (24627 : Int) by omega)
theorem kind_36 (w : Int) (h0 : 0 ≤ w) (h1 : w < 4294967296) (h : bits .and .u32 w (maskL.getD (36 - 1) 0) = matchL.getD (36 - 1) 0) : kindOf w = 36 := by
  have g : _ = (24627 : Int) := (u32_andfe w h0 h1).symm.trans h
  have a : w % 128 = 51 := by omega
  have b : w / 4096 % 8 = 6 := by omega
  have c : w / 33554432 = 0 := by omega
  unfold kindOf
  simp [a, b, c]
theorem hit_37 (w : Int) (h0 : 0 ≤ w) (h1 : w < 4294967296) (a : w % 128 = 51) (b : w / 4096 % 8 = 7) (c : w / 33554432 = 0) : bits .and .u32 w (maskL.getD (37 - 1) 0) = matchL.getD (37 - 1) 0 := (u32_andfe w h0 h1).trans (show _ = (28723 : Int) by omega)
theorem kind_37 (w : Int) (h0 : 0 ≤ w) (h1 : w < 4294967296) (h : bits .and .u32 w (maskL.getD (37 - 1) 0) = matchL.getD (37 - 1) 0) : kindOf w = 37 := by
  have g : _ = (28723 : Int) := (u32_andfe w h0 h1).symm.trans h
  have a : w % 128 = 51 := by omega
  have b : w / 4096 % 8 = 7 := by omega
  have c : w / 33554432 = 0 := by omega
  unfold kindOf
  simp [a, b, c]
theorem hit_38 (w : Int) (h0 : 0 ≤ w) (h1 : w < 4294967296) (a : w % 128 = 15) (b : w / 4096 % 8 = 0) : bits .and .u32 w (maskL.getD (38 - 1) 0) = matchL.getD (38 - 1) 0 := (u32_and707f w h0 h1).trans (show _ = (15 : Int) by omega)
theorem kind_38 (w : Int) (h0 : 0 ≤ w) (h1 : w < 4294967296) (h : bits .and .u32 w (maskL.getD (38 - 1) 0) = matchL.getD (38 - 1) 0) : kindOf w = 38 := by
  have g : _ = (15 : Int) := (u32_and707f w h0 h1).symm.trans h
  have a : w % 128 = 15 := by omega
  have b : w / 4096 % 8 = 0 := by omega
  unfold kindOf
  simp [a, b]
theorem hit_39 (w : Int) (h0 : 0 ≤ w) (h1 : w < 4294967296) (a : w % 128 = 15) (b : w / 4096 % 8 = 1) : bits .and .u32 w (maskL.getD (39 - 1) 0) = matchL.getD (39 - 1) 0 := (u32_and707f w h0 h1).trans (show _ = (4111 : Int) by omega)
theorem kind_39 (w : Int) (h0 : 0 ≤ w) (h1 : w < 4294967296) (h : bits .and .u32 w (maskL.getD (39 - 1) 0) = matchL.getD (39 - 1) 0) : kindOf w = 39 := by
  have g : _ = (4111 : Int) := (u32_and707f w h0 h1).symm.trans h
  have a : w % 128 = 15 := by omega
  have b : w / 4096 % 8 = 1 := by omega
  unfold kindOf
  simp [a, b]
theorem hit_40 (w : Int) (h0 : 0 ≤ w) (h1 : w < 4294967296) (a : w = 115) : bits .and .u32 w (maskL.getD (40 - 1) 0) = matchL.getD (40 - 1) 0 := (u32_andff w h0 h1).trans (show _ = (115 : Int) by omega)
theorem kind_40 (w : Int) (h0 : 0 ≤ w) (h1 : w < 4294967296) (h : bits .and .u32 w (maskL.getD (40 - 1) 0) = matchL.getD (40 - 1) 0) : kindOf w = 40 := by obtain rfl : w = 115 := (u32_andff w h0 h1).symm.trans h; rfl
theorem hit_41 (w : Int) (h0 : 0 ≤ w) (h1 : w < 4294967296) (a : w = 1048691) : bits .and .u32 w (maskL.getD (41 - 1) 0) = matchL.getD (41 - 1) 0 := (u32_andff w h0 h1).trans (show _ = (1048691 : Int) by omega)
theorem kind_41 (w : Int) (h0 : 0 ≤ w) (h1 : w < 4294967296) (h : bits .and .u32 w (maskL.getD (41 - 1) 0) = matchL.getD (41 - 1) 0) : kindOf w = 41 := by obtain rfl : w = 1048691 := (u32_andff w h0 h1).symm.trans h; rfl
theorem hit_42 (w : Int) (h0 : 0 ≤ w) (h1 : w < 4294967296) (a : w % 128 = 115) (b : w / 4096 % 8 = 1) : bits .and .u32 w (maskL.getD (42 - 1) 0) = matchL.getD (42 - 1) 0 := (u32_and707f w h0 h1).trans (show _ = (4211 : Int) by omega)
theorem kind_42 (w : Int) (h0 : 0 ≤ w) (h1 : w < 4294967296) (h : bits .and .u32 w (maskL.getD (42 - 1) 0) = matchL.getD (42 - 1) 0) : kindOf w = 42 := by
  have g : _ = (4211 : Int) := (u32_and707f w h0 h1).symm.trans h
  have a : w % 128 = 115 := by omega
  have b : w / 4096 % 8 = 1 := by omega
  unfold kindOf
  simp [a, b]
theorem hit_43 (w : Int) (h0 : 0 ≤ w) (h1 : w < 4294967296) (a : w % 128 = 115) (b : w / 4096 % 8 = 2) : bits .and .u32 w (maskL.getD (43 - 1) 0) = matchL.getD (43 - 1) 0 := (u32_and707f w h0 h1).trans (show _ = (8307 : Int) by omega)
theorem kind_43 (w : Int) (h0 : 0 ≤ w) (h1 : w < 4294967296) (h : bits .and .u32 w (maskL.getD (43 - 1) 0) = matchL.getD (43 - 1) 0) : kindOf w = 43 := by
  have g : _ = (8307 : Int) := (u32_and707f w h0 h1).symm.trans h
  have a : w % 128 = 115 := by omega
  have b : w / 4096 % 8 = 2 := by omega
  unfold kindOf
  simp [a, b]
theorem hit_44 (w : Int) (h0 : 0 ≤ w) (h1 : w < 4294967296) (a : w % 128 = 115) (b : w / 4096 % 8 = 3) : bits .and .u32 w (maskL.getD (44 - 1) 0) = matchL.getD (44 - 1) 0 := (u32_and707f w h0 h1).trans (show _ = (12403 : Int) by omega)
theorem kind_44 (w : Int) (h0 : 0 ≤ w) (h1 : w < 4294967296) (h : bits .and .u32 w (maskL.getD (44 - 1) 0) = matchL.getD (44 - 1) 0) : kindOf w = 44 := by
  have g : _ = (12403 : Int) := (u32_and707f w h0 h1).symm.trans h
  have a : w % 128 = 115 := by omega
  have b : w / 4096 % 8 = 3 := by omega
  unfold kindOf
  simp [a, b]
theorem hit_45 (w : Int) (h0 : 0 ≤ w) (h1 : w < 4294967296) (a : w % 128 = 115) (b : w / 4096 % 8 = 5) : bits .and .u32 w (maskL.getD (45 - 1) 0) = matchL.getD (45 - 1) 0 := (u32_and707f w h0 h1).trans (show _ = (20595 : Int) by omega)
theorem kind_45 (w : Int) (h0 : 0 ≤ w) (h1 : w < 4294967296) (h : bits .and .u32 w (maskL.getD (45 - 1) 0) = matchL.getD (45 - 1) 0) : kindOf w = 45 := by
  have g : _ = (20595 : Int) := (u32_and707f w h0 h1).symm.trans h
  have a : w % 128 = 115 := by omega
  have b : w / 4096 % 8 = 5 := by omega
  unfold kindOf
  simp [a, b]
theorem hit_46 (w : Int) (h0 : 0 ≤ w) (h1 : w < 4294967296) (a : w % 128 = 115) (b : w / 4096 % 8 = 6) : bits .and .u32 w (maskL.getD (46 - 1) 0) = matchL.getD (46 - 1) 0 := (u32_and707f w h0 h1).trans (show _ = (24691 : Int) by omega)
theorem kind_46 (w : Int) (h0 : 0 ≤ w) (h1 : w < 4294967296) (h : bits .and .u32 w (maskL.getD (46 - 1) 0) = matchL.getD (46 - 1) 0) : kindOf w = 46 := by
  have g : _ = (24691 : Int) := (u32_and707f w h0 h1).symm.trans h
  have a : w % 128 = 115 := by omega
  have b : w / 4096 % 8 = 6 := by omega
  unfold kindOf
  simp [a, b]
theorem hit_47 (w : Int) (h0 : 0 ≤ w) (h1 : w < 4294967296) (a : w % 128 = 115) (b : w / 4096 % 8 = 7) : bits .and .u32 w (maskL.getD (47 - 1) 0) = matchL.getD (47 - 1) 0 := (u32_and707f w h0 h1).trans (show _ = (28787 : Int) by omega)
theorem kind_47 (w : Int) (h0 : 0 ≤ w) (h1 : w < 4294967296) (h : bits .and .u32 w (maskL.getD (47 - 1) 0) = matchL.getD (47 - 1) 0) : kindOf w = 47 := by
  have g : _ = (28787 : Int) := (u32_and707f w h0 h1).symm.trans h
  have a : w % 128 = 115 := by omega
  have b : w / 4096 % 8 = 7 := by omega
  unfold kindOf
  simp [a, b]
theorem hit_48 (w : Int) (h0 : 0 ≤ w) (h1 : w < 4294967296) (a : w = 807403635) : bits .and .u32 w (maskL.getD (48 - 1) 0) = matchL.getD (48 - 1) 0 := (u32_andff w h0 h1).trans (show _ = (807403635 : Int) by omega)
theorem kind_48 (w : Int) (h0 : 0 ≤ w) (h1 : w < 4294967296) (h : bits .and .u32 w (maskL.getD (48 - 1) 0) = matchL.getD (48 - 1) 0) : kindOf w = 48 := by obtain rfl : w = 807403635 := (u32_andff w h0 h1).symm.trans h; rfl
theorem hit_49 (w : Int) (h0 : 0 ≤ w) (h1 : w < 4294967296) (a : w = 273678451) : bits .and .u32 w (maskL.getD (49 - 1) 0) = matchL.getD (49 - 1) 0 := (u32_andff w h0 h1).trans (show _ = (273678451 : Int) by omega)
theorem kind_49 (w : Int) (h0 : 0 ≤ w) (h1 : w < 4294967296) (h : bits .and .u32 w (maskL.getD (49 - 1) 0) = matchL.getD (49 - 1) 0) : kindOf w = 49 := by obtain rfl : w = 273678451 := (u32_andff w h0 h1).symm.trans h; rfl
theorem hit_50 (w : Int) (h0 : 0 ≤ w) (h1 : w < 4294967296) (a : w % 128 = 51) (b : w / 4096 % 8 = 0) (c : w / 33554432 = 1) : bits .and .u32 w (maskL.getD (50 - 1) 0) = matchL.getD (50 - 1) 0 := (u32_andfe w h0 h1).trans (show _ = (33554483 : Int) by omega)
theorem kind_50 (w : Int) (h0 : 0 ≤ w) (h1 : w < 4294967296) (h : bits .and .u32 w (maskL.getD (50 - 1) 0) = matchL.getD (50 - 1) 0) : kindOf w = 50 := by
  have g : _ = (33554483 : Int) := (u32_andfe w h0 h1).symm.trans h
  have a : w % 128 = 51 := by omega
  have b : w / 4096 % 8 = 0 := by omega
  have c : w / 33554432 = 1 := by omega
  unfold kindOf
  simp [a, b, c]
theorem hit_51 (w : Int) (h0 : 0 ≤ w) (h1 : w < 4294967296) (a : w % 128 = 51) (b : w / 4096 % 8 = 1) (c : w / 33554432 = 1) : bits .and .u32 w (maskL.getD (51 - 1) 0) = matchL.getD (51 - 1) 0 := (u32_andfe w h0 h1).trans (show _ = (33558579 : Int) by omega)
theorem kind_51 (w : Int) (h0 : 0 ≤ w) (h1 : w < 4294967296) (h : bits .and .u32 w (maskL.getD (51 - 1) 0) = matchL.getD (51 - 1) 0) : kindOf w = 51 := by
  have g : _ = (33558579 : Int) := (u32_andfe w h0 h1).symm.trans h
  have a : w % 128 = 51 := by omega
  have b : w / 4096 % 8 = 1 := by omega
  have c : w / 33554432 = 1 := by omega
  unfold kindOf
  simp [a, b, c]
theorem hit_52 (w : Int) (h0 : 0 ≤ w) (h1 : w < 4294967296) (a : w % 128 = 51) (b : w / 4096 % 8 = 2) (c : w / 33554432 = 1) : bits .and .u32 w (maskL.getD (52 - 1) 0) = matchL.getD (52 - 1) 0 := (u32_andfe w h0 h1).trans (show _ = (33562675 : Int) by omega)
theorem kind_52 (w : Int) (h0 : 0 ≤ w) (h1 : w < 4294967296) (h : bits .and .u32 w (maskL.getD (52 - 1) 0) = matchL.getD (52 - 1) 0) : kindOf w = 52 := by
  have g : _ = (33562675 : Int) := (u32_andfe w h0 h1).symm.trans h
  have a : w % 128 = 51 := by omega
  have b : w / 4096 % 8 = 2 := by omega
  have c : w / 33554432 = 1 := by omega
  unfold kindOf
  simp [a, b, c]
theorem hit_53 (w : Int) (h0 : 0 ≤ w) (h1 : w < 4294967296) (a : w % 128 = 51) (b : w / 4096 % 8 = 3) (c : w / 33554432 = 1) : bits .and .u32 w (maskL.getD (53 - 1) 0) = matchL.getD (53 - 1) 0 := (u32_andfe w h0 h1).trans (show _ = (33566771 : Int) by omega)
theorem kind_53 (w : Int) (h0 : 0 ≤ w) (h1 : w < 4294967296) (h : bits .and .u32 w (maskL.getD (53 - 1) 0) = matchL.getD (53 - 1) 0) : kindOf w = 53 := by
  have g : _ = (33566771 : Int) := (u32_andfe w h0 h1).symm.trans h
  have a : w % 128 = 51 := by omega
  have b : w / 4096 % 8 = 3 := by omega
  have c : w / 33554432 = 1 := by omega
  unfold kindOf
  simp [a, b, c]
theorem hit_54 (w : Int) (h0 : 0 ≤ w) (h1 : w < 4294967296) (a : w % 128 = 51) (b : w / 4096 % 8 = 4) (c : w / 33554432 = 1) : bits .and .u32 w (maskL.getD (54 - 1) 0) = matchL.getD (54 - 1) 0 := (u32_andfe w h0 h1).trans (show _ = (33570867 : Int) by omega)
theorem kind_54 (w : Int) (h0 : 0 ≤ w) (h1 : w < 4294967296) (h : bits .and .u32 w (maskL.getD (54 - 1) 0) = matchL.getD (54 - 1) 0) : kindOf w = 54 := by
  have g : _ = (33570867 : Int) := (u32_andfe w h0 h1).symm.trans h
  have a : w % 128 = 51 := by omega
  have b : w / 4096 % 8 = 4 := by omega
  have c : w / 33554432 = 1 := by omega
  unfold kindOf
  simp [a, b, c]
theorem hit_55 (w : Int) (h0 : 0 ≤ w) (h1 : w < 4294967296) (a : w % 128 = 51) (b : w / 4096 % 8 = 5) (c : w / 33554432 = 1) : bits .and .u32 w (maskL.getD (55 - 1) 0) = matchL.getD (55 - 1) 0 := (u32_andfe w h0 h1).trans (show _ = (33574963 : Int) by omega)
theorem kind_55 (w : Int) (h0 : 0 ≤ w) (h1 : w < 4294967296) (h : bits .and .u32 w (maskL.getD (55 - 1) 0) = matchL.getD (55 - 1) 0) : kindOf w = 55 := by
  have g : _ = (33574963 : Int) := (u32_andfe w h0 h1).symm.trans h
  have a : w % 128 = 51 := by omega
  have b : w / 4096 % 8 = 5 := by omega
  have c : w / 33554432 = 1 := by omega
  unfold kindOf
  simp [a, b, c]
theorem hit_56 (w : Int) (h0 : 0 ≤ w) (h1 : w < 4294967296) (a : w % 128 = 51) (b : w / 4096 % 8 = 6) (c : w / 33554432 = 1) : bits .and .u32 w (maskL.getD (56 - 1) 0) = matchL.getD (56 - 1) 0 := (u32_andfe w h0 h1).trans (show _ = (33579059 : Int) by omega)
theorem kind_56 (w : Int) (h0 : 0 ≤ w) (h1 : w < 4294967296) (h : bits .and .u32 w (maskL.getD (56 - 1) 0) = matchL.getD (56 - 1) 0) : kindOf w = 56 := by
  have g : _ = (33579059 : Int) := (u32_andfe w h0 h1).symm.trans h
  have a : w % 128 = 51 := by omega
  have b : w / 4096 % 8 = 6 := by omega
  have c : w / 33554432 = 1 := by omega
  unfold kindOf
  simp [a, b, c]
theorem hit_57 (w : Int) (h0 : 0 ≤ w) (h1 : w < 4294967296) (a : w % 128 = 51) (b : w / 4096 % 8 = 7) (c : w / 33554432 = 1) : bits .and .u32 w (maskL.getD (57 - 1) 0) = matchL.getD (57 - 1) 0 := (u32_andfe w h0 h1).trans (show _ = (33583155 : Int) by omega)
theorem kind_57 (w : Int) (h0 : 0 ≤ w) (h1 : w < 4294967296) (h : bits .and .u32 w (maskL.getD (57 - 1) 0) = matchL.getD (57 - 1) 0) : kindOf w = 57 := by
  have g : _ = (33583155 : Int) := (u32_andfe w h0 h1).symm.trans h
  have a : w % 128 = 51 := by omega
  have b : w / 4096 % 8 = 7 := by omega
  have c : w / 33554432 = 1 := by omega
  unfold kindOf
  simp [a, b, c]

theorem kind_hit (w : Int) (h0 : 0 ≤ w) (h1 : w < 4294967296) (hk : kindOf w ≠ 0) : bits .and .u32 w (maskL.getD (kindOf w - 1) 0) = matchL.getD (kindOf w - 1) 0 := by
  generalize e : kindOf w = K at hk
  unfold kindOf at e
  by_cases c0 : w % 128 = 55
  · rw [if_pos c0] at e
    subst e
    exact hit_1 w h0 h1 c0
  rw [if_neg c0] at e
  clear c0
  by_cases c0 : w % 128 = 23
  · rw [if_pos c0] at e
    subst e
    exact hit_2 w h0 h1 c0
  rw [if_neg c0] at e
  clear c0
  by_cases c0 : w % 128 = 111
  · rw [if_pos c0] at e
    subst e
    exact hit_3 w h0 h1 c0
  rw [if_neg c0] at e
  clear c0
  by_cases c0 : w % 128 = 103
  · rw [if_pos c0] at e
    by_cases c1 : w / 4096 % 8 = 0
    · rw [if_pos c1] at e
      subst e
      exact hit_4 w h0 h1 c0 c1
    rw [if_neg c1] at e
    clear c1
    omega
  rw [if_neg c0] at e
  clear c0
  by_cases c0 : w % 128 = 99
  · rw [if_pos c0] at e
    by_cases c1 : w / 4096 % 8 = 0
    · rw [if_pos c1] at e
      subst e
      exact hit_5 w h0 h1 c0 c1
    rw [if_neg c1] at e
    clear c1
    by_cases c1 : w / 4096 % 8 = 1
    · rw [if_pos c1] at e
      subst e
      exact hit_6 w h0 h1 c0 c1
    rw [if_neg c1] at e
    clear c1
    by_cases c1 : w / 4096 % 8 = 4
    · rw [if_pos c1] at e
      subst e
      exact hit_7 w h0 h1 c0 c1
    rw [if_neg c1] at e
    clear c1
    by_cases c1 : w / 4096 % 8 = 5
    · rw [if_pos c1] at e
      subst e
      exact hit_8 w h0 h1 c0 c1
    rw [if_neg c1] at e
    clear c1
    by_cases c1 : w / 4096 % 8 = 6
    · rw [if_pos c1] at e
      subst e
      exact hit_9 w h0 h1 c0 c1
    rw [if_neg c1] at e
    clear c1
    by_cases c1 : w / 4096 % 8 = 7
    · rw [if_pos c1] at e
      subst e
      exact hit_10 w h0 h1 c0 c1
    rw [if_neg c1] at e
    clear c1
    omega
  rw [if_neg c0] at e
  clear c0
  by_cases c0 : w % 128 = 3
  · rw [if_pos c0] at e
    by_cases c1 : w / 4096 % 8 = 0
    · rw [if_pos c1] at e
      subst e
      exact hit_11 w h0 h1 c0 c1
    rw [if_neg c1] at e
    clear c1
    by_cases c1 : w / 4096 % 8 = 1
    · rw [if_pos c1] at e
      subst e
      exact hit_12 w h0 h1 c0 c1
    rw [if_neg c1] at e
    clear c1
    by_cases c1 : w / 4096 % 8 = 2
    · rw [if_pos c1] at e
      subst e
      exact hit_13 w h0 h1 c0 c1
    rw [if_neg c1] at e
    clear c1
    by_cases c1 : w / 4096 % 8 = 4
    · rw [if_pos c1] at e
      subst e
      exact hit_14 w h0 h1 c0 c1
    rw [if_neg c1] at e
    clear c1
    by_cases c1 : w / 4096 % 8 = 5
    · rw [if_pos c1] at e
      subst e
      exact hit_15 w h0 h1 c0 c1
    rw [if_neg c1] at e
    clear c1
    omega
  rw [if_neg c0] at e
  clear c0
  by_cases c0 : w % 128 = 35
  · rw [if_pos c0] at e
    by_cases c1 : w / 4096 % 8 = 0
    · rw [if_pos c1] at e
      subst e
      exact hit_16 w h0 h1 c0 c1
    rw [if_neg c1] at e
    clear c1
    by_cases c1 : w / 4096 % 8 = 1
    · rw [if_pos c1] at e
      subst e
      exact hit_17 w h0 h1 c0 c1
    rw [if_neg c1] at e
    clear c1
    by_cases c1 : w / 4096 % 8 = 2
    · rw [if_pos c1] at e
      subst e
      exact hit_18 w h0 h1 c0 c1
    rw [if_neg c1] at e
    clear c1
    omega
  rw [if_neg c0] at e
  clear c0
  by_cases c0 : w % 128 = 19
  · rw [if_pos c0] at e
    by_cases c1 : w / 4096 % 8 = 0
    · rw [if_pos c1] at e
      subst e
      exact hit_19 w h0 h1 c0 c1
    rw [if_neg c1] at e
    clear c1
    by_cases c1 : w / 4096 % 8 = 2
    · rw [if_pos c1] at e
      subst e
      exact hit_20 w h0 h1 c0 c1
    rw [if_neg c1] at e
    clear c1
    by_cases c1 : w / 4096 % 8 = 3
    · rw [if_pos c1] at e
      subst e
      exact hit_21 w h0 h1 c0 c1
    rw [if_neg c1] at e
    clear c1
    by_cases c1 : w / 4096 % 8 = 4
    · rw [if_pos c1] at e
      subst e
      exact hit_22 w h0 h1 c0 c1
    rw [if_neg c1] at e
    clear c1
    by_cases c1 : w / 4096 % 8 = 6
    · rw [if_pos c1] at e
      subst e
      exact hit_23 w h0 h1 c0 c1
    rw [if_neg c1] at e
    clear c1
    by_cases c1 : w / 4096 % 8 = 7
    · rw [if_pos c1] at e
      subst e
      exact hit_24 w h0 h1 c0 c1
    rw [if_neg c1] at e
    clear c1
    by_cases c1 : w / 4096 % 8 = 1
    · rw [if_pos c1] at e
      by_cases c2 : w / 33554432 = 0
      · rw [if_pos c2] at e
        subst e
        exact hit_25 w h0 h1 c0 c1 c2
      rw [if_neg c2] at e
      clear c2
      omega
    rw [if_neg c1] at e
    clear c1
    by_cases c1 : w / 4096 % 8 = 5
    · rw [if_pos c1] at e
      by_cases c2 : w / 33554432 = 0
      · rw [if_pos c2] at e
        subst e
        exact hit_26 w h0 h1 c0 c1 c2
      rw [if_neg c2] at e
      clear c2
      by_cases c2 : w / 33554432 = 32
      · rw [if_pos c2] at e
        subst e
        exact hit_27 w h0 h1 c0 c1 c2
      rw [if_neg c2] at e
      clear c2
      omega
    rw [if_neg c1] at e
    clear c1
    omega
  rw [if_neg c0] at e
  clear c0
  by_cases c0 : w % 128 = 51
  · rw [if_pos c0] at e
    by_cases c1 : w / 4096 % 8 = 0
    · rw [if_pos c1] at e
      by_cases c2 : w / 33554432 = 0
      · rw [if_pos c2] at e
        subst e
        exact hit_28 w h0 h1 c0 c1 c2
      rw [if_neg c2] at e
      clear c2
      by_cases c2 : w / 33554432 = 32
      · rw [if_pos c2] at e
        subst e
        exact hit_29 w h0 h1 c0 c1 c2
      rw [if_neg c2] at e
      clear c2
      by_cases c2 : w / 33554432 = 1
      · rw [if_pos c2] at e
        subst e
        exact hit_50 w h0 h1 c0 c1 c2
      rw [if_neg c2] at e
      clear c2
      omega
    rw [if_neg c1] at e
    clear c1
    by_cases c1 : w / 4096 % 8 = 1
    · rw [if_pos c1] at e
      by_cases c2 : w / 33554432 = 0
      · rw [if_pos c2] at e
        subst e
        exact hit_30 w h0 h1 c0 c1 c2
      rw [if_neg c2] at e
      clear c2
      by_cases c2 : w / 33554432 = 1
      · rw [if_pos c2] at e
        subst e
        exact hit_51 w h0 h1 c0 c1 c2
      rw [if_neg c2] at e
      clear c2
      omega
    rw [if_neg c1] at e
    clear c1
    by_cases c1 : w / 4096 % 8 = 2
    · rw [if_pos c1] at e
      by_cases c2 : w / 33554432 = 0
      · rw [if_pos c2] at e
        subst e
        exact hit_31 w h0 h1 c0 c1 c2
      rw [if_neg c2] at e
      clear c2
      by_cases c2 : w / 33554432 = 1
      · rw [if_pos c2] at e
        subst e
        exact hit_52 w h0 h1 c0 c1 c2
      rw [if_neg c2] at e
      clear c2
      omega
    rw [if_neg c1] at e
    clear c1
    by_cases c1 : w / 4096 % 8 = 3
    · rw [if_pos c1] at e
      by_cases c2 : w / 33554432 = 0
      · rw [if_pos c2] at e
        subst e
        exact hit_32 w h0 h1 c0 c1 c2
      rw [if_neg c2] at e
      clear c2
      by_cases c2 : w / 33554432 = 1
      · rw [if_pos c2] at e
        subst e
        exact hit_53 w h0 h1 c0 c1 c2
      rw [if_neg c2] at e
      clear c2
      omega
    rw [if_neg c1] at e
    clear c1
    by_cases c1 : w / 4096 % 8 = 4
    · rw [if_pos c1] at e
      by_cases c2 : w / 33554432 = 0
      · rw [if_pos c2] at e
        subst e
        exact hit_33 w h0 h1 c0 c1 c2
      rw [if_neg c2] at e
      clear c2
      by_cases c2 : w / 33554432 = 1
      · rw [if_pos c2] at e
        subst e
        exact hit_54 w h0 h1 c0 c1 c2
      rw [if_neg c2] at e
      clear c2
      omega
    rw [if_neg c1] at e
    clear c1
    by_cases c1 : w / 4096 % 8 = 5
    · rw [if_pos c1] at e
      by_cases c2 : w / 33554432 = 0
      · rw [if_pos c2] at e
        subst e
        exact hit_34 w h0 h1 c0 c1 c2
      rw [if_neg c2] at e
      clear c2
      by_cases c2 : w / 33554432 = 32
      · rw [if_pos c2] at e
        subst e
        exact hit_35 w h0 h1 c0 c1 c2
      rw [if_neg c2] at e
      clear c2
      by_cases c2 : w / 33554432 = 1
      · rw [if_pos c2] at e
        subst e
        exact hit_55 w h0 h1 c0 c1 c2
      rw [if_neg c2] at e
      clear c2
      omega
    rw [if_neg c1] at e
    clear c1
    by_cases c1 : w / 4096 % 8 = 6
    · rw [if_pos c1] at e
      by_cases c2 : w / 33554432 = 0
      · rw [if_pos c2] at e
        subst e
        exact hit_36 w h0 h1 c0 c1 c2
      rw [if_neg c2] at e
      clear c2
      by_cases c2 : w / 33554432 = 1
      · rw [if_pos c2] at e
        subst e
        exact hit_56 w h0 h1 c0 c1 c2
      rw [if_neg c2] at e
      clear c2
      omega
    rw [if_neg c1] at e
    clear c1
    by_cases c1 : w / 4096 % 8 = 7
    · rw [if_pos c1] at e
      by_cases c2 : w / 33554432 = 0
      · rw [if_pos c2] at e
        subst e
        exact hit_37 w h0 h1 c0 c1 c2
      rw [if_neg c2] at e
      clear c2
      by_cases c2 : w / 33554432 = 1
      · rw [if_pos c2] at e
        subst e
        exact hit_57 w h0 h1 c0 c1 c2
      rw [if_neg c2] at e
      clear c2
      omega
    rw [if_neg c1] at e
    clear c1
    omega
  rw [if_neg c0] at e
  clear c0
  by_cases c0 : w % 128 = 15
  · rw [if_pos c0] at e
    by_cases c1 : w / 4096 % 8 = 0
    · rw [if_pos c1] at e
      subst e
      exact hit_38 w h0 h1 c0 c1
    rw [if_neg c1] at e
    clear c1
    by_cases c1 : w / 4096 % 8 = 1
    · rw [if_pos c1] at e
      subst e
      exact hit_39 w h0 h1 c0 c1
    rw [if_neg c1] at e
    clear c1
    omega
  rw [if_neg c0] at e
  clear c0
  by_cases c0 : w % 128 = 115
  · rw [if_pos c0] at e
    by_cases c1 : w / 4096 % 8 = 0
    · rw [if_pos c1] at e
      by_cases c2 : w = 115
      · rw [if_pos c2] at e
        subst e
        exact hit_40 w h0 h1 c2
      rw [if_neg c2] at e
      clear c2
      by_cases c2 : w = 1048691
      · rw [if_pos c2] at e
        subst e
        exact hit_41 w h0 h1 c2
      rw [if_neg c2] at e
      clear c2
      by_cases c2 : w = 807403635
      · rw [if_pos c2] at e
        subst e
        exact hit_48 w h0 h1 c2
      rw [if_neg c2] at e
      clear c2
      by_cases c2 : w = 273678451
      · rw [if_pos c2] at e
        subst e
        exact hit_49 w h0 h1 c2
      rw [if_neg c2] at e
      clear c2
      omega
    rw [if_neg c1] at e
    clear c1
    by_cases c1 : w / 4096 % 8 = 1
    · rw [if_pos c1] at e
      subst e
      exact hit_42 w h0 h1 c0 c1
    rw [if_neg c1] at e
    clear c1
    by_cases c1 : w / 4096 % 8 = 2
    · rw [if_pos c1] at e
      subst e
      exact hit_43 w h0 h1 c0 c1
    rw [if_neg c1] at e
    clear c1
    by_cases c1 : w / 4096 % 8 = 3
    · rw [if_pos c1] at e
      subst e
      exact hit_44 w h0 h1 c0 c1
    rw [if_neg c1] at e
    clear c1
    by_cases c1 : w / 4096 % 8 = 5
    · rw [if_pos c1] at e
      subst e
      exact hit_45 w h0 h1 c0 c1
    rw [if_neg c1] at e
    clear c1
    by_cases c1 : w / 4096 % 8 = 6
    · rw [if_pos c1] at e
      subst e
      exact hit_46 w h0 h1 c0 c1
    rw [if_neg c1] at e
    clear c1
    by_cases c1 : w / 4096 % 8 = 7
    · rw [if_pos c1] at e
      subst e
      exact hit_47 w h0 h1 c0 c1
    rw [if_neg c1] at e
    clear c1
    omega
  rw [if_neg c0] at e
  clear c0
  omega

theorem kind_of_hit (w : Int) (h0 : 0 ≤ w) (h1 : w < 4294967296) (j : Nat) (hj : j < 57) (h : bits .and .u32 w (maskL.getD j 0) = matchL.getD j 0) : kindOf w = j + 1 := by
  have hs : j = 0 ∨ j = 1 ∨ j = 2 ∨ j = 3 ∨ j = 4 ∨ j = 5 ∨ j = 6 ∨ j = 7 ∨ j = 8 ∨ j = 9 ∨ j = 10 ∨ j = 11 ∨ j = 12 ∨ j = 13 ∨ j = 14 ∨ j = 15 ∨ j = 16 ∨ j = 17 ∨ j = 18 ∨ j = 19 ∨ j = 20 ∨ j = 21 ∨ j = 22 ∨ j = 23 ∨ j = 24 ∨ j = 25 ∨ j = 26 ∨ j = 27 ∨ j = 28 ∨ j = 29 ∨ j = 30 ∨ j = 31 ∨ j = 32 ∨ j = 33 ∨ j = 34 ∨ j = 35 ∨ j = 36 ∨ j = 37 ∨ j = 38 ∨ j = 39 ∨ j = 40 ∨ j = 41 ∨ j = 42 ∨ j = 43 ∨ j = 44 ∨ j = 45 ∨ j = 46 ∨ j = 47 ∨ j = 48 ∨ j = 49 ∨ j = 50 ∨ j = 51 ∨ j = 52 ∨ j = 53 ∨ j = 54 ∨ j = 55 ∨ j = 56 := by omega
  rcases hs with rfl | rfl | rfl | rfl | rfl | rfl | rfl | rfl | rfl | rfl | rfl | rfl | rfl | rfl | rfl | rfl | rfl | rfl | rfl | rfl | rfl | rfl | rfl | rfl | rfl | rfl | rfl | rfl | rfl | rfl | rfl | rfl | rfl | rfl | rfl | rfl | rfl | rfl | rfl | rfl | rfl | rfl | rfl | rfl | rfl | rfl | rfl | rfl | rfl | rfl | rfl | rfl | rfl | rfl | rfl | rfl | rfl
  · exact kind_1 w h0 h1 h
  · exact kind_2 w h0 h1 h
  · exact kind_3 w h0 h1 h
  · exact kind_4 w h0 h1 h
  · exact kind_5 w h0 h1 h
  · exact kind_6 w h0 h1 h
  · exact kind_7 w h0 h1 h
  · exact kind_8 w h0 h1 h
  · exact kind_9 w h0 h1 h
  · exact kind_10 w h0 h1 h
  · exact kind_11 w h0 h1 h
  · exact kind_12 w h0 h1 h
  · exact kind_13 w h0 h1 h
  · exact kind_14 w h0 h1 h
  · exact kind_15 w h0 h1 h
  · exact kind_16 w h0 h1 h
  · exact kind_17 w h0 h1 h
  · exact kind_18 w h0 h1 h
  · exact kind_19 w h0 h1 h
  · exact kind_20 w h0 h1 h
  · exact kind_21 w h0 h1 h
  · exact kind_22 w h0 h1 h
  · exact kind_23 w h0 h1 h
  · exact kind_24 w h0 h1 h
  · exact kind_25 w h0 h1 h
  · exact kind_26 w h0 h1 h
  · exact kind_27 w h0 h1 h
  · exact kind_28 w h0 h1 h
  · exact kind_29 w h0 h1 h
  · exact kind_30 w h0 h1 h
  · exact kind_31 w h0 h1 h
  · exact kind_32 w h0 h1 h
  · exact kind_33 w h0 h1 h
  · exact kind_34 w h0 h1 h
  · exact kind_35 w h0 h1 h
  · exact kind_36 w h0 h1 h
  · exact kind_37 w h0 h1 h
  · exact kind_38 w h0 h1 h
  · exact kind_39 w h0 h1 h
  · exact kind_40 w h0 h1 h
  · exact kind_41 w h0 h1 h
  · exact kind_42 w h0 h1 h
  · exact kind_43 w h0 h1 h
  · exact kind_44 w h0 h1 h
  · exact kind_45 w h0 h1 h
  · exact kind_46 w h0 h1 h
  · exact kind_47 w h0 h1 h
  · exact kind_48 w h0 h1 h
  · exact kind_49 w h0 h1 h
  · exact kind_50 w h0 h1 h
  · exact kind_51 w h0 h1 h
  · exact kind_52 w h0 h1 h
  · exact kind_53 w h0 h1 h
  · exact kind_54 w h0 h1 h
  · exact kind_55 w h0 h1 h
  · exact kind_56 w h0 h1 h
  · exact kind_57 w h0 h1 h

theorem ite58 {c : Prop} [Decidable c] {a b : Nat} (ha : a < 58) (hb : b < 58) : (if c then a else b) < 58 := by
  split <;> assumption

theorem kind_lt (w : Int) : kindOf w < 58 := by
  unfold kindOf
  repeat' apply ite58
  all_goals decide

theorem kind_first (w : Int) (h0 : 0 ≤ w) (h1 : w < 4294967296) (k j : Nat) (hk : kindOf w = k) (hj : j < 57) (hne : j + 1 ≠ k) : (bits .and .u32 w (maskL.getD j 0) != matchL.getD j 0) = true := by
  rw [bne_iff_ne]
  intro h
  have := kind_of_hit w h0 h1 j hj h
  omega
end Go.Proofs.YtakomdopeadcjaaDoor
