/- Layer 7: the document's Do and Taken. -/
import Derived.Test.YtlagnhfbfmipoaaAluBits
namespace Go.Proofs.Ytlagnhfbfmipoaa
open Go.RowKit
set_option linter.unusedVariables false

/-- What an instruction of two registers reckons of two words. -/
def aluOf (p : Int) (a b : Nat) : Int :=
  if p = 28 then ((a : Int) + b) % 4294967296 else if p = 29 then ((a : Int) - b) % 4294967296
  else if p = 30 then (a : Int) * pw ((b : Int) % 32) % 4294967296
  else if p = 31 then (if signedOf a < signedOf b then 1 else 0) else if p = 32 then (if a < b then 1 else 0)
  else if p = 33 then ((a ^^^ b : Nat) : Int) else if p = 34 then (a : Int) / pw ((b : Int) % 32)
  else if p = 35 then signedOf a / pw ((b : Int) % 32) % 4294967296
  else if p = 36 then ((a ||| b : Nat) : Int) else ((a &&& b : Nat) : Int)

theorem al28 (a b : Nat) : aluOf 28 a b = ((a : Int) + b) % 4294967296 := by simp [aluOf]
theorem al29 (a b : Nat) : aluOf 29 a b = ((a : Int) - b) % 4294967296 := by simp [aluOf]
theorem al30 (a b : Nat) : aluOf 30 a b = (a : Int) * pw ((b : Int) % 32) % 4294967296 := by simp [aluOf]
theorem al31 (a b : Nat) : aluOf 31 a b = (if signedOf a < signedOf b then 1 else 0) := by simp [aluOf]
theorem al32 (a b : Nat) : aluOf 32 a b = (if a < b then 1 else 0) := by simp [aluOf]
theorem al33 (a b : Nat) : aluOf 33 a b = ((a ^^^ b : Nat) : Int) := by simp [aluOf]
theorem al34 (a b : Nat) : aluOf 34 a b = (a : Int) / pw ((b : Int) % 32) := by simp [aluOf]
theorem al35 (a b : Nat) : aluOf 35 a b = signedOf a / pw ((b : Int) % 32) % 4294967296 := by simp [aluOf]
theorem al36 (a b : Nat) : aluOf 36 a b = ((a ||| b : Nat) : Int) := by simp [aluOf]
theorem al37 (a b : Nat) : aluOf 37 a b = ((a &&& b : Nat) : Int) := by simp [aluOf]

theorem ten {p : Int} (h0 : 28 ≤ p) (h1 : p ≤ 37) : p = 28 ∨ p = 29 ∨ p = 30 ∨ p = 31 ∨ p = 32 ∨ p = 33 ∨ p = 34 ∨ p = 35 ∨ p = 36 ∨ p = 37 := by omega

theorem signed_bounds (x : Int) (h0 : 0 ≤ x) (h1 : x < 4294967296) : -2147483648 ≤ signedOf x ∧ signedOf x < 2147483648 := by
  unfold signedOf; split <;> omega

theorem three_lit (w : World) (x y z : Nat) (o : Nat → Nat) (T : TypeId) (h0 : o 0 = x) (h1 : o 1 = y) (h2 : o 2 = z) :
    ThreeAt (w.alloc (.cells #[.int .u64 (x : Int), .int .u64 (y : Int), .int .u64 (z : Int)] T)) w.heap.size o := by
  subst h0 h1 h2
  refine ⟨?_, ?_, ?_⟩ <;> simp [go_sem]

theorem div_low (a : Nat) (p : Int) (h : 1 ≤ p) (ha : a < 4294967296) : 0 ≤ (a : Int) / p ∧ (a : Int) / p < 4294967296 :=
  ⟨Int.ediv_nonneg (by omega) (by omega), Int.lt_of_le_of_lt (Int.ediv_le_self _ (by omega)) (by omega)⟩

theorem mul_low (a : Nat) (p : Int) (h : 1 ≤ p) (g : p ≤ 2147483648) (ha : a < 4294967296) : 0 ≤ (a : Int) * p ∧ (a : Int) * p < 18446744073709551616 := by
  refine ⟨Int.mul_nonneg (by omega) (by omega), ?_⟩
  have h1 : (a : Int) * p ≤ 4294967296 * p := Int.mul_le_mul_of_nonneg_right (by omega) (by omega)
  omega

theorem floor_low (x p : Int) (h0 : -2147483648 ≤ x) (h1 : x < 2147483648) (hp : 1 ≤ p) : -2147483648 ≤ x / p ∧ x / p < 2147483648 := by
  refine ⟨?_, ?_⟩
  · rw [Int.le_ediv_iff_mul_le (by omega)]
    have : (-2147483648 : Int) * p ≤ -2147483648 * 1 := by omega
    omega
  · by_cases h : 0 ≤ x
    · exact Int.lt_of_le_of_lt (Int.ediv_le_self _ h) h1
    · have : x / p < 0 := Int.ediv_neg_of_neg_of_pos (by omega) (by omega)
      omega

set_option maxHeartbeats 8000000 in
theorem rdo7_any (op : Int) (a b : Nat) (w : World) (h0 : 19 ≤ op) (h1 : op ≤ 37) (ha : a < 4294967296) (hb : b < 4294967296) :
    Calls Try.prog 11 #[.int .i64 op, .int .u32 (a : Int), .int .u32 (b : Int)] w fun e w' => e = .returned (.int .u32 (aluOf (plainOf op) a b)) ∧ Below w.heap.size w w' := by
  obtain ⟨t0, t1⟩ := plain_ten h0 h1
  have CP : Hid (∀ W : World, Calls Try.prog 15 #[.int .i64 op] W fun e w' => e = .returned (.int .i64 (plainOf op)) ∧ Below W.heap.size W w') := fun W => rplain7_yes op W h0 h1
  generalize plainOf op = p at *
  obtain ⟨a0, a1⟩ := signed_bounds (a : Int) (by omega) (by omega)
  obtain ⟨b0, b1⟩ := signed_bounds (b : Int) (by omega) (by omega)
  have SA : Hid (∀ W : World, _) := fun W => rsigned_any (a : Int) W (by omega) (by omega)
  have SB : Hid (∀ W : World, _) := fun W => rsigned_any (b : Int) W (by omega) (by omega)
  obtain ⟨p0, p1⟩ := pw_31 (s := (b : Int) % 32) (by omega) (by omega)
  have PW : Hid (∀ W : World, _) := fun W => power_any ((b : Int) % 32) W (by omega) (by omega)
  have RI : Hid (∀ W : World, _) := fun W => right7_any (signedOf (a : Int)) ((b : Int) % 32) W a0 a1 (by omega) (by omega)
  have DL : Hid _ := div_low a _ p0 ha
  have ML : Hid _ := mul_low a _ p0 p1 ha
  have FL : Hid _ := floor_low (signedOf (a : Int)) _ a0 a1 p0
  have s0 : 0 ≤ (b : Int) % 32 := by omega
  have s1 : (b : Int) % 32 < 32 := by omega
  have AD : Hid _ := signed_add (a : Int) (b : Int) (by omega) (by omega) (by omega) (by omega)
  have SU : Hid _ := signed_sub (a : Int) (b : Int) (by omega) (by omega) (by omega) (by omega)
  rcases ten t0 t1 with rfl | rfl | rfl | rfl | rfl | rfl | rfl | rfl | rfl | rfl
  all_goals
    go_enter Try.func11, Try.ntmps11
    go_wp2_with fail
    refine (SA.out _).mono ?_; rintro e w1 ⟨rfl, hw⟩; have hw := hw.symm; subst hw
    go_wp2_with fail
    refine (SB.out _).mono ?_; rintro e w1 ⟨rfl, hw⟩; have hw := hw.symm; subst hw
    go_wp2_with fail
    refine (CP.out _).mono ?_; rintro e w1 ⟨rfl, hbl⟩
    go_wp2_with fail
  · refine (rword1_any (signedOf (a : Int) + signedOf (b : Int)) _ (by omega) (by omega)).mono ?_
    rintro e w2 ⟨rfl, hw⟩; have hw := hw.symm; subst hw
    go_wp2
    go_ret
    exact ⟨ret_int (by rw [al28, AD.out]), hbl⟩
  · refine (rword1_any (signedOf (a : Int) - signedOf (b : Int)) _ (by omega) (by omega)).mono ?_
    rintro e w2 ⟨rfl, hw⟩; have hw := hw.symm; subst hw
    go_wp2
    go_ret
    exact ⟨ret_int (by rw [al29, SU.out]), hbl⟩
  · refine (PW.out _).mono ?_; rintro e w2 ⟨rfl, hw⟩; have hw := hw.symm; subst hw
    have ml := ML.out
    go_wp2
    go_ret
    refine ⟨ret_int ?_, hbl⟩
    rw [al30]
  · refine (rone7_any _ _).mono ?_
    have hv : (if decide (signedOf (a : Int) < signedOf (b : Int)) = true then (1 : Int) else 0) = aluOf 31 a b := by rw [al31]; simp
    obtain ⟨v, hv2⟩ : ∃ v, v = aluOf 31 a b := ⟨_, rfl⟩
    rw [hv, ← hv2]
    have HV : Hid (v = aluOf 31 a b) := hv2
    clear hv hv2
    rintro e w2 ⟨rfl, hw⟩; have hw := hw.symm; subst hw
    go_wp2
    go_ret
    exact ⟨ret_int HV.out, hbl⟩
  · refine (rone7_any _ _).mono ?_
    have hv : (if decide (a < b) = true then (1 : Int) else 0) = aluOf 32 a b := by rw [al32]; simp
    obtain ⟨v, hv2⟩ : ∃ v, v = aluOf 32 a b := ⟨_, rfl⟩
    rw [hv, ← hv2]
    have HV : Hid (v = aluOf 32 a b) := hv2
    clear hv hv2
    rintro e w2 ⟨rfl, hw⟩; have hw := hw.symm; subst hw
    go_wp2
    go_ret
    exact ⟨ret_int HV.out, hbl⟩
  · refine (bits7_any (F := fun a b => a ^^^ b) bitW_xor (by intro n; split <;> omega) a b w1.heap.size _ ha hb (three_lit w1 0 1 0 _ _ rfl rfl rfl)).mono ?_
    rintro e w2 ⟨rfl, hq⟩
    go_wp2
    go_ret
    exact ⟨ret_int (al33 a b).symm, (hbl.alloc hbl.size _).trans (hq.below _)⟩
  · refine (PW.out _).mono ?_; rintro e w2 ⟨rfl, hw⟩; have hw := hw.symm; subst hw
    have dl := DL.out
    go_wp2
    go_ret
    refine ⟨ret_int ?_, hbl⟩
    rw [al34]
  · refine (RI.out _).mono ?_; rintro e w2 ⟨rfl, hw⟩; have hw := hw.symm; subst hw
    have fl := FL.out
    go_wp2_with fail
    refine (rword1_any _ _ (by omega) (by omega)).mono ?_
    rintro e w2 ⟨rfl, hw⟩; have hw := hw.symm; subst hw
    go_wp2
    go_ret
    exact ⟨ret_int (al35 a b).symm, hbl⟩
  · refine (bits7_any (F := fun a b => a ||| b) bitW_or (by intro n; split <;> omega) a b w1.heap.size _ ha hb (three_lit w1 0 1 1 _ _ rfl rfl rfl)).mono ?_
    rintro e w2 ⟨rfl, hq⟩
    go_wp2
    go_ret
    exact ⟨ret_int (al36 a b).symm, (hbl.alloc hbl.size _).trans (hq.below _)⟩
  · refine (bits7_any (F := fun a b => a &&& b) bitW_and (by intro n; split <;> omega) a b w1.heap.size _ ha hb (three_lit w1 0 0 1 _ _ rfl rfl rfl)).mono ?_
    rintro e w2 ⟨rfl, hq⟩
    go_wp2
    go_ret
    exact ⟨ret_int (al37 a b).symm, (hbl.alloc hbl.size _).trans (hq.below _)⟩

/-- Is a branch taken, of two words? -/
def takenB (op : Int) (a b : Nat) : Bool :=
  if op = 5 then decide (a = b) else if op = 6 then decide (a ≠ b) else if op = 7 then decide (signedOf a < signedOf b)
  else if op = 8 then decide (signedOf b ≤ signedOf a) else if op = 9 then decide (a < b) else decide (b ≤ a)

theorem six {p : Int} (h0 : 5 ≤ p) (h1 : p ≤ 10) : p = 5 ∨ p = 6 ∨ p = 7 ∨ p = 8 ∨ p = 9 ∨ p = 10 := by omega

set_option maxHeartbeats 4000000 in
theorem rtaken7_any (op : Int) (a b : Nat) (w : World) (h0 : 5 ≤ op) (h1 : op ≤ 10) (ha : a < 4294967296) (hb : b < 4294967296) :
    Calls Try.prog 13 #[.int .i64 op, .int .u32 (a : Int), .int .u32 (b : Int)] w fun e w' => e = .returned (.bool (takenB op a b)) ∧ w' = w := by
  obtain ⟨a0, a1⟩ := signed_bounds (a : Int) (by omega) (by omega)
  obtain ⟨b0, b1⟩ := signed_bounds (b : Int) (by omega) (by omega)
  have SA : Hid (∀ W : World, _) := fun W => rsigned_any (a : Int) W (by omega) (by omega)
  have SB : Hid (∀ W : World, _) := fun W => rsigned_any (b : Int) W (by omega) (by omega)
  have SE := signed_eq (a : Int) (b : Int) (by omega) (by omega) (by omega) (by omega)
  have HE : Hid (signedOf (a : Int) = signedOf (b : Int) ↔ (a : Int) = b) := SE
  clear SE
  rcases six h0 h1 with rfl | rfl | rfl | rfl | rfl | rfl
  all_goals
    go_enter Try.func13, Try.ntmps13
    go_wp2_with fail
    refine (SA.out _).mono ?_; rintro e w1 ⟨rfl, hw⟩; have hw := hw.symm; subst hw
    go_wp2_with fail
    refine (SB.out _).mono ?_; rintro e w1 ⟨rfl, hw⟩; have hw := hw.symm; subst hw
    go_wp2
    go_ret
    refine ⟨ret_bool ?_, rfl⟩
    have he := HE.out
    have h1 : (signedOf (a : Int) == signedOf (b : Int)) = decide (a = b) := by rw [Bool.eq_iff_iff]; simp only [beq_iff_eq, decide_eq_true_eq]; omega
    have h2 : (signedOf (a : Int) != signedOf (b : Int)) = !(decide (a = b)) := by rw [bne, h1]
    clear he
    simp [takenB, h1, h2]

end Go.Proofs.Ytlagnhfbfmipoaa
