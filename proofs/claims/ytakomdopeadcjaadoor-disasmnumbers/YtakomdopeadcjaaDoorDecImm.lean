/- Layer 3: what immOf and csrOf answer of any word and form. -/
import Derived.Test.YtakomdopeadcjaaDoorDecField
namespace Go.Proofs.YtakomdopeadcjaaDoor
open Go.RowKit
set_option linter.unusedVariables false

theorem u32_or_add (a b : Int) (i : Nat) (ha0 : 0 ≤ a) (ha1 : a < 4294967296) (hb0 : 0 ≤ b) (hb1 : b < 4294967296) (hm : a % ((2 ^ i : Nat) : Int) = 0) (hl : b < ((2 ^ i : Nat) : Int)) : bits .or .u32 a b = a + b := by
  obtain ⟨A, rfl⟩ := Int.eq_ofNat_of_zero_le ha0
  obtain ⟨B, rfl⟩ := Int.eq_ofNat_of_zero_le hb0
  rw [u32_or_nat A B (by omega) (by omega)]
  have hm' : A % 2 ^ i = 0 := by exact_mod_cast hm
  have hl' : B < 2 ^ i := by exact_mod_cast hl
  obtain ⟨q, rfl⟩ : ∃ q, A = 2 ^ i * q := ⟨A / 2 ^ i, by have := Nat.div_add_mod A (2 ^ i); omega⟩
  rw [← Nat.two_pow_add_eq_or_of_lt hl' q]
  simp

theorem u_val (x : Int) (h0 : 0 ≤ x) (h1 : x < 4294967296) : bits .andNot .u32 x 4095 = bitsOf x 12 20 * 4096 := by
  obtain ⟨X, rfl⟩ := Int.eq_ofNat_of_zero_le h0
  have e := u32_andNot_nat X 4095 (by omega) (by omega)
  have j := joint_and 12 (X / 2 ^ 12) (X % 2 ^ 12) 1048575 0 (Nat.mod_lt _ (by decide)) (by decide)
  rw [Nat.div_add_mod X (2 ^ 12)] at j
  have k := Nat.and_two_pow_sub_one_eq_mod (X / 2 ^ 12) 20
  rw [show (2 : Nat) ^ 20 - 1 = 1048575 from rfl] at k
  rw [k, show 2 ^ 12 * 1048575 + 0 = 4294967295 - 4095 from rfl] at j
  rw [j] at e
  refine Eq.trans e ?_
  rw [bo_12_20]
  simp only [Nat.and_zero]
  omega

theorem sgn_31 (x : Int) (h0 : 0 ≤ x) (h1 : x < 4294967296) : sgnOf x 31 = bitsOf x 31 1 * 4294967295 := by
  rw [bo_31_1]
  show signedOf x / 2147483648 % 4294967296 = _
  unfold signedOf; split <;> omega
theorem sgn_20 (x : Int) (h0 : 0 ≤ x) (h1 : x < 4294967296) : sgnOf x 20 = extOf (bitsOf x 20 12) 12 := by
  rw [bo_20_12, ext_12]
  show signedOf x / 1048576 % 4294967296 = _
  unfold signedOf; split <;> split <;> omega
theorem sgn_25 (x : Int) (h0 : 0 ≤ x) (h1 : x < 4294967296) : sgnOf x 25 = if bitsOf x 25 7 < 64 then bitsOf x 25 7 else bitsOf x 25 7 + 4294967168 := by
  rw [bo_25_7]
  show signedOf x / 33554432 % 4294967296 = _
  unfold signedOf; split <;> split <;> omega

theorem j_val (x : Int) (h0 : 0 ≤ x) (h1 : x < 4294967296) : bits .or .u32 (bits .or .u32 (bits .or .u32 (sgnOf x 31 * 1048576 % 4294967296) (bitsOf x 12 8 * 4096 % 4294967296)) (bitsOf x 20 1 * 2048 % 4294967296)) (bitsOf x 21 10 * 2 % 4294967296) = immOf x 2 := by
  rw [sgn_31 x h0 h1]
  show _ = extOf (((bitsOf x 31 1 * 256 + bitsOf x 12 8) * 2 + bitsOf x 20 1) * 2048 + bitsOf x 21 10 * 2) 21
  have a := b1 x 31; have b := b8 x 12; have c := b1 x 20; have d := b10 x 21
  generalize bitsOf x 31 1 = A at *; generalize bitsOf x 12 8 = B at *; generalize bitsOf x 20 1 = C at *; generalize bitsOf x 21 10 = D at *
  have e1 : A * 4294967295 * 1048576 % 4294967296 = A * 4293918720 := by omega
  have e2 : B * 4096 % 4294967296 = B * 4096 := by omega
  have e3 : C * 2048 % 4294967296 = C * 2048 := by omega
  have e4 : D * 2 % 4294967296 = D * 2 := by omega
  have i20 : ((2 ^ 20 : Nat) : Int) = 1048576 := rfl
  have i12 : ((2 ^ 12 : Nat) : Int) = 4096 := rfl
  have i11 : ((2 ^ 11 : Nat) : Int) = 2048 := rfl
  rw [e1, e2, e3, e4]
  rw [u32_or_add (A * 4293918720) (B * 4096) 20 (by omega) (by omega) (by omega) (by omega) (by omega) (by omega)]
  rw [u32_or_add (A * 4293918720 + B * 4096) (C * 2048) 12 (by omega) (by omega) (by omega) (by omega) (by omega) (by omega)]
  rw [u32_or_add (A * 4293918720 + B * 4096 + C * 2048) (D * 2) 11 (by omega) (by omega) (by omega) (by omega) (by omega) (by omega)]
  rw [ext_21]
  have : A = 0 ∨ A = 1 := by omega
  rcases this with rfl | rfl <;> split <;> omega

theorem b_val (x : Int) (h0 : 0 ≤ x) (h1 : x < 4294967296) : bits .or .u32 (bits .or .u32 (bits .or .u32 (sgnOf x 31 * 4096 % 4294967296) (bitsOf x 7 1 * 2048 % 4294967296)) (bitsOf x 25 6 * 32 % 4294967296)) (bitsOf x 8 4 * 2 % 4294967296) = immOf x 4 := by
  rw [sgn_31 x h0 h1]
  show _ = extOf (((bitsOf x 31 1 * 2 + bitsOf x 7 1) * 64 + bitsOf x 25 6) * 32 + bitsOf x 8 4 * 2) 13
  have a := b1 x 31; have b := b1 x 7; have c := b6 x 25; have d := b4 x 8
  generalize bitsOf x 31 1 = A at *; generalize bitsOf x 7 1 = B at *; generalize bitsOf x 25 6 = C at *; generalize bitsOf x 8 4 = D at *
  have e1 : A * 4294967295 * 4096 % 4294967296 = A * 4294963200 := by omega
  have e2 : B * 2048 % 4294967296 = B * 2048 := by omega
  have e3 : C * 32 % 4294967296 = C * 32 := by omega
  have e4 : D * 2 % 4294967296 = D * 2 := by omega
  have i12 : ((2 ^ 12 : Nat) : Int) = 4096 := rfl
  have i11 : ((2 ^ 11 : Nat) : Int) = 2048 := rfl
  have i5 : ((2 ^ 5 : Nat) : Int) = 32 := rfl
  rw [e1, e2, e3, e4]
  rw [u32_or_add (A * 4294963200) (B * 2048) 12 (by omega) (by omega) (by omega) (by omega) (by omega) (by omega)]
  rw [u32_or_add (A * 4294963200 + B * 2048) (C * 32) 11 (by omega) (by omega) (by omega) (by omega) (by omega) (by omega)]
  rw [u32_or_add (A * 4294963200 + B * 2048 + C * 32) (D * 2) 5 (by omega) (by omega) (by omega) (by omega) (by omega) (by omega)]
  rw [ext_13]
  have : A = 0 ∨ A = 1 := by omega
  rcases this with rfl | rfl <;> split <;> omega

theorem s_val (x : Int) (h0 : 0 ≤ x) (h1 : x < 4294967296) : bits .or .u32 (sgnOf x 25 * 32 % 4294967296) (bitsOf x 7 5) = immOf x 5 := by
  rw [sgn_25 x h0 h1]
  show _ = extOf (bitsOf x 25 7 * 32 + bitsOf x 7 5) 12
  have a := b7 x 25; have b := b5 x 7
  generalize bitsOf x 25 7 = A at *; generalize bitsOf x 7 5 = B at *
  have i5 : ((2 ^ 5 : Nat) : Int) = 32 := rfl
  rw [u32_or_add _ _ 5 (by omega) (by omega) (by omega) (by omega) (by omega) (by omega)]
  rw [ext_12]
  split <;> split <;> omega

set_option maxHeartbeats 1600000 in
theorem dimm_any (x f : Int) (w : World) (h0 : 0 ≤ x) (h1 : x < 4294967296) (hf : 0 ≤ f ∧ f < 10) :
    Calls Tryd.prog 51 #[.int .u32 x, .int .i64 f] w fun e w' => e = .returned (.int .u32 (immOf x f)) ∧ w' = w := by
  have f1 : ∀ w : World, Calls Tryd.prog 65 #[.int .u32 x, .int .i64 19, .int .i64 12] w fun e w' => e = .returned (.int .u32 (bitsOf x 12 8)) ∧ w' = w := fun w => dfield_any x 19 12 w h0 h1 (by omega) (by omega) (by omega)
  have f2 : ∀ w : World, Calls Tryd.prog 65 #[.int .u32 x, .int .i64 20, .int .i64 20] w fun e w' => e = .returned (.int .u32 (bitsOf x 20 1)) ∧ w' = w := fun w => dfield_any x 20 20 w h0 h1 (by omega) (by omega) (by omega)
  have f3 : ∀ w : World, Calls Tryd.prog 65 #[.int .u32 x, .int .i64 30, .int .i64 21] w fun e w' => e = .returned (.int .u32 (bitsOf x 21 10)) ∧ w' = w := fun w => dfield_any x 30 21 w h0 h1 (by omega) (by omega) (by omega)
  have f4 : ∀ w : World, Calls Tryd.prog 65 #[.int .u32 x, .int .i64 7, .int .i64 7] w fun e w' => e = .returned (.int .u32 (bitsOf x 7 1)) ∧ w' = w := fun w => dfield_any x 7 7 w h0 h1 (by omega) (by omega) (by omega)
  have f5 : ∀ w : World, Calls Tryd.prog 65 #[.int .u32 x, .int .i64 30, .int .i64 25] w fun e w' => e = .returned (.int .u32 (bitsOf x 25 6)) ∧ w' = w := fun w => dfield_any x 30 25 w h0 h1 (by omega) (by omega) (by omega)
  have f6 : ∀ w : World, Calls Tryd.prog 65 #[.int .u32 x, .int .i64 11, .int .i64 8] w fun e w' => e = .returned (.int .u32 (bitsOf x 8 4)) ∧ w' = w := fun w => dfield_any x 11 8 w h0 h1 (by omega) (by omega) (by omega)
  have f7 : ∀ w : World, Calls Tryd.prog 65 #[.int .u32 x, .int .i64 11, .int .i64 7] w fun e w' => e = .returned (.int .u32 (bitsOf x 7 5)) ∧ w' = w := fun w => dfield_any x 11 7 w h0 h1 (by omega) (by omega) (by omega)
  have f8 : ∀ w : World, Calls Tryd.prog 65 #[.int .u32 x, .int .i64 24, .int .i64 20] w fun e w' => e = .returned (.int .u32 (bitsOf x 20 5)) ∧ w' = w := fun w => dfield_any x 24 20 w h0 h1 (by omega) (by omega) (by omega)
  have f9 : ∀ w : World, Calls Tryd.prog 65 #[.int .u32 x, .int .i64 19, .int .i64 15] w fun e w' => e = .returned (.int .u32 (bitsOf x 15 5)) ∧ w' = w := fun w => dfield_any x 19 15 w h0 h1 (by omega) (by omega) (by omega)
  have g1 : ∀ w : World, Calls Tryd.prog 66 #[.int .u32 x, .int .i64 31] w fun e w' => e = .returned (.int .u32 (sgnOf x 31)) ∧ w' = w := fun w => dsign_any x 31 w h0 h1 (by omega) (by omega)
  have g2 : ∀ w : World, Calls Tryd.prog 66 #[.int .u32 x, .int .i64 20] w fun e w' => e = .returned (.int .u32 (sgnOf x 20)) ∧ w' = w := fun w => dsign_any x 20 w h0 h1 (by omega) (by omega)
  have g3 : ∀ w : World, Calls Tryd.prog 66 #[.int .u32 x, .int .i64 25] w fun e w' => e = .returned (.int .u32 (sgnOf x 25)) ∧ w' = w := fun w => dsign_any x 25 w h0 h1 (by omega) (by omega)
  rcases form10 hf with rfl | rfl | rfl | rfl | rfl | rfl | rfl | rfl | rfl | rfl
  · go_enter Tryd.func51, Tryd.ntmps51
    go_wp2
    go_ret
    exact ⟨rfl, rfl⟩
  · go_enter Tryd.func51, Tryd.ntmps51
    go_wp2
    go_ret
    exact ⟨ret_int (u_val x h0 h1), rfl⟩
  · go_enter Tryd.func51, Tryd.ntmps51
    go_wp2_with fail
    refine (g1 _).mono ?_; rintro e w' ⟨rfl, rfl⟩
    go_wp2_with fail
    refine (f1 _).mono ?_; rintro e w' ⟨rfl, rfl⟩
    go_wp2_with fail
    refine (f2 _).mono ?_; rintro e w' ⟨rfl, rfl⟩
    go_wp2_with fail
    refine (f3 _).mono ?_; rintro e w' ⟨rfl, rfl⟩
    go_wp2
    go_ret
    exact ⟨ret_int (j_val x h0 h1), rfl⟩
  · go_enter Tryd.func51, Tryd.ntmps51
    go_wp2_with (go_at_call 66; refine (g2 _).mono ?_; rintro e w' ⟨rfl, rfl⟩)
    go_ret
    exact ⟨ret_int (sgn_20 x h0 h1), rfl⟩
  · go_enter Tryd.func51, Tryd.ntmps51
    go_wp2_with fail
    refine (g1 _).mono ?_; rintro e w' ⟨rfl, rfl⟩
    go_wp2_with fail
    refine (f4 _).mono ?_; rintro e w' ⟨rfl, rfl⟩
    go_wp2_with fail
    refine (f5 _).mono ?_; rintro e w' ⟨rfl, rfl⟩
    go_wp2_with fail
    refine (f6 _).mono ?_; rintro e w' ⟨rfl, rfl⟩
    go_wp2
    go_ret
    exact ⟨ret_int (b_val x h0 h1), rfl⟩
  · go_enter Tryd.func51, Tryd.ntmps51
    go_wp2_with fail
    refine (g3 _).mono ?_; rintro e w' ⟨rfl, rfl⟩
    go_wp2_with fail
    refine (f7 _).mono ?_; rintro e w' ⟨rfl, rfl⟩
    go_wp2
    go_ret
    exact ⟨ret_int (s_val x h0 h1), rfl⟩
  · go_enter Tryd.func51, Tryd.ntmps51
    go_wp2
    go_ret
    exact ⟨rfl, rfl⟩
  · go_enter Tryd.func51, Tryd.ntmps51
    go_wp2_with (go_at_call 65; refine (f8 _).mono ?_; rintro e w' ⟨rfl, rfl⟩)
    go_ret
    exact ⟨rfl, rfl⟩
  · go_enter Tryd.func51, Tryd.ntmps51
    go_wp2
    go_ret
    exact ⟨rfl, rfl⟩
  · go_enter Tryd.func51, Tryd.ntmps51
    go_wp2_with (go_at_call 65; refine (f9 _).mono ?_; rintro e w' ⟨rfl, rfl⟩)
    go_ret
    exact ⟨rfl, rfl⟩

set_option maxHeartbeats 800000 in
theorem dcsr_any (x f : Int) (w : World) (h0 : 0 ≤ x) (h1 : x < 4294967296) (hf : 0 ≤ f ∧ f < 10) :
    Calls Tryd.prog 52 #[.int .u32 x, .int .i64 f] w fun e w' => e = .returned (.int .i64 (fldCsr x f)) ∧ w' = w := by
  have f1 : ∀ w : World, Calls Tryd.prog 65 #[.int .u32 x, .int .i64 31, .int .i64 20] w fun e w' => e = .returned (.int .u32 (bitsOf x 20 12)) ∧ w' = w := fun w => dfield_any x 31 20 w h0 h1 (by omega) (by omega) (by omega)
  have bd := b12 x 20
  rcases form10 hf with rfl | rfl | rfl | rfl | rfl | rfl | rfl | rfl | rfl | rfl
  all_goals
    go_enter Tryd.func52, Tryd.ntmps52
    go_wp2_with (go_at_call 65; refine (f1 _).mono ?_; rintro e w' ⟨rfl, rfl⟩)
    go_ret
    exact ⟨rfl, rfl⟩
end Go.Proofs.YtakomdopeadcjaaDoor
