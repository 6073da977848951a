/- Layer 3: what field, signFrom, isShift, maskOf answer; the mask by a word's kind. -/
import Derived.Test.YtakomdopeadcjaaDoorDecodeSpec
namespace Go.Proofs.YtakomdopeadcjaaDoor
open Go.RowKit
set_option linter.unusedVariables false

theorem nat_field (X a L W : Nat) (h : a + L + W = 32) : X * 2 ^ a % 4294967296 / 2 ^ (a + L) = X / 2 ^ L % 2 ^ W := by
  have e : 4294967296 = 2 ^ a * (2 ^ L * 2 ^ W) := by
    rw [← Nat.pow_add, ← Nat.pow_add, show a + (L + W) = 32 from by omega]
  rw [e, Nat.mul_comm X, Nat.mul_mod_mul_left, Nat.pow_add, Nat.mul_div_mul_left _ _ (Nat.pow_pos (by omega)), Nat.mod_mul_right_div_self]

theorem field_val (x h l : Int) (h0 : 0 ≤ x) (h1 : 0 ≤ l) (h2 : l ≤ h) (h3 : h ≤ 31) : x * 2 ^ (31 - h).toNat % 4294967296 / 2 ^ (31 - h + l).toNat = bitsOf x l (h - l + 1) := by
  obtain ⟨X, rfl⟩ := Int.eq_ofNat_of_zero_le h0
  have e := nat_field X (31 - h).toNat l.toNat (h - l + 1).toNat (by omega)
  rw [show (31 - h + l).toNat = (31 - h).toNat + l.toNat from by omega]
  unfold bitsOf pw
  have := congrArg (Nat.cast (R := Int)) e
  simpa using this

set_option maxHeartbeats 400000 in
theorem dfield_any (x h l : Int) (w : World) (hx0 : 0 ≤ x) (hx1 : x < 4294967296) (h1 : 0 ≤ l) (h2 : l ≤ h) (h3 : h ≤ 31) :
    Calls Tryd.prog 65 #[.int .u32 x, .int .i64 h, .int .i64 l] w fun e w' => e = .returned (.int .u32 (bitsOf x l (h - l + 1))) ∧ w' = w := by
  go_enter Tryd.func65, Tryd.ntmps65
  go_wp2
  go_ret
  exact ⟨ret_int (field_val x h l hx0 h1 h2 h3), rfl⟩

/-- The bits from 31 down to l, as a signed number, as a word. -/
def sgnOf (x l : Int) : Int := signedOf x / 2 ^ l.toNat % 4294967296

set_option maxHeartbeats 400000 in
theorem dsign_any (x l : Int) (w : World) (hx0 : 0 ≤ x) (hx1 : x < 4294967296) (h1 : 0 ≤ l) (h3 : l ≤ 31) :
    Calls Tryd.prog 66 #[.int .u32 x, .int .i64 l] w fun e w' => e = .returned (.int .u32 (sgnOf x l)) ∧ w' = w := by
  go_enter Tryd.func66, Tryd.ntmps66
  go_wp2
  go_ret
  exact ⟨ret_int (by rw [wrap32_sg x hx0 hx1]; rfl), rfl⟩

def shiftB (f : Int) : Bool := decide (f = 1 ∨ f = 5)
set_option maxHeartbeats 400000 in
theorem isShift_any (f : Int) (w : World) (hx0 : 0 ≤ f) (hx1 : f < 4294967296) :
    Calls Tryd.prog 74 #[.int .u32 f] w fun e w' => e = .returned (.bool (shiftB f)) ∧ w' = w := by
  by_cases c1 : f = 1
  · subst c1
    go_enter Tryd.func74, Tryd.ntmps74
    go_wp2
    go_ret
    exact ⟨rfl, rfl⟩
  · have e1 : (f == 1) = false := by simpa using c1
    go_enter Tryd.func74, Tryd.ntmps74
    go_wp2
    go_ret
    refine ⟨ret_bool ?_, rfl⟩
    by_cases c2 : f = 5
    · subst c2; rfl
    · simp [shiftB, c1, c2]

/-- The mask, by kind and funct3. -/
def maskF (k f : Int) : Int :=
  if k = 115 ∧ f = 0 then 4294967295
  else if k = 51 ∨ (k = 19 ∧ (f = 1 ∨ f = 5)) then 4261441663
  else if k ≠ 55 ∧ k ≠ 23 ∧ k ≠ 111 then 28799 else 127

theorem bo_12_3 (w : Int) : bitsOf w 12 3 = w / 4096 % 8 := rfl

set_option maxHeartbeats 1600000 in
theorem maskOf_any (x : Int) (w : World) (hx0 : 0 ≤ x) (hx1 : x < 4294967296) :
    Calls Tryd.prog 64 #[.int .u32 x] w fun e w' => e = .returned (.int .u32 (maskF (x % 128) (x / 4096 % 8))) ∧ w' = w := by
  have hf : ∀ w : World, Calls Tryd.prog 65 #[.int .u32 x, .int .i64 14, .int .i64 12] w fun e w' => e = .returned (.int .u32 (x / 4096 % 8)) ∧ w' = w := fun w => dfield_any x 14 12 w hx0 hx1 (by omega) (by omega) (by omega)
  have hk := u32_and7 x hx0 hx1
  have b1 : 0 ≤ x % 128 ∧ x % 128 < 128 := by omega
  have b2 : 0 ≤ x / 4096 % 8 ∧ x / 4096 % 8 < 8 := by omega
  generalize x % 128 = k at *
  generalize x / 4096 % 8 = f at *
  have cs : (k = 115 ∧ f = 0) ∨ (k = 115 ∧ f ≠ 0) ∨ k = 51 ∨ (k = 19 ∧ f = 1) ∨ (k = 19 ∧ f = 5) ∨ (k = 19 ∧ f ≠ 1 ∧ f ≠ 5) ∨ k = 55 ∨ k = 23 ∨ k = 111 ∨ (k ≠ 115 ∧ k ≠ 51 ∧ k ≠ 19 ∧ k ≠ 55 ∧ k ≠ 23 ∧ k ≠ 111) := by omega
  rcases cs with ⟨rfl, rfl⟩ | ⟨rfl, c1⟩ | rfl | ⟨rfl, rfl⟩ | ⟨rfl, rfl⟩ | ⟨rfl, c1, c2⟩ | rfl | rfl | rfl | ⟨c1, c2, c3, c4, c5, c6⟩
  · go_enter Tryd.func64, Tryd.ntmps64
    go_wp2_with (go_at_call 65; refine (hf _).mono ?_; rintro e w' ⟨rfl, rfl⟩)
    go_ret
    exact ⟨ret_int (by decide), rfl⟩
  · have e1 : (f == 0) = false := by simpa using c1
    go_enter Tryd.func64, Tryd.ntmps64
    go_wp2_with (go_at_call 65; refine (hf _).mono ?_; rintro e w' ⟨rfl, rfl⟩)
    go_ret
    refine ⟨ret_int ?_, rfl⟩
    simp [maskF, c1]; try decide
  · go_enter Tryd.func64, Tryd.ntmps64
    go_wp2_with (go_at_call 65; refine (hf _).mono ?_; rintro e w' ⟨rfl, rfl⟩)
    go_ret
    refine ⟨ret_int ?_, rfl⟩
    simp [maskF]; try decide
  · go_enter Tryd.func64, Tryd.ntmps64
    go_wp2_with fail
    refine (hf _).mono ?_; rintro e w' ⟨rfl, rfl⟩
    go_wp2_with fail
    refine (isShift_any _ _ b2.1 (by omega)).mono ?_; rintro e w' ⟨rfl, rfl⟩
    have sb : shiftB 1 = true := rfl
    go_wp2
    go_ret
    exact ⟨ret_int (by decide), rfl⟩
  · go_enter Tryd.func64, Tryd.ntmps64
    go_wp2_with fail
    refine (hf _).mono ?_; rintro e w' ⟨rfl, rfl⟩
    go_wp2_with fail
    refine (isShift_any _ _ b2.1 (by omega)).mono ?_; rintro e w' ⟨rfl, rfl⟩
    have sb : shiftB 5 = true := rfl
    go_wp2
    go_ret
    exact ⟨ret_int (by decide), rfl⟩
  · have sb : shiftB f = false := by simp [shiftB, c1, c2]
    go_enter Tryd.func64, Tryd.ntmps64
    go_wp2_with fail
    refine (hf _).mono ?_; rintro e w' ⟨rfl, rfl⟩
    go_wp2_with fail
    refine (isShift_any _ _ b2.1 (by omega)).mono ?_; rintro e w' ⟨rfl, rfl⟩
    go_wp2
    go_ret
    refine ⟨ret_int ?_, rfl⟩
    simp [maskF, c1, c2]; try decide
  · go_enter Tryd.func64, Tryd.ntmps64
    go_wp2_with (go_at_call 65; refine (hf _).mono ?_; rintro e w' ⟨rfl, rfl⟩)
    go_ret
    refine ⟨ret_int ?_, rfl⟩
    simp [maskF]; try decide
  · go_enter Tryd.func64, Tryd.ntmps64
    go_wp2_with (go_at_call 65; refine (hf _).mono ?_; rintro e w' ⟨rfl, rfl⟩)
    go_ret
    refine ⟨ret_int ?_, rfl⟩
    simp [maskF]; try decide
  · go_enter Tryd.func64, Tryd.ntmps64
    go_wp2_with (go_at_call 65; refine (hf _).mono ?_; rintro e w' ⟨rfl, rfl⟩)
    go_ret
    refine ⟨ret_int ?_, rfl⟩
    simp [maskF]; try decide
  · have e1 : (k == 115) = false := by simpa using c1
    have e2 : (k == 51) = false := by simpa using c2
    have e3 : (k == 19) = false := by simpa using c3
    have e4 : (k != 55) = true := by simpa using c4
    have e5 : (k != 23) = true := by simpa using c5
    have e6 : (k != 111) = true := by simpa using c6
    go_enter Tryd.func64, Tryd.ntmps64
    go_wp2_with (go_at_call 65; refine (hf _).mono ?_; rintro e w' ⟨rfl, rfl⟩)
    go_ret
    refine ⟨ret_int ?_, rfl⟩
    simp [maskF, c1, c2, c3, c4, c5, c6]; try decide
end Go.Proofs.YtakomdopeadcjaaDoor
