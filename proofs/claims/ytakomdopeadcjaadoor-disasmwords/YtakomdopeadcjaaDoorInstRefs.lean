/- Layer 2: the document's own Form, reg, signed, Ends, Loads, Stores; the program's Ends, Loads, Stores. -/
import Derived.Test.YtakomdopeadcjaaDoorInstWhole
namespace Go.Proofs.YtakomdopeadcjaaDoor
open Go.RowKit
set_option linter.unusedVariables false

theorem neb {a b : Int} (h : a ≠ b) : (a == b) = false := by simpa using h

theorem op_segs (k : Nat) (h : k < 58) : k = 0 ∨ k = 1 ∨ k = 2 ∨ k = 3 ∨ k = 4 ∨ (5 ≤ k ∧ k ≤ 10) ∨ (11 ≤ k ∧ k ≤ 15) ∨ (16 ≤ k ∧ k ≤ 18) ∨ (19 ≤ k ∧ k ≤ 24) ∨ (25 ≤ k ∧ k ≤ 27) ∨ (28 ≤ k ∧ k ≤ 37) ∨ k = 38 ∨ k = 39 ∨ (40 ≤ k ∧ k ≤ 41) ∨ (42 ≤ k ∧ k ≤ 44) ∨ (45 ≤ k ∧ k ≤ 47) ∨ (48 ≤ k ∧ k ≤ 49) ∨ (50 ≤ k ∧ k ≤ 57) := by omega
theorem formZ_5 : ∀ k, k < 58 → 5 ≤ k → k ≤ 10 → formZ k = 4 := by decide +kernel
theorem formZ_11 : ∀ k, k < 58 → 11 ≤ k → k ≤ 15 → formZ k = 3 := by decide +kernel
theorem formZ_16 : ∀ k, k < 58 → 16 ≤ k → k ≤ 18 → formZ k = 5 := by decide +kernel
theorem formZ_19 : ∀ k, k < 58 → 19 ≤ k → k ≤ 24 → formZ k = 3 := by decide +kernel
theorem formZ_25 : ∀ k, k < 58 → 25 ≤ k → k ≤ 27 → formZ k = 7 := by decide +kernel
theorem formZ_28 : ∀ k, k < 58 → 28 ≤ k → k ≤ 37 → formZ k = 6 := by decide +kernel
theorem formZ_40 : ∀ k, k < 58 → 40 ≤ k → k ≤ 41 → formZ k = 0 := by decide +kernel
theorem formZ_42 : ∀ k, k < 58 → 42 ≤ k → k ≤ 44 → formZ k = 8 := by decide +kernel
theorem formZ_45 : ∀ k, k < 58 → 45 ≤ k → k ≤ 47 → formZ k = 9 := by decide +kernel
theorem formZ_48 : ∀ k, k < 58 → 48 ≤ k → k ≤ 49 → formZ k = 0 := by decide +kernel
theorem formZ_50 : ∀ k, k < 58 → 50 ≤ k → k ≤ 57 → formZ k = 6 := by decide +kernel

set_option maxHeartbeats 1000000 in
theorem rform_any (k : Nat) (hk : k < 58) (w : World) :
    Calls Tryd.prog 24 #[.int .i64 k] w fun e w' => e = .returned (.int .i64 (formZ k)) ∧ w' = w := by
  rcases op_segs k hk with rfl | rfl | rfl | rfl | rfl | hs | hs | hs | hs | hs | hs | rfl | rfl | hs | hs | hs | hs | hs
  · go_enter Tryd.func24, Tryd.ntmps24
    go_wp2
    go_ret
    exact ⟨rfl, rfl⟩
  · go_enter Tryd.func24, Tryd.ntmps24
    go_wp2
    go_ret
    exact ⟨rfl, rfl⟩
  · go_enter Tryd.func24, Tryd.ntmps24
    go_wp2
    go_ret
    exact ⟨rfl, rfl⟩
  · go_enter Tryd.func24, Tryd.ntmps24
    go_wp2
    go_ret
    exact ⟨rfl, rfl⟩
  · go_enter Tryd.func24, Tryd.ntmps24
    go_wp2
    go_ret
    exact ⟨rfl, rfl⟩
  · have hz := formZ_5 k hk hs.1 hs.2
    rw [hz]
    clear hz
    have e1 : ((k : Int) == 1) = false := neb (by omega)
    have e2 : ((k : Int) == 2) = false := neb (by omega)
    have e3 : ((k : Int) == 3) = false := neb (by omega)
    have e4 : ((k : Int) == 4) = false := neb (by omega)
    have e38 : ((k : Int) == 38) = false := neb (by omega)
    have e39 : ((k : Int) == 39) = false := neb (by omega)
    go_enter Tryd.func24, Tryd.ntmps24
    go_wp2
    go_ret
    exact ⟨rfl, rfl⟩
  · have hz := formZ_11 k hk hs.1 hs.2
    rw [hz]
    clear hz
    have e1 : ((k : Int) == 1) = false := neb (by omega)
    have e2 : ((k : Int) == 2) = false := neb (by omega)
    have e3 : ((k : Int) == 3) = false := neb (by omega)
    have e4 : ((k : Int) == 4) = false := neb (by omega)
    have e38 : ((k : Int) == 38) = false := neb (by omega)
    have e39 : ((k : Int) == 39) = false := neb (by omega)
    go_enter Tryd.func24, Tryd.ntmps24
    go_wp2
    go_ret
    exact ⟨rfl, rfl⟩
  · have hz := formZ_16 k hk hs.1 hs.2
    rw [hz]
    clear hz
    have e1 : ((k : Int) == 1) = false := neb (by omega)
    have e2 : ((k : Int) == 2) = false := neb (by omega)
    have e3 : ((k : Int) == 3) = false := neb (by omega)
    have e4 : ((k : Int) == 4) = false := neb (by omega)
    have e38 : ((k : Int) == 38) = false := neb (by omega)
    have e39 : ((k : Int) == 39) = false := neb (by omega)
    go_enter Tryd.func24, Tryd.ntmps24
    go_wp2
    go_ret
    exact ⟨rfl, rfl⟩
  · have hz := formZ_19 k hk hs.1 hs.2
    rw [hz]
    clear hz
    have e1 : ((k : Int) == 1) = false := neb (by omega)
    have e2 : ((k : Int) == 2) = false := neb (by omega)
    have e3 : ((k : Int) == 3) = false := neb (by omega)
    have e4 : ((k : Int) == 4) = false := neb (by omega)
    have e38 : ((k : Int) == 38) = false := neb (by omega)
    have e39 : ((k : Int) == 39) = false := neb (by omega)
    go_enter Tryd.func24, Tryd.ntmps24
    go_wp2
    go_ret
    exact ⟨rfl, rfl⟩
  · have hz := formZ_25 k hk hs.1 hs.2
    rw [hz]
    clear hz
    have e1 : ((k : Int) == 1) = false := neb (by omega)
    have e2 : ((k : Int) == 2) = false := neb (by omega)
    have e3 : ((k : Int) == 3) = false := neb (by omega)
    have e4 : ((k : Int) == 4) = false := neb (by omega)
    have e38 : ((k : Int) == 38) = false := neb (by omega)
    have e39 : ((k : Int) == 39) = false := neb (by omega)
    go_enter Tryd.func24, Tryd.ntmps24
    go_wp2
    go_ret
    exact ⟨rfl, rfl⟩
  · have hz := formZ_28 k hk hs.1 hs.2
    rw [hz]
    clear hz
    have e1 : ((k : Int) == 1) = false := neb (by omega)
    have e2 : ((k : Int) == 2) = false := neb (by omega)
    have e3 : ((k : Int) == 3) = false := neb (by omega)
    have e4 : ((k : Int) == 4) = false := neb (by omega)
    have e38 : ((k : Int) == 38) = false := neb (by omega)
    have e39 : ((k : Int) == 39) = false := neb (by omega)
    go_enter Tryd.func24, Tryd.ntmps24
    go_wp2
    go_ret
    exact ⟨rfl, rfl⟩
  · go_enter Tryd.func24, Tryd.ntmps24
    go_wp2
    go_ret
    exact ⟨rfl, rfl⟩
  · go_enter Tryd.func24, Tryd.ntmps24
    go_wp2
    go_ret
    exact ⟨rfl, rfl⟩
  · have hz := formZ_40 k hk hs.1 hs.2
    rw [hz]
    clear hz
    have e1 : ((k : Int) == 1) = false := neb (by omega)
    have e2 : ((k : Int) == 2) = false := neb (by omega)
    have e3 : ((k : Int) == 3) = false := neb (by omega)
    have e4 : ((k : Int) == 4) = false := neb (by omega)
    have e38 : ((k : Int) == 38) = false := neb (by omega)
    have e39 : ((k : Int) == 39) = false := neb (by omega)
    go_enter Tryd.func24, Tryd.ntmps24
    go_wp2
    go_ret
    exact ⟨rfl, rfl⟩
  · have hz := formZ_42 k hk hs.1 hs.2
    rw [hz]
    clear hz
    have e1 : ((k : Int) == 1) = false := neb (by omega)
    have e2 : ((k : Int) == 2) = false := neb (by omega)
    have e3 : ((k : Int) == 3) = false := neb (by omega)
    have e4 : ((k : Int) == 4) = false := neb (by omega)
    have e38 : ((k : Int) == 38) = false := neb (by omega)
    have e39 : ((k : Int) == 39) = false := neb (by omega)
    go_enter Tryd.func24, Tryd.ntmps24
    go_wp2
    go_ret
    exact ⟨rfl, rfl⟩
  · have hz := formZ_45 k hk hs.1 hs.2
    rw [hz]
    clear hz
    have e1 : ((k : Int) == 1) = false := neb (by omega)
    have e2 : ((k : Int) == 2) = false := neb (by omega)
    have e3 : ((k : Int) == 3) = false := neb (by omega)
    have e4 : ((k : Int) == 4) = false := neb (by omega)
    have e38 : ((k : Int) == 38) = false := neb (by omega)
    have e39 : ((k : Int) == 39) = false := neb (by omega)
    go_enter Tryd.func24, Tryd.ntmps24
    go_wp2
    go_ret
    exact ⟨rfl, rfl⟩
  · have hz := formZ_48 k hk hs.1 hs.2
    rw [hz]
    clear hz
    have e1 : ((k : Int) == 1) = false := neb (by omega)
    have e2 : ((k : Int) == 2) = false := neb (by omega)
    have e3 : ((k : Int) == 3) = false := neb (by omega)
    have e4 : ((k : Int) == 4) = false := neb (by omega)
    have e38 : ((k : Int) == 38) = false := neb (by omega)
    have e39 : ((k : Int) == 39) = false := neb (by omega)
    go_enter Tryd.func24, Tryd.ntmps24
    go_wp2
    go_ret
    exact ⟨rfl, rfl⟩
  · have hz := formZ_50 k hk hs.1 hs.2
    rw [hz]
    clear hz
    have e1 : ((k : Int) == 1) = false := neb (by omega)
    have e2 : ((k : Int) == 2) = false := neb (by omega)
    have e3 : ((k : Int) == 3) = false := neb (by omega)
    have e4 : ((k : Int) == 4) = false := neb (by omega)
    have e38 : ((k : Int) == 38) = false := neb (by omega)
    have e39 : ((k : Int) == 39) = false := neb (by omega)
    go_enter Tryd.func24, Tryd.ntmps24
    go_wp2
    go_ret
    exact ⟨rfl, rfl⟩

set_option maxHeartbeats 400000 in
theorem reg_any (n : Int) (has : Bool) (w : World) :
    Calls Tryd.prog 44 #[.int .i64 n, .bool has] w fun e w' => e = .returned (.bool (partB n has 31)) ∧ w' = w := by
  cases has
  · by_cases h0 : 0 ≤ n
    · by_cases h1 : n ≤ 31
      · go_enter Tryd.func44, Tryd.ntmps44
        go_wp2
        go_ret
        exact ⟨ret_bool rfl, rfl⟩
      · go_enter Tryd.func44, Tryd.ntmps44
        go_wp2
        go_ret
        exact ⟨ret_bool (by simp [partB]; omega), rfl⟩
    · go_enter Tryd.func44, Tryd.ntmps44
      go_wp2
      go_ret
      exact ⟨ret_bool (by simp [partB]; omega), rfl⟩
  · by_cases h0 : 0 ≤ n
    · by_cases h1 : n ≤ 31
      all_goals
        go_enter Tryd.func44, Tryd.ntmps44
        go_wp2
        go_ret
        refine ⟨?_, rfl⟩; first | (refine ret_bool (partB_t ?_); omega) | (refine ret_bool (partB_f ?_); omega)
    · go_enter Tryd.func44, Tryd.ntmps44
      go_wp2
      go_ret
      refine ⟨?_, rfl⟩; first | (refine ret_bool (partB_t ?_); omega) | (refine ret_bool (partB_f ?_); omega)

theorem tmod2 (x : Int) (h0 : 0 ≤ x) (h1 : x < 4294967296) : (signedOf x).tmod 2 = 0 ↔ x % 2 = 0 := by
  constructor
  · intro h
    have := Int.dvd_of_tmod_eq_zero h
    unfold signedOf at this
    split at this <;> omega
  · intro h
    refine Int.tmod_eq_zero_of_dvd ?_
    unfold signedOf
    split <;> omega

set_option maxHeartbeats 400000 in
theorem rsgn21 (x : Int) (h0 : 0 ≤ x) (h1 : x < 4294967296) (w : World) :
    Calls Tryd.prog 45 #[.int .u32 x, .int .i64 21, .int .i64 2] w fun e w' => e = .returned (.bool (evenB x && sgB x 1048576)) ∧ w' = w := by
  have hb := signedOf_bd x h0 h1
  have hm := tmod2 x h0 h1
  have hp : pw 20 = 1048576 := by decide
  have HM : Hid ((signedOf x).tmod 2 = 0 ↔ x % 2 = 0) := hm
  clear hm
  by_cases c0 : -1048576 ≤ signedOf x
  · by_cases c1 : signedOf x < 1048576
    · have hs : sgB x 1048576 = true := sgB_t (by omega)
      go_enter Tryd.func45, Tryd.ntmps45
      go_wp2_with (first | (go_at_call 23; refine (rsigned_any _ _ h0 h1).mono ?_; rintro e w' ⟨rfl, hw⟩; have hw := hw.symm; subst hw) | (go_at_call 61; refine (power_any _ _ (by omega) (by omega)).mono ?_; rintro e w' ⟨rfl, hw⟩; have hw := hw.symm; subst hw; try rw [hp]))
      go_ret
      exact ⟨ret_bool (by rw [hs, Bool.and_true]; unfold evenB; rw [decide_eq_decide.2 HM.out.symm]; rfl), rfl⟩
    · have hs : sgB x 1048576 = false := sgB_f (by omega)
      go_enter Tryd.func45, Tryd.ntmps45
      go_wp2_with (first | (go_at_call 23; refine (rsigned_any _ _ h0 h1).mono ?_; rintro e w' ⟨rfl, hw⟩; have hw := hw.symm; subst hw) | (go_at_call 61; refine (power_any _ _ (by omega) (by omega)).mono ?_; rintro e w' ⟨rfl, hw⟩; have hw := hw.symm; subst hw; try rw [hp]))
      go_ret
      exact ⟨ret_bool (by first | rfl | (rw [hs]; simp)), rfl⟩
  · have hs : sgB x 1048576 = false := sgB_f (by omega)
    go_enter Tryd.func45, Tryd.ntmps45
    go_wp2_with (first | (go_at_call 23; refine (rsigned_any _ _ h0 h1).mono ?_; rintro e w' ⟨rfl, hw⟩; have hw := hw.symm; subst hw) | (go_at_call 61; refine (power_any _ _ (by omega) (by omega)).mono ?_; rintro e w' ⟨rfl, hw⟩; have hw := hw.symm; subst hw; try rw [hp]))
    go_ret
    exact ⟨ret_bool (by first | rfl | (rw [hs]; try simp)), rfl⟩

set_option maxHeartbeats 400000 in
theorem rsgn12 (x : Int) (h0 : 0 ≤ x) (h1 : x < 4294967296) (w : World) :
    Calls Tryd.prog 45 #[.int .u32 x, .int .i64 12, .int .i64 1] w fun e w' => e = .returned (.bool (sgB x 2048)) ∧ w' = w := by
  have hb := signedOf_bd x h0 h1
  have hm := tmod2 x h0 h1
  have hp : pw 11 = 2048 := by decide
  have HM : Hid ((signedOf x).tmod 2 = 0 ↔ x % 2 = 0) := hm
  clear hm
  by_cases c0 : -2048 ≤ signedOf x
  · by_cases c1 : signedOf x < 2048
    all_goals
      go_enter Tryd.func45, Tryd.ntmps45
      go_wp2_with (first | (go_at_call 23; refine (rsigned_any _ _ h0 h1).mono ?_; rintro e w' ⟨rfl, hw⟩; have hw := hw.symm; subst hw) | (go_at_call 61; refine (power_any _ _ (by omega) (by omega)).mono ?_; rintro e w' ⟨rfl, hw⟩; have hw := hw.symm; subst hw; try rw [hp]))
      go_ret
      refine ⟨?_, rfl⟩; first | (refine ret_bool (sgB_t ?_); omega) | (refine ret_bool (sgB_f ?_); omega)
  · have hs : sgB x 2048 = false := sgB_f (by omega)
    go_enter Tryd.func45, Tryd.ntmps45
    go_wp2_with (first | (go_at_call 23; refine (rsigned_any _ _ h0 h1).mono ?_; rintro e w' ⟨rfl, hw⟩; have hw := hw.symm; subst hw) | (go_at_call 61; refine (power_any _ _ (by omega) (by omega)).mono ?_; rintro e w' ⟨rfl, hw⟩; have hw := hw.symm; subst hw; try rw [hp]))
    go_ret
    exact ⟨ret_bool (by first | rfl | (rw [hs]; try simp)), rfl⟩

set_option maxHeartbeats 400000 in
theorem rsgn13 (x : Int) (h0 : 0 ≤ x) (h1 : x < 4294967296) (w : World) :
    Calls Tryd.prog 45 #[.int .u32 x, .int .i64 13, .int .i64 2] w fun e w' => e = .returned (.bool (evenB x && sgB x 4096)) ∧ w' = w := by
  have hb := signedOf_bd x h0 h1
  have hm := tmod2 x h0 h1
  have hp : pw 12 = 4096 := by decide
  have HM : Hid ((signedOf x).tmod 2 = 0 ↔ x % 2 = 0) := hm
  clear hm
  by_cases c0 : -4096 ≤ signedOf x
  · by_cases c1 : signedOf x < 4096
    · have hs : sgB x 4096 = true := sgB_t (by omega)
      go_enter Tryd.func45, Tryd.ntmps45
      go_wp2_with (first | (go_at_call 23; refine (rsigned_any _ _ h0 h1).mono ?_; rintro e w' ⟨rfl, hw⟩; have hw := hw.symm; subst hw) | (go_at_call 61; refine (power_any _ _ (by omega) (by omega)).mono ?_; rintro e w' ⟨rfl, hw⟩; have hw := hw.symm; subst hw; try rw [hp]))
      go_ret
      exact ⟨ret_bool (by rw [hs, Bool.and_true]; unfold evenB; rw [decide_eq_decide.2 HM.out.symm]; rfl), rfl⟩
    · have hs : sgB x 4096 = false := sgB_f (by omega)
      go_enter Tryd.func45, Tryd.ntmps45
      go_wp2_with (first | (go_at_call 23; refine (rsigned_any _ _ h0 h1).mono ?_; rintro e w' ⟨rfl, hw⟩; have hw := hw.symm; subst hw) | (go_at_call 61; refine (power_any _ _ (by omega) (by omega)).mono ?_; rintro e w' ⟨rfl, hw⟩; have hw := hw.symm; subst hw; try rw [hp]))
      go_ret
      exact ⟨ret_bool (by first | rfl | (rw [hs]; simp)), rfl⟩
  · have hs : sgB x 4096 = false := sgB_f (by omega)
    go_enter Tryd.func45, Tryd.ntmps45
    go_wp2_with (first | (go_at_call 23; refine (rsigned_any _ _ h0 h1).mono ?_; rintro e w' ⟨rfl, hw⟩; have hw := hw.symm; subst hw) | (go_at_call 61; refine (power_any _ _ (by omega) (by omega)).mono ?_; rintro e w' ⟨rfl, hw⟩; have hw := hw.symm; subst hw; try rw [hp]))
    go_ret
    exact ⟨ret_bool (by first | rfl | (rw [hs]; try simp)), rfl⟩

def endsB (n : Int) : Bool := decide (n ≤ 0 ∨ 58 ≤ n ∨ (3 ≤ n ∧ n ≤ 10) ∨ (39 ≤ n ∧ n ≤ 49))
theorem endsB_t {n : Int} (h : n ≤ 0 ∨ 58 ≤ n ∨ (3 ≤ n ∧ n ≤ 10) ∨ (39 ≤ n ∧ n ≤ 49)) : endsB n = true := by simpa [endsB] using h
theorem endsB_f {n : Int} (h : ¬ (n ≤ 0 ∨ 58 ≤ n ∨ (3 ≤ n ∧ n ≤ 10) ∨ (39 ≤ n ∧ n ≤ 49))) : endsB n = false := by unfold endsB; exact decide_eq_false h

def loadsZ (n : Int) : Int := if n = 11 ∨ n = 14 then 1 else if n = 12 ∨ n = 15 then 2 else if n = 13 then 4 else 0
def storesZ (n : Int) : Int := if n = 16 then 1 else if n = 17 then 2 else if n = 18 then 4 else 0

set_option maxHeartbeats 400000 in
theorem loads_any (n : Int) (w : World) :
    Calls Tryd.prog 60 #[.int .i64 n] w fun e w' => e = .returned (.int .i64 (loadsZ n)) ∧ w' = w := by
  have hs : n < 11 ∨ n = 11 ∨ n = 12 ∨ n = 13 ∨ n = 14 ∨ n = 15 ∨ 15 < n := by omega
  rcases hs with hs | rfl | rfl | rfl | rfl | rfl | hs
  · have e11 : (n == 11) = false := neb (by omega)
    have e12 : (n == 12) = false := neb (by omega)
    have e13 : (n == 13) = false := neb (by omega)
    have e14 : (n == 14) = false := neb (by omega)
    have e15 : (n == 15) = false := neb (by omega)
    go_enter Tryd.func60, Tryd.ntmps60
    go_wp2
    go_ret
    exact ⟨ret_int (by unfold loadsZ; first | rfl | (repeat rw [if_neg (by omega)])), rfl⟩
  · go_enter Tryd.func60, Tryd.ntmps60
    go_wp2
    go_ret
    exact ⟨ret_int (by unfold loadsZ; first | rfl | (repeat rw [if_neg (by omega)])), rfl⟩
  · go_enter Tryd.func60, Tryd.ntmps60
    go_wp2
    go_ret
    exact ⟨ret_int (by unfold loadsZ; first | rfl | (repeat rw [if_neg (by omega)])), rfl⟩
  · go_enter Tryd.func60, Tryd.ntmps60
    go_wp2
    go_ret
    exact ⟨ret_int (by unfold loadsZ; first | rfl | (repeat rw [if_neg (by omega)])), rfl⟩
  · go_enter Tryd.func60, Tryd.ntmps60
    go_wp2
    go_ret
    exact ⟨ret_int (by unfold loadsZ; first | rfl | (repeat rw [if_neg (by omega)])), rfl⟩
  · go_enter Tryd.func60, Tryd.ntmps60
    go_wp2
    go_ret
    exact ⟨ret_int (by unfold loadsZ; first | rfl | (repeat rw [if_neg (by omega)])), rfl⟩
  · have e11 : (n == 11) = false := neb (by omega)
    have e12 : (n == 12) = false := neb (by omega)
    have e13 : (n == 13) = false := neb (by omega)
    have e14 : (n == 14) = false := neb (by omega)
    have e15 : (n == 15) = false := neb (by omega)
    go_enter Tryd.func60, Tryd.ntmps60
    go_wp2
    go_ret
    exact ⟨ret_int (by unfold loadsZ; first | rfl | (repeat rw [if_neg (by omega)])), rfl⟩

end Go.Proofs.YtakomdopeadcjaaDoor
