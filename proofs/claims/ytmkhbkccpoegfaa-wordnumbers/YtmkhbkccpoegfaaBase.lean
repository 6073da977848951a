/- What the small functions of layer 1 do, call by call: isField, lowest, Power, Right. -/
import Derived.Test.YtmkhbkccpoegfaaRows
import Derived.Test.YtmkhbkccpoegfaaMath
import Derived.WalkKit
import Derived.WalkSpells
import Derived.WalkLawsBesides
import Derived.BigQuiet
import Derived.Deep.QuietTactic
namespace Go.Proofs.Ytmkhbkccpoegfaa
open Go.RowKit
set_option linter.unusedVariables false

theorem ret_int {k : IntKind} {a b : Int} (h : a = b) : Ending.returned (.int k a) = .returned (.int k b) := by rw [h]

theorem ret_bool {a b : Bool} (h : b = a) : Ending.returned (.bool a) = .returned (.bool b) := by rw [h]

theorem ret_pair {k j : IntKind} {a b c : Int} (h : a = b) : Ending.returned (.tuple #[.int k a, .int j c]) = .returned (.tuple #[.int k b, .int j c]) := by rw [h]

/-- The world is as it was but for a count of draws. -/
def Q (w w' : World) : Prop := ∃ k, w' = w.drewN k
theorem Q.refl (w : World) : Q w w := ⟨0, rfl⟩
theorem Q.drewN {w w' : World} (h : Q w w') (n : Nat) : Q w (w'.drewN n) := by
  obtain ⟨k, rfl⟩ := h
  exact ⟨k + n, by simp⟩
theorem Q.trans {a b c : World} (h : Q a b) (g : Q b c) : Q a c := by
  obtain ⟨k, rfl⟩ := g; exact h.drewN k

def fieldB (a n : Int) : Bool := decide (0 ≤ a ∧ a ≤ 31 ∧ 1 ≤ n ∧ n ≤ 32 - a)
theorem fieldB_yes {a n : Int} (h : fieldB a n = true) : 0 ≤ a ∧ a ≤ 31 ∧ 1 ≤ n ∧ n ≤ 32 - a := by simpa [fieldB] using h
theorem fieldB_no {a n : Int} (h : fieldB a n = false) : ¬ (0 ≤ a ∧ a ≤ 31 ∧ 1 ≤ n ∧ n ≤ 32 - a) := by simpa [fieldB] using h

theorem fieldB_t {a n : Int} (h : 0 ≤ a ∧ a ≤ 31 ∧ 1 ≤ n ∧ n ≤ 32 - a) : fieldB a n = true := by simpa [fieldB] using h
theorem fieldB_f {a n : Int} (h : ¬ (0 ≤ a ∧ a ≤ 31 ∧ 1 ≤ n ∧ n ≤ 32 - a)) : fieldB a n = false := by simpa [fieldB] using h

set_option maxHeartbeats 400000 in
theorem right_any (a n : Int) (w : World) :
    Calls Try.prog 10 #[.int .i64 a, .int .i64 n] w fun e w' => e = .returned (.bool (fieldB a n)) ∧ w' = w := by
  by_cases h0 : 0 ≤ a
  · by_cases h1 : a ≤ 31
    · by_cases h2 : 1 ≤ n
      · by_cases h3 : n ≤ 32 - a
        · go_enter Try.func10, Try.ntmps10
          go_wp2
          go_ret
          refine ⟨?_, rfl⟩; first | (refine ret_bool (fieldB_t ?_); omega) | (refine ret_bool (fieldB_f ?_); omega)
        · go_enter Try.func10, Try.ntmps10
          go_wp2
          go_ret
          refine ⟨?_, rfl⟩; first | (refine ret_bool (fieldB_t ?_); omega) | (refine ret_bool (fieldB_f ?_); omega)
      · go_enter Try.func10, Try.ntmps10
        go_wp2
        go_ret
        refine ⟨?_, rfl⟩; first | (refine ret_bool (fieldB_t ?_); omega) | (refine ret_bool (fieldB_f ?_); omega)
    · go_enter Try.func10, Try.ntmps10
      go_wp2
      go_ret
      refine ⟨?_, rfl⟩; first | (refine ret_bool (fieldB_t ?_); omega) | (refine ret_bool (fieldB_f ?_); omega)
  · go_enter Try.func10, Try.ntmps10
    go_wp2
    go_ret
    refine ⟨?_, rfl⟩; first | (refine ret_bool (fieldB_t ?_); omega) | (refine ret_bool (fieldB_f ?_); omega)

set_option maxHeartbeats 400000 in
theorem isField_any (a n : Int) (w : World) :
    Calls Try.prog 28 #[.int .i64 a, .int .i64 n] w fun e w' => e = .returned (.bool (fieldB a n)) ∧ w' = w := by
  by_cases h0 : 0 ≤ a
  · by_cases h1 : a < 32
    · have h1' : a ≤ 31 := by omega
      by_cases h2 : 1 ≤ n
      · by_cases h3 : n ≤ 32 - a
        · go_enter Try.func28, Try.ntmps28
          go_wp2
          go_ret
          refine ⟨?_, rfl⟩; first | (refine ret_bool (fieldB_t ?_); omega) | (refine ret_bool (fieldB_f ?_); omega)
        · go_enter Try.func28, Try.ntmps28
          go_wp2
          go_ret
          refine ⟨?_, rfl⟩; first | (refine ret_bool (fieldB_t ?_); omega) | (refine ret_bool (fieldB_f ?_); omega)
      · go_enter Try.func28, Try.ntmps28
        go_wp2
        go_ret
        refine ⟨?_, rfl⟩; first | (refine ret_bool (fieldB_t ?_); omega) | (refine ret_bool (fieldB_f ?_); omega)
    · have h1' : ¬ a ≤ 31 := by omega
      go_enter Try.func28, Try.ntmps28
      go_wp2
      go_ret
      refine ⟨?_, rfl⟩; first | (refine ret_bool (fieldB_t ?_); omega) | (refine ret_bool (fieldB_f ?_); omega)
  · go_enter Try.func28, Try.ntmps28
    go_wp2
    go_ret
    refine ⟨?_, rfl⟩; first | (refine ret_bool (fieldB_t ?_); omega) | (refine ret_bool (fieldB_f ?_); omega)

set_option maxHeartbeats 400000 in
theorem lowest_any (n : Int) (w : World) (h2 : 1 ≤ n) (h3 : n ≤ 32) :
    Calls Try.prog 29 #[.int .i64 n] w fun e w' => e = .returned (.int .u32 (pw n - 1)) ∧ w' = w := by
  have H : Hid ((4294967295 : Int) / 2 ^ (32 - n).toNat = pw n - 1) := low_pw n h2 h3
  go_enter Try.func29, Try.ntmps29
  go_wp2
  go_ret
  exact ⟨ret_int (H.out), rfl⟩

theorem pw_succ (k : Nat) : pw (k : Int) * 2 = pw ((k : Int) + 1) := by
  unfold pw; rw [show ((k : Int) + 1).toNat = k + 1 from by omega, Int.pow_succ]; simp

set_option maxHeartbeats 400000 in
theorem power_any (n : Int) (w : World) (h2 : 0 ≤ n) (h3 : n ≤ 32) :
    Calls Try.prog 30 #[.int .i64 n] w fun e w' => e = .returned (.int .u64 (pw n)) ∧ w' = w := by
  obtain ⟨m, rfl⟩ := Int.eq_ofNat_of_zero_le h2
  have hm : m ≤ 32 := by omega
  clear h2 h3
  go_enter Try.func30, Try.ntmps30
  go_wp2
  go_loop [3, 4] (fun t i => ∃ k : Nat, k ≤ m ∧ i = .int .i64 k ∧ t = .int .u64 (pw k)) (fun _ i => m - (intOf i).toNat)
  case atStart => exact ⟨0, Nat.zero_le _, rfl, rfl⟩
  case round =>
    obtain ⟨k, hk, rfl, rfl⟩ := hrel
    have hp := pw_pos (k : Int)
    have hq := pw_le (k : Int) 32 (by omega)
    rw [pw_32] at hq
    have HS : Hid (pw (k : Int) * 2 = pw ((k : Int) + 1)) := pw_succ k
    by_cases hlt : k < m
    · go_wp2
      go_round
      case rel => exact ⟨k + 1, by omega, by go_num, by rw [HS.out]; go_num⟩
      case measure => simp [intOf]; omega
    · go_wp2
      go_ret
      exact ⟨ret_int (by rw [show k = m from by omega]), rfl⟩

theorem sh_nat (w a : Int) : w / 2 ^ a.toNat = w / pw a := rfl

set_option maxHeartbeats 400000 in
theorem bits_no (x a n : Int) (w : World) (h : fieldB a n = false) :
    Calls Try.prog 8 #[.int .u32 x, .int .i64 a, .int .i64 n] w fun e w' => e = .returned (.tuple #[.int .u32 0, .int .i64 4]) ∧ w' = w := by
  go_enter Try.func8, Try.ntmps8
  go_wp2_with (go_at_call 28; refine (isField_any _ _ _).mono ?_; rintro e w' ⟨rfl, rfl⟩)
  go_ret2
  exact ⟨rfl, rfl⟩

set_option maxHeartbeats 400000 in
theorem bits_yes (x a n : Int) (w : World) (h : fieldB a n = true) (hx0 : 0 ≤ x) (hx1 : x < 4294967296) :
    Calls Try.prog 8 #[.int .u32 x, .int .i64 a, .int .i64 n] w fun e w' => e = .returned (.tuple #[.int .u32 (bitsOf x a n), .int .i64 0]) ∧ Q w w' := by
  obtain ⟨h0, h1, h2, h3⟩ := fieldB_yes h
  go_enter Try.func8, Try.ntmps8
  go_wp2_with (go_at_call 28; refine (isField_any _ _ _).mono ?_; rintro e w' ⟨rfl, rfl⟩)
  go_quiet ((go_at_call 29; exact Calls.quiet_of_same (lowest_any _ _ (by omega) (by omega))))
  go_wp2
  go_ret2
  exact ⟨ret_pair (bits_val x a n hx0 hx1 h2 (by omega)), _, rfl⟩

set_option maxHeartbeats 400000 in
theorem put_no (x a n y : Int) (w : World) (h : fieldB a n = false) :
    Calls Try.prog 9 #[.int .u32 x, .int .i64 a, .int .i64 n, .int .u32 y] w fun e w' => e = .returned (.tuple #[.int .u32 0, .int .i64 4]) ∧ w' = w := by
  go_enter Try.func9, Try.ntmps9
  go_wp2_with (go_at_call 28; refine (isField_any _ _ _).mono ?_; rintro e w' ⟨rfl, rfl⟩)
  go_ret2
  exact ⟨rfl, rfl⟩

set_option maxHeartbeats 400000 in
theorem put_yes (x a n y : Int) (w : World) (h : fieldB a n = true) (hx0 : 0 ≤ x) (hx1 : x < 4294967296) (hy0 : 0 ≤ y) (hy1 : y < 4294967296) :
    Calls Try.prog 9 #[.int .u32 x, .int .i64 a, .int .i64 n, .int .u32 y] w fun e w' => e = .returned (.tuple #[.int .u32 (putOf x a n y), .int .i64 0]) ∧ Q w w' := by
  obtain ⟨h0, h1, h2, h3⟩ := fieldB_yes h
  go_enter Try.func9, Try.ntmps9
  go_wp2_with (first | (go_at_call 28; refine (isField_any _ _ _).mono ?_; rintro e w' ⟨rfl, rfl⟩) | (go_at_call 29; refine (lowest_any _ _ ?_ ?_).mono ?_; omega; omega; rintro e w' ⟨rfl, rfl⟩))
  go_quiet (fail)
  go_wp2
  go_ret2
  exact ⟨ret_pair (put_val x a n y hx0 hx1 hy0 hy1 h0 h2 h3), _, rfl⟩

set_option maxHeartbeats 400000 in
theorem extend_no (x n : Int) (w : World) (h : ¬ (1 ≤ n ∧ n ≤ 32)) :
    Calls Try.prog 14 #[.int .u32 x, .int .i64 n] w fun e w' => e = .returned (.tuple #[.int .u32 0, .int .i64 4]) ∧ w' = w := by
  by_cases h1 : n < 1
  · go_enter Try.func14, Try.ntmps14
    go_wp2
    go_ret2
    exact ⟨rfl, rfl⟩
  · have h2 : 32 < n := by omega
    go_enter Try.func14, Try.ntmps14
    go_wp2
    go_ret2
    exact ⟨rfl, rfl⟩

set_option maxHeartbeats 400000 in
theorem extend_yes (x n : Int) (w : World) (h0 : 1 ≤ n) (h1 : n ≤ 32) (hx0 : 0 ≤ x) (hx1 : x < 4294967296) :
    Calls Try.prog 14 #[.int .u32 x, .int .i64 n] w fun e w' => e = .returned (.tuple #[.int .u32 (extOf x n), .int .i64 0]) ∧ w' = w := by
  go_enter Try.func14, Try.ntmps14
  go_wp2
  go_ret2
  exact ⟨ret_pair (ext_val x n h0 h1 hx0 hx1), rfl⟩

set_option maxHeartbeats 400000 in
theorem signed_any (x : Int) (w : World) (hx0 : 0 ≤ x) (hx1 : x < 4294967296) :
    Calls Try.prog 15 #[.int .u32 x] w fun e w' => e = .returned (.int .i64 (signedOf x)) ∧ w' = w := by
  go_enter Try.func15, Try.ntmps15
  go_wp2
  go_ret
  exact ⟨ret_int (signed_val x hx0 hx1), rfl⟩

set_option maxHeartbeats 400000 in
theorem rsigned_any (x : Int) (w : World) (hx0 : 0 ≤ x) (hx1 : x < 4294967296) :
    Calls Try.prog 16 #[.int .u32 x] w fun e w' => e = .returned (.int .i64 (signedOf x)) ∧ w' = w := by
  by_cases h : 2147483648 ≤ x
  · go_enter Try.func16, Try.ntmps16
    go_wp2
    go_ret
    exact ⟨ret_int (by unfold signedOf; rw [if_neg (by omega)]), rfl⟩
  · go_enter Try.func16, Try.ntmps16
    go_wp2
    go_ret
    exact ⟨ret_int (by unfold signedOf; rw [if_pos (by omega)]), rfl⟩

set_option maxHeartbeats 400000 in
theorem rbits_any (x a n : Int) (w : World) (hx0 : 0 ≤ x) (hx1 : x < 4294967296) (h0 : 0 ≤ a) (h1 : a ≤ 32) (h2 : 0 ≤ n) (h3 : n ≤ 32) :
    Calls Try.prog 12 #[.int .u32 x, .int .i64 a, .int .i64 n] w fun e w' => e = .returned (.int .u32 (bitsOf x a n)) ∧ Q w w' := by
  have p1 := pw_pos a
  have p2 := pw_pos n
  have q1 := pw_le a 32 (by omega)
  have q2 := pw_le n 32 (by omega)
  rw [pw_32] at q1 q2
  obtain ⟨d1, d2⟩ := div_pw x a hx0 hx1
  have e1 := bitsOf_nn x a n
  have e2 := bitsOf_lt x a n
  go_enter Try.func12, Try.ntmps12
  go_wp2_with fail
  go_quiet ((go_at_call 30; exact Calls.quiet_of_same (power_any _ _ (by omega) (by omega))))
  go_wp2
  go_ret
  refine ⟨ret_int ?_, _, rfl⟩
  exact Int.emod_eq_of_lt e1 (Int.lt_of_lt_of_le e2 q2)

set_option maxHeartbeats 400000 in
theorem rput_any (x a n y : Int) (w : World) (hx0 : 0 ≤ x) (hx1 : x < 4294967296) (hy0 : 0 ≤ y) (hy1 : y < 4294967296) (h0 : 0 ≤ a) (h1 : a ≤ 31) (h2 : 1 ≤ n) (h3 : n ≤ 32 - a) :
    Calls Try.prog 13 #[.int .u32 x, .int .i64 a, .int .i64 n, .int .u32 y] w fun e w' => e = .returned (.int .u32 (putOf x a n y)) ∧ Q w w' := by
  have p1 := pw_pos a
  have p2 := pw_pos n
  have q1 := pw_le a 32 (by omega)
  have q2 := pw_le n 32 (by omega)
  rw [pw_32] at q1 q2
  have e1 := bitsOf_nn x a n
  have e2 := bitsOf_lt x a n
  obtain ⟨s, s0, s1, s2, s3, s4, s5⟩ := put_both x a n y hx0 hx1 hy0 hy1 h0 h2 h3
  have S0 : Hid (0 ≤ putOf x a n y ∧ putOf x a n y < 4294967296) := ⟨s0, s1⟩
  clear s s0 s1
  go_enter Try.func13, Try.ntmps13
  go_wp2_with (first | (go_at_call 30; refine (power_any _ _ ?_ ?_).mono ?_; omega; omega; rintro e w' ⟨rfl, rfl⟩) | (go_at_call 12; refine (rbits_any _ _ _ _ hx0 hx1 h0 ?_ ?_ ?_).mono ?_; omega; omega; omega; rintro e w' ⟨rfl, hq⟩))
  go_quiet ((go_at_call 30; exact Calls.quiet_of_same (power_any _ _ (by omega) (by omega))))
  go_wp2
  go_ret
  refine ⟨ret_int ?_, hq.drewN _⟩
  exact Int.emod_eq_of_lt S0.out.1 S0.out.2

set_option maxHeartbeats 400000 in
theorem rextend_any (x n : Int) (w : World) (hx0 : 0 ≤ x) (hx1 : x < 4294967296) (h2 : 1 ≤ n) (h3 : n ≤ 32) :
    Calls Try.prog 17 #[.int .u32 x, .int .i64 n] w fun e w' => e = .returned (.int .u32 (extOf x n)) ∧ Q w w' := by
  have p1 := pw_pos (n - 1)
  have p2 := pw_pos n
  have q1 := pw_le (n - 1) 32 (by omega)
  have q2 := pw_le n 32 (by omega)
  rw [pw_32] at q1 q2
  have r0 : 0 ≤ x % pw n := Int.emod_nonneg _ (by omega)
  have r1 : x % pw n < pw n := Int.emod_lt_of_pos _ p2
  by_cases hc : x % pw n < pw (n - 1)
  · go_enter Try.func17, Try.ntmps17
    go_wp2_with (first | (go_at_call 30; refine (power_any _ _ ?_ ?_).mono ?_; omega; omega; rintro e w' ⟨rfl, rfl⟩; try rw [pw_32]))
    go_ret
    exact ⟨ret_int (by unfold extOf; rw [if_pos hc]), Q.refl _⟩
  · go_enter Try.func17, Try.ntmps17
    go_wp2_with (first | (go_at_call 30; refine (power_any _ _ ?_ ?_).mono ?_; omega; omega; rintro e w' ⟨rfl, rfl⟩; try rw [pw_32]))
    go_ret
    exact ⟨ret_int (by unfold extOf; rw [if_neg (by omega)]), Q.refl _⟩
end Go.Proofs.Ytmkhbkccpoegfaa
