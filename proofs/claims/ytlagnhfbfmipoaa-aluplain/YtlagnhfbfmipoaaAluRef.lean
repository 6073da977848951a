/- Layer 7: what the document's Has, Plain, one, right, Word answer. -/
import Derived.Test.YtlagnhfbfmipoaaBase
import Derived.Test.YtlagnhfbfmipoaaAluMath
namespace Go.Proofs.Ytlagnhfbfmipoaa
open Go.RowKit
set_option linter.unusedVariables false

/-- The instruction of two registers that reckons the same; 0 of others. -/
def plainOf (op : Int) : Int :=
  if op = 19 then 28 else if op = 20 then 31 else if op = 21 then 32 else if op = 22 then 33 else if op = 23 then 36 else if op = 24 then 37
  else if op = 25 then 30 else if op = 26 then 34 else if op = 27 then 35 else if 28 ≤ op ∧ op ≤ 37 then op else 0

theorem op19 {op : Int} (h0 : 19 ≤ op) (h1 : op ≤ 37) : op = 19 ∨ op = 20 ∨ op = 21 ∨ op = 22 ∨ op = 23 ∨ op = 24 ∨ op = 25 ∨ op = 26 ∨ op = 27 ∨ 28 ≤ op := by omega
theorem plain_no {op : Int} (h : ¬ (19 ≤ op ∧ op ≤ 37)) : plainOf op = 0 := by
  unfold plainOf
  repeat rw [if_neg (by omega)]
theorem plain_self {op : Int} (h0 : 28 ≤ op) (h1 : op ≤ 37) : plainOf op = op := by
  unfold plainOf
  iterate 9 rw [if_neg (by omega)]
  rw [if_pos ⟨h0, h1⟩]
theorem plain_ten {op : Int} (h0 : 19 ≤ op) (h1 : op ≤ 37) : 28 ≤ plainOf op ∧ plainOf op ≤ 37 := by
  rcases op19 h0 h1 with rfl | rfl | rfl | rfl | rfl | rfl | rfl | rfl | rfl | h
  all_goals first | decide | (rw [plain_self h h1]; exact ⟨h, h1⟩)
theorem plain_twice {op : Int} (h0 : 19 ≤ op) (h1 : op ≤ 37) : plainOf (plainOf op) = plainOf op := by
  obtain ⟨h, g⟩ := plain_ten h0 h1
  exact plain_self h g

def hasB (op : Int) : Bool := decide (19 ≤ op ∧ op ≤ 37)
theorem hasB_t {op : Int} (h0 : 19 ≤ op) (h1 : op ≤ 37) : hasB op = true := by simp [hasB, h0, h1]
theorem hasB_f {op : Int} (h : ¬ (19 ≤ op ∧ op ≤ 37)) : hasB op = false := by simpa [hasB] using h

set_option maxHeartbeats 400000 in
theorem rhas7_any (op : Int) (w : World) :
    Calls Try.prog 9 #[.int .i64 op] w fun e w' => e = .returned (.bool (hasB op)) ∧ w' = w := by
  by_cases h0 : 19 ≤ op
  · by_cases h1 : op ≤ 37
    · rw [hasB_t h0 h1]
      go_enter Try.func9, Try.ntmps9
      go_wp2
      go_ret
      exact ⟨rfl, rfl⟩
    · rw [hasB_f (by omega)]
      go_enter Try.func9, Try.ntmps9
      go_wp2
      go_ret
      exact ⟨rfl, rfl⟩
  · rw [hasB_f (by omega)]
    go_enter Try.func9, Try.ntmps9
    go_wp2
    go_ret
    exact ⟨rfl, rfl⟩

set_option maxHeartbeats 400000 in
theorem rone7_any (t : Bool) (w : World) :
    Calls Try.prog 20 #[.bool t] w fun e w' => e = .returned (.int .u32 (if t = true then 1 else 0)) ∧ w' = w := by
  cases t
  all_goals
    go_enter Try.func20, Try.ntmps20
    go_wp2
    go_ret
    exact ⟨rfl, rfl⟩

theorem word_val (n : Int) : n % 18446744073709551616 % 4294967296 % 4294967296 = n % 4294967296 := by omega

set_option maxHeartbeats 400000 in
theorem rword1_any (n : Int) (w : World) (h0 : -9223372036854775808 ≤ n) (h1 : n < 9223372036854775808) :
    Calls Try.prog 19 #[.int .i64 n] w fun e w' => e = .returned (.int .u32 (n % 4294967296)) ∧ w' = w := by
  go_enter Try.func19, Try.ntmps19
  go_wp2
  go_ret
  refine ⟨ret_int ?_, rfl⟩
  have e : IntKind.u64.wrap n = n % 18446744073709551616 := by first | exact IntKind.wrap_u64 n | rfl | simp [IntKind.wrap, IntKind.signed, IntKind.bits]
  rw [e, Int.tmod_eq_emod_of_nonneg (Int.emod_nonneg _ (by omega))]
  omega

theorem pw_31 {s : Int} (h0 : 0 ≤ s) (h1 : s < 32) : 1 ≤ pw s ∧ pw s ≤ 2147483648 := by
  have a := pw_pos s
  have b := pw_le s 31 (by omega)
  rw [show pw 31 = 2147483648 from by decide] at b
  exact ⟨by omega, b⟩

set_option maxHeartbeats 1000000 in
theorem right7_any (n s : Int) (w : World) (h0 : -2147483648 ≤ n) (h1 : n < 2147483648) (s0 : 0 ≤ s) (s1 : s < 32) :
    Calls Try.prog 23 #[.int .i64 n, .int .i64 s] w fun e w' => e = .returned (.int .i64 (n / pw s)) ∧ w' = w := by
  obtain ⟨p0, p1⟩ := pw_31 s0 s1
  by_cases hn : 0 ≤ n
  · have d0 : 0 ≤ n / pw s := Int.ediv_nonneg hn (by omega)
    have d1 : n / pw s ≤ n := Int.ediv_le_self _ hn
    have HT : Hid (n.tdiv (pw s) = n / pw s) := Int.tdiv_eq_ediv_of_nonneg hn
    go_enter Try.func23, Try.ntmps23
    go_wp2_with fail
    refine (power_any s _ s0 (by omega)).mono ?_
    rintro e w' ⟨rfl, hw⟩
    have hw := hw.symm; subst hw
    go_wp2
    go_ret
    refine ⟨ret_int ?_, rfl⟩
    rfl
  · have d0 : 0 ≤ (pw s - 1 - n) / pw s := Int.ediv_nonneg (by omega) (by omega)
    have d1 : (pw s - 1 - n) / pw s ≤ pw s - 1 - n := Int.ediv_le_self _ (by omega)
    have HT : Hid ((pw s - 1 - n).tdiv (pw s) = (pw s - 1 - n) / pw s) := Int.tdiv_eq_ediv_of_nonneg (by omega)
    have HF : Hid (0 - (pw s - 1 - n) / pw s = n / pw s) := floor_neg n (pw s) (by omega) (by omega)
    go_enter Try.func23, Try.ntmps23
    go_wp2_with fail
    refine (power_any s _ s0 (by omega)).mono ?_
    rintro e w' ⟨rfl, hw⟩
    have hw := hw.symm; subst hw
    go_wp2
    go_ret
    refine ⟨ret_int ?_, rfl⟩
    have := HF.out; omega

set_option maxHeartbeats 400000 in
theorem rplain7_no (op : Int) (w : World) (h : ¬ (19 ≤ op ∧ op ≤ 37)) :
    Calls Try.prog 15 #[.int .i64 op] w fun e w' => e = .returned (.int .i64 (plainOf op)) ∧ w' = w := by
  rw [plain_no h]
  have HN : Hid (hasB op = false) := hasB_f h
  go_enter Try.func15, Try.ntmps15
  go_wp2_with fail
  refine (rhas7_any op _).mono ?_
  rw [HN.out]
  rintro e w' ⟨rfl, hw⟩
  have hw := hw.symm; subst hw
  go_wp2
  go_ret
  exact ⟨rfl, rfl⟩

set_option maxHeartbeats 4000000 in
theorem rplain7_yes (op : Int) (w : World) (h0 : 19 ≤ op) (h1 : op ≤ 37) :
    Calls Try.prog 15 #[.int .i64 op] w fun e w' => e = .returned (.int .i64 (plainOf op)) ∧ Below w.heap.size w w' := by
  have HN : Hid (hasB op = true) := hasB_t h0 h1
  rcases op19 h0 h1 with rfl | rfl | rfl | rfl | rfl | rfl | rfl | rfl | rfl | h
  iterate 9
    · clear h0 h1
      go_enter Try.func15, Try.ntmps15
      go_wp2_with fail
      refine (rhas7_any _ _).mono ?_
      rw [HN.out]
      rintro e w' ⟨rfl, hw⟩
      have hw := hw.symm; subst hw
      go_wp2
      go_ret
      exact ⟨rfl, (Below.refl _ _).alloc (Nat.le_refl _) _⟩
  · rw [plain_self h h1]
    go_enter Try.func15, Try.ntmps15
    go_wp2_with fail
    refine (rhas7_any _ _).mono ?_
    rw [HN.out]
    rintro e w' ⟨rfl, hw⟩
    have hw := hw.symm; subst hw
    go_wp2
    go_ret
    exact ⟨rfl, Below.refl _ _⟩

end Go.Proofs.Ytlagnhfbfmipoaa
