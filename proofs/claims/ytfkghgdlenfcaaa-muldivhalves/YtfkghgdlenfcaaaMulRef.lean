/- Layer 8: what the document's Has, high and Do answer. -/
import Derived.Test.YtfkghgdlenfcaaaAluRef
import Derived.Test.YtfkghgdlenfcaaaMulMath
namespace Go.Proofs.Ytfkghgdlenfcaaa
open Go.RowKit
set_option linter.unusedVariables false

def has8B (op : Int) : Bool := decide (50 ≤ op ∧ op ≤ 57)
theorem has8B_t {op : Int} (h0 : 50 ≤ op) (h1 : op ≤ 57) : has8B op = true := by simp [has8B, h0, h1]
theorem has8B_f {op : Int} (h : ¬ (50 ≤ op ∧ op ≤ 57)) : has8B op = false := by simpa [has8B] using h

set_option maxHeartbeats 400000 in
theorem rhas8_any (op : Int) (w : World) :
    Calls Try.prog 9 #[.int .i64 op] w fun e w' => e = .returned (.bool (has8B op)) ∧ w' = w := by
  by_cases h0 : 50 ≤ op
  · by_cases h1 : op ≤ 57
    · rw [has8B_t h0 h1]
      go_enter Try.func9, Try.ntmps9
      go_wp2
      go_ret
      exact ⟨rfl, rfl⟩
    · rw [has8B_f (by omega)]
      go_enter Try.func9, Try.ntmps9
      go_wp2
      go_ret
      exact ⟨rfl, rfl⟩
  · rw [has8B_f (by omega)]
    go_enter Try.func9, Try.ntmps9
    go_wp2
    go_ret
    exact ⟨rfl, rfl⟩

set_option maxHeartbeats 400000 in
theorem rhigh8_any (n : Int) (w : World) (h0 : -9223372036854775808 < n) (h1 : n < 9223372036854775808) :
    Calls Try.prog 18 #[.int .i64 n] w fun e w' => e = .returned (.int .u32 (n / 4294967296 % 4294967296)) ∧ w' = w := by
  by_cases hn : 0 ≤ n
  · go_enter Try.func18, Try.ntmps18
    go_wp2_with fail
    refine (rword1_any _ _ ?_ ?_).mono ?_
    · omega
    · omega
    rintro e w' ⟨rfl, hw⟩; have hw := hw.symm; subst hw
    go_wp2
    go_ret
    exact ⟨ret_int rfl, rfl⟩
  · obtain ⟨q, hq, q0, q1, qn⟩ : ∃ q : Int, (n + 1).tdiv 4294967296 = -q ∧ 0 ≤ q ∧ q ≤ 2147483648 ∧ n / 4294967296 = -q - 1 := by
      refine ⟨-(n + 1) / 4294967296, ?_, by omega, by omega, by omega⟩
      rw [show n + 1 = -(-(n + 1)) from by omega, Int.neg_tdiv, Int.tdiv_eq_ediv_of_nonneg (by omega)]; simp
    have HN : Hid (n / 4294967296 = -q - 1) := qn
    clear qn
    go_enter Try.func18, Try.ntmps18
    go_wp2_with fail
    refine (rword1_any _ _ ?_ ?_).mono ?_
    · omega
    · omega
    rintro e w' ⟨rfl, hw⟩; have hw := hw.symm; subst hw
    go_wp2
    go_ret
    refine ⟨ret_int ?_, rfl⟩
    rw [HN.out]

end Go.Proofs.Ytfkghgdlenfcaaa
