/- Layer 7: what the document's Has, Plain, one, right, Word answer. -/
import Derived.Test.YtfkghgdlenfcaaaBase
import Derived.Test.YtfkghgdlenfcaaaAluMath
namespace Go.Proofs.Ytfkghgdlenfcaaa
open Go.RowKit
set_option linter.unusedVariables false

/-- The instruction of two registers that reckons the same; 0 of others. -/
def plainOf (op : Int) : Int :=
  if op = 19 then 28 else if op = 20 then 31 else if op = 21 then 32 else if op = 22 then 33 else if op = 23 then 36 else if op = 24 then 37
  else if op = 25 then 30 else if op = 26 then 34 else if op = 27 then 35 else if 28 ≤ op ∧ op ≤ 37 then op else 0

theorem op19 {op : Int} (h0 : 19 ≤ op) (h1 : op ≤ 37) : op = 19 ∨ op = 20 ∨ op = 21 ∨ op = 22 ∨ op = 23 ∨ op = 24 ∨ op = 25 ∨ op = 26 ∨ op = 27 ∨ 28 ≤ op := by omega
theorem plain_no {op : Int} (h : ¬ (19 ≤ op ∧ op ≤ 37)) : plainOf op = 0 := by
  unfold plainOf
  repeat rw [if_neg (by omega)]
theorem plain_self {op : Int} (h0 : 28 ≤ op) (h1 : op ≤ 37) : plainOf op = op := by
  unfold plainOf
  iterate 9 rw [if_neg (by omega)]
  rw [if_pos ⟨h0, h1⟩]
theorem plain_ten {op : Int} (h0 : 19 ≤ op) (h1 : op ≤ 37) : 28 ≤ plainOf op ∧ plainOf op ≤ 37 := by
  rcases op19 h0 h1 with rfl | rfl | rfl | rfl | rfl | rfl | rfl | rfl | rfl | h
  all_goals first | decide | (rw [plain_self h h1]; exact ⟨h, h1⟩)
theorem plain_twice {op : Int} (h0 : 19 ≤ op) (h1 : op ≤ 37) : plainOf (plainOf op) = plainOf op := by
  obtain ⟨h, g⟩ := plain_ten h0 h1
  exact plain_self h g

def hasB (op : Int) : Bool := decide (19 ≤ op ∧ op ≤ 37)
theorem hasB_t {op : Int} (h0 : 19 ≤ op) (h1 : op ≤ 37) : hasB op = true := by simp [hasB, h0, h1]
theorem hasB_f {op : Int} (h : ¬ (19 ≤ op ∧ op ≤ 37)) : hasB op = false := by simpa [hasB] using h

theorem word_val (n : Int) : n % 18446744073709551616 % 4294967296 % 4294967296 = n % 4294967296 := by omega

set_option maxHeartbeats 400000 in
theorem rword1_any (n : Int) (w : World) (h0 : -9223372036854775808 ≤ n) (h1 : n < 9223372036854775808) :
    Calls Try.prog 19 #[.int .i64 n] w fun e w' => e = .returned (.int .u32 (n % 4294967296)) ∧ w' = w := by
  go_enter Try.func19, Try.ntmps19
  go_wp2
  go_ret
  refine ⟨ret_int ?_, rfl⟩
  have e : IntKind.u64.wrap n = n % 18446744073709551616 := by first | exact IntKind.wrap_u64 n | rfl | simp [IntKind.wrap, IntKind.signed, IntKind.bits]
  rw [e, Int.tmod_eq_emod_of_nonneg (Int.emod_nonneg _ (by omega))]
  omega

theorem pw_31 {s : Int} (h0 : 0 ≤ s) (h1 : s < 32) : 1 ≤ pw s ∧ pw s ≤ 2147483648 := by
  have a := pw_pos s
  have b := pw_le s 31 (by omega)
  rw [show pw 31 = 2147483648 from by decide] at b
  exact ⟨by omega, b⟩

end Go.Proofs.Ytfkghgdlenfcaaa
