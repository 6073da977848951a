/- Layer 7: what alu's own functions answer: isBelowSigned, oneIf, Plain, Has, Do, Taken. -/
import Derived.Test.YtlagnhfbfmipoaaAluDo
namespace Go.Proofs.Ytlagnhfbfmipoaa
open Go.RowKit
set_option linter.unusedVariables false

theorem signed_wrap (x : Int) (h0 : 0 ≤ x) (h1 : x < 4294967296) : wrap32 x = signedOf x := by
  unfold wrap32 signedOf; split <;> omega

set_option maxHeartbeats 400000 in
theorem below7_any (a b : Nat) (w : World) (ha : a < 4294967296) (hb : b < 4294967296) :
    Calls Try.prog 17 #[.int .u32 (a : Int), .int .u32 (b : Int)] w fun e w' => e = .returned (.bool (decide (signedOf (a : Int) < signedOf (b : Int)))) ∧ w' = w := by
  have ea := signed_wrap (a : Int) (by omega) (by omega)
  have eb := signed_wrap (b : Int) (by omega) (by omega)
  go_enter Try.func17, Try.ntmps17
  go_wp2
  go_ret
  first | exact ⟨rfl, rfl⟩ | exact ⟨ret_bool (by rw [ea, eb]), rfl⟩ | exact ⟨by simp [ea, eb], rfl⟩

set_option maxHeartbeats 400000 in
theorem oneIf7_any (t : Bool) (w : World) :
    Calls Try.prog 16 #[.bool t] w fun e w' => e = .returned (.int .u32 (if t = true then 1 else 0)) ∧ w' = w := by
  cases t
  all_goals
    go_enter Try.func16, Try.ntmps16
    go_wp2
    go_ret
    exact ⟨rfl, rfl⟩

theorem op_all {op : Int} (h0 : 19 ≤ op) (h1 : op ≤ 37) : op = 19 ∨ op = 20 ∨ op = 21 ∨ op = 22 ∨ op = 23 ∨ op = 24 ∨ op = 25 ∨ op = 26 ∨ op = 27 ∨ op = 28 ∨ op = 29 ∨ op = 30 ∨ op = 31 ∨ op = 32 ∨ op = 33 ∨ op = 34 ∨ op = 35 ∨ op = 36 ∨ op = 37 := by omega

/-- None of the table's numbers is op's. -/
theorem op_none {op : Int} (h : ¬ (19 ≤ op ∧ op ≤ 37)) (k : Int) (h0 : 19 ≤ k) (h1 : k ≤ 37) : (op == k) = false := by
  rw [beq_eq_false_iff_ne]; omega

set_option maxHeartbeats 4000000 in
theorem plain7_any (op : Int) (w : World) :
    Calls Try.prog 14 #[.int .i64 op] w fun e w' => e = .returned (.int .i64 (plainOf op)) ∧ w' = w := by
  by_cases h : 19 ≤ op ∧ op ≤ 37
  · obtain ⟨h0, h1⟩ := h
    rcases op_all h0 h1 with rfl | rfl | rfl | rfl | rfl | rfl | rfl | rfl | rfl | rfl | rfl | rfl | rfl | rfl | rfl | rfl | rfl | rfl | rfl
    all_goals
      clear h0 h1
      go_enter Try.func14, Try.ntmps14
      go_wp2
      go_ret
      exact ⟨rfl, rfl⟩
  · have N : ∀ k : Int, 19 ≤ k → k ≤ 37 → (op == k) = false := op_none h
    rw [plain_no h]
    have n19 := N 19 (by omega) (by omega)
    have n20 := N 20 (by omega) (by omega)
    have n21 := N 21 (by omega) (by omega)
    have n22 := N 22 (by omega) (by omega)
    have n23 := N 23 (by omega) (by omega)
    have n24 := N 24 (by omega) (by omega)
    have n25 := N 25 (by omega) (by omega)
    have n26 := N 26 (by omega) (by omega)
    have n27 := N 27 (by omega) (by omega)
    have n28 := N 28 (by omega) (by omega)
    have n29 := N 29 (by omega) (by omega)
    have n30 := N 30 (by omega) (by omega)
    have n31 := N 31 (by omega) (by omega)
    have n32 := N 32 (by omega) (by omega)
    have n33 := N 33 (by omega) (by omega)
    have n34 := N 34 (by omega) (by omega)
    have n35 := N 35 (by omega) (by omega)
    have n36 := N 36 (by omega) (by omega)
    have n37 := N 37 (by omega) (by omega)
    clear N h
    go_enter Try.func14, Try.ntmps14
    go_wp2
    go_ret
    exact ⟨rfl, rfl⟩

theorem plain_ne {op : Int} : (plainOf op != 0) = hasB op := by
  by_cases h : 19 ≤ op ∧ op ≤ 37
  · rw [hasB_t h.1 h.2]
    have := plain_ten h.1 h.2
    rw [bne_iff_ne]; omega
  · rw [hasB_f h, plain_no h]; rfl

set_option maxHeartbeats 400000 in
theorem has7_any (op : Int) (w : World) :
    Calls Try.prog 8 #[.int .i64 op] w fun e w' => e = .returned (.bool (hasB op)) ∧ w' = w := by
  have H : Hid ((plainOf op != 0) = hasB op) := plain_ne
  go_enter Try.func8, Try.ntmps8
  go_wp2_with fail
  refine (plain7_any op _).mono ?_
  rintro e w1 ⟨rfl, hw⟩; have hw := hw.symm; subst hw
  go_wp2
  go_ret
  exact ⟨ret_bool (H.out.symm), rfl⟩

end Go.Proofs.Ytlagnhfbfmipoaa
