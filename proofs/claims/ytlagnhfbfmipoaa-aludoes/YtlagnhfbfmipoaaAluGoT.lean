/- Layer 7: what alu.Do answers of any instruction, what alu.Taken does, and that the program is awake. -/
import Derived.Test.YtlagnhfbfmipoaaAluGoA
import Derived.Test.YtlagnhfbfmipoaaAluGoB
import Derived.Test.YtlagnhfbfmipoaaAluGoC
import Derived.Test.YtlagnhfbfmipoaaAluGoD
namespace Go.Proofs.Ytlagnhfbfmipoaa
open Go.RowKit
set_option linter.unusedVariables false

theorem do7_yes (op : Int) (a b : Nat) (w : World) (h0 : 19 ≤ op) (h1 : op ≤ 37) (ha : a < 4294967296) (hb : b < 4294967296) :
    Calls Try.prog 7 #[.int .i64 op, .int .u32 (a : Int), .int .u32 (b : Int)] w fun e w' => e = .returned (.tuple #[.int .u32 (aluOf (plainOf op) a b), .int .i64 0]) ∧ w' = w := by
  rcases op_all h0 h1 with rfl | rfl | rfl | rfl | rfl | rfl | rfl | rfl | rfl | rfl | rfl | rfl | rfl | rfl | rfl | rfl | rfl | rfl | rfl
  · rw [show plainOf 19 = 28 from by decide]; exact do7_19 a b w ha hb
  · rw [show plainOf 20 = 31 from by decide]; exact do7_20 a b w ha hb
  · rw [show plainOf 21 = 32 from by decide]; exact do7_21 a b w ha hb
  · rw [show plainOf 22 = 33 from by decide]; exact do7_22 a b w ha hb
  · rw [show plainOf 23 = 36 from by decide]; exact do7_23 a b w ha hb
  · rw [show plainOf 24 = 37 from by decide]; exact do7_24 a b w ha hb
  · rw [show plainOf 25 = 30 from by decide]; exact do7_25 a b w ha hb
  · rw [show plainOf 26 = 34 from by decide]; exact do7_26 a b w ha hb
  · rw [show plainOf 27 = 35 from by decide]; exact do7_27 a b w ha hb
  · rw [show plainOf 28 = 28 from by decide]; exact do7_28 a b w ha hb
  · rw [show plainOf 29 = 29 from by decide]; exact do7_29 a b w ha hb
  · rw [show plainOf 30 = 30 from by decide]; exact do7_30 a b w ha hb
  · rw [show plainOf 31 = 31 from by decide]; exact do7_31 a b w ha hb
  · rw [show plainOf 32 = 32 from by decide]; exact do7_32 a b w ha hb
  · rw [show plainOf 33 = 33 from by decide]; exact do7_33 a b w ha hb
  · rw [show plainOf 34 = 34 from by decide]; exact do7_34 a b w ha hb
  · rw [show plainOf 35 = 35 from by decide]; exact do7_35 a b w ha hb
  · rw [show plainOf 36 = 36 from by decide]; exact do7_36 a b w ha hb
  · rw [show plainOf 37 = 37 from by decide]; exact do7_37 a b w ha hb

set_option maxRecDepth 100000 in
set_option maxHeartbeats 4000000 in
theorem do7_no (op : Int) (a b : Nat) (w : World) (h : ¬ (19 ≤ op ∧ op ≤ 37)) (ha : a < 4294967296) (hb : b < 4294967296) :
    Calls Try.prog 7 #[.int .i64 op, .int .u32 (a : Int), .int .u32 (b : Int)] w fun e w' => e = .returned (.tuple #[.int .u32 0, .int .i64 9]) ∧ w' = w := by
  have es := shift_low b hb
  have N : ∀ k : Int, 19 ≤ k → k ≤ 37 → (op == k) = false := op_none h
  have n19 := N 19 (by omega) (by omega)
  have n20 := N 20 (by omega) (by omega)
  have n21 := N 21 (by omega) (by omega)
  have n22 := N 22 (by omega) (by omega)
  have n23 := N 23 (by omega) (by omega)
  have n24 := N 24 (by omega) (by omega)
  have n25 := N 25 (by omega) (by omega)
  have n26 := N 26 (by omega) (by omega)
  have n27 := N 27 (by omega) (by omega)
  have n28 := N 28 (by omega) (by omega)
  have n29 := N 29 (by omega) (by omega)
  have n30 := N 30 (by omega) (by omega)
  have n31 := N 31 (by omega) (by omega)
  have n32 := N 32 (by omega) (by omega)
  have n33 := N 33 (by omega) (by omega)
  have n34 := N 34 (by omega) (by omega)
  have n35 := N 35 (by omega) (by omega)
  have n36 := N 36 (by omega) (by omega)
  have n37 := N 37 (by omega) (by omega)
  clear N h
  go_enter Try.func7, Try.ntmps7
  go_wp2
  go_ret2
  exact ⟨rfl, rfl⟩

theorem tk6 (a b : Nat) : takenB 6 a b = !takenB 5 a b := by simp [takenB]
theorem tk8 (a b : Nat) : takenB 8 a b = !takenB 7 a b := by
  rw [Bool.eq_iff_iff]; simp [takenB]
theorem tk10 (a b : Nat) : takenB 10 a b = !takenB 9 a b := by
  rw [Bool.eq_iff_iff]; simp [takenB]
theorem tk5 (a b : Nat) : takenB 5 a b = decide (a = b) := by simp [takenB]
theorem tk7 (a b : Nat) : takenB 7 a b = decide (signedOf (a : Int) < signedOf (b : Int)) := by simp [takenB]
theorem tk9 (a b : Nat) : takenB 9 a b = decide (a < b) := by simp [takenB]

theorem ret_bpair {j : IntKind} {a b : Bool} {c : Int} (h : a = b) : Ending.returned (.tuple #[.bool a, .int j c]) = .returned (.tuple #[.bool b, .int j c]) := by rw [h]

theorem eqb_nat (a b : Nat) : ((a : Int) == (b : Int)) = decide (a = b) := by
  rw [Bool.eq_iff_iff]; simp only [beq_iff_eq, decide_eq_true_eq]; omega

set_option maxRecDepth 100000 in
set_option maxHeartbeats 1000000 in
theorem taken7_5 (a b : Nat) (w : World) (ha : a < 4294967296) (hb : b < 4294967296) :
    Calls Try.prog 12 #[.int .i64 5, .int .u32 (a : Int), .int .u32 (b : Int)] w fun e w' => e = .returned (.tuple #[.bool (takenB 5 a b), .int .i64 0]) ∧ w' = w := by
  have HT : Hid _ := tk5 a b
  have en := eqb_nat a b
  go_enter Try.func12, Try.ntmps12
  go_wp2
  go_ret2
  refine ⟨ret_bpair ?key, rfl⟩
  first | (rw [HT.out]; done) | (rw [HT.out]; rfl) | (rw [HT.out]; simp; done)

set_option maxRecDepth 100000 in
set_option maxHeartbeats 1000000 in
theorem taken7_6 (a b : Nat) (w : World) (ha : a < 4294967296) (hb : b < 4294967296) :
    Calls Try.prog 12 #[.int .i64 6, .int .u32 (a : Int), .int .u32 (b : Int)] w fun e w' => e = .returned (.tuple #[.bool (takenB 6 a b), .int .i64 0]) ∧ w' = w := by
  have HV : Hid ((!takenB 5 a b) = takenB 6 a b) := (tk6 a b).symm
  have HT : Hid _ := tk5 a b
  have en := eqb_nat a b
  go_enter Try.func12, Try.ntmps12
  go_wp2
  go_ret2
  refine ⟨ret_bpair (Eq.trans ?key HV.out), rfl⟩
  first | (rw [HT.out]; done) | (rw [HT.out]; rfl) | (rw [HT.out]; simp; done)

set_option maxRecDepth 100000 in
set_option maxHeartbeats 1000000 in
theorem taken7_7 (a b : Nat) (w : World) (ha : a < 4294967296) (hb : b < 4294967296) :
    Calls Try.prog 12 #[.int .i64 7, .int .u32 (a : Int), .int .u32 (b : Int)] w fun e w' => e = .returned (.tuple #[.bool (takenB 7 a b), .int .i64 0]) ∧ w' = w := by
  have HT : Hid _ := tk7 a b
  go_enter Try.func12, Try.ntmps12
  go_wp2_with fail
  refine (below7_any a b _ ha hb).mono ?_; rintro e w1 ⟨rfl, hw⟩; have hw := hw.symm; subst hw
  go_wp2
  go_ret2
  refine ⟨ret_bpair ?key, rfl⟩
  first | (rw [HT.out]; done) | (rw [HT.out]; rfl) | (rw [HT.out]; simp; done)

set_option maxRecDepth 100000 in
set_option maxHeartbeats 1000000 in
theorem taken7_8 (a b : Nat) (w : World) (ha : a < 4294967296) (hb : b < 4294967296) :
    Calls Try.prog 12 #[.int .i64 8, .int .u32 (a : Int), .int .u32 (b : Int)] w fun e w' => e = .returned (.tuple #[.bool (takenB 8 a b), .int .i64 0]) ∧ w' = w := by
  have HV : Hid ((!takenB 7 a b) = takenB 8 a b) := (tk8 a b).symm
  have HT : Hid _ := tk7 a b
  go_enter Try.func12, Try.ntmps12
  go_wp2_with fail
  refine (below7_any a b _ ha hb).mono ?_; rintro e w1 ⟨rfl, hw⟩; have hw := hw.symm; subst hw
  go_wp2
  go_ret2
  refine ⟨ret_bpair (Eq.trans ?key HV.out), rfl⟩
  first | (rw [HT.out]; done) | (rw [HT.out]; rfl) | (rw [HT.out]; simp; done)

set_option maxRecDepth 100000 in
set_option maxHeartbeats 1000000 in
theorem taken7_9 (a b : Nat) (w : World) (ha : a < 4294967296) (hb : b < 4294967296) :
    Calls Try.prog 12 #[.int .i64 9, .int .u32 (a : Int), .int .u32 (b : Int)] w fun e w' => e = .returned (.tuple #[.bool (takenB 9 a b), .int .i64 0]) ∧ w' = w := by
  have HT : Hid _ := tk9 a b
  go_enter Try.func12, Try.ntmps12
  go_wp2
  go_ret2
  refine ⟨ret_bpair ?key, rfl⟩
  first | (rw [HT.out]; done) | (rw [HT.out]; rfl) | (rw [HT.out]; simp; done)

set_option maxRecDepth 100000 in
set_option maxHeartbeats 1000000 in
theorem taken7_10 (a b : Nat) (w : World) (ha : a < 4294967296) (hb : b < 4294967296) :
    Calls Try.prog 12 #[.int .i64 10, .int .u32 (a : Int), .int .u32 (b : Int)] w fun e w' => e = .returned (.tuple #[.bool (takenB 10 a b), .int .i64 0]) ∧ w' = w := by
  have HV : Hid ((!takenB 9 a b) = takenB 10 a b) := (tk10 a b).symm
  have HT : Hid _ := tk9 a b
  go_enter Try.func12, Try.ntmps12
  go_wp2
  go_ret2
  refine ⟨ret_bpair (Eq.trans ?key HV.out), rfl⟩
  first | (rw [HT.out]; done) | (rw [HT.out]; rfl) | (rw [HT.out]; simp; done)

theorem taken7_yes (op : Int) (a b : Nat) (w : World) (h0 : 5 ≤ op) (h1 : op ≤ 10) (ha : a < 4294967296) (hb : b < 4294967296) :
    Calls Try.prog 12 #[.int .i64 op, .int .u32 (a : Int), .int .u32 (b : Int)] w fun e w' => e = .returned (.tuple #[.bool (takenB op a b), .int .i64 0]) ∧ w' = w := by
  rcases six h0 h1 with rfl | rfl | rfl | rfl | rfl | rfl
  · exact taken7_5 a b w ha hb
  · exact taken7_6 a b w ha hb
  · exact taken7_7 a b w ha hb
  · exact taken7_8 a b w ha hb
  · exact taken7_9 a b w ha hb
  · exact taken7_10 a b w ha hb

set_option maxRecDepth 100000 in
set_option maxHeartbeats 1000000 in
theorem taken7_no (op : Int) (a b : Nat) (w : World) (h : ¬ (5 ≤ op ∧ op ≤ 10)) (ha : a < 4294967296) (hb : b < 4294967296) :
    Calls Try.prog 12 #[.int .i64 op, .int .u32 (a : Int), .int .u32 (b : Int)] w fun e w' => e = .returned (.tuple #[.bool false, .int .i64 9]) ∧ w' = w := by
  have N : ∀ k : Int, 5 ≤ k → k ≤ 10 → (op == k) = false := by intro k h0 h1; rw [beq_eq_false_iff_ne]; omega
  have n5 := N 5 (by omega) (by omega)
  have n6 := N 6 (by omega) (by omega)
  have n7 := N 7 (by omega) (by omega)
  have n8 := N 8 (by omega) (by omega)
  have n9 := N 9 (by omega) (by omega)
  have n10 := N 10 (by omega) (by omega)
  clear N h
  go_enter Try.func12, Try.ntmps12
  go_wp2
  go_ret2
  exact ⟨rfl, rfl⟩

theorem awake7_a : aluOf 35 2147483648 4 = 4160749568 := by decide
theorem awake7_b : takenB 7 4294967295 0 = true := by decide

set_option maxHeartbeats 400000 in
theorem awake7_any (w : World) : Calls Try.prog 10 #[] w fun e w' => e = .returned (.bool true) ∧ w' = w := by
  have c1 : Hid (∀ W : World, Calls Try.prog 7 #[.int .i64 35, .int .u32 2147483648, .int .u32 4] W fun e w' => e = .returned (.tuple #[.int .u32 4160749568, .int .i64 0]) ∧ w' = W) := by
    intro W; have h := do7_35 2147483648 4 W (by omega) (by omega); rw [awake7_a] at h; exact h
  have c2 : Hid (∀ W : World, Calls Try.prog 12 #[.int .i64 7, .int .u32 4294967295, .int .u32 0] W fun e w' => e = .returned (.tuple #[.bool true, .int .i64 0]) ∧ w' = W) := by
    intro W; have h := taken7_7 4294967295 0 W (by omega) (by omega); rw [awake7_b] at h; exact h
  have c3 : Hid (∀ W : World, Calls Try.prog 8 #[.int .i64 37] W fun e w' => e = .returned (.bool true) ∧ w' = W) := by
    intro W; have h := has7_any 37 W; rw [hasB_t (by omega) (by omega)] at h; exact h
  go_enter Try.func10, Try.ntmps10
  go_wp2_with fail
  refine Calls.mono (c1.out _) ?_; rintro e w1 ⟨rfl, hw⟩; have hw := hw.symm; subst hw
  go_wp2_with fail
  refine Calls.mono (c2.out _) ?_; rintro e w1 ⟨rfl, hw⟩; have hw := hw.symm; subst hw
  go_wp2_with fail
  refine Calls.mono (c3.out _) ?_; rintro e w1 ⟨rfl, hw⟩; have hw := hw.symm; subst hw
  go_wp2
  go_ret
  exact ⟨rfl, rfl⟩

end Go.Proofs.Ytlagnhfbfmipoaa
