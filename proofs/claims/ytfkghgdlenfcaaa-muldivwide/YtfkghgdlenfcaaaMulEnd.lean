/- Layer 8: the four statements, walked. -/
import Derived.Test.YtfkghgdlenfcaaaMulGoD
import Derived.Test.YtfkghgdlenfcaaaMulDo
import Derived.OpenShut
namespace Go.Proofs.Ytfkghgdlenfcaaa
open Go.RowKit
set_option linter.unusedVariables false

namespace muldivDoes
set_option maxRecDepth 100000 in
set_option maxHeartbeats 1000000 in
theorem walk (op a1 b1 : Int) (w : World) (w0 : (Lit.int .i64 op).wf = true) (w1 : (Lit.int .u32 a1).wf = true) (w2 : (Lit.int .u32 b1).wf = true) :
    Calls Try.prog 3 #[.int .i64 op, .int .u32 a1, .int .u32 b1] w fun e w' => e = .returned (.bool true) ∧ Below w.heap.size w w' := by
  have x1 := bounds_u32 w1
  have x2 := bounds_u32 w2
  obtain ⟨a, rfl⟩ := Int.eq_ofNat_of_zero_le x1.1
  obtain ⟨b, rfl⟩ := Int.eq_ofNat_of_zero_le x2.1
  have ha : a < 4294967296 := by omega
  have hb : b < 4294967296 := by omega
  clear x1 x2 w0 w1 w2
  by_cases h : 50 ≤ op ∧ op ≤ 57
  · have CD : Hid (∀ W : World, Calls Try.prog 7 #[.int .i64 op, .int .u32 (a : Int), .int .u32 (b : Int)] W fun e w' => e = .returned (.tuple #[.int .u32 (mdOf op a b), .int .i64 0]) ∧ Below W.heap.size W w') := fun W => do8_yes op a b W h.1 h.2 ha hb
    have CH : Hid (∀ W : World, Calls Try.prog 8 #[.int .i64 op] W fun e w' => e = .returned (.bool true) ∧ w' = W) := fun W => by have g := has8_any op W; rw [show decide (50 ≤ op ∧ op ≤ 57) = true from by simp [h]] at g; exact g
    have CS : Hid (∀ W : World, Calls Try.prog 9 #[.int .i64 op] W fun e w' => e = .returned (.bool true) ∧ w' = W) := fun W => by have g := rhas8_any op W; rw [has8B_t h.1 h.2] at g; exact g
    have CR : Hid (∀ W : World, Calls Try.prog 11 #[.int .i64 op, .int .u32 (a : Int), .int .u32 (b : Int)] W fun e w' => e = .returned (.int .u32 (mdOf op a b)) ∧ w' = W) := fun W => rdo8_any op a b W h.1 h.2 ha hb
    clear h
    generalize mdOf op a b = x at *
    go_enter Try.func3, Try.ntmps3
    go_wp2_with fail
    refine Calls.mono (CD.out _) ?_; rintro e w1 ⟨rfl, hb1⟩
    have HB1 := Lib.hid hb1
    clear hb1
    go_wp2_with fail
    refine Calls.mono (CH.out _) ?_; rintro e w2 ⟨rfl, hw⟩; have hw := hw.symm; subst hw
    go_wp2_with fail
    refine Calls.mono (CS.out _) ?_; rintro e w2 ⟨rfl, hw⟩; have hw := hw.symm; subst hw
    go_wp2_with fail
    refine Calls.mono (CS.out _) ?_; rintro e w2 ⟨rfl, hw⟩; have hw := hw.symm; subst hw
    go_wp2_with fail
    refine Calls.mono (CR.out _) ?_; rintro e w2 ⟨rfl, hw⟩; have hw := hw.symm; subst hw
    go_wp2_with fail
    refine (awake8_any _).mono ?_; rintro e w2 ⟨rfl, hb2⟩
    have HB2 : Hid (Below w.heap.size w w2) := HB1.out.trans (hb2.mono HB1.out.size)
    clear hb2
    go_wp2
    go_ret
    exact ⟨rfl, HB2.out⟩
  · have CD : Hid (∀ W : World, Calls Try.prog 7 #[.int .i64 op, .int .u32 (a : Int), .int .u32 (b : Int)] W fun e w' => e = .returned (.tuple #[.int .u32 0, .int .i64 9]) ∧ w' = W) := fun W => do8_no op a b W h ha hb
    have CH : Hid (∀ W : World, Calls Try.prog 8 #[.int .i64 op] W fun e w' => e = .returned (.bool false) ∧ w' = W) := fun W => by have g := has8_any op W; rw [show decide (50 ≤ op ∧ op ≤ 57) = false from by simp [h]] at g; exact g
    have CS : Hid (∀ W : World, Calls Try.prog 9 #[.int .i64 op] W fun e w' => e = .returned (.bool false) ∧ w' = W) := fun W => by have g := rhas8_any op W; rw [has8B_f h] at g; exact g
    clear h
    go_enter Try.func3, Try.ntmps3
    go_wp2_with fail
    refine Calls.mono (CD.out _) ?_; rintro e w1 ⟨rfl, hw⟩; have hw := hw.symm; subst hw
    go_wp2_with fail
    refine Calls.mono (CH.out _) ?_; rintro e w1 ⟨rfl, hw⟩; have hw := hw.symm; subst hw
    go_wp2_with fail
    refine Calls.mono (CS.out _) ?_; rintro e w1 ⟨rfl, hw⟩; have hw := hw.symm; subst hw
    go_wp2_with fail
    refine Calls.mono (CS.out _) ?_; rintro e w1 ⟨rfl, hw⟩; have hw := hw.symm; subst hw
    go_wp2_with fail
    refine (awake8_any _).mono ?_; rintro e w2 ⟨rfl, hb2⟩
    have HB2 := Lib.hid hb2
    clear hb2
    go_wp2
    go_ret
    exact ⟨rfl, HB2.out⟩
end muldivDoes

namespace muldivWide
set_option maxRecDepth 100000 in
set_option maxHeartbeats 1000000 in
theorem walk (a1 b1 : Int) (w : World) (w1 : (Lit.int .u32 a1).wf = true) (w2 : (Lit.int .u32 b1).wf = true) :
    Calls Try.prog 4 #[.int .u32 a1, .int .u32 b1] w fun e w' => e = .returned (.bool true) ∧ Below w.heap.size w w' := by
  have x1 := bounds_u32 w1
  have x2 := bounds_u32 w2
  obtain ⟨a, rfl⟩ := Int.eq_ofNat_of_zero_le x1.1
  obtain ⟨b, rfl⟩ := Int.eq_ofNat_of_zero_le x2.1
  have ha : a < 4294967296 := by omega
  have hb : b < 4294967296 := by omega
  clear x1 x2 w1 w2
  obtain ⟨p0, p1⟩ := mul_uu (a : Int) (b : Int) (by omega) (by omega) (by omega) (by omega)
  have CW : Hid (∀ W : World, Calls Try.prog 12 #[.int .u32 (a : Int), .int .u32 (b : Int)] W fun e w' => e = .returned (.tuple #[.int .u32 ((a : Int) * b / 4294967296), .int .u32 ((a : Int) * b % 4294967296)]) ∧ w' = W) := fun W => wide8_any a b W ha hb
  obtain ⟨h, l, hh, hl, h0, h1, l0, l1, e⟩ : ∃ h l : Int, (a : Int) * b / 4294967296 = h ∧ (a : Int) * b % 4294967296 = l ∧ 0 ≤ h ∧ h < 4294967296 ∧ 0 ≤ l ∧ l < 4294967296 ∧ h * 4294967296 + l = (a : Int) * b := ⟨_, _, rfl, rfl, by omega, by omega, by omega, by omega, by omega⟩
  rw [hh, hl] at CW
  clear hh hl
  go_enter Try.func4, Try.ntmps4
  go_wp2_with fail
  refine Calls.mono (CW.out _) ?_; rintro e w1 ⟨rfl, hw⟩; have hw := hw.symm; subst hw
  go_wp2_with fail
  refine (awake8_any _).mono ?_; rintro e w2 ⟨rfl, hb2⟩
  have HB2 := Lib.hid hb2
  clear hb2
  go_wp2
  go_ret
  exact ⟨rfl, HB2.out⟩
end muldivWide

namespace muldivBack
/-- What a quotient, times what was divided by, and a rest are. -/
theorem back (a b : Nat) (ha : a < 4294967296) (hb : b < 4294967296) :
    (mdOf 55 a b * b % 4294967296 + mdOf 57 a b) % 4294967296 = a ∧ (mdOf 54 a b * b % 4294967296 + mdOf 56 a b) % 4294967296 = a := by
  rw [md54, md55, md56, md57]
  by_cases hz : b = 0
  · subst hz; simp only [if_true]; constructor <;> simp <;> omega
  · rw [if_neg hz, if_neg hz, if_neg hz, if_neg hz]
    refine ⟨?_, back_s (a : Int) (b : Int) (by omega) (by omega) (by omega) (by omega)⟩
    have e := back_u (a : Int) (b : Int) (by omega)
    have q0 : 0 ≤ (a : Int) / b * b := Int.mul_nonneg (Int.ediv_nonneg (by omega) (by omega)) (by omega)
    have r0 := Int.emod_nonneg (a : Int) (show (b : Int) ≠ 0 by omega)
    generalize (a : Int) / b * b = x at *
    generalize (a : Int) % b = y at *
    omega

theorem bounds (op : Int) (a b : Nat) (h0 : 50 ≤ op) (h1 : op ≤ 57) (ha : a < 4294967296) (hb : b < 4294967296) : 0 ≤ mdOf op a b ∧ mdOf op a b < 4294967296 := by
  obtain ⟨p0, p1⟩ := mul_uu (a : Int) (b : Int) (by omega) (by omega) (by omega) (by omega)
  rcases eight h0 h1 with rfl | rfl | rfl | rfl | rfl | rfl | rfl | rfl
  · rw [md50]; omega
  · rw [md51]; omega
  · rw [md52]; omega
  · rw [md53]; omega
  · rw [md54]; split <;> omega
  · rw [md55]; split
    · omega
    · have := div_bd (a : Int) (b : Int) (by omega) (by omega) (by omega) (by omega); omega
  · rw [md56]; split <;> omega
  · rw [md57]; split
    · omega
    · have := div_bd (a : Int) (b : Int) (by omega) (by omega) (by omega) (by omega); omega

set_option maxRecDepth 100000 in
set_option maxHeartbeats 1000000 in
theorem walk (a1 b1 : Int) (w : World) (w1 : (Lit.int .u32 a1).wf = true) (w2 : (Lit.int .u32 b1).wf = true) :
    Calls Try.prog 5 #[.int .u32 a1, .int .u32 b1] w fun e w' => e = .returned (.bool true) ∧ Below w.heap.size w w' := by
  have x1 := bounds_u32 w1
  have x2 := bounds_u32 w2
  obtain ⟨a, rfl⟩ := Int.eq_ofNat_of_zero_le x1.1
  obtain ⟨b, rfl⟩ := Int.eq_ofNat_of_zero_le x2.1
  have ha : a < 4294967296 := by omega
  have hb : b < 4294967296 := by omega
  clear x1 x2 w1 w2
  have C1 : Hid (∀ W : World, Calls Try.prog 7 #[.int .i64 55, .int .u32 (a : Int), .int .u32 (b : Int)] W fun e w' => e = .returned (.tuple #[.int .u32 (mdOf 55 a b), .int .i64 0]) ∧ Below W.heap.size W w') := fun W => do8_55 a b W ha hb
  have C2 : Hid (∀ W : World, Calls Try.prog 7 #[.int .i64 57, .int .u32 (a : Int), .int .u32 (b : Int)] W fun e w' => e = .returned (.tuple #[.int .u32 (mdOf 57 a b), .int .i64 0]) ∧ Below W.heap.size W w') := fun W => do8_57 a b W ha hb
  have C3 : Hid (∀ W : World, Calls Try.prog 7 #[.int .i64 54, .int .u32 (a : Int), .int .u32 (b : Int)] W fun e w' => e = .returned (.tuple #[.int .u32 (mdOf 54 a b), .int .i64 0]) ∧ Below W.heap.size W w') := fun W => do8_54 a b W ha hb
  have C4 : Hid (∀ W : World, Calls Try.prog 7 #[.int .i64 56, .int .u32 (a : Int), .int .u32 (b : Int)] W fun e w' => e = .returned (.tuple #[.int .u32 (mdOf 56 a b), .int .i64 0]) ∧ Below W.heap.size W w') := fun W => do8_56 a b W ha hb
  obtain ⟨k1, k2⟩ := back a b ha hb
  by_cases hz : b = 0
  · subst hz
    have e1 : mdOf 55 a 0 = 4294967295 := md55 a 0
    have e2 : mdOf 57 a 0 = a := md57 a 0
    have e3 : mdOf 54 a 0 = 4294967295 := md54 a 0
    have e4 : mdOf 56 a 0 = a := md56 a 0
    rw [e1] at C1
    rw [e2] at C2
    rw [e3] at C3
    rw [e4] at C4
    clear e1 e2 e3 e4 k1 k2
    go_enter Try.func5, Try.ntmps5
    go_wp2_with fail
    refine Calls.mono (C1.out _) ?_; rintro e w1 ⟨rfl, hb1⟩
    have HB1 := Lib.hid hb1
    clear hb1
    go_wp2_with fail
    refine Calls.mono (C2.out _) ?_; rintro e w2 ⟨rfl, hb2⟩
    have HB2 : Hid (Below w.heap.size w w2) := HB1.out.trans (hb2.mono HB1.out.size)
    clear hb2
    go_wp2_with fail
    refine Calls.mono (C3.out _) ?_; rintro e w3 ⟨rfl, hb3⟩
    have HB3 : Hid (Below w.heap.size w w3) := HB2.out.trans (hb3.mono HB2.out.size)
    clear hb3
    go_wp2_with fail
    refine Calls.mono (C4.out _) ?_; rintro e w4 ⟨rfl, hb4⟩
    have HB4 : Hid (Below w.heap.size w w4) := HB3.out.trans (hb4.mono HB3.out.size)
    clear hb4
    go_wp2_with fail
    refine (awake8_any _).mono ?_; rintro e w5 ⟨rfl, hb5⟩
    have HB5 : Hid (Below w.heap.size w w5) := HB4.out.trans (hb5.mono HB4.out.size)
    clear hb5
    go_wp2
    go_ret
    exact ⟨rfl, HB5.out⟩
  · have hz' : ((b : Int) == 0) = false := by rw [beq_eq_false_iff_ne]; omega
    have hz2 : ((b : Int) != 0) = true := by rw [bne_iff_ne]; omega
    have hr : mdOf 57 a b < b := by rw [md57, if_neg hz]; exact Int.emod_lt_of_pos _ (by omega)
    generalize mdOf 55 a b = q at *
    generalize mdOf 57 a b = r at *
    generalize mdOf 54 a b = s at *
    generalize mdOf 56 a b = t at *
    go_enter Try.func5, Try.ntmps5
    go_wp2_with fail
    refine Calls.mono (C1.out _) ?_; rintro e w1 ⟨rfl, hb1⟩
    have HB1 := Lib.hid hb1
    clear hb1
    go_wp2_with fail
    refine Calls.mono (C2.out _) ?_; rintro e w2 ⟨rfl, hb2⟩
    have HB2 : Hid (Below w.heap.size w w2) := HB1.out.trans (hb2.mono HB1.out.size)
    clear hb2
    go_wp2_with fail
    refine Calls.mono (C3.out _) ?_; rintro e w3 ⟨rfl, hb3⟩
    have HB3 : Hid (Below w.heap.size w w3) := HB2.out.trans (hb3.mono HB2.out.size)
    clear hb3
    go_wp2_with fail
    refine Calls.mono (C4.out _) ?_; rintro e w4 ⟨rfl, hb4⟩
    have HB4 : Hid (Below w.heap.size w w4) := HB3.out.trans (hb4.mono HB3.out.size)
    clear hb4
    go_wp2_with fail
    refine (awake8_any _).mono ?_; rintro e w5 ⟨rfl, hb5⟩
    have HB5 : Hid (Below w.heap.size w w5) := HB4.out.trans (hb5.mono HB4.out.size)
    clear hb5
    go_wp2
    go_ret
    exact ⟨rfl, HB5.out⟩
end muldivBack

namespace muldivHalves
theorem first (a b : Nat) (h : 2147483648 ≤ a) : (mdOf 53 a b - b) % 4294967296 = mdOf 52 a b := by
  rw [md53, md52, half_a (a : Int) (b : Int) (by omega)]
theorem first_no (a b : Nat) (ha : a < 4294967296) (hb : b < 4294967296) (h : ¬ 2147483648 ≤ a) : mdOf 53 a b = mdOf 52 a b := by
  rw [md53, md52, show signedOf (a : Int) = a from by unfold signedOf; rw [if_pos (by omega)]]
  obtain ⟨p0, p1⟩ := mul_uu (a : Int) (b : Int) (by omega) (by omega) (by omega) (by omega)
  omega
theorem second (a b : Nat) (ha : a < 4294967296) (h : 2147483648 ≤ b) : (mdOf 52 a b - a) % 4294967296 = mdOf 51 a b := by
  rw [md52, md51, half_b (signedOf a) (b : Int) (by omega)]
  have := signed_mod (a : Int) (by omega) (by omega)
  generalize signedOf (a : Int) * b = p at *
  omega
theorem second_no (a b : Nat) (h : ¬ 2147483648 ≤ b) : mdOf 52 a b = mdOf 51 a b := by
  rw [md51, md52, show signedOf (b : Int) = b from by unfold signedOf; rw [if_pos (by omega)]]

set_option maxRecDepth 100000 in
set_option maxHeartbeats 1000000 in
theorem walk (a1 b1 : Int) (w : World) (w1 : (Lit.int .u32 a1).wf = true) (w2 : (Lit.int .u32 b1).wf = true) :
    Calls Try.prog 6 #[.int .u32 a1, .int .u32 b1] w fun e w' => e = .returned (.bool true) ∧ Below w.heap.size w w' := by
  have x1 := bounds_u32 w1
  have x2 := bounds_u32 w2
  obtain ⟨a, rfl⟩ := Int.eq_ofNat_of_zero_le x1.1
  obtain ⟨b, rfl⟩ := Int.eq_ofNat_of_zero_le x2.1
  have ha : a < 4294967296 := by omega
  have hb : b < 4294967296 := by omega
  clear x1 x2 w1 w2
  have C1 : Hid (∀ W : World, Calls Try.prog 7 #[.int .i64 53, .int .u32 (a : Int), .int .u32 (b : Int)] W fun e w' => e = .returned (.tuple #[.int .u32 (mdOf 53 a b), .int .i64 0]) ∧ w' = W) := fun W => do8_53 a b W ha hb
  have C2 : Hid (∀ W : World, Calls Try.prog 7 #[.int .i64 52, .int .u32 (a : Int), .int .u32 (b : Int)] W fun e w' => e = .returned (.tuple #[.int .u32 (mdOf 52 a b), .int .i64 0]) ∧ w' = W) := fun W => do8_52 a b W ha hb
  have C3 : Hid (∀ W : World, Calls Try.prog 7 #[.int .i64 51, .int .u32 (a : Int), .int .u32 (b : Int)] W fun e w' => e = .returned (.tuple #[.int .u32 (mdOf 51 a b), .int .i64 0]) ∧ w' = W) := fun W => do8_51 a b W ha hb
  by_cases h : 2147483648 ≤ a
  · have k1 := first a b h
    have hA : (2147483648 : Int) ≤ (a : Int) := by omega
    clear h
    by_cases g : 2147483648 ≤ b
    · have k2 := second a b ha g
      have hB : (2147483648 : Int) ≤ (b : Int) := by omega
      clear g ha hb
      generalize mdOf 53 a b = u at *
      generalize mdOf 52 a b = m at *
      generalize mdOf 51 a b = s at *
      generalize (a : Int) = x at *
      generalize (b : Int) = y at *
      go_enter Try.func6, Try.ntmps6
      go_wp2_with fail
      refine Calls.mono (C1.out _) ?_; rintro e w1 ⟨rfl, hw⟩; have hw := hw.symm; subst hw
      go_wp2_with fail
      refine Calls.mono (C2.out _) ?_; rintro e w1 ⟨rfl, hw⟩; have hw := hw.symm; subst hw
      go_wp2_with fail
      refine Calls.mono (C3.out _) ?_; rintro e w1 ⟨rfl, hw⟩; have hw := hw.symm; subst hw
      go_wp2_with fail
      refine (awake8_any _).mono ?_; rintro e w5 ⟨rfl, hb5⟩
      have HB5 := Lib.hid hb5
      clear hb5
      go_wp2
      go_ret
      exact ⟨rfl, HB5.out⟩
    · have k2 := second_no a b g
      have hB : ¬ (2147483648 : Int) ≤ (b : Int) := by omega
      clear g ha hb
      rw [← k2] at C3
      generalize mdOf 53 a b = u at *
      generalize mdOf 52 a b = m at *
      clear k2
      generalize (a : Int) = x at *
      generalize (b : Int) = y at *
      go_enter Try.func6, Try.ntmps6
      go_wp2_with fail
      refine Calls.mono (C1.out _) ?_; rintro e w1 ⟨rfl, hw⟩; have hw := hw.symm; subst hw
      go_wp2_with fail
      refine Calls.mono (C2.out _) ?_; rintro e w1 ⟨rfl, hw⟩; have hw := hw.symm; subst hw
      go_wp2_with fail
      refine Calls.mono (C3.out _) ?_; rintro e w1 ⟨rfl, hw⟩; have hw := hw.symm; subst hw
      go_wp2_with fail
      refine (awake8_any _).mono ?_; rintro e w5 ⟨rfl, hb5⟩
      have HB5 := Lib.hid hb5
      clear hb5
      go_wp2
      go_ret
      exact ⟨rfl, HB5.out⟩
  · have k1 := first_no a b ha hb h
    have hA : ¬ (2147483648 : Int) ≤ (a : Int) := by omega
    clear h
    rw [k1] at C1
    by_cases g : 2147483648 ≤ b
    · have k2 := second a b ha g
      have hB : (2147483648 : Int) ≤ (b : Int) := by omega
      clear g ha hb
      generalize mdOf 52 a b = m at *
      generalize mdOf 51 a b = s at *
      clear k1
      generalize (a : Int) = x at *
      generalize (b : Int) = y at *
      go_enter Try.func6, Try.ntmps6
      go_wp2_with fail
      refine Calls.mono (C1.out _) ?_; rintro e w1 ⟨rfl, hw⟩; have hw := hw.symm; subst hw
      go_wp2_with fail
      refine Calls.mono (C2.out _) ?_; rintro e w1 ⟨rfl, hw⟩; have hw := hw.symm; subst hw
      go_wp2_with fail
      refine Calls.mono (C3.out _) ?_; rintro e w1 ⟨rfl, hw⟩; have hw := hw.symm; subst hw
      go_wp2_with fail
      refine (awake8_any _).mono ?_; rintro e w5 ⟨rfl, hb5⟩
      have HB5 := Lib.hid hb5
      clear hb5
      go_wp2
      go_ret
      exact ⟨rfl, HB5.out⟩
    · have k2 := second_no a b g
      have hB : ¬ (2147483648 : Int) ≤ (b : Int) := by omega
      clear g ha hb
      rw [← k2] at C3
      generalize mdOf 52 a b = m at *
      clear k1 k2
      generalize (a : Int) = x at *
      generalize (b : Int) = y at *
      go_enter Try.func6, Try.ntmps6
      go_wp2_with fail
      refine Calls.mono (C1.out _) ?_; rintro e w1 ⟨rfl, hw⟩; have hw := hw.symm; subst hw
      go_wp2_with fail
      refine Calls.mono (C2.out _) ?_; rintro e w1 ⟨rfl, hw⟩; have hw := hw.symm; subst hw
      go_wp2_with fail
      refine Calls.mono (C3.out _) ?_; rintro e w1 ⟨rfl, hw⟩; have hw := hw.symm; subst hw
      go_wp2_with fail
      refine (awake8_any _).mono ?_; rintro e w5 ⟨rfl, hb5⟩
      have HB5 := Lib.hid hb5
      clear hb5
      go_wp2
      go_ret
      exact ⟨rfl, HB5.out⟩
end muldivHalves
end Go.Proofs.Ytfkghgdlenfcaaa
