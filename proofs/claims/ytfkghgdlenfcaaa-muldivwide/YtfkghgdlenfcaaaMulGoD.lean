/- Layer 8: what muldiv.Do answers of any instruction, and that the program is awake. -/
import Derived.Test.YtfkghgdlenfcaaaMulDiv
namespace Go.Proofs.Ytfkghgdlenfcaaa
open Go.RowKit
set_option linter.unusedVariables false

set_option maxRecDepth 100000 in
set_option maxHeartbeats 4000000 in
theorem do8_no (op : Int) (a b : Nat) (w : World) (h : ¬ (50 ≤ op ∧ op ≤ 57)) (ha : a < 4294967296) (hb : b < 4294967296) :
    Calls Try.prog 7 #[.int .i64 op, .int .u32 (a : Int), .int .u32 (b : Int)] w fun e w' => e = .returned (.tuple #[.int .u32 0, .int .i64 9]) ∧ w' = w := by
  have N : ∀ k : Int, 50 ≤ k → k ≤ 57 → (op == k) = false := fun k g0 g1 => by rw [beq_eq_false_iff_ne]; omega
  have n0 := N 50 (by omega) (by omega)
  have n1 := N 51 (by omega) (by omega)
  have n2 := N 52 (by omega) (by omega)
  have n3 := N 53 (by omega) (by omega)
  have n4 := N 54 (by omega) (by omega)
  have n5 := N 55 (by omega) (by omega)
  have n6 := N 56 (by omega) (by omega)
  have n7 := N 57 (by omega) (by omega)
  clear N h
  go_enter Try.func7, Try.ntmps7
  go_wp2_with fail
  go_ret2
  exact ⟨rfl, rfl⟩

set_option maxRecDepth 100000 in
set_option maxHeartbeats 4000000 in
theorem do8_50 (a b : Nat) (w : World) (ha : a < 4294967296) (hb : b < 4294967296) :
    Calls Try.prog 7 #[.int .i64 50, .int .u32 (a : Int), .int .u32 (b : Int)] w fun e w' => e = .returned (.tuple #[.int .u32 (mdOf 50 a b), .int .i64 0]) ∧ w' = w := by
  have HE : Hid (mdOf 50 a b = (a : Int) * b % 4294967296) := md50 a b
  go_enter Try.func7, Try.ntmps7
  go_wp2_with fail
  refine (wide8_any a b _ ha hb).mono ?_; rintro e w1 ⟨rfl, hw⟩; have hw := hw.symm; subst hw
  go_wp2_with fail
  go_ret2
  exact ⟨ret_pair HE.out.symm, rfl⟩

set_option maxRecDepth 100000 in
set_option maxHeartbeats 4000000 in
theorem do8_53 (a b : Nat) (w : World) (ha : a < 4294967296) (hb : b < 4294967296) :
    Calls Try.prog 7 #[.int .i64 53, .int .u32 (a : Int), .int .u32 (b : Int)] w fun e w' => e = .returned (.tuple #[.int .u32 (mdOf 53 a b), .int .i64 0]) ∧ w' = w := by
  have HE : Hid (mdOf 53 a b = (a : Int) * b / 4294967296) := md53 a b
  go_enter Try.func7, Try.ntmps7
  go_wp2_with fail
  refine (wide8_any a b _ ha hb).mono ?_; rintro e w1 ⟨rfl, hw⟩; have hw := hw.symm; subst hw
  go_wp2_with fail
  go_ret2
  exact ⟨ret_pair HE.out.symm, rfl⟩

theorem upper_two (p : Int) : p % 18446744073709551616 / 4294967296 = p / 4294967296 % 4294967296 := by omega

/-- The upper half of a signed product, as the program asks for it. -/
theorem uppers8_any (p : Int) (w : World) : Calls Try.prog 13 #[.int .u64 (IntKind.u64.wrap p)] w fun e w' => e = .returned (.int .u32 (p / 4294967296 % 4294967296)) ∧ w' = w := by
  have h := upper8_any (p % 18446744073709551616) w (by omega) (by omega)
  rw [upper_two] at h
  have e : IntKind.u64.wrap p = p % 18446744073709551616 := by first | exact IntKind.wrap_u64 p | rfl | simp [IntKind.wrap, IntKind.signed, IntKind.bits]
  rw [e]
  exact h

set_option maxRecDepth 100000 in
set_option maxHeartbeats 4000000 in
theorem do8_51 (a b : Nat) (w : World) (ha : a < 4294967296) (hb : b < 4294967296) :
    Calls Try.prog 7 #[.int .i64 51, .int .u32 (a : Int), .int .u32 (b : Int)] w fun e w' => e = .returned (.tuple #[.int .u32 (mdOf 51 a b), .int .i64 0]) ∧ w' = w := by
  have HE : Hid (mdOf 51 a b = signedOf a * signedOf b / 4294967296 % 4294967296) := md51 a b
  have ss := mul_ss (a : Int) (b : Int) (by omega) (by omega) (by omega) (by omega)
  have HU : Hid (∀ W : World, Calls Try.prog 13 #[.int .u64 (IntKind.u64.wrap (signedOf a * signedOf b))] W fun e w' => e = .returned (.int .u32 (signedOf a * signedOf b / 4294967296 % 4294967296)) ∧ w' = W) := fun W => uppers8_any _ W
  go_enter Try.func7, Try.ntmps7
  go_wp2_with fail
  refine (signed8_any (a : Int) _ (by omega) (by omega)).mono ?_; rintro e w1 ⟨rfl, hw⟩; have hw := hw.symm; subst hw
  go_wp2_with fail
  refine (signed8_any (b : Int) _ (by omega) (by omega)).mono ?_; rintro e w1 ⟨rfl, hw⟩; have hw := hw.symm; subst hw
  go_wp2_with fail
  refine Calls.mono (HU.out _) ?_; rintro e w1 ⟨rfl, hw⟩; have hw := hw.symm; subst hw
  go_wp2_with fail
  go_ret2
  exact ⟨ret_pair HE.out.symm, rfl⟩

set_option maxRecDepth 100000 in
set_option maxHeartbeats 4000000 in
theorem do8_52 (a b : Nat) (w : World) (ha : a < 4294967296) (hb : b < 4294967296) :
    Calls Try.prog 7 #[.int .i64 52, .int .u32 (a : Int), .int .u32 (b : Int)] w fun e w' => e = .returned (.tuple #[.int .u32 (mdOf 52 a b), .int .i64 0]) ∧ w' = w := by
  have HE : Hid (mdOf 52 a b = signedOf a * b / 4294967296 % 4294967296) := md52 a b
  have su := mul_su (a : Int) (b : Int) (by omega) (by omega) (by omega) (by omega)
  have HU : Hid (∀ W : World, Calls Try.prog 13 #[.int .u64 (IntKind.u64.wrap (signedOf a * b))] W fun e w' => e = .returned (.int .u32 (signedOf a * b / 4294967296 % 4294967296)) ∧ w' = W) := fun W => uppers8_any _ W
  go_enter Try.func7, Try.ntmps7
  go_wp2_with fail
  refine (signed8_any (a : Int) _ (by omega) (by omega)).mono ?_; rintro e w1 ⟨rfl, hw⟩; have hw := hw.symm; subst hw
  go_wp2_with fail
  refine Calls.mono (HU.out _) ?_; rintro e w1 ⟨rfl, hw⟩; have hw := hw.symm; subst hw
  go_wp2_with fail
  go_ret2
  exact ⟨ret_pair HE.out.symm, rfl⟩

/-- divide, whatever is divided by. -/
theorem divide8_any (a b : Nat) (w : World) (ha : a < 4294967296) (hb : b < 4294967296) :
    Calls Try.prog 16 #[.int .u32 (a : Int), .int .u32 (b : Int)] w fun e w' => e = .returned (.tuple #[.int .u32 (mdOf 55 a b), .int .u32 (mdOf 57 a b)]) ∧ Below w.heap.size w w' := by
  rw [md55, md57]
  by_cases hz : b = 0
  · subst hz
    rw [if_pos rfl, if_pos rfl]
    refine (divide8_no a w).mono ?_
    rintro e w' ⟨rfl, rfl⟩
    exact ⟨rfl, Below.refl _ _⟩
  · rw [if_neg hz, if_neg hz]
    refine (divide8_yes (a : Int) (b : Int) w (by omega) (by omega) (by omega) (by omega)).mono ?_
    rintro e w' ⟨rfl, hq⟩
    exact ⟨rfl, hq.below _⟩

theorem divs8_any (a b : Nat) (w : World) (ha : a < 4294967296) (hb : b < 4294967296) :
    Calls Try.prog 15 #[.int .u32 (a : Int), .int .u32 (b : Int)] w fun e w' => e = .returned (.tuple #[.int .u32 (mdOf 54 a b), .int .u32 (mdOf 56 a b)]) ∧ Below w.heap.size w w' := by
  rw [md54, md56]
  by_cases hz : b = 0
  · subst hz
    rw [if_pos rfl, if_pos rfl]
    exact divs8_no a w (by omega) (by omega)
  · rw [if_neg hz, if_neg hz]
    exact divs8_yes (a : Int) (b : Int) w (by omega) (by omega) (by omega) (by omega) (by omega)

set_option maxRecDepth 100000 in
set_option maxHeartbeats 4000000 in
theorem do8_54 (a b : Nat) (w : World) (ha : a < 4294967296) (hb : b < 4294967296) :
    Calls Try.prog 7 #[.int .i64 54, .int .u32 (a : Int), .int .u32 (b : Int)] w fun e w' => e = .returned (.tuple #[.int .u32 (mdOf 54 a b), .int .i64 0]) ∧ Below w.heap.size w w' := by
  have HD : Hid (∀ W : World, Calls Try.prog 15 #[.int .u32 (a : Int), .int .u32 (b : Int)] W fun e w' => e = .returned (.tuple #[.int .u32 (mdOf 54 a b), .int .u32 (mdOf 56 a b)]) ∧ Below W.heap.size W w') := fun W => divs8_any a b W ha hb
  generalize mdOf 54 a b = x at *
  generalize mdOf 56 a b = y at *
  go_enter Try.func7, Try.ntmps7
  go_wp2_with fail
  refine Calls.mono (HD.out _) ?_; rintro e w1 ⟨rfl, hbl⟩
  go_wp2_with fail
  go_ret2
  exact ⟨rfl, hbl⟩

set_option maxRecDepth 100000 in
set_option maxHeartbeats 4000000 in
theorem do8_56 (a b : Nat) (w : World) (ha : a < 4294967296) (hb : b < 4294967296) :
    Calls Try.prog 7 #[.int .i64 56, .int .u32 (a : Int), .int .u32 (b : Int)] w fun e w' => e = .returned (.tuple #[.int .u32 (mdOf 56 a b), .int .i64 0]) ∧ Below w.heap.size w w' := by
  have HD : Hid (∀ W : World, Calls Try.prog 15 #[.int .u32 (a : Int), .int .u32 (b : Int)] W fun e w' => e = .returned (.tuple #[.int .u32 (mdOf 54 a b), .int .u32 (mdOf 56 a b)]) ∧ Below W.heap.size W w') := fun W => divs8_any a b W ha hb
  generalize mdOf 54 a b = x at *
  generalize mdOf 56 a b = y at *
  go_enter Try.func7, Try.ntmps7
  go_wp2_with fail
  refine Calls.mono (HD.out _) ?_; rintro e w1 ⟨rfl, hbl⟩
  go_wp2_with fail
  go_ret2
  exact ⟨rfl, hbl⟩

set_option maxRecDepth 100000 in
set_option maxHeartbeats 4000000 in
theorem do8_55 (a b : Nat) (w : World) (ha : a < 4294967296) (hb : b < 4294967296) :
    Calls Try.prog 7 #[.int .i64 55, .int .u32 (a : Int), .int .u32 (b : Int)] w fun e w' => e = .returned (.tuple #[.int .u32 (mdOf 55 a b), .int .i64 0]) ∧ Below w.heap.size w w' := by
  have HD : Hid (∀ W : World, Calls Try.prog 16 #[.int .u32 (a : Int), .int .u32 (b : Int)] W fun e w' => e = .returned (.tuple #[.int .u32 (mdOf 55 a b), .int .u32 (mdOf 57 a b)]) ∧ Below W.heap.size W w') := fun W => divide8_any a b W ha hb
  generalize mdOf 55 a b = x at *
  generalize mdOf 57 a b = y at *
  go_enter Try.func7, Try.ntmps7
  go_wp2_with fail
  refine Calls.mono (HD.out _) ?_; rintro e w1 ⟨rfl, hbl⟩
  go_wp2_with fail
  go_ret2
  exact ⟨rfl, hbl⟩

set_option maxRecDepth 100000 in
set_option maxHeartbeats 4000000 in
theorem do8_57 (a b : Nat) (w : World) (ha : a < 4294967296) (hb : b < 4294967296) :
    Calls Try.prog 7 #[.int .i64 57, .int .u32 (a : Int), .int .u32 (b : Int)] w fun e w' => e = .returned (.tuple #[.int .u32 (mdOf 57 a b), .int .i64 0]) ∧ Below w.heap.size w w' := by
  have HD : Hid (∀ W : World, Calls Try.prog 16 #[.int .u32 (a : Int), .int .u32 (b : Int)] W fun e w' => e = .returned (.tuple #[.int .u32 (mdOf 55 a b), .int .u32 (mdOf 57 a b)]) ∧ Below W.heap.size W w') := fun W => divide8_any a b W ha hb
  generalize mdOf 55 a b = x at *
  generalize mdOf 57 a b = y at *
  go_enter Try.func7, Try.ntmps7
  go_wp2_with fail
  refine Calls.mono (HD.out _) ?_; rintro e w1 ⟨rfl, hbl⟩
  go_wp2_with fail
  go_ret2
  exact ⟨rfl, hbl⟩

theorem same_below {A : World → Prop} {w w' : World} {p : Prop} (h : p ∧ w' = w) : p ∧ Below w.heap.size w w' := by
  obtain ⟨h, rfl⟩ := h
  exact ⟨h, Below.refl _ _⟩

theorem do8_yes (op : Int) (a b : Nat) (w : World) (h0 : 50 ≤ op) (h1 : op ≤ 57) (ha : a < 4294967296) (hb : b < 4294967296) :
    Calls Try.prog 7 #[.int .i64 op, .int .u32 (a : Int), .int .u32 (b : Int)] w fun e w' => e = .returned (.tuple #[.int .u32 (mdOf op a b), .int .i64 0]) ∧ Below w.heap.size w w' := by
  rcases eight h0 h1 with rfl | rfl | rfl | rfl | rfl | rfl | rfl | rfl
  · exact (do8_50 a b w ha hb).mono fun e w' h => same_below (A := fun _ => True) h
  · exact (do8_51 a b w ha hb).mono fun e w' h => same_below (A := fun _ => True) h
  · exact (do8_52 a b w ha hb).mono fun e w' h => same_below (A := fun _ => True) h
  · exact (do8_53 a b w ha hb).mono fun e w' h => same_below (A := fun _ => True) h
  · exact do8_54 a b w ha hb
  · exact do8_55 a b w ha hb
  · exact do8_56 a b w ha hb
  · exact do8_57 a b w ha hb

set_option maxHeartbeats 1000000 in
theorem awake8_any (w : World) :
    Calls Try.prog 10 #[] w fun e w' => e = .returned (.bool true) ∧ Below w.heap.size w w' := by
  have C1 : Hid (∀ W : World, Calls Try.prog 7 #[.int .i64 54, .int .u32 4294967289, .int .u32 2] W fun e w' => e = .returned (.tuple #[.int .u32 4294967293, .int .i64 0]) ∧ Below W.heap.size W w') := fun W => by
    have g := do8_54 4294967289 2 W (by omega) (by omega); rw [md54, if_neg (by omega)] at g; exact g
  have C2 : Hid (∀ W : World, Calls Try.prog 7 #[.int .i64 56, .int .u32 4294967289, .int .u32 2] W fun e w' => e = .returned (.tuple #[.int .u32 4294967295, .int .i64 0]) ∧ Below W.heap.size W w') := fun W => by
    have g := do8_56 4294967289 2 W (by omega) (by omega); rw [md56, if_neg (by omega)] at g; exact g
  have C3 : Hid (∀ W : World, Calls Try.prog 8 #[.int .i64 57] W fun e w' => e = .returned (.bool true) ∧ w' = W) := fun W => has8_any 57 W
  go_enter Try.func10, Try.ntmps10
  go_wp2_with fail
  refine Calls.mono (C1.out _) ?_; rintro e w1 ⟨rfl, hb1⟩
  have HB1 := Lib.hid hb1
  clear hb1
  go_wp2_with fail
  refine Calls.mono (C2.out _) ?_; rintro e w2 ⟨rfl, hb2⟩
  have HB2 : Hid (Below w.heap.size w w2) := HB1.out.trans (hb2.mono HB1.out.size)
  clear hb2
  go_wp2_with fail
  refine Calls.mono (C3.out _) ?_; rintro e w3 ⟨rfl, hw⟩; have hw := hw.symm; subst hw
  go_wp2
  go_ret
  exact ⟨rfl, HB2.out⟩

end Go.Proofs.Ytfkghgdlenfcaaa
