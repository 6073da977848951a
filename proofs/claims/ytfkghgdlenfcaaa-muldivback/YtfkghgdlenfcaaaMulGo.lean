/- Layer 8: what muldiv's small functions answer: isBelowNought, negateIf, size, signed, upper, Wide, divide, Has. -/
import Derived.Test.YtfkghgdlenfcaaaBase
import Derived.Test.YtfkghgdlenfcaaaMulMath
namespace Go.Proofs.Ytfkghgdlenfcaaa
open Go.RowKit
set_option linter.unusedVariables false

theorem sgn_wrap (x : Int) (h0 : 0 ≤ x) (h1 : x < 4294967296) : wrap32 x = signedOf x := by
  unfold wrap32 signedOf; split <;> omega

set_option maxHeartbeats 400000 in
theorem nought8_any (a : Int) (w : World) (a0 : 0 ≤ a) (a1 : a < 4294967296) :
    Calls Try.prog 22 #[.int .u32 a] w fun e w' => e = .returned (.bool (negB a)) ∧ w' = w := by
  have ea := sgn_wrap a a0 a1
  have HD : Hid (decide (signedOf a < 0) = negB a) := rfl
  go_enter Try.func22, Try.ntmps22
  go_wp2
  go_ret
  first | exact ⟨ret_bool (HD.out.symm), rfl⟩ | exact ⟨ret_bool (by rw [ea]; rfl), rfl⟩

set_option maxHeartbeats 400000 in
theorem negif8_any (t : Bool) (x : Int) (w : World) (a0 : 0 ≤ x) (a1 : x < 4294967296) :
    Calls Try.prog 21 #[.bool t, .int .u32 x] w fun e w' => e = .returned (.int .u32 (negI t x)) ∧ w' = w := by
  cases t
  · go_enter Try.func21, Try.ntmps21
    go_wp2
    go_ret
    exact ⟨ret_int rfl, rfl⟩
  · go_enter Try.func21, Try.ntmps21
    go_wp2
    go_ret
    exact ⟨ret_int (by unfold negI; rw [if_pos rfl]), rfl⟩

set_option maxHeartbeats 400000 in
theorem size8_any (a : Int) (w : World) (a0 : 0 ≤ a) (a1 : a < 4294967296) :
    Calls Try.prog 23 #[.int .u32 a] w fun e w' => e = .returned (.int .u32 (sizeW a)) ∧ w' = w := by
  go_enter Try.func23, Try.ntmps23
  go_wp2_with fail
  refine (nought8_any a _ a0 a1).mono ?_; rintro e w1 ⟨rfl, hw⟩; have hw := hw.symm; subst hw
  go_wp2_with fail
  refine (negif8_any _ a _ a0 a1).mono ?_; rintro e w1 ⟨rfl, hw⟩; have hw := hw.symm; subst hw
  go_wp2
  go_ret
  exact ⟨ret_int rfl, rfl⟩

set_option maxHeartbeats 400000 in
theorem signed8_any (a : Int) (w : World) (a0 : 0 ≤ a) (a1 : a < 4294967296) :
    Calls Try.prog 14 #[.int .u32 a] w fun e w' => e = .returned (.int .i64 (signedOf a)) ∧ w' = w := by
  have HV : Hid _ := signed_val a a0 a1
  go_enter Try.func14, Try.ntmps14
  go_wp2
  go_ret
  exact ⟨ret_int HV.out, rfl⟩

set_option maxHeartbeats 400000 in
theorem upper8_any (p : Int) (w : World) (a0 : 0 ≤ p) (a1 : p < 18446744073709551616) :
    Calls Try.prog 13 #[.int .u64 p] w fun e w' => e = .returned (.int .u32 (p / 4294967296)) ∧ w' = w := by
  go_enter Try.func13, Try.ntmps13
  go_wp2
  go_ret
  exact ⟨ret_int (by first | rfl | omega | (simp; omega)), rfl⟩

theorem ret_two {k j : IntKind} {a b c d : Int} (h : a = b) (g : c = d) : Ending.returned (.tuple #[.int k a, .int j c]) = .returned (.tuple #[.int k b, .int j d]) := by rw [h, g]

set_option maxHeartbeats 400000 in
theorem wide8_any (a b : Nat) (w : World) (ha : a < 4294967296) (hb : b < 4294967296) :
    Calls Try.prog 12 #[.int .u32 (a : Int), .int .u32 (b : Int)] w fun e w' => e = .returned (.tuple #[.int .u32 ((a : Int) * b / 4294967296), .int .u32 ((a : Int) * b % 4294967296)]) ∧ w' = w := by
  obtain ⟨p0, p1⟩ := mul_uu (a : Int) (b : Int) (by omega) (by omega) (by omega) (by omega)
  go_enter Try.func12, Try.ntmps12
  go_wp2_with fail
  refine (upper8_any _ _ ?_ ?_).mono ?_
  · first | exact p0 | (simp; omega) | omega
  · first | exact p1 | (simp; omega) | omega
  rintro e w1 ⟨rfl, hw⟩; have hw := hw.symm; subst hw
  go_wp2
  go_ret2
  exact ⟨ret_two (by first | rfl | omega) (by first | rfl | omega), rfl⟩

set_option maxHeartbeats 400000 in
theorem divide8_no (a : Int) (w : World) :
    Calls Try.prog 16 #[.int .u32 a, .int .u32 0] w fun e w' => e = .returned (.tuple #[.int .u32 4294967295, .int .u32 a]) ∧ w' = w := by
  go_enter Try.func16, Try.ntmps16
  go_wp2
  go_ret2
  exact ⟨rfl, rfl⟩

theorem div_bd (a b : Int) (a0 : 0 ≤ a) (a1 : a < 4294967296) (b0 : 0 < b) (b1 : b < 4294967296) : (0 ≤ a / b ∧ a / b < 4294967296) ∧ 0 ≤ a % b ∧ a % b < 4294967296 := by
  have h1 := Int.ediv_nonneg a0 (show 0 ≤ b by omega)
  have h2 := Int.ediv_le_self b a0
  have h3 := Int.emod_nonneg a (show b ≠ 0 by omega)
  have h4 := Int.emod_lt_of_pos a b0
  exact ⟨⟨h1, by omega⟩, h3, by omega⟩

set_option maxHeartbeats 400000 in
theorem divide8_yes (a b : Int) (w : World) (a0 : 0 ≤ a) (a1 : a < 4294967296) (b0 : 0 < b) (b1 : b < 4294967296) :
    Calls Try.prog 16 #[.int .u32 a, .int .u32 b] w fun e w' => e = .returned (.tuple #[.int .u32 (a / b), .int .u32 (a % b)]) ∧ Q w w' := by
  obtain ⟨⟨q0, q1⟩, r0, r1⟩ := div_bd a b a0 a1 b0 b1
  have hb : ¬ b = 0 := by omega
  have hb' : (b == 0) = false := by rw [beq_eq_false_iff_ne]; omega
  go_enter Try.func16, Try.ntmps16
  go_wp2
  go_quiet (fail)
  go_wp2
  go_ret2
  exact ⟨ret_two (by first | rfl | omega) (by first | rfl | omega), _, rfl⟩

set_option maxHeartbeats 1000000 in
theorem has8_any (op : Int) (w : World) :
    Calls Try.prog 8 #[.int .i64 op] w fun e w' => e = .returned (.bool (decide (50 ≤ op ∧ op ≤ 57))) ∧ w' = w := by
  by_cases h : 50 ≤ op ∧ op ≤ 57
  · have e : decide (50 ≤ op ∧ op ≤ 57) = true := by simp [h]
    rw [e]; clear e
    obtain ⟨h0, h1⟩ := h
    rcases eight h0 h1 with rfl | rfl | rfl | rfl | rfl | rfl | rfl | rfl
    all_goals
      clear h0 h1
      go_enter Try.func8, Try.ntmps8
      go_wp2
      go_ret
      exact ⟨rfl, rfl⟩
  · have e : decide (50 ≤ op ∧ op ≤ 57) = false := by simp [h]
    rw [e]; clear e
    have N : ∀ k : Int, 50 ≤ k → k ≤ 57 → (op == k) = false := fun k g0 g1 => by rw [beq_eq_false_iff_ne]; omega
    have n0 := N 50 (by omega) (by omega)
    have n1 := N 51 (by omega) (by omega)
    have n2 := N 52 (by omega) (by omega)
    have n3 := N 53 (by omega) (by omega)
    have n4 := N 54 (by omega) (by omega)
    have n5 := N 55 (by omega) (by omega)
    have n6 := N 56 (by omega) (by omega)
    have n7 := N 57 (by omega) (by omega)
    clear N h
    go_enter Try.func8, Try.ntmps8
    go_wp2
    go_ret
    exact ⟨rfl, rfl⟩

theorem put_end (A : Nat) (w : World) (x y : Value) {x0 y0 : Value} (cq : w.cell? ⟨A + 2, 0, none⟩ = some x0) (cr : w.cell? ⟨A + 3, 0, none⟩ = some y0) :
    (((w.setCell ⟨A + 2, 0, none⟩ x).setCell ⟨A + 3, 0, none⟩ y).drew.drew).cell? ⟨A + 2, 0, none⟩ = some x ∧ (((w.setCell ⟨A + 2, 0, none⟩ x).setCell ⟨A + 3, 0, none⟩ y).drew.drew).cell? ⟨A + 3, 0, none⟩ = some y ∧ Below A w (((w.setCell ⟨A + 2, 0, none⟩ x).setCell ⟨A + 3, 0, none⟩ y).drew.drew) := by
  refine ⟨?_, ?_, (((Below.refl _ _).setCell (by simp) _).setCell (by simp) _).drew.drew⟩
  · exact (World.cell?_setCell_other _ _ _ _ (by simp)).trans (World.cell?_setCell_same _ _ _ cq)
  · exact World.cell?_setCell_same _ _ _ ((World.cell?_setCell_other _ _ _ _ (by simp)).trans cr)

end Go.Proofs.Ytfkghgdlenfcaaa
