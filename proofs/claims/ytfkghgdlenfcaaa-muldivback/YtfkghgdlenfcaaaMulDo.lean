/- Layer 8: what the document's Do answers. -/
import Derived.Test.YtfkghgdlenfcaaaMulRef
import Derived.Lib.Hide
namespace Go.Proofs.Ytfkghgdlenfcaaa
open Go.RowKit
set_option linter.unusedVariables false

theorem tdiv_lo (x y : Int) (h0 : -2147483648 ≤ x) (h1 : x < 2147483648) : -2147483648 ≤ x.tdiv y ∧ x.tdiv y ≤ 2147483648 := by
  have h : (x.tdiv y).natAbs ≤ x.natAbs := by rw [Int.natAbs_tdiv]; exact Nat.div_le_self _ _
  omega
theorem tmod_lo (x y : Int) (h0 : -2147483648 ≤ x) (h1 : x < 2147483648) : -2147483648 ≤ x.tmod y ∧ x.tmod y ≤ 2147483648 := by
  have h : (x.tmod y).natAbs ≤ x.natAbs := by rw [Int.natAbs_tmod]; exact Nat.mod_le _ _
  omega

set_option maxRecDepth 100000 in
set_option maxHeartbeats 4000000 in
theorem rdo8_any (op : Int) (a b : Nat) (w : World) (h0 : 50 ≤ op) (h1 : op ≤ 57) (ha : a < 4294967296) (hb : b < 4294967296) :
    Calls Try.prog 11 #[.int .i64 op, .int .u32 (a : Int), .int .u32 (b : Int)] w fun e w' => e = .returned (.int .u32 (mdOf op a b)) ∧ w' = w := by
  have HS : Hid (∀ W : World, Calls Try.prog 17 #[.int .u32 (a : Int)] W fun e w' => e = .returned (.int .i64 (signedOf a)) ∧ w' = W) := fun W => rsigned_any a W (by omega) (by omega)
  have HT : Hid (∀ W : World, Calls Try.prog 17 #[.int .u32 (b : Int)] W fun e w' => e = .returned (.int .i64 (signedOf b)) ∧ w' = W) := fun W => rsigned_any b W (by omega) (by omega)
  have hx := sgn_lo (a : Int) (by omega) (by omega)
  have hy := sgn_lo (b : Int) (by omega) (by omega)
  have uu := mul_uu (a : Int) (b : Int) (by omega) (by omega) (by omega) (by omega)
  have ss := mul_ss (a : Int) (b : Int) (by omega) (by omega) (by omega) (by omega)
  have su := mul_su (a : Int) (b : Int) (by omega) (by omega) (by omega) (by omega)
  rcases eight h0 h1 with rfl | rfl | rfl | rfl | rfl | rfl | rfl | rfl
  · have HE : Hid (mdOf 50 a b = (a : Int) * b % 4294967296) := md50 a b
    clear h0 h1 hx hy ss su
    go_enter Try.func11, Try.ntmps11
    go_wp2_with fail
    refine Calls.mono (HS.out _) ?_; rintro e w1 ⟨rfl, hw⟩; have hw := hw.symm; subst hw
    go_wp2_with fail
    refine Calls.mono (HT.out _) ?_; rintro e w1 ⟨rfl, hw⟩; have hw := hw.symm; subst hw
    go_wp2
    go_ret
    refine ⟨ret_int ?_, rfl⟩
    rw [HE.out]; try omega
  · have HE : Hid (mdOf 51 a b = signedOf a * signedOf b / 4294967296 % 4294967296) := md51 a b
    have HH : Hid (∀ W : World, Calls Try.prog 18 #[.int .i64 (signedOf a * signedOf b)] W fun e w' => e = .returned (.int .u32 (signedOf a * signedOf b / 4294967296 % 4294967296)) ∧ w' = W) := fun W => rhigh8_any _ W (by omega) (by omega)
    clear h0 h1 hx hy uu su
    go_enter Try.func11, Try.ntmps11
    go_wp2_with fail
    refine Calls.mono (HS.out _) ?_; rintro e w1 ⟨rfl, hw⟩; have hw := hw.symm; subst hw
    go_wp2_with fail
    refine Calls.mono (HT.out _) ?_; rintro e w1 ⟨rfl, hw⟩; have hw := hw.symm; subst hw
    go_wp2_with fail
    refine Calls.mono (HH.out _) ?_; rintro e w1 ⟨rfl, hw⟩; have hw := hw.symm; subst hw
    go_wp2
    go_ret
    exact ⟨ret_int HE.out.symm, rfl⟩
  · have HE : Hid (mdOf 52 a b = signedOf a * b / 4294967296 % 4294967296) := md52 a b
    have HH : Hid (∀ W : World, Calls Try.prog 18 #[.int .i64 (signedOf a * b)] W fun e w' => e = .returned (.int .u32 (signedOf a * b / 4294967296 % 4294967296)) ∧ w' = W) := fun W => rhigh8_any _ W (by omega) (by omega)
    clear h0 h1 hx hy uu ss
    go_enter Try.func11, Try.ntmps11
    go_wp2_with fail
    refine Calls.mono (HS.out _) ?_; rintro e w1 ⟨rfl, hw⟩; have hw := hw.symm; subst hw
    go_wp2_with fail
    refine Calls.mono (HT.out _) ?_; rintro e w1 ⟨rfl, hw⟩; have hw := hw.symm; subst hw
    go_wp2_with fail
    refine Calls.mono (HH.out _) ?_; rintro e w1 ⟨rfl, hw⟩; have hw := hw.symm; subst hw
    go_wp2
    go_ret
    exact ⟨ret_int HE.out.symm, rfl⟩
  · have HE : Hid (mdOf 53 a b = (a : Int) * b / 4294967296) := md53 a b
    clear h0 h1 hx hy ss su
    go_enter Try.func11, Try.ntmps11
    go_wp2_with fail
    refine Calls.mono (HS.out _) ?_; rintro e w1 ⟨rfl, hw⟩; have hw := hw.symm; subst hw
    go_wp2_with fail
    refine Calls.mono (HT.out _) ?_; rintro e w1 ⟨rfl, hw⟩; have hw := hw.symm; subst hw
    go_wp2
    go_ret
    refine ⟨ret_int ?_, rfl⟩
    rw [HE.out]; try omega
  · by_cases hz : b = 0
    · subst hz
      have HE : Hid (mdOf 54 a 0 = 4294967295) := md54 a 0
      clear h0 h1 hx hy uu ss su
      go_enter Try.func11, Try.ntmps11
      go_wp2_with fail
      refine Calls.mono (HS.out _) ?_; rintro e w1 ⟨rfl, hw⟩; have hw := hw.symm; subst hw
      go_wp2_with fail
      refine Calls.mono (HT.out _) ?_; rintro e w1 ⟨rfl, hw⟩; have hw := hw.symm; subst hw
      go_wp2
      go_ret
      exact ⟨ret_int HE.out.symm, rfl⟩
    · have HE : Hid (mdOf 54 a b = (signedOf a).tdiv (signedOf b) % 4294967296) := by show _ = _; rw [md54, if_neg hz]
      have hz' : ((b : Int) == 0) = false := by rw [beq_eq_false_iff_ne]; omega
      have hn : ¬ signedOf (b : Int) = 0 := by unfold signedOf; split <;> omega
      obtain ⟨t0, t1⟩ := tdiv_lo (signedOf a) (signedOf b) hx.1 hx.2
      generalize hq : (signedOf a).tdiv (signedOf b) = q at *
      have HW : Hid (∀ W : World, Calls Try.prog 19 #[.int .i64 q] W fun e w' => e = .returned (.int .u32 (q % 4294967296)) ∧ w' = W) := fun W => rword1_any q W (by omega) (by omega)
      clear h0 h1 hy uu ss su
      go_enter Try.func11, Try.ntmps11
      go_wp2_with fail
      refine Calls.mono (HS.out _) ?_; rintro e w1 ⟨rfl, hw⟩; have hw := hw.symm; subst hw
      go_wp2_with fail
      refine Calls.mono (HT.out _) ?_; rintro e w1 ⟨rfl, hw⟩; have hw := hw.symm; subst hw
      go_wp2_with fail
      refine Calls.mono (HW.out _) ?_; rintro e w1 ⟨rfl, hw⟩; have hw := hw.symm; subst hw
      go_wp2
      go_ret
      exact ⟨ret_int HE.out.symm, rfl⟩
  · by_cases hz : b = 0
    · subst hz
      have HE : Hid (mdOf 55 a 0 = 4294967295) := md55 a 0
      clear h0 h1 hx hy uu ss su
      go_enter Try.func11, Try.ntmps11
      go_wp2_with fail
      refine Calls.mono (HS.out _) ?_; rintro e w1 ⟨rfl, hw⟩; have hw := hw.symm; subst hw
      go_wp2_with fail
      refine Calls.mono (HT.out _) ?_; rintro e w1 ⟨rfl, hw⟩; have hw := hw.symm; subst hw
      go_wp2
      go_ret
      exact ⟨ret_int HE.out.symm, rfl⟩
    · have HE : Hid (mdOf 55 a b = (a : Int) / b) := by show _ = _; rw [md55, if_neg hz]
      have hz' : ((b : Int) == 0) = false := by rw [beq_eq_false_iff_ne]; omega
      have hn : ¬ (b : Int) = 0 := by omega
      have q0 := Int.ediv_nonneg (show (0 : Int) ≤ a by omega) (show (0 : Int) ≤ b by omega)
      have q1 := Int.ediv_le_self (b : Int) (show (0 : Int) ≤ a by omega)
      clear h0 h1 hx hy uu ss su
      go_enter Try.func11, Try.ntmps11
      go_wp2_with fail
      refine Calls.mono (HS.out _) ?_; rintro e w1 ⟨rfl, hw⟩; have hw := hw.symm; subst hw
      go_wp2_with fail
      refine Calls.mono (HT.out _) ?_; rintro e w1 ⟨rfl, hw⟩; have hw := hw.symm; subst hw
      go_wp2
      go_ret
      refine ⟨ret_int ?_, rfl⟩
      rw [HE.out]; try omega
  · by_cases hz : b = 0
    · subst hz
      have HE : Hid (mdOf 56 a 0 = a) := md56 a 0
      clear h0 h1 hx hy uu ss su
      go_enter Try.func11, Try.ntmps11
      go_wp2_with fail
      refine Calls.mono (HS.out _) ?_; rintro e w1 ⟨rfl, hw⟩; have hw := hw.symm; subst hw
      go_wp2_with fail
      refine Calls.mono (HT.out _) ?_; rintro e w1 ⟨rfl, hw⟩; have hw := hw.symm; subst hw
      go_wp2
      go_ret
      exact ⟨ret_int HE.out.symm, rfl⟩
    · have HE : Hid (mdOf 56 a b = (signedOf a).tmod (signedOf b) % 4294967296) := by show _ = _; rw [md56, if_neg hz]
      have hz' : ((b : Int) == 0) = false := by rw [beq_eq_false_iff_ne]; omega
      have hn : ¬ signedOf (b : Int) = 0 := by unfold signedOf; split <;> omega
      obtain ⟨t0, t1⟩ := tmod_lo (signedOf a) (signedOf b) hx.1 hx.2
      generalize hq : (signedOf a).tmod (signedOf b) = q at *
      have HW : Hid (∀ W : World, Calls Try.prog 19 #[.int .i64 q] W fun e w' => e = .returned (.int .u32 (q % 4294967296)) ∧ w' = W) := fun W => rword1_any q W (by omega) (by omega)
      clear h0 h1 hy uu ss su
      go_enter Try.func11, Try.ntmps11
      go_wp2_with fail
      refine Calls.mono (HS.out _) ?_; rintro e w1 ⟨rfl, hw⟩; have hw := hw.symm; subst hw
      go_wp2_with fail
      refine Calls.mono (HT.out _) ?_; rintro e w1 ⟨rfl, hw⟩; have hw := hw.symm; subst hw
      go_wp2_with fail
      refine Calls.mono (HW.out _) ?_; rintro e w1 ⟨rfl, hw⟩; have hw := hw.symm; subst hw
      go_wp2
      go_ret
      exact ⟨ret_int HE.out.symm, rfl⟩
  · by_cases hz : b = 0
    · subst hz
      have HE : Hid (mdOf 57 a 0 = a) := md57 a 0
      clear h0 h1 hx hy uu ss su
      go_enter Try.func11, Try.ntmps11
      go_wp2_with fail
      refine Calls.mono (HS.out _) ?_; rintro e w1 ⟨rfl, hw⟩; have hw := hw.symm; subst hw
      go_wp2_with fail
      refine Calls.mono (HT.out _) ?_; rintro e w1 ⟨rfl, hw⟩; have hw := hw.symm; subst hw
      go_wp2
      go_ret
      exact ⟨ret_int HE.out.symm, rfl⟩
    · have HE : Hid (mdOf 57 a b = (a : Int) % b) := by show _ = _; rw [md57, if_neg hz]
      have hz' : ((b : Int) == 0) = false := by rw [beq_eq_false_iff_ne]; omega
      have hn : ¬ (b : Int) = 0 := by omega
      have q0 := Int.emod_nonneg (a : Int) (show (b : Int) ≠ 0 by omega)
      have q1 := Int.emod_lt_of_pos (a : Int) (show (0 : Int) < b by omega)
      clear h0 h1 hx hy uu ss su
      go_enter Try.func11, Try.ntmps11
      go_wp2_with fail
      refine Calls.mono (HS.out _) ?_; rintro e w1 ⟨rfl, hw⟩; have hw := hw.symm; subst hw
      go_wp2_with fail
      refine Calls.mono (HT.out _) ?_; rintro e w1 ⟨rfl, hw⟩; have hw := hw.symm; subst hw
      go_wp2
      go_ret
      refine ⟨ret_int ?_, rfl⟩
      rw [HE.out]; try omega

end Go.Proofs.Ytfkghgdlenfcaaa
