/- Layer 11: awake. -/
import Derived.Test.YtidjabmimcajaaaFifoGo2
import Derived.Test.YtidjabmimcajaaaFrame
namespace Go.Proofs.Ytidjabmimcajaaa
open Go.RowKit
set_option linter.unusedVariables false

/-- A new row. -/
theorem fnew_row (w : World) : Calls Try.prog 7 #[] w fun e w' => ∃ B, e = .returned (.pointer (some ⟨B, 0, none⟩)) ∧ w.heap.size ≤ B ∧ (∀ f, IsFifo w' B 0 f) ∧ Below w.heap.size w w' := by
  refine (fnew_any w).mono ?_
  rintro e w' ⟨rfl, rfl⟩
  exact ⟨_, rfl, Nat.le_refl _, fun f => fifo_zero w f, (Below.refl _ w).alloc (Nat.le_refl _) _⟩

set_option maxHeartbeats 800000 in
theorem awake11_any (w : World) :
    Calls Try.prog 6 #[] w fun e w' => e = .returned (.bool true) ∧ Below w.heap.size w w' := by
  have HN := Lib.hid (fnew_row w)
  have H1 : Hid (∀ W B, IsFifo W B 0 (fun _ => 0) → Calls Try.prog 9 #[.pointer (some ⟨B, 0, none⟩), .int .u8 1] W fun e w' => e = .returned (.bool true) ∧ IsFifo w' B 1 (snoc 0 (fun _ => 0) 1) ∧ Bar B W w') := fun W B h => fpush_yes B 0 _ 1 W h (by omega)
  have H2 : Hid (∀ W B f, IsFifo W B 1 f → Calls Try.prog 9 #[.pointer (some ⟨B, 0, none⟩), .int .u8 2] W fun e w' => e = .returned (.bool true) ∧ IsFifo w' B 2 (snoc 1 f 2) ∧ Bar B W w') := fun W B f h => fpush_yes B 1 _ 2 W h (by omega)
  have HP : Hid (∀ W B, IsFifo W B 2 (snoc 1 (snoc 0 (fun _ => 0) 1) 2) → Calls Try.prog 10 #[.pointer (some ⟨B, 0, none⟩)] W fun e w' => e = .returned (.tuple #[.int .u8 1, .bool true]) ∧ IsFifo w' B 1 (fun i => snoc 1 (snoc 0 (fun _ => 0) 1) 2 (i + 1)) ∧ Bar B W w') := fun W B h => fpop_yes B 1 _ W h
  go_enter Try.func6, Try.ntmps6
  go_wp2_with fail
  refine HN.out.mono ?_
  rintro e w1 ⟨B, rfl, hB, hi, hb⟩
  have HI := Lib.hid (hi (fun _ => 0))
  have HB := Lib.hid hb
  have HBB := Lib.hid hB
  clear hi hb hB
  go_wp2_with fail
  refine (H1.out _ _ HI.out).mono ?_
  rintro e w2 ⟨rfl, hi, hbar⟩
  have HI2 := Lib.hid hi
  have HB2 : Hid (Below w.heap.size w w2) := HB.out.trans (hbar.below HBB.out HB.out.size)
  clear hi hbar
  go_wp2_with fail
  refine (H2.out _ _ _ HI2.out).mono ?_
  rintro e w3 ⟨rfl, hi, hbar⟩
  have HI3 := Lib.hid hi
  have HB3 : Hid (Below w.heap.size w w3) := HB2.out.trans (hbar.below HBB.out HB2.out.size)
  clear hi hbar
  go_wp2_with fail
  refine (HP.out _ _ HI3.out).mono ?_
  rintro e w4 ⟨rfl, hi, hbar⟩
  have HI4 := Lib.hid hi
  have HB4 : Hid (Below w.heap.size w w4) := HB3.out.trans (hbar.below HBB.out HB3.out.size)
  clear hi hbar
  go_wp2_with fail
  refine (flen_any _ _ _ _ HI4.out).mono ?_
  rintro e w5 ⟨rfl, hw⟩; have hw := hw.symm; subst hw
  go_wp2
  go_ret
  exact ⟨rfl, HB4.out⟩
end Go.Proofs.Ytidjabmimcajaaa
