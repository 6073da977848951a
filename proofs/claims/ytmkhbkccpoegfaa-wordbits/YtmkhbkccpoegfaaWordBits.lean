/- The walk of mimesislaw01.WordBits: it answers true and turns nothing that was there. -/
import Derived.Test.YtmkhbkccpoegfaaAwake
import Derived.OpenShut
namespace Go.Proofs.Ytmkhbkccpoegfaa.wordBits
open Go.RowKit
set_option linter.unusedVariables false

set_option maxHeartbeats 400000 in
theorem walk (a0 a b a2 : Int) (w : World) (w0 : (Lit.int .u32 a0).wf = true) (_ : (Lit.int .i64 a).wf = true) (_ : (Lit.int .i64 b).wf = true) (w2 : (Lit.int .u32 a2).wf = true) :
    Calls Try.prog 3 #[.int .u32 a0, .agg #[.int .i64 a, .int .i64 b], .int .u32 a2] w fun e w' => e = .returned (.bool true) ∧ Below w.heap.size w w' := by
  have x0 := bounds_u32 w0
  have x2 := bounds_u32 w2
  cases hf : fieldB a b with
  | false =>
    go_enter Try.func3, Try.ntmps3
    go_wp2_with fail
    refine (bits_no _ _ _ _ hf).mono ?_
    rintro e w1 ⟨rfl, hw⟩
    subst hw
    go_wp2_with fail
    refine (put_no _ _ _ _ _ hf).mono ?_
    rintro e w1 ⟨rfl, hw⟩
    subst hw
    go_wp2_with fail
    refine (right_any _ _ _).mono ?_
    rintro e w1 ⟨rfl, hw⟩
    subst hw
    go_wp2_with fail
    refine (awake_any _).mono ?_
    rintro e w1 ⟨rfl, hb⟩
    go_wp2
    go_ret
    exact ⟨rfl, ((Below.refl _ _).alloc (Nat.le_refl _) _).trans (hb.mono (by simp))⟩
  | true =>
    obtain ⟨f0, f1, f2, f3⟩ := fieldB_yes hf
    obtain ⟨s, s0, s1, s2⟩ := put_both a0 a b a2 (by omega) (by omega) (by omega) (by omega) f0 f2 f3
    clear s s2
    have e1 := bitsOf_nn a0 a b
    have e2 : bitsOf a0 a b < 4294967296 := Int.lt_of_lt_of_le (bitsOf_lt a0 a b) (by rw [← pw_32]; exact pw_le b 32 (by omega))
    have g1 := put_read a0 a b a2
    have g2 := put_back a0 a b a2
    go_enter Try.func3, Try.ntmps3
    go_wp2_with fail
    refine (bits_yes _ _ _ _ hf (by omega) (by omega)).mono ?_
    rintro e w1 ⟨rfl, k1, rfl⟩
    go_wp2_with fail
    refine (put_yes _ _ _ _ _ hf (by omega) (by omega) (by omega) (by omega)).mono ?_
    rintro e w1 ⟨rfl, k2, rfl⟩
    go_wp2_with fail
    refine (right_any _ _ _).mono ?_
    rintro e w1 ⟨rfl, hw⟩
    subst hw
    go_wp2_with fail
    refine (bits_yes _ _ _ _ hf (by omega) (by omega)).mono ?_
    rintro e w1 ⟨rfl, k3, rfl⟩
    go_wp2_with fail
    refine (put_yes _ _ _ _ _ hf (by omega) (by omega) (by omega) (by omega)).mono ?_
    rintro e w1 ⟨rfl, k4, rfl⟩
    go_wp2_with fail
    refine (rbits_any _ _ _ _ (by omega) (by omega) (by omega) (by omega) (by omega) (by omega)).mono ?_
    rintro e w1 ⟨rfl, k5, rfl⟩
    go_wp2_with fail
    refine (rput_any _ _ _ _ _ (by omega) (by omega) (by omega) (by omega) (by omega) (by omega) (by omega) (by omega)).mono ?_
    rintro e w1 ⟨rfl, k6, rfl⟩
    go_wp2_with fail
    refine (rbits_any _ _ _ _ (by omega) (by omega) (by omega) (by omega) (by omega) (by omega)).mono ?_
    rintro e w1 ⟨rfl, k7, rfl⟩
    go_wp2_with fail
    refine (awake_any _).mono ?_
    rintro e w1 ⟨rfl, hb⟩
    go_wp2
    go_ret
    have hb2 : Below w.heap.size _ w1 := hb.mono (by simp)
    exact ⟨rfl, (below_drewN ((Below.refl w.heap.size w).alloc (Nat.le_refl _) _) _).trans hb2⟩
end Go.Proofs.Ytmkhbkccpoegfaa.wordBits
