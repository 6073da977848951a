/- Layer 3: what mimesisref03's bits and Imm answer. -/
import Derived.Test.YtakomdopeadcjaaDoorDecodeSpec
import Derived.Test.YtakomdopeadcjaaDoorInstRefs
namespace Go.Proofs.YtakomdopeadcjaaDoor
open Go.RowKit
set_option linter.unusedVariables false

set_option maxHeartbeats 400000 in
theorem rb_any (x h l : Int) (w : World) (hx0 : 0 ≤ x) (hx1 : x < 4294967296) (h1 : 0 ≤ l) (h2 : l ≤ h) (h3 : h ≤ 31) :
    Calls Tryd.prog 48 #[.int .u32 x, .int .i64 h, .int .i64 l] w fun e w' => e = .returned (.int .u32 (bitsOf x l (h - l + 1))) ∧ Q w w' := by
  go_enter Tryd.func48, Tryd.ntmps48
  go_wp2_with fail
  refine (rbits_any x l (h - l + 1) _ hx0 hx1 h1 (by omega) (by omega) (by omega)).mono ?_
  rintro e w' ⟨rfl, hq⟩
  go_wp2
  go_ret
  exact ⟨rfl, hq⟩

set_option maxHeartbeats 1600000 in
theorem rimm_any (x f : Int) (w : World) (h0 : 0 ≤ x) (h1 : x < 4294967296) (hf : 0 ≤ f ∧ f < 10) :
    Calls Tryd.prog 47 #[.int .u32 x, .int .i64 f] w fun e w' => e = .returned (.int .u32 (immOf x f)) ∧ Q w w' := by
  have f0 : ∀ w : World, Calls Tryd.prog 48 #[.int .u32 x, .int .i64 31, .int .i64 31] w fun e w' => e = .returned (.int .u32 (bitsOf x 31 1)) ∧ Q w w' := fun w => rb_any x 31 31 w h0 h1 (by omega) (by omega) (by omega)
  have f1 : ∀ w : World, Calls Tryd.prog 48 #[.int .u32 x, .int .i64 19, .int .i64 12] w fun e w' => e = .returned (.int .u32 (bitsOf x 12 8)) ∧ Q w w' := fun w => rb_any x 19 12 w h0 h1 (by omega) (by omega) (by omega)
  have f2 : ∀ w : World, Calls Tryd.prog 48 #[.int .u32 x, .int .i64 20, .int .i64 20] w fun e w' => e = .returned (.int .u32 (bitsOf x 20 1)) ∧ Q w w' := fun w => rb_any x 20 20 w h0 h1 (by omega) (by omega) (by omega)
  have f3 : ∀ w : World, Calls Tryd.prog 48 #[.int .u32 x, .int .i64 30, .int .i64 21] w fun e w' => e = .returned (.int .u32 (bitsOf x 21 10)) ∧ Q w w' := fun w => rb_any x 30 21 w h0 h1 (by omega) (by omega) (by omega)
  have f4 : ∀ w : World, Calls Tryd.prog 48 #[.int .u32 x, .int .i64 7, .int .i64 7] w fun e w' => e = .returned (.int .u32 (bitsOf x 7 1)) ∧ Q w w' := fun w => rb_any x 7 7 w h0 h1 (by omega) (by omega) (by omega)
  have f5 : ∀ w : World, Calls Tryd.prog 48 #[.int .u32 x, .int .i64 30, .int .i64 25] w fun e w' => e = .returned (.int .u32 (bitsOf x 25 6)) ∧ Q w w' := fun w => rb_any x 30 25 w h0 h1 (by omega) (by omega) (by omega)
  have f6 : ∀ w : World, Calls Tryd.prog 48 #[.int .u32 x, .int .i64 11, .int .i64 8] w fun e w' => e = .returned (.int .u32 (bitsOf x 8 4)) ∧ Q w w' := fun w => rb_any x 11 8 w h0 h1 (by omega) (by omega) (by omega)
  have f7 : ∀ w : World, Calls Tryd.prog 48 #[.int .u32 x, .int .i64 11, .int .i64 7] w fun e w' => e = .returned (.int .u32 (bitsOf x 7 5)) ∧ Q w w' := fun w => rb_any x 11 7 w h0 h1 (by omega) (by omega) (by omega)
  have f8 : ∀ w : World, Calls Tryd.prog 48 #[.int .u32 x, .int .i64 24, .int .i64 20] w fun e w' => e = .returned (.int .u32 (bitsOf x 20 5)) ∧ Q w w' := fun w => rb_any x 24 20 w h0 h1 (by omega) (by omega) (by omega)
  have f9 : ∀ w : World, Calls Tryd.prog 48 #[.int .u32 x, .int .i64 19, .int .i64 15] w fun e w' => e = .returned (.int .u32 (bitsOf x 15 5)) ∧ Q w w' := fun w => rb_any x 19 15 w h0 h1 (by omega) (by omega) (by omega)
  have fa : ∀ w : World, Calls Tryd.prog 48 #[.int .u32 x, .int .i64 31, .int .i64 12] w fun e w' => e = .returned (.int .u32 (bitsOf x 12 20)) ∧ Q w w' := fun w => rb_any x 31 12 w h0 h1 (by omega) (by omega) (by omega)
  have fb : ∀ w : World, Calls Tryd.prog 48 #[.int .u32 x, .int .i64 31, .int .i64 20] w fun e w' => e = .returned (.int .u32 (bitsOf x 20 12)) ∧ Q w w' := fun w => rb_any x 31 20 w h0 h1 (by omega) (by omega) (by omega)
  have fc : ∀ w : World, Calls Tryd.prog 48 #[.int .u32 x, .int .i64 31, .int .i64 25] w fun e w' => e = .returned (.int .u32 (bitsOf x 25 7)) ∧ Q w w' := fun w => rb_any x 31 25 w h0 h1 (by omega) (by omega) (by omega)
  have a1 := b1 x 31
  have a2 := b8 x 12
  have a3 := b1 x 20
  have a4 := b10 x 21
  have a5 := b1 x 7
  have a6 := b6 x 25
  have a7 := b4 x 8
  have a8 := b5 x 7
  have a9 : 0 ≤ bitsOf x 12 20 ∧ bitsOf x 12 20 < 1048576 := by rw [bo_12_20]; omega
  have aa := b12 x 20
  have ab := b7 x 25
  rcases form10 hf with rfl | rfl | rfl | rfl | rfl | rfl | rfl | rfl | rfl | rfl
  · go_enter Tryd.func47, Tryd.ntmps47
    go_wp2
    go_ret
    exact ⟨rfl, Q.refl _⟩
  · go_enter Tryd.func47, Tryd.ntmps47
    go_wp2_with fail
    refine (fa _).mono ?_; rintro e w1 ⟨rfl, q1⟩
    go_wp2
    go_ret
    exact ⟨rfl, q1⟩
  · go_enter Tryd.func47, Tryd.ntmps47
    go_wp2_with fail
    refine (f0 _).mono ?_; rintro e w1 ⟨rfl, q1⟩
    go_wp2_with fail
    refine (f1 _).mono ?_; rintro e w2 ⟨rfl, q2⟩
    go_wp2_with fail
    refine (f2 _).mono ?_; rintro e w3 ⟨rfl, q3⟩
    go_wp2_with fail
    refine (f3 _).mono ?_; rintro e w4 ⟨rfl, q4⟩
    go_wp2_with fail
    refine (rextend_any _ 21 _ (by omega) (by omega) (by omega) (by omega)).mono ?_; rintro e w9 ⟨rfl, q9⟩
    go_wp2
    go_ret
    exact ⟨rfl, ((((q1.trans q2).trans q3).trans q4).trans q9)⟩
  · go_enter Tryd.func47, Tryd.ntmps47
    go_wp2_with fail
    refine (fb _).mono ?_; rintro e w1 ⟨rfl, q1⟩
    go_wp2_with fail
    refine (rextend_any _ 12 _ (by omega) (by omega) (by omega) (by omega)).mono ?_; rintro e w9 ⟨rfl, q9⟩
    go_wp2
    go_ret
    exact ⟨rfl, (q1.trans q9)⟩
  · go_enter Tryd.func47, Tryd.ntmps47
    go_wp2_with fail
    refine (f0 _).mono ?_; rintro e w1 ⟨rfl, q1⟩
    go_wp2_with fail
    refine (f4 _).mono ?_; rintro e w2 ⟨rfl, q2⟩
    go_wp2_with fail
    refine (f5 _).mono ?_; rintro e w3 ⟨rfl, q3⟩
    go_wp2_with fail
    refine (f6 _).mono ?_; rintro e w4 ⟨rfl, q4⟩
    go_wp2_with fail
    refine (rextend_any _ 13 _ (by omega) (by omega) (by omega) (by omega)).mono ?_; rintro e w9 ⟨rfl, q9⟩
    go_wp2
    go_ret
    exact ⟨rfl, ((((q1.trans q2).trans q3).trans q4).trans q9)⟩
  · go_enter Tryd.func47, Tryd.ntmps47
    go_wp2_with fail
    refine (fc _).mono ?_; rintro e w1 ⟨rfl, q1⟩
    go_wp2_with fail
    refine (f7 _).mono ?_; rintro e w2 ⟨rfl, q2⟩
    go_wp2_with fail
    refine (rextend_any _ 12 _ (by omega) (by omega) (by omega) (by omega)).mono ?_; rintro e w9 ⟨rfl, q9⟩
    go_wp2
    go_ret
    exact ⟨rfl, ((q1.trans q2).trans q9)⟩
  · go_enter Tryd.func47, Tryd.ntmps47
    go_wp2
    go_ret
    exact ⟨rfl, Q.refl _⟩
  · go_enter Tryd.func47, Tryd.ntmps47
    go_wp2_with fail
    refine (f8 _).mono ?_; rintro e w1 ⟨rfl, q1⟩
    go_wp2
    go_ret
    exact ⟨rfl, q1⟩
  · go_enter Tryd.func47, Tryd.ntmps47
    go_wp2
    go_ret
    exact ⟨rfl, Q.refl _⟩
  · go_enter Tryd.func47, Tryd.ntmps47
    go_wp2_with fail
    refine (f9 _).mono ?_; rintro e w1 ⟨rfl, q1⟩
    go_wp2
    go_ret
    exact ⟨rfl, q1⟩
end Go.Proofs.YtakomdopeadcjaaDoor
