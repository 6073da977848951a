/- Layer 3: what putRegisters writes; what Decode answers of any word. -/
import Derived.Test.YtakomdopeadcjaaDoorDecOp
import Derived.Test.YtakomdopeadcjaaDoorDecImm
import Derived.Test.YtakomdopeadcjaaDoorFrame
namespace Go.Proofs.YtakomdopeadcjaaDoor
open Go.RowKit
set_option linter.unusedVariables false

set_option maxHeartbeats 1600000 in
theorem dput_any (x f : Int) (c0 c4 c5 : Value) (V : World) (B : Nat) (hB : V.heap.size = B) (h0 : 0 ≤ x) (h1 : x < 4294967296) (hf : 0 ≤ f ∧ f < 10) :
    Calls Tryd.prog 50 #[.pointer (some ⟨B, 0, none⟩), .int .u32 x, .int .i64 f] (V.alloc (.cells #[c0, .int .i64 0, .int .i64 0, .int .i64 0, c4, c5] 27)) fun e w' =>
      e = .returned (.tuple #[]) ∧ w' = V.alloc (.cells #[c0, .int .i64 (fldRd x f), .int .i64 (fldRs1 x f), .int .i64 (fldRs2 x f), c4, c5] 27) := by
  subst hB
  have f1 : ∀ w : World, Calls Tryd.prog 65 #[.int .u32 x, .int .i64 11, .int .i64 7] w fun e w' => e = .returned (.int .u32 (bitsOf x 7 5)) ∧ w' = w := fun w => dfield_any x 11 7 w h0 h1 (by omega) (by omega) (by omega)
  have f2 : ∀ w : World, Calls Tryd.prog 65 #[.int .u32 x, .int .i64 19, .int .i64 15] w fun e w' => e = .returned (.int .u32 (bitsOf x 15 5)) ∧ w' = w := fun w => dfield_any x 19 15 w h0 h1 (by omega) (by omega) (by omega)
  have f3 : ∀ w : World, Calls Tryd.prog 65 #[.int .u32 x, .int .i64 24, .int .i64 20] w fun e w' => e = .returned (.int .u32 (bitsOf x 20 5)) ∧ w' = w := fun w => dfield_any x 24 20 w h0 h1 (by omega) (by omega) (by omega)
  have d1 := b5 x 7
  have d2 := b5 x 15
  have d3 := b5 x 20
  rcases form10 hf with rfl | rfl | rfl | rfl | rfl | rfl | rfl | rfl | rfl | rfl
  all_goals
    go_enter Tryd.func50, Tryd.ntmps50
    go_wp2_with fail
    refine (f1 _).mono ?_; rintro e w' ⟨rfl, hw⟩; subst hw
    go_wp2_with fail
    refine (f2 _).mono ?_; rintro e w' ⟨rfl, hw⟩; subst hw
    go_wp2_with fail
    refine (f3 _).mono ?_; rintro e w' ⟨rfl, hw⟩; subst hw
    go_wp2
    go_end0
    exact ⟨rfl, rfl⟩

set_option maxHeartbeats 1600000 in
theorem decode_any (x : Int) (w : World) (h0 : 0 ≤ x) (h1 : x < 4294967296) (tf : FormTab w) (tm : MatchTab w) :
    Calls Tryd.prog 26 #[.int .u32 x] w fun e w' => e = .returned (insV x) ∧ Below w.heap.size w w' := by
  have HF : Hid (FormTab w) := tf
  have HM : Hid (MatchTab w) := tm
  clear tf tm
  have hl := kind_lt x
  have hz := formZ_lt (kindOf x) hl
  have b1 : Below w.heap.size w (w.alloc (.cells #[.int .i64 0, .int .i64 0, .int .i64 0, .int .i64 0, .int .u32 0, .int .i64 0] 27)) := (Below.refl _ _).alloc (Nat.le_refl _) _
  go_enter Tryd.func26, Tryd.ntmps26
  go_wp2_with fail
  refine (opOf_any x _ h0 h1 (MatchTab.below HM.out b1)).mono ?_
  rintro e w' ⟨rfl, hw⟩; subst hw
  go_wp2_with fail
  refine (form_yes (kindOf x) hl _ (FormTab.below (FormTab.below HF.out b1) ((Below.refl _ _).alloc (Nat.le_refl _) _))).mono ?_
  rintro e w' ⟨rfl, hw⟩; subst hw
  go_wp2_with fail
  refine (dput_any x (formZ (kindOf x)) (.int .i64 (kindOf x)) (.int .u32 0) (.int .i64 0) _ (w.heap.size + 1) (by simp) h0 h1 hz).mono ?_
  rintro e w' ⟨rfl, hw⟩; subst hw
  go_wp2_with fail
  refine (dimm_any x (formZ (kindOf x)) _ h0 h1 hz).mono ?_
  rintro e w' ⟨rfl, hw⟩; subst hw
  go_wp2_with fail
  refine (dcsr_any x (formZ (kindOf x)) _ h0 h1 hz).mono ?_
  rintro e w' ⟨rfl, hw⟩; subst hw
  go_wp2
  refine bodyPost_ret (v := insV x) (by simp [results, Tryd.results26, go_sem, insV]) rfl ⟨rfl, ((Below.refl _ _).alloc (Nat.le_refl _) _).alloc (by simp) _⟩
end Go.Proofs.YtakomdopeadcjaaDoor
