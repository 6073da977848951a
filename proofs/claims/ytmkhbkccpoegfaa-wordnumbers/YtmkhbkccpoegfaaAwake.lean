/- The program answers at all: the statements' own first question. -/
import Derived.Test.YtmkhbkccpoegfaaHex
namespace Go.Proofs.Ytmkhbkccpoegfaa
open Go.RowKit
set_option linter.unusedVariables false

theorem awake_bits : bitsOf 305419896 8 8 = 86 := by decide
theorem awake_ext : extOf 4095 12 = 4294967295 := by decide
theorem awake_hex : strOfNums (hexTo 165 8) = ⟨#[48, 48, 48, 48, 48, 48, 97, 53]⟩ := by decide

theorem Q.below {w w' : World} (h : Q w w') (B : Nat) : Below B w w' := by
  obtain ⟨k, rfl⟩ := h
  exact ⟨rfl, rfl, rfl, Nat.le_refl _, fun _ _ => rfl⟩

set_option maxHeartbeats 400000 in
theorem awake_any (w : World) : Calls Try.prog 11 #[] w fun e w' => e = .returned (.bool true) ∧ Below w.heap.size w w' := by
  have hf : fieldB 8 8 = true := by decide
  have h1 := awake_bits
  have h2 := awake_ext
  have h3 := awake_hex
  go_enter Try.func11, Try.ntmps11
  go_wp2_with fail
  refine (bits_yes _ _ _ _ hf (by omega) (by omega)).mono ?_
  rintro e w1 ⟨rfl, hq⟩
  go_wp2_with fail
  refine (extend_yes _ _ _ (by omega) (by omega) (by omega) (by omega)).mono ?_
  rintro e w2 ⟨rfl, hw⟩
  subst hw
  go_wp2_with fail
  refine (hex_any _ _ (by omega) (by omega)).mono ?_
  rintro e w3 ⟨rfl, hb⟩
  go_wp2
  go_ret
  exact ⟨rfl, (hq.below _).trans (hb.mono (by obtain ⟨k, rfl⟩ := hq; exact Nat.le_refl _))⟩
end Go.Proofs.Ytmkhbkccpoegfaa
