/- What word.Hex answers: eight digits, the highest first; it makes memory of its own and turns none that was there. -/
import Derived.Test.YtkbccccjjlkgbaaBase
import Derived.Laws.IdiomStrings
import Derived.Laws.BytesArg
namespace Go.Proofs.Ytkbccccjjlkgbaa
open Go.RowKit
set_option linter.unusedVariables false

/-- The sign of a digit from 0 to 15. -/
def hexDig (d : Int) : Int := if d < 10 then 48 + d else 87 + d
/-- The i-th digit of x, the highest first. -/
def hexAt (x : Int) (i : Nat) : Int := hexDig (bitsOf x (28 - 4 * i) 4)
/-- The first k digits of x. -/
def hexTo (x : Int) (k : Nat) : List Int := (List.range k).map (hexAt x)

theorem hexTo_succ (x : Int) (k : Nat) : hexTo x (k + 1) = hexTo x k ++ [hexAt x k] := by
  unfold hexTo; rw [List.range_succ, List.map_append]; rfl
theorem hexTo_len (x : Int) (k : Nat) : (hexTo x k).length = k := by simp [hexTo]

theorem hexStep (x : Int) (k : Nat) (h0 : 0 ≤ x) (h1 : x < 4294967296) (hk : k < 8) :
    ∃ D : Int, bits .and .u32 (x / 2 ^ (28 - 4 * k)) 15 = D ∧ Hid (D = bitsOf x (28 - 4 * k) 4) ∧ 0 ≤ D ∧ D < 16 := by
  have e : (x / 2 ^ (28 - 4 * k) : Int) = x / pw (28 - 4 * k) := by
    unfold pw; rw [show (28 - 4 * (k : Int)).toNat = 28 - 4 * k from by omega]
  have d := div_pw x (28 - 4 * k) h0 h1
  have a := and_low (x / pw (28 - 4 * k)) 4 d.1 d.2 (by omega) (by omega)
  have p : pw 4 = 16 := by decide
  rw [p] at a
  refine ⟨bitsOf x (28 - 4 * k) 4, ?_, rfl, bitsOf_nn _ _ _, ?_⟩
  · rw [e]; unfold bitsOf; rw [p]; exact a
  · have := bitsOf_lt x (28 - 4 * k) 4; rw [p] at this; exact this

theorem digTab (D : Int) (h0 : 0 ≤ D) (h1 : D < 16) : ∀ h : D.toNat < (ByteArray.mk #[48, 49, 50, 51, 52, 53, 54, 55, 56, 57, 97, 98, 99, 100, 101, 102]).size,
    (((ByteArray.mk #[48, 49, 50, 51, 52, 53, 54, 55, 56, 57, 97, 98, 99, 100, 101, 102])[D.toNat]'h).toNat : Int) = hexDig D := by
  have hn : D = 0 ∨ D = 1 ∨ D = 2 ∨ D = 3 ∨ D = 4 ∨ D = 5 ∨ D = 6 ∨ D = 7 ∨ D = 8 ∨ D = 9 ∨ D = 10 ∨ D = 11 ∨ D = 12 ∨ D = 13 ∨ D = 14 ∨ D = 15 := by omega
  rcases hn with rfl | rfl | rfl | rfl | rfl | rfl | rfl | rfl | rfl | rfl | rfl | rfl | rfl | rfl | rfl | rfl <;> (intro h; rfl)
theorem Try.info5 : (Try.prog.info? 5).map (fun i => (i.zero, i.size, i.bytes)) = some (some (.int .u8 0), 1, 1) := by kernel_rfl

end Go.Proofs.Ytkbccccjjlkgbaa
