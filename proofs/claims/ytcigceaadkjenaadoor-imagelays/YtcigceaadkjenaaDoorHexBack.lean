/- The digits of a word, read back. Taken out of WordHexes in round 16. -/
import Derived.Test.YtcigceaadkjenaaDoorB1
namespace Go.Proofs.YtcigceaadkjenaaDoor
open Go.RowKit
set_option linter.unusedVariables false

theorem dig_bd (d : Int) (h0 : 0 ≤ d) (h1 : d < 16) : 0 ≤ hexDig d ∧ hexDig d < 256 := by unfold hexDig; split <;> omega
theorem digVal_dig (d : Int) (h0 : 0 ≤ d) (h1 : d < 16) : digVal (hexDig d) = d := by
  have hn : d = 0 ∨ d = 1 ∨ d = 2 ∨ d = 3 ∨ d = 4 ∨ d = 5 ∨ d = 6 ∨ d = 7 ∨ d = 8 ∨ d = 9 ∨ d = 10 ∨ d = 11 ∨ d = 12 ∨ d = 13 ∨ d = 14 ∨ d = 15 := by omega
  rcases hn with rfl | rfl | rfl | rfl | rfl | rfl | rfl | rfl | rfl | rfl | rfl | rfl | rfl | rfl | rfl | rfl <;> decide

theorem bits4 (x a : Int) : 0 ≤ bitsOf x a 4 ∧ bitsOf x a 4 < 16 := ⟨bitsOf_nn _ _ _, bitsOf_lt x a 4⟩

theorem sign_hex (x : Int) (i : Nat) (h : i < 8) : signAt (strOfNums (hexTo x 8)) i = hexAt x i := by
  have b := bits4 x (28 - 4 * i)
  have d := dig_bd _ b.1 b.2
  unfold signAt strOfNums hexTo
  simp only [List.map_map, List.getElem?_toArray, List.getElem?_map, List.getElem?_range h]
  simp only [Option.map_some, Option.getD_some, Function.comp]
  have e : ((UInt8.ofNat (hexAt x i).toNat).toNat : Int) = hexAt x i := by
    unfold hexAt
    simp
    omega
  exact e

theorem hex_val (x : Int) (h0 : 0 ≤ x) (h1 : x < 4294967296) : valTo (signAt (strOfNums (hexTo x 8))) 8 = x := by
  have s := fun i h => sign_hex x i h
  have v : ∀ i, i < 8 → digVal (signAt (strOfNums (hexTo x 8)) i) = bitsOf x (28 - 4 * i) 4 := fun i h => by
    rw [s i h]; unfold hexAt; have b := bits4 x (28 - 4 * i); exact digVal_dig _ b.1 b.2
  simp only [valTo]
  rw [v 0 (by omega), v 1 (by omega), v 2 (by omega), v 3 (by omega), v 4 (by omega), v 5 (by omega), v 6 (by omega), v 7 (by omega)]
  have p0 : pw 0 = 1 := by decide
  have p4 : pw 4 = 16 := by decide
  have p8 : pw 8 = 256 := by decide
  have p12 : pw 12 = 4096 := by decide
  have p16 : pw 16 = 65536 := by decide
  have p20 : pw 20 = 1048576 := by decide
  have p24 : pw 24 = 16777216 := by decide
  have p28 : pw 28 = 268435456 := by decide
  simp [bitsOf, p0, p4, p8, p12, p16, p20, p24, p28]
  omega

theorem hex_digits (x : Int) (i : Nat) (h : i < 8) : 0 ≤ digVal (signAt (strOfNums (hexTo x 8)) i) := by
  rw [sign_hex x i h]; unfold hexAt; have b := bits4 x (28 - 4 * i); rw [digVal_dig _ b.1 b.2]; exact b.1

end Go.Proofs.YtcigceaadkjenaaDoor
