/- Layer 16 as mathematics: a file as nine numbers (seven kept registers, two offsets), what it is asked in as four; what is read of a register, and the file behind a word. -/
import Derived.Test.YtibhlbggnkobeaaDoorMaskMath
import Derived.Test.YtibhlbggnkobeaaDoorTimMath
namespace Go.Proofs.YtibhlbggnkobeaaDoor
open Go.RowKit
set_option linter.unusedVariables false

/-- What is read of the register at a place. -/
def readC (K E : Nat → Int) : Nat → Int
  | 0 => K 0 | 2 => K 1 | 3 => K 2 | 4 => K 3 | 5 => K 4 | 6 => K 5 | 7 => K 6
  | 8 => E 3
  | 9 => nowZ (K 7) (E 0) % 4294967296 | 13 => nowZ (K 7) (E 0) % 4294967296
  | 10 => nowZ (K 8) (E 1) % 4294967296 | 15 => nowZ (K 8) (E 1) % 4294967296
  | 11 => nowZ (K 7) (E 0) / 4294967296 | 16 => nowZ (K 7) (E 0) / 4294967296
  | 12 => nowZ (K 8) (E 1) / 4294967296 | 18 => nowZ (K 8) (E 1) / 4294967296
  | 14 => E 2 % 4294967296 | 17 => E 2 / 4294967296
  | k => mfix k

/-- The numbers with another one at a place. -/
def upd (K : Nat → Int) (p : Nat) (x : Int) : Nat → Int := fun j => if j = p then x else K j

/-- The file behind a word written to the register at a place. -/
def writeC (K E : Nat → Int) (x : Int) : Nat → (Nat → Int)
  | 0 => upd K 0 (mlegal 0 x) | 2 => upd K 1 (mlegal 2 x) | 3 => upd K 2 (mlegal 3 x) | 4 => upd K 3 (mlegal 4 x)
  | 5 => upd K 4 (mlegal 5 x) | 6 => upd K 5 (mlegal 6 x) | 7 => upd K 6 (mlegal 7 x)
  | 9 => upd K 7 (offZ (lowP (nowZ (K 7) (E 0)) x) (E 0 + 1))
  | 10 => upd K 8 (offZ (lowP (nowZ (K 8) (E 1)) x) (E 1 + 1))
  | 11 => upd K 7 (offZ (highP (nowZ (K 7) (E 0)) x) (E 0 + 1))
  | 12 => upd K 8 (offZ (highP (nowZ (K 8) (E 1)) x) (E 1 + 1))
  | _ => K

/-- The bounds of a file's numbers, and of what it is asked in. -/
def FileB (K : Nat → Int) : Prop := (∀ j, j < 7 → 0 ≤ K j ∧ K j < 4294967296) ∧ ∀ j, 7 ≤ j → j < 9 → 0 ≤ K j ∧ K j < 18446744073709551616
def EnvB (E : Nat → Int) : Prop := (∀ j, j < 3 → 0 ≤ E j ∧ E j < 18446744073709551616) ∧ 0 ≤ E 3 ∧ E 3 < 4294967296

theorem off_next (n k : Int) : (n - (k + 1) % 18446744073709551616) % 18446744073709551616 = offZ n (k + 1) := by unfold offZ; omega

/-- Of a counted register all is kept. -/
theorem mlegal_whole {k : Nat} (h9 : 9 ≤ k) (h12 : k ≤ 12) {x : Int} (x0 : 0 ≤ x) (x1 : x < 4294967296) : mlegal k x = x := by
  have e : mkept k = 4294967295 ∧ mfix k = 0 := by
    have : k = 9 ∨ k = 10 ∨ k = 11 ∨ k = 12 := by omega
    rcases this with rfl | rfl | rfl | rfl <;> exact ⟨rfl, rfl⟩
  unfold mlegal
  rw [e.1, e.2]
  obtain ⟨X, rfl⟩ := Int.eq_ofNat_of_zero_le x0
  have hx : X < 4294967296 := by omega
  rw [show (4294967295 : Int) = ((4294967295 : Nat) : Int) from rfl, show (0 : Int) = ((0 : Nat) : Int) from rfl, u32_and_nat X _ hx (by omega), u32_or_nat _ _ (Nat.lt_of_le_of_lt Nat.and_le_left hx) (by omega), Nat.or_zero,
    show (4294967295 : Nat) = 2 ^ 32 - 1 from by decide, Nat.and_two_pow_sub_one_eq_mod, Nat.mod_eq_of_lt (by omega)]

/-- Two registers' names are one if they are. -/
theorem name_is {k j : Nat} (hk : k < 23) (hj : j < 23) : ((mname k).toList == (mname j).toList) = decide (k = j) := by
  by_cases h : k = j
  · subst h; simp
  · rw [decide_eq_false h, beq_eq_false_iff_ne, ByteArray.toList_eq, ByteArray.toList_eq]
    intro e
    have hne : mname k ≠ mname j := by
      rcases Nat.lt_or_gt_of_ne h with hl | hl
      · exact mname_apart j k hj hl
      · exact fun q => mname_apart k j hk hl q.symm
    apply hne
    generalize mname k = a at *
    generalize mname j = b at *
    obtain ⟨⟨x⟩⟩ := a
    obtain ⟨⟨y⟩⟩ := b
    simpa using e
end Go.Proofs.YtibhlbggnkobeaaDoor
