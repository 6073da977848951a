/- What the small functions of layer 1 do, call by call: isField, lowest, Power, Right. -/
import Derived.Test.YtibhlbggnkobeaaDoorRows
import Derived.Test.YtibhlbggnkobeaaDoorMath
import Derived.WalkKit
import Derived.WalkSpells
import Derived.WalkLawsBesides
import Derived.BigQuiet
import Derived.Deep.QuietTactic
import Derived.Laws.IdiomStrings
import Derived.Laws.BytesArg
namespace Go.Proofs.YtibhlbggnkobeaaDoor
open Go.RowKit
set_option linter.unusedVariables false

theorem ret_int {k : IntKind} {a b : Int} (h : a = b) : Ending.returned (.int k a) = .returned (.int k b) := by rw [h]

theorem ret_bool {a b : Bool} (h : b = a) : Ending.returned (.bool a) = .returned (.bool b) := by rw [h]

theorem ret_pair {k j : IntKind} {a b c : Int} (h : a = b) : Ending.returned (.tuple #[.int k a, .int j c]) = .returned (.tuple #[.int k b, .int j c]) := by rw [h]

/-- The world is as it was but for a count of draws. -/
def Q (w w' : World) : Prop := ∃ k, w' = w.drewN k
theorem Q.refl (w : World) : Q w w := ⟨0, rfl⟩
theorem Q.drewN {w w' : World} (h : Q w w') (n : Nat) : Q w (w'.drewN n) := by
  obtain ⟨k, rfl⟩ := h
  exact ⟨k + n, by simp⟩
theorem Q.trans {a b c : World} (h : Q a b) (g : Q b c) : Q a c := by
  obtain ⟨k, rfl⟩ := g; exact h.drewN k
theorem Q.below {w w' : World} (h : Q w w') (B : Nat) : Below B w w' := by
  obtain ⟨k, rfl⟩ := h
  exact ⟨rfl, rfl, rfl, Nat.le_refl _, fun _ _ => rfl⟩

/-- Whoever owns something is no nil. -/
theorem owned_some {w : World} {B s n : Nat} {e : TypeId} {v : Value} {xs : List Value} (h : w.ownsRow B e s v n xs) (hn : 0 < n) : ∃ g c, v = .slice (some ⟨g, 0, none⟩) n c := by
  obtain ⟨_, h | h⟩ := h
  · omega
  · obtain ⟨g, c, _, hv, _⟩ := h
    exact ⟨g, c, hv⟩

def fieldB (a n : Int) : Bool := decide (0 ≤ a ∧ a ≤ 31 ∧ 1 ≤ n ∧ n ≤ 32 - a)
theorem fieldB_yes {a n : Int} (h : fieldB a n = true) : 0 ≤ a ∧ a ≤ 31 ∧ 1 ≤ n ∧ n ≤ 32 - a := by simpa [fieldB] using h
theorem fieldB_no {a n : Int} (h : fieldB a n = false) : ¬ (0 ≤ a ∧ a ≤ 31 ∧ 1 ≤ n ∧ n ≤ 32 - a) := by simpa [fieldB] using h

theorem fieldB_t {a n : Int} (h : 0 ≤ a ∧ a ≤ 31 ∧ 1 ≤ n ∧ n ≤ 32 - a) : fieldB a n = true := by simpa [fieldB] using h
theorem fieldB_f {a n : Int} (h : ¬ (0 ≤ a ∧ a ≤ 31 ∧ 1 ≤ n ∧ n ≤ 32 - a)) : fieldB a n = false := by simpa [fieldB] using h

theorem pw_succ (k : Nat) : pw (k : Int) * 2 = pw ((k : Int) + 1) := by
  unfold pw; rw [show ((k : Int) + 1).toNat = k + 1 from by omega, Int.pow_succ]; simp

theorem sh_nat (w a : Int) : w / 2 ^ a.toNat = w / pw a := rfl

end Go.Proofs.YtibhlbggnkobeaaDoor
