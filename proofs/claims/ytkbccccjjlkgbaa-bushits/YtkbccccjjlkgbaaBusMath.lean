/- Layer 14: what an access is of, as numbers. -/
import Derived.Test.YtkbccccjjlkgbaaRamMath
import Derived.Test.YtkbccccjjlkgbaaTimGo
namespace Go.Proofs.Ytkbccccjjlkgbaa
open Go.RowKit
set_option linter.unusedVariables false

/-- Is the address a device's? -/
def devB (a : Int) : Bool := decide (a = 1048576 ∨ a = 268435456 ∨ a = 268435460) || hasT a
theorem devB_yes {a : Int} (h : devB a = true) : a = 1048576 ∨ (a = 268435456 ∨ a = 268435460) ∨ hasT a = true := by
  unfold devB at h
  rw [Bool.or_eq_true, decide_eq_true_eq] at h
  rcases h with (h | h | h) | h
  · exact .inl h
  · exact .inr (.inl (.inl h))
  · exact .inr (.inl (.inr h))
  · exact .inr (.inr h)
theorem devB_no {a : Int} (h : devB a = false) : ((a == 1048576) = false ∧ (a == 268435456) = false ∧ (a == 268435460) = false) ∧ hasT a = false := by
  unfold devB at h
  rw [Bool.or_eq_false_iff, decide_eq_false_iff_not] at h
  simp only [beq_eq_false_iff_ne, ne_eq]
  exact ⟨⟨by omega, by omega, by omega⟩, h.2⟩
theorem devB_low {a : Int} (h : devB a = true) : 1048576 ≤ a ∧ a < 2147483648 ∧ a % 4 = 0 := by
  rcases devB_yes h with rfl | (rfl | rfl) | h
  · decide
  · decide
  · decide
  · rcases hasT_yes h with rfl | rfl | rfl | rfl | rfl <;> decide
/-- A device's access is odd nowhere, and no memory's. -/
theorem dev_ask {K : Nat} {a : Int} (h : devB a = true) : askZ K a 4 = 6 := by
  obtain ⟨h1, h2, h3⟩ := devB_low h
  exact askZ_fault (by decide) h3 (hasB_f (by omega))
/-- Is an access of a device? -/
def isDev (K : Nat) (addr n : Int) : Bool := decide (askZ K addr n = 6 ∧ n = 4) && devB addr
theorem isDev_yes {K : Nat} {addr n : Int} (h : isDev K addr n = true) : n = 4 ∧ devB addr = true := by
  simp [isDev] at h; exact ⟨h.1.2, h.2⟩
theorem isDev_t {K : Nat} {addr : Int} (h : devB addr = true) : isDev K addr 4 = true := by
  simp [isDev, h, dev_ask (K := K) h]
theorem isDev_ask {K : Nat} {addr n : Int} (h : isDev K addr n = true) : askZ K addr n = 6 := by
  simp [isDev] at h; exact h.1.1
theorem isDev_no {K : Nat} {addr n : Int} (h : isDev K addr n = false) : n ≠ 4 ∨ devB addr = false := by
  by_cases c : n = 4
  · subst c
    cases d : devB addr
    · exact .inr rfl
    · rw [isDev_t d] at h; exact absurd h (by decide)
  · exact .inl c
/-- What an access is of: nothing, the memory, a device. -/
def classZ (K : Nat) (addr n : Int) : Int := if askZ K addr n = 0 then 1 else if isDev K addr n = true then 2 else 0
/-- What stands against it. -/
def ask14 (K : Nat) (addr n : Int) : Int := if isDev K addr n = true then 0 else askZ K addr n
theorem ask14_mem {K : Nat} {addr n : Int} (h : askZ K addr n = 0) : ask14 K addr n = 0 := by unfold ask14; split <;> first | rfl | exact h
theorem ask14_zero {K : Nat} {addr n : Int} (h : ask14 K addr n = 0) : askZ K addr n = 0 ∨ isDev K addr n = true := by
  unfold ask14 at h
  split at h
  · exact .inr (by assumption)
  · exact .inl h
theorem askZ_dev {K : Nat} {addr n : Int} (h : askZ K addr n = 0) : isDev K addr n = false := by
  cases c : isDev K addr n
  · rfl
  · have := isDev_ask c; omega
theorem classZ_mem {K : Nat} {addr n : Int} (h : askZ K addr n = 0) : classZ K addr n = 1 := by simp [classZ, h]
theorem classZ_dev {K : Nat} {addr n : Int} (h : isDev K addr n = true) : classZ K addr n = 2 := by simp [classZ, isDev_ask h, h]
theorem classZ_none {K : Nat} {addr n : Int} (h : askZ K addr n ≠ 0) (h1 : isDev K addr n = false) : classZ K addr n = 0 := by simp [classZ, h, h1]

/-- Who calls. -/
def callsZ (s u r : Bool) : Int := (if s = true then 8 else 0) + (if u = true then 128 else 0) + (if r = true then 2048 else 0)
end Go.Proofs.Ytkbccccjjlkgbaa
