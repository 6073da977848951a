/- Layer 10 (ram) as mathematics: places, what is asked of an access, bytes behind a store. -/
import Derived.Test.YtcigceaadkjenaaDoorBytes
namespace Go.Proofs.YtcigceaadkjenaaDoor
open Go.RowKit
set_option linter.unusedVariables false

/-- A size that may be. -/
def rightB (n : Int) : Bool := decide (64 ≤ n ∧ n ≤ 65536 ∧ n % 64 = 0)
theorem rightB_yes {n : Int} (h : rightB n = true) : ∃ K : Nat, n = 64 * (K : Int) ∧ 1 ≤ K ∧ K ≤ 1024 := by
  simp only [rightB, decide_eq_true_eq] at h
  exact ⟨(n / 64).toNat, by omega, by omega, by omega⟩
theorem rightB_no {n : Int} (h : rightB n = false) : n < 64 ∨ 65536 < n ∨ n % 64 ≠ 0 := by
  simp only [rightB, decide_eq_false_iff_not] at h
  omega
theorem rightB_t {n : Int} (h : 64 ≤ n ∧ n ≤ 65536 ∧ n % 64 = 0) : rightB n = true := by simpa [rightB] using h
theorem rightB_f {n : Int} (h : n < 64 ∨ 65536 < n ∨ n % 64 ≠ 0) : rightB n = false := by simp only [rightB, decide_eq_false_iff_not]; omega

/-- Are the n addresses from addr on there, of K pages? -/
def hasB (K : Nat) (addr n : Int) : Bool := decide (1 ≤ n ∧ 2147483648 ≤ addr ∧ n ≤ 64 * (K : Int) - (addr - 2147483648))
theorem hasB_yes {K : Nat} {addr n : Int} (h : hasB K addr n = true) : 1 ≤ n ∧ 2147483648 ≤ addr ∧ n ≤ 64 * (K : Int) - (addr - 2147483648) := by simpa [hasB] using h
theorem hasB_no {K : Nat} {addr n : Int} (h : hasB K addr n = false) : ¬ (1 ≤ n ∧ 2147483648 ≤ addr ∧ n ≤ 64 * (K : Int) - (addr - 2147483648)) := by simpa [hasB] using h
theorem hasB_t {K : Nat} {addr n : Int} (h : 1 ≤ n ∧ 2147483648 ≤ addr ∧ n ≤ 64 * (K : Int) - (addr - 2147483648)) : hasB K addr n = true := by simpa [hasB] using h
theorem hasB_f {K : Nat} {addr n : Int} (h : ¬ (1 ≤ n ∧ 2147483648 ≤ addr ∧ n ≤ 64 * (K : Int) - (addr - 2147483648))) : hasB K addr n = false := by simpa [hasB] using h

/-- What stands against a load or a store. -/
def askZ (K : Nat) (addr n : Int) : Int := if sizeB n = true then (if addr % n = 0 then (if hasB K addr n = true then 0 else 6) else 5) else 2
theorem askZ_shape {K : Nat} {addr n : Int} (h : sizeB n = false) : askZ K addr n = 2 := by simp [askZ, h]
theorem askZ_odd {K : Nat} {addr n : Int} (h : sizeB n = true) (h1 : addr % n ≠ 0) : askZ K addr n = 5 := by simp [askZ, h, h1]
theorem askZ_fault {K : Nat} {addr n : Int} (h : sizeB n = true) (h1 : addr % n = 0) (h2 : hasB K addr n = false) : askZ K addr n = 6 := by simp [askZ, h, h1, h2]
theorem askZ_ok {K : Nat} {addr n : Int} (h : sizeB n = true) (h1 : addr % n = 0) (h2 : hasB K addr n = true) : askZ K addr n = 0 := by simp [askZ, h, h1, h2]
theorem askZ_cases (K : Nat) (addr n : Int) : (sizeB n = false ∧ askZ K addr n = 2) ∨ (sizeB n = true ∧ addr % n ≠ 0 ∧ askZ K addr n = 5) ∨ (sizeB n = true ∧ addr % n = 0 ∧ hasB K addr n = false ∧ askZ K addr n = 6) ∨ (sizeB n = true ∧ addr % n = 0 ∧ hasB K addr n = true ∧ askZ K addr n = 0) := by
  cases h : sizeB n
  · exact .inl ⟨rfl, askZ_shape h⟩
  · by_cases h1 : addr % n = 0
    · cases h2 : hasB K addr n
      · exact .inr (.inr (.inl ⟨rfl, h1, rfl, askZ_fault h h1 h2⟩))
      · exact .inr (.inr (.inr ⟨rfl, h1, rfl, askZ_ok h h1 h2⟩))
    · exact .inr (.inl ⟨rfl, h1, askZ_odd h h1⟩)

/-- The page that has an address. -/
def pageZ (K : Nat) (addr : Int) : Int := if hasB K addr 1 = true then (addr - 2147483648) / 64 else -1
theorem pageZ_yes {K : Nat} {addr : Int} (h : hasB K addr 1 = true) : pageZ K addr = (addr - 2147483648) / 64 := by simp [pageZ, h]
theorem pageZ_no {K : Nat} {addr : Int} (h : hasB K addr 1 = false) : pageZ K addr = -1 := by simp [pageZ, h]

/-- The bytes with len others from place a on. -/
def bput (b : Nat → Int) (a len : Nat) (f : Nat → Int) : Nat → Int := fun i => if a ≤ i ∧ i < a + len then f (i - a) else b i
theorem bput_in {b : Nat → Int} {a len : Nat} {f : Nat → Int} {i : Nat} (h : a ≤ i) (h1 : i < a + len) : bput b a len f i = f (i - a) := by simp [bput, h, h1]
theorem bput_out {b : Nat → Int} {a len : Nat} {f : Nat → Int} {i : Nat} (h : i < a ∨ a + len ≤ i) : bput b a len f i = b i := by
  unfold bput; rw [if_neg (by omega)]
theorem bput_none (b : Nat → Int) (a : Nat) (f : Nat → Int) : bput b a 0 f = b := by
  funext i; exact bput_out (by omega)
/-- In two pieces. -/
theorem bput_two (b : Nat → Int) (a l m : Nat) (f : Nat → Int) : bput (bput b a l f) (a + l) m (fun i => f (l + i)) = bput b a (l + m) f := by
  funext i
  by_cases h : a ≤ i ∧ i < a + (l + m)
  · rw [bput_in h.1 h.2]
    by_cases h1 : a + l ≤ i
    · rw [bput_in h1 (by omega)]; congr 1; omega
    · rw [bput_out (by omega), bput_in h.1 (by omega)]
  · rw [bput_out (by omega), bput_out (by omega), bput_out (by omega)]
def bset (x : Nat → Bool) (p : Nat) (y : Bool) : Nat → Bool := fun i => if i = p then y else x i
def gset (x : Nat → Int) (p : Nat) (y : Int) : Nat → Int := fun i => if i = p then y else x i
theorem bset_at (x : Nat → Bool) (p : Nat) (y : Bool) : bset x p y p = y := by simp [bset]
theorem bset_ne (x : Nat → Bool) {p i : Nat} (y : Bool) (h : i ≠ p) : bset x p y i = x i := by simp [bset, h]
theorem gset_at (x : Nat → Int) (p : Nat) (y : Int) : gset x p y p = y := by simp [gset]
theorem gset_ne (x : Nat → Int) {p i : Nat} (y : Int) (h : i ≠ p) : gset x p y i = x i := by simp [gset, h]
/-- A page told of a store: its watch and its generation. -/
def wHit (wa : Nat → Bool) (p : Nat) : Nat → Bool := if wa p = true then bset wa p false else wa
def gHit (wa : Nat → Bool) (g : Nat → Int) (p : Nat) : Nat → Int := if wa p = true then gset g p (g p + 1) else g
theorem wHit_t {wa : Nat → Bool} {p : Nat} (h : wa p = true) : wHit wa p = bset wa p false := by simp [wHit, h]
theorem wHit_f {wa : Nat → Bool} {p : Nat} (h : wa p = false) : wHit wa p = wa := by simp [wHit, h]
theorem gHit_t {wa : Nat → Bool} {g : Nat → Int} {p : Nat} (h : wa p = true) : gHit wa g p = gset g p (g p + 1) := by simp [gHit, h]
theorem gHit_f {wa : Nat → Bool} {g : Nat → Int} {p : Nat} (h : wa p = false) : gHit wa g p = g := by simp [gHit, h]

/-- Bounds of a memory's numbers. -/
def BdB (K : Nat) (b : Nat → Int) : Prop := ∀ i, i < 64 * K → 0 ≤ b i ∧ b i < 256
def BdG (K : Nat) (g : Nat → Int) (m : Int) : Prop := ∀ p, p < K → 0 ≤ g p ∧ g p ≤ m
theorem BdB.put {K : Nat} {b : Nat → Int} (h : BdB K b) (a len : Nat) {f : Nat → Int} (hf : ∀ i, i < len → 0 ≤ f i ∧ f i < 256) : BdB K (bput b a len f) := fun i hi => by
  unfold bput
  split
  · exact hf _ (by omega)
  · exact h i hi
theorem BdG.hit {K : Nat} {g : Nat → Int} {m : Int} (h : BdG K g m) (wa : Nat → Bool) (p : Nat) : BdG K (gHit wa g p) (m + 1) := fun i hi => by
  have h1 := h i hi
  cases hw : wa p
  · rw [gHit_f hw]; omega
  · rw [gHit_t hw]; unfold gset
    split
    · rename_i e; subst e; omega
    · omega
theorem BdG.up {K : Nat} {g : Nat → Int} {m n : Int} (h : BdG K g m) (hm : m ≤ n) : BdG K g n := fun i hi => by
  have h1 := h i hi; omega
end Go.Proofs.YtcigceaadkjenaaDoor
