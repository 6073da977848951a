/- Layer 10: a memory of pages as blocks of cells; all blocks but one as they were. -/
import Derived.Test.YtcigceaadkjenaaDoorRamMath
import Derived.Test.YtcigceaadkjenaaDoorBars
namespace Go.Proofs.YtcigceaadkjenaaDoor
open Go.RowKit
set_option linter.unusedVariables false

/-- The cells of K pages: 64 bytes, the watch, the generation of each. -/
def PageC (cs : Array Value) (K : Nat) (b : Nat → Int) (wa : Nat → Bool) (g : Nat → Int) : Prop :=
  cs.size = K * 66 ∧ (∀ i, i < 64 * K → cs[i / 64 * 66 + i % 64]? = some (.int .u8 (b i))) ∧ (∀ p, p < K → cs[p * 66 + 64]? = some (.bool (wa p))) ∧ ∀ p, p < K → cs[p * 66 + 65]? = some (.int .u64 (g p))
/-- A memory: its pointer's block R, its pages' block P. -/
def IsRam (w : World) (R P K : Nat) (b : Nat → Int) (wa : Nat → Bool) (g : Nat → Int) : Prop :=
  R ≠ P ∧ w.heap[R]? = some (.cells #[.slice (some ⟨P, 0, none⟩) K K] 57 (0, 0)) ∧ ∃ cs, w.heap[P]? = some (.cells cs 67 (0, 0)) ∧ PageC cs K b wa g

section
variable {w w' : World} {R P K : Nat} {b : Nat → Int} {wa : Nat → Bool} {g : Nat → Int}

theorem IsRam.ptr (h : IsRam w R P K b wa g) : w.cell? ⟨R, 0, none⟩ = some (.slice (some ⟨P, 0, none⟩) K K) := by simp [World.cell?, h.2.1]
theorem IsRam.byte (h : IsRam w R P K b wa g) {i : Nat} (hi : i < 64 * K) : w.cell? ⟨P, i / 64 * 66 + i % 64, none⟩ = some (.int .u8 (b i)) := by
  obtain ⟨_, _, cs, hP, hc⟩ := h
  simp [World.cell?, hP, hc.2.1 i hi]
theorem IsRam.watch (h : IsRam w R P K b wa g) {p : Nat} (hp : p < K) : w.cell? ⟨P, p * 66 + 64, none⟩ = some (.bool (wa p)) := by
  obtain ⟨_, _, cs, hP, hc⟩ := h
  simp [World.cell?, hP, hc.2.2.1 p hp]
theorem IsRam.gen (h : IsRam w R P K b wa g) {p : Nat} (hp : p < K) : w.cell? ⟨P, p * 66 + 65, none⟩ = some (.int .u64 (g p)) := by
  obtain ⟨_, _, cs, hP, hc⟩ := h
  simp [World.cell?, hP, hc.2.2.2 p hp]
theorem IsRam.free (h : IsRam w R P K b wa g) (o : Nat) : w.frozen? ⟨P, o, none⟩ = false := by
  obtain ⟨_, _, cs, hP, hc⟩ := h
  simp [World.frozen?, hP]
theorem IsRam.lt (h : IsRam w R P K b wa g) : R < w.heap.size ∧ P < w.heap.size := by
  obtain ⟨_, hR, cs, hP, _⟩ := h
  exact ⟨(Array.getElem?_eq_some_iff.1 hR).1, (Array.getElem?_eq_some_iff.1 hP).1⟩
/-- What only makes memory leaves it as it is. -/
theorem IsRam.on (h : IsRam w R P K b wa g) (hb : Below w.heap.size w w') : IsRam w' R P K b wa g := by
  obtain ⟨l1, l2⟩ := h.lt
  obtain ⟨hne, hR, cs, hP, hc⟩ := h
  exact ⟨hne, by rw [hb.block R l1]; exact hR, cs, by rw [hb.block P l2]; exact hP, hc⟩
theorem IsRam.q (h : IsRam w R P K b wa g) (hq : Q w w') : IsRam w' R P K b wa g := by
  obtain ⟨k, rfl⟩ := hq; exact h

theorem PageC.watchSet {cs : Array Value} (h : PageC cs K b wa g) (p : Nat) (y : Bool) : PageC (cs.setIfInBounds (p * 66 + 64) (.bool y)) K b (bset wa p y) g := by
  obtain ⟨h0, h1, h2, h3⟩ := h
  refine ⟨by simpa using h0, fun i hi => ?_, fun q hq => ?_, fun q hq => ?_⟩
  · rw [Array.getElem?_setIfInBounds_ne (by omega)]; exact h1 i hi
  · by_cases e : q = p
    · subst e; rw [bset_at, Array.getElem?_setIfInBounds_self_of_lt (by omega)]
    · rw [bset_ne wa y e, Array.getElem?_setIfInBounds_ne (by omega)]; exact h2 q hq
  · rw [Array.getElem?_setIfInBounds_ne (by omega)]; exact h3 q hq
theorem PageC.genSet {cs : Array Value} (h : PageC cs K b wa g) (p : Nat) (y : Int) : PageC (cs.setIfInBounds (p * 66 + 65) (.int .u64 y)) K b wa (gset g p y) := by
  obtain ⟨h0, h1, h2, h3⟩ := h
  refine ⟨by simpa using h0, fun i hi => ?_, fun q hq => ?_, fun q hq => ?_⟩
  · rw [Array.getElem?_setIfInBounds_ne (by omega)]; exact h1 i hi
  · rw [Array.getElem?_setIfInBounds_ne (by omega)]; exact h2 q hq
  · by_cases e : q = p
    · subst e; rw [gset_at, Array.getElem?_setIfInBounds_self_of_lt (by omega)]
    · rw [gset_ne g y e, Array.getElem?_setIfInBounds_ne (by omega)]; exact h3 q hq

theorem IsRam.watchSet (h : IsRam w R P K b wa g) (p : Nat) (y : Bool) : IsRam (w.setCell ⟨P, p * 66 + 64, none⟩ (.bool y)) R P K b (bset wa p y) g := by
  obtain ⟨hne, hR, cs, hP, hc⟩ := h
  exact ⟨hne, by rw [Below.heap_setCell _ _ _ _ hne]; exact hR, _, heap_setCell_at hP, hc.watchSet p y⟩
theorem IsRam.genSet (h : IsRam w R P K b wa g) (p : Nat) (y : Int) : IsRam (w.setCell ⟨P, p * 66 + 65, none⟩ (.int .u64 y)) R P K b wa (gset g p y) := by
  obtain ⟨hne, hR, cs, hP, hc⟩ := h
  exact ⟨hne, by rw [Below.heap_setCell _ _ _ _ hne]; exact hR, _, heap_setCell_at hP, hc.genSet p y⟩
end

/-- Bytes of one page copied over. -/
theorem PageC.splice {cs : Array Value} {K : Nat} {b : Nat → Int} {wa : Nat → Bool} {g : Nat → Int} (h : PageC cs K b wa g) (a len : Nat) (f : Nat → Int) (ha : a % 64 + len ≤ 64) (hK : a < 64 * K) :
    PageC (splice cs.toList (a / 64 * 66 + a % 64) ((List.range len).map fun i => Value.int .u8 (f i))).toArray K (bput b a len f) wa g := by
  obtain ⟨h0, h1, h2, h3⟩ := h
  have hfit : a / 64 * 66 + a % 64 + ((List.range len).map fun i => Value.int .u8 (f i)).length ≤ cs.toList.length := by simp; omega
  refine ⟨by rw [List.size_toArray, length_splice _ _ _ hfit]; simpa using h0, fun i hi => ?_, fun p hp => ?_, fun p hp => ?_⟩
  · rw [List.getElem?_toArray, splice_get _ _ _ hfit]
    simp only [List.length_map, List.length_range]
    by_cases c : a ≤ i ∧ i < a + len
    · rw [if_pos (by omega), bput_in c.1 c.2, List.getElem?_map, show i / 64 * 66 + i % 64 - (a / 64 * 66 + a % 64) = i - a from by omega, List.getElem?_range (by omega)]; rfl
    · rw [if_neg (by omega), bput_out (by omega), Array.getElem?_toList]; exact h1 i hi
  · rw [List.getElem?_toArray, splice_get _ _ _ hfit]
    simp only [List.length_map, List.length_range]
    rw [if_neg (by omega), Array.getElem?_toList]; exact h2 p hp
  · rw [List.getElem?_toArray, splice_get _ _ _ hfit]
    simp only [List.length_map, List.length_range]
    rw [if_neg (by omega), Array.getElem?_toList]; exact h3 p hp
end Go.Proofs.YtcigceaadkjenaaDoor
