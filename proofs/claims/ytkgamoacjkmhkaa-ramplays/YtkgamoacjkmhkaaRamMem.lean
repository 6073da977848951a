/- Layer 10: a memory of pages as blocks of cells; all blocks but one as they were. -/
import Derived.Test.YtkgamoacjkmhkaaRamMath
import Derived.Laws.CopyOwn
import Derived.OwnWalk
namespace Go.Proofs.Ytkgamoacjkmhkaa
open Go.RowKit
set_option linter.unusedVariables false

/-- All blocks that there were, but P, are as they were. -/
def Bar (P : Nat) (w w' : World) : Prop := w'.os = w.os ∧ w'.tape = w.tape ∧ w'.output = w.output ∧ w.heap.size ≤ w'.heap.size ∧ ∀ k, k < w.heap.size → k ≠ P → w'.heap[k]? = w.heap[k]?
theorem Bar.refl (P : Nat) (w : World) : Bar P w w := ⟨rfl, rfl, rfl, Nat.le_refl _, fun _ _ _ => rfl⟩
theorem Bar.size {P : Nat} {w w' : World} (h : Bar P w w') : w.heap.size ≤ w'.heap.size := h.2.2.2.1
theorem Bar.trans {P : Nat} {a b c : World} (h : Bar P a b) (g : Bar P b c) : Bar P a c :=
  ⟨g.1.trans h.1, g.2.1.trans h.2.1, g.2.2.1.trans h.2.2.1, Nat.le_trans h.size g.size, fun k hk hp => (g.2.2.2.2 k (Nat.lt_of_lt_of_le hk h.size) hp).trans (h.2.2.2.2 k hk hp)⟩
theorem Bar.of {w w' : World} (P : Nat) (h : Below w.heap.size w w') : Bar P w w' := ⟨h.os, h.tape, h.output, h.size, fun k hk _ => h.block k hk⟩
theorem Bar.below {P B : Nat} {w w' : World} (h : Bar P w w') (hP : B ≤ P) (hB : B ≤ w.heap.size) : Below B w w' :=
  ⟨h.1, h.2.1, h.2.2.1, h.size, fun k hk => h.2.2.2.2 k (by omega) (by omega)⟩
theorem Bar.cell {P b o : Nat} {w w' : World} {v : Value} (h : Bar P w w') (hb : b ≠ P) (hc : w.cell? ⟨b, o, none⟩ = some v) : w'.cell? ⟨b, o, none⟩ = some v := by
  rw [World.cell?_of_block (w := w) (h.2.2.2.2 b (World.block_lt_of_cell? w _ hc) hb)]; exact hc
theorem Bar.drew {P : Nat} {w w' : World} (h : Bar P w w') : Bar P w w'.drew := ⟨h.1, h.2.1, h.2.2.1, h.size, h.2.2.2.2⟩
theorem Bar.setRow (P : Nat) (w : World) (cs : Array Value) : Bar P w (w.setRow P cs) :=
  ⟨rfl, rfl, rfl, by simp [World.setRow], fun k _ hk => setRow_other w P k cs (by omega)⟩
theorem Bar.setCell (P o : Nat) (w : World) (u : Value) : Bar P w (w.setCell ⟨P, o, none⟩ u) :=
  ⟨rfl, rfl, rfl, by simp [World.setCell], fun k _ hk => Below.heap_setCell _ _ _ _ hk⟩

/-- The cells of K pages: 64 bytes, the watch, the generation of each. -/
def PageC (cs : Array Value) (K : Nat) (b : Nat → Int) (wa : Nat → Bool) (g : Nat → Int) : Prop :=
  cs.size = K * 66 ∧ (∀ i, i < 64 * K → cs[i / 64 * 66 + i % 64]? = some (.int .u8 (b i))) ∧ (∀ p, p < K → cs[p * 66 + 64]? = some (.bool (wa p))) ∧ ∀ p, p < K → cs[p * 66 + 65]? = some (.int .u64 (g p))
/-- A memory: its pointer's block R, its pages' block P. -/
def IsRam (w : World) (R P K : Nat) (b : Nat → Int) (wa : Nat → Bool) (g : Nat → Int) : Prop :=
  R ≠ P ∧ w.heap[R]? = some (.cells #[.slice (some ⟨P, 0, none⟩) K K] 60 (0, 0)) ∧ ∃ cs, w.heap[P]? = some (.cells cs 63 (0, 0)) ∧ PageC cs K b wa g

section
variable {w w' : World} {R P K : Nat} {b : Nat → Int} {wa : Nat → Bool} {g : Nat → Int}

theorem IsRam.ptr (h : IsRam w R P K b wa g) : w.cell? ⟨R, 0, none⟩ = some (.slice (some ⟨P, 0, none⟩) K K) := by simp [World.cell?, h.2.1]
theorem IsRam.byte (h : IsRam w R P K b wa g) {i : Nat} (hi : i < 64 * K) : w.cell? ⟨P, i / 64 * 66 + i % 64, none⟩ = some (.int .u8 (b i)) := by
  obtain ⟨_, _, cs, hP, hc⟩ := h
  simp [World.cell?, hP, hc.2.1 i hi]
theorem IsRam.watch (h : IsRam w R P K b wa g) {p : Nat} (hp : p < K) : w.cell? ⟨P, p * 66 + 64, none⟩ = some (.bool (wa p)) := by
  obtain ⟨_, _, cs, hP, hc⟩ := h
  simp [World.cell?, hP, hc.2.2.1 p hp]
theorem IsRam.gen (h : IsRam w R P K b wa g) {p : Nat} (hp : p < K) : w.cell? ⟨P, p * 66 + 65, none⟩ = some (.int .u64 (g p)) := by
  obtain ⟨_, _, cs, hP, hc⟩ := h
  simp [World.cell?, hP, hc.2.2.2 p hp]
theorem IsRam.free (h : IsRam w R P K b wa g) (o : Nat) : w.frozen? ⟨P, o, none⟩ = false := by
  obtain ⟨_, _, cs, hP, hc⟩ := h
  simp [World.frozen?, hP]
theorem IsRam.lt (h : IsRam w R P K b wa g) : R < w.heap.size ∧ P < w.heap.size := by
  obtain ⟨_, hR, cs, hP, _⟩ := h
  exact ⟨(Array.getElem?_eq_some_iff.1 hR).1, (Array.getElem?_eq_some_iff.1 hP).1⟩
/-- What only makes memory leaves it as it is. -/
theorem IsRam.on (h : IsRam w R P K b wa g) (hb : Below w.heap.size w w') : IsRam w' R P K b wa g := by
  obtain ⟨l1, l2⟩ := h.lt
  obtain ⟨hne, hR, cs, hP, hc⟩ := h
  exact ⟨hne, by rw [hb.block R l1]; exact hR, cs, by rw [hb.block P l2]; exact hP, hc⟩
theorem IsRam.q (h : IsRam w R P K b wa g) (hq : Q w w') : IsRam w' R P K b wa g := by
  obtain ⟨k, rfl⟩ := hq; exact h

theorem PageC.watchSet {cs : Array Value} (h : PageC cs K b wa g) (p : Nat) (y : Bool) : PageC (cs.setIfInBounds (p * 66 + 64) (.bool y)) K b (bset wa p y) g := by
  obtain ⟨h0, h1, h2, h3⟩ := h
  refine ⟨by simpa using h0, fun i hi => ?_, fun q hq => ?_, fun q hq => ?_⟩
  · rw [Array.getElem?_setIfInBounds_ne (by omega)]; exact h1 i hi
  · by_cases e : q = p
    · subst e; rw [bset_at, Array.getElem?_setIfInBounds_self_of_lt (by omega)]
    · rw [bset_ne wa y e, Array.getElem?_setIfInBounds_ne (by omega)]; exact h2 q hq
  · rw [Array.getElem?_setIfInBounds_ne (by omega)]; exact h3 q hq
theorem PageC.genSet {cs : Array Value} (h : PageC cs K b wa g) (p : Nat) (y : Int) : PageC (cs.setIfInBounds (p * 66 + 65) (.int .u64 y)) K b wa (gset g p y) := by
  obtain ⟨h0, h1, h2, h3⟩ := h
  refine ⟨by simpa using h0, fun i hi => ?_, fun q hq => ?_, fun q hq => ?_⟩
  · rw [Array.getElem?_setIfInBounds_ne (by omega)]; exact h1 i hi
  · rw [Array.getElem?_setIfInBounds_ne (by omega)]; exact h2 q hq
  · by_cases e : q = p
    · subst e; rw [gset_at, Array.getElem?_setIfInBounds_self_of_lt (by omega)]
    · rw [gset_ne g y e, Array.getElem?_setIfInBounds_ne (by omega)]; exact h3 q hq

theorem heap_setCell_at {w : World} {P o : Nat} {cs : Array Value} {t : TypeId} {f : Nat × Nat} {u : Value} (h : w.heap[P]? = some (.cells cs t f)) : (w.setCell ⟨P, o, none⟩ u).heap[P]? = some (.cells (cs.setIfInBounds o u) t f) := by
  simp [World.setCell, Array.getElem?_modify, h]

theorem IsRam.watchSet (h : IsRam w R P K b wa g) (p : Nat) (y : Bool) : IsRam (w.setCell ⟨P, p * 66 + 64, none⟩ (.bool y)) R P K b (bset wa p y) g := by
  obtain ⟨hne, hR, cs, hP, hc⟩ := h
  exact ⟨hne, by rw [Below.heap_setCell _ _ _ _ hne]; exact hR, _, heap_setCell_at hP, hc.watchSet p y⟩
theorem IsRam.genSet (h : IsRam w R P K b wa g) (p : Nat) (y : Int) : IsRam (w.setCell ⟨P, p * 66 + 65, none⟩ (.int .u64 y)) R P K b wa (gset g p y) := by
  obtain ⟨hne, hR, cs, hP, hc⟩ := h
  exact ⟨hne, by rw [Below.heap_setCell _ _ _ _ hne]; exact hR, _, heap_setCell_at hP, hc.genSet p y⟩
end

theorem splice_get {α : Type} (L : List α) (o : Nat) (cs : List α) (h : o + cs.length ≤ L.length) (j : Nat) : (splice L o cs)[j]? = if o ≤ j ∧ j < o + cs.length then cs[j - o]? else L[j]? := by
  unfold splice
  by_cases h1 : j < o
  · rw [List.getElem?_append_left (by simp; omega), List.getElem?_take, if_pos h1, if_neg (by omega)]
  · rw [List.getElem?_append_right (by simp; omega), show (List.take o L).length = o from by simp; omega]
    by_cases h2 : j < o + cs.length
    · rw [if_pos (by omega), List.getElem?_append_left (by omega)]
    · rw [if_neg (by omega), List.getElem?_append_right (by omega), List.getElem?_drop]
      congr 1; omega

/-- Bytes of one page copied over. -/
theorem PageC.splice {cs : Array Value} {K : Nat} {b : Nat → Int} {wa : Nat → Bool} {g : Nat → Int} (h : PageC cs K b wa g) (a len : Nat) (f : Nat → Int) (ha : a % 64 + len ≤ 64) (hK : a < 64 * K) :
    PageC (splice cs.toList (a / 64 * 66 + a % 64) ((List.range len).map fun i => Value.int .u8 (f i))).toArray K (bput b a len f) wa g := by
  obtain ⟨h0, h1, h2, h3⟩ := h
  have hfit : a / 64 * 66 + a % 64 + ((List.range len).map fun i => Value.int .u8 (f i)).length ≤ cs.toList.length := by simp; omega
  refine ⟨by rw [List.size_toArray, length_splice _ _ _ hfit]; simpa using h0, fun i hi => ?_, fun p hp => ?_, fun p hp => ?_⟩
  · rw [List.getElem?_toArray, splice_get _ _ _ hfit]
    simp only [List.length_map, List.length_range]
    by_cases c : a ≤ i ∧ i < a + len
    · rw [if_pos (by omega), bput_in c.1 c.2, List.getElem?_map, show i / 64 * 66 + i % 64 - (a / 64 * 66 + a % 64) = i - a from by omega, List.getElem?_range (by omega)]; rfl
    · rw [if_neg (by omega), bput_out (by omega), Array.getElem?_toList]; exact h1 i hi
  · rw [List.getElem?_toArray, splice_get _ _ _ hfit]
    simp only [List.length_map, List.length_range]
    rw [if_neg (by omega), Array.getElem?_toList]; exact h2 p hp
  · rw [List.getElem?_toArray, splice_get _ _ _ hfit]
    simp only [List.length_map, List.length_range]
    rw [if_neg (by omega), Array.getElem?_toList]; exact h3 p hp
end Go.Proofs.Ytkgamoacjkmhkaa
