/- Layer 11: a row whose places go round, as a block of cells. -/
import Derived.Test.YtkbccccjjlkgbaaBars
namespace Go.Proofs.Ytkbccccjjlkgbaa
open Go.RowKit
set_option linter.unusedVariables false

/-- The cells of a row: sixteen places, the place of the first, the count; the bytes that wait are f 0, .., f (n - 1). -/
def FifoC (cs : Array Value) (s n : Nat) (f : Nat → Int) : Prop :=
  cs.size = 18 ∧ s < 16 ∧ n ≤ 16 ∧ cs[16]? = some (.int .i64 (s : Int)) ∧ cs[17]? = some (.int .i64 (n : Int)) ∧ (∀ j, j < 16 → ∃ x, cs[j]? = some (.int .u8 x)) ∧ ∀ i, i < n → cs[(s + i) % 16]? = some (.int .u8 (f i))
/-- One more behind. -/
def snoc (n : Nat) (f : Nat → Int) (b : Int) (i : Nat) : Int := if i < n then f i else b

theorem snoc_lt {n : Nat} {f : Nat → Int} {b : Int} {i : Nat} (h : i < n) : snoc n f b i = f i := by unfold snoc; rw [if_pos h]
theorem snoc_at (n : Nat) (f : Nat → Int) (b : Int) : snoc n f b n = b := by unfold snoc; rw [if_neg (by omega)]

theorem FifoC.congr {cs : Array Value} {s n : Nat} {f g : Nat → Int} (h : FifoC cs s n f) (e : ∀ i, i < n → f i = g i) : FifoC cs s n g := by
  obtain ⟨h0, h1, h2, h3, h4, h5, h6⟩ := h
  exact ⟨h0, h1, h2, h3, h4, h5, fun i hi => by rw [← e i hi]; exact h6 i hi⟩

/-- A byte into the place behind the last, and the count. -/
theorem FifoC.push {cs : Array Value} {s n : Nat} {f : Nat → Int} (h : FifoC cs s n f) (hn : n < 16) (b : Int) :
    FifoC ((cs.setIfInBounds ((s + n) % 16) (.int .u8 b)).setIfInBounds 17 (.int .i64 ((n : Int) + 1))) s (n + 1) (snoc n f b) := by
  obtain ⟨h0, h1, h2, h3, h4, h5, h6⟩ := h
  refine ⟨by simpa using h0, h1, hn, ?_, ?_, fun j hj => ?_, fun i hi => ?_⟩
  · rw [Array.getElem?_setIfInBounds_ne (by omega), Array.getElem?_setIfInBounds_ne (by omega)]; exact h3
  · rw [Array.getElem?_setIfInBounds_self_of_lt (by simp; omega)]; rfl
  · rw [Array.getElem?_setIfInBounds_ne (by omega)]
    by_cases e : (s + n) % 16 = j
    · subst e; exact ⟨b, Array.getElem?_setIfInBounds_self_of_lt (by omega)⟩
    · rw [Array.getElem?_setIfInBounds_ne e]; exact h5 j hj
  · rw [Array.getElem?_setIfInBounds_ne (by omega)]
    by_cases e : i = n
    · subst e; rw [snoc_at, Array.getElem?_setIfInBounds_self_of_lt (by omega)]
    · rw [snoc_lt (by omega), Array.getElem?_setIfInBounds_ne (by omega)]; exact h6 i (by omega)

/-- The first one out. -/
theorem FifoC.pop {cs : Array Value} {s n : Nat} {f : Nat → Int} (h : FifoC cs s (n + 1) f) :
    FifoC ((cs.setIfInBounds 16 (.int .i64 (((s + 1) % 16 : Nat) : Int))).setIfInBounds 17 (.int .i64 (n : Int))) ((s + 1) % 16) n (fun i => f (i + 1)) := by
  obtain ⟨h0, h1, h2, h3, h4, h5, h6⟩ := h
  refine ⟨by simpa using h0, by omega, by omega, ?_, ?_, fun j hj => ?_, fun i hi => ?_⟩
  · rw [Array.getElem?_setIfInBounds_ne (by omega), Array.getElem?_setIfInBounds_self_of_lt (by omega)]
  · rw [Array.getElem?_setIfInBounds_self_of_lt (by simp; omega)]
  · rw [Array.getElem?_setIfInBounds_ne (by omega), Array.getElem?_setIfInBounds_ne (by omega)]; exact h5 j hj
  · rw [Array.getElem?_setIfInBounds_ne (by omega), Array.getElem?_setIfInBounds_ne (by omega), show ((s + 1) % 16 + i) % 16 = (s + (i + 1)) % 16 from by omega]
    exact h6 (i + 1) (by omega)

/-- A row: its block B. -/
def IsFifo (w : World) (B n : Nat) (f : Nat → Int) : Prop := ∃ cs s, w.heap[B]? = some (.cells cs 130 (0, 0)) ∧ FifoC cs s n f

theorem IsFifo.congr {w : World} {B n : Nat} {f g : Nat → Int} (h : IsFifo w B n f) (e : ∀ i, i < n → f i = g i) : IsFifo w B n g := by
  obtain ⟨cs, s, hB, hc⟩ := h
  exact ⟨cs, s, hB, hc.congr e⟩
theorem IsFifo.lt {w : World} {B n : Nat} {f : Nat → Int} (h : IsFifo w B n f) : B < w.heap.size := by
  obtain ⟨cs, s, hB, _⟩ := h
  exact (Array.getElem?_eq_some_iff.1 hB).1
theorem IsFifo.le {w : World} {B n : Nat} {f : Nat → Int} (h : IsFifo w B n f) : n ≤ 16 := by
  obtain ⟨cs, s, _, hc⟩ := h
  exact hc.2.2.1
theorem IsFifo.count {w : World} {B n : Nat} {f : Nat → Int} (h : IsFifo w B n f) : w.cell? ⟨B, 17, none⟩ = some (.int .i64 (n : Int)) := by
  obtain ⟨cs, s, hB, hc⟩ := h
  simp [World.cell?, hB, hc.2.2.2.2.1]
theorem IsFifo.free {w : World} {B n : Nat} {f : Nat → Int} (h : IsFifo w B n f) (o : Nat) : w.frozen? ⟨B, o, none⟩ = false := by
  obtain ⟨cs, s, hB, hc⟩ := h
  simp [World.frozen?, hB]
theorem IsFifo.first {w : World} {B n : Nat} {f : Nat → Int} (h : IsFifo w B n f) : ∃ s : Nat, s < 16 ∧ w.cell? ⟨B, 16, none⟩ = some (.int .i64 (s : Int)) ∧ (∀ i, i < n → w.cell? ⟨B, (s + i) % 16, none⟩ = some (.int .u8 (f i))) ∧ (∀ j, j < 16 → ∃ x, w.cell? ⟨B, j, none⟩ = some (.int .u8 x)) ∧
    (∀ b : Int, n < 16 → IsFifo ((w.setCell ⟨B, (s + n) % 16, none⟩ (.int .u8 b)).setCell ⟨B, 17, none⟩ (.int .i64 ((n : Int) + 1))) B (n + 1) (snoc n f b)) ∧
    (∀ m : Nat, n = m + 1 → IsFifo ((w.setCell ⟨B, 16, none⟩ (.int .i64 (((s + 1) % 16 : Nat) : Int))).setCell ⟨B, 17, none⟩ (.int .i64 (m : Int))) B m (fun i => f (i + 1))) := by
  obtain ⟨cs, s, hB, hc⟩ := h
  refine ⟨s, hc.2.1, by simp [World.cell?, hB, hc.2.2.2.1], fun i hi => by simp [World.cell?, hB, hc.2.2.2.2.2.2 i hi], fun j hj => ?_, fun b hn => ⟨_, s, heap_setCell_at (heap_setCell_at hB), hc.push hn b⟩, fun m hm => ?_⟩
  · obtain ⟨x, hx⟩ := hc.2.2.2.2.2.1 j hj
    exact ⟨x, by simp [World.cell?, hB, hx]⟩
  · subst hm
    exact ⟨_, _, heap_setCell_at (heap_setCell_at hB), hc.pop⟩
/-- What only makes memory, or writes into another block, leaves it as it is. -/
theorem IsFifo.on {w w' : World} {B n : Nat} {f : Nat → Int} (h : IsFifo w B n f) (hb : Below w.heap.size w w') : IsFifo w' B n f := by
  have hl := h.lt
  obtain ⟨cs, s, hB, hc⟩ := h
  exact ⟨cs, s, by rw [hb.block B hl]; exact hB, hc⟩
theorem IsFifo.bar {w w' : World} {B P n : Nat} {f : Nat → Int} (h : IsFifo w B n f) (hb : Bar P w w') (hne : B ≠ P) : IsFifo w' B n f := by
  have hl := h.lt
  obtain ⟨cs, s, hB, hc⟩ := h
  exact ⟨cs, s, by rw [hb.2.2.2.2 B hl hne]; exact hB, hc⟩

/-- A row of none. -/
def fifoZ : Array Value := Array.replicate 16 (.int .u8 0) ++ #[.int .i64 0, .int .i64 0]
theorem fifoZero_at : ∀ j, j < 16 → fifoZ[j]? = some (.int .u8 0) := by
  intro j hj
  unfold fifoZ
  rw [Array.getElem?_append_left (by simp; exact hj), Array.getElem?_replicate, if_pos hj]
theorem fifo_zero (w : World) (f : Nat → Int) : IsFifo (w.alloc (.cells fifoZ 130)) w.heap.size 0 f := by
  have hc : FifoC fifoZ 0 0 f := ⟨rfl, by decide, by decide, rfl, rfl, fun j hj => ⟨0, fifoZero_at j hj⟩, fun i hi => absurd hi (Nat.not_lt_zero i)⟩
  exact ⟨_, 0, heap_alloc_new w _, hc⟩
end Go.Proofs.Ytkbccccjjlkgbaa
