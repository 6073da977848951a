/- Layer 10: what stands in memory while one step is done by both. -/
import Derived.Test.YtkgamoacjkmhkaaRamStore
namespace Go.Proofs.Ytkgamoacjkmhkaa
open Go.RowKit
set_option linter.unusedVariables false

def Box3 (w : World) (A : Nat) (a b c : Value) : Prop := w.heap[A]? = some (.cells #[a, b, c] 36 (0, 0))
def Box5 (w : World) (A : Nat) (a b c d e : Value) : Prop := w.heap[A]? = some (.cells #[a, b, c, d, e] 42 (0, 0))
theorem Box3.cells {w : World} {A : Nat} {a b c : Value} (h : Box3 w A a b c) : w.cell? ⟨A, 0, none⟩ = some a ∧ w.cell? ⟨A, 1, none⟩ = some b ∧ w.cell? ⟨A, 2, none⟩ = some c := (three_cells h).1
theorem Box3.free {w : World} {A : Nat} {a b c : Value} (h : Box3 w A a b c) : w.frozen? ⟨A, 0, none⟩ = false ∧ w.frozen? ⟨A, 1, none⟩ = false ∧ w.frozen? ⟨A, 2, none⟩ = false := (three_cells h).2
theorem Box5.cells {w : World} {A : Nat} {a b c d e : Value} (h : Box5 w A a b c d e) : w.cell? ⟨A, 0, none⟩ = some a ∧ w.cell? ⟨A, 1, none⟩ = some b ∧ w.cell? ⟨A, 2, none⟩ = some c ∧ w.cell? ⟨A, 3, none⟩ = some d ∧ w.cell? ⟨A, 4, none⟩ = some e := by
  unfold Box5 at h
  simp [World.cell?, h]
theorem Box3.bar {w w' : World} {A P : Nat} {a b c : Value} (h : Box3 w A a b c) (hb : Bar P w w') (hne : A ≠ P) : Box3 w' A a b c := by
  unfold Box3 at *
  rw [hb.2.2.2.2 A (Array.getElem?_eq_some_iff.1 h).1 hne]; exact h
theorem Box5.bar {w w' : World} {A P : Nat} {a b c d e : Value} (h : Box5 w A a b c d e) (hb : Bar P w w') (hne : A ≠ P) : Box5 w' A a b c d e := by
  unfold Box5 at *
  rw [hb.2.2.2.2 A (Array.getElem?_eq_some_iff.1 h).1 hne]; exact h

/-- The three blocks of a step: the document's memory, the step, the result. -/
def StepB (w : World) (A : Nat) (a b c k ad n x s : Value) : Prop := Box3 w A a b c ∧ Box5 w (A + 1) k ad n x s ∧ Box3 w (A + 1 + 1) (.slice none 0 0) (.slice none 0 0) (.slice none 0 0)
theorem StepB.bar {w w' : World} {A P : Nat} {a b c k ad n x s : Value} (h : StepB w A a b c k ad n x s) (hb : Bar P w w') (hP : P < A) : StepB w' A a b c k ad n x s :=
  ⟨h.1.bar hb (by omega), h.2.1.bar hb (by omega), h.2.2.bar hb (by omega)⟩
theorem StepB.on {w w' : World} {A : Nat} {a b c k ad n x s : Value} (h : StepB w A a b c k ad n x s) (hb : Below w.heap.size w w') : StepB w' A a b c k ad n x s := by
  have hB := Bar.of w.heap.size hb
  have l1 := (Array.getElem?_eq_some_iff.1 h.1).1
  have l2 := (Array.getElem?_eq_some_iff.1 h.2.1).1
  have l3 := (Array.getElem?_eq_some_iff.1 h.2.2).1
  exact ⟨h.1.bar hB (by omega), h.2.1.bar hB (by omega), h.2.2.bar hB (by omega)⟩

/-- Behind the boxes. -/
theorem step_start (w : World) (a b c k ad n x s : Value) :
    StepB (((w.alloc (.cells #[a, b, c] 36)).alloc (.cells #[k, ad, n, x, s] 42)).alloc (.cells #[.slice none 0 0, .slice none 0 0, .slice none 0 0] 36)) w.heap.size a b c k ad n x s ∧
    Below w.heap.size w (((w.alloc (.cells #[a, b, c] 36)).alloc (.cells #[k, ad, n, x, s] 42)).alloc (.cells #[.slice none 0 0, .slice none 0 0, .slice none 0 0] 36)) ∧
    (((w.alloc (.cells #[a, b, c] 36)).alloc (.cells #[k, ad, n, x, s] 42)).alloc (.cells #[.slice none 0 0, .slice none 0 0, .slice none 0 0] 36)).heap.size = w.heap.size + 3 := by
  refine ⟨⟨?_, ?_, ?_⟩, (((Below.refl _ _).alloc (Nat.le_refl _) _).alloc (by simp) _).alloc (by simp; omega) _, by simp⟩
  · unfold Box3
    rw [heap_alloc_old _ _ (by simp; omega), heap_alloc_old _ _ (by simp)]
    exact heap_alloc_new _ _
  · unfold Box5
    rw [heap_alloc_old _ _ (by simp)]
    have := heap_alloc_new (w.alloc (.cells #[a, b, c] 36)) (.cells #[k, ad, n, x, s] 42)
    simpa using this
  · unfold Box3
    have := heap_alloc_new ((w.alloc (.cells #[a, b, c] 36)).alloc (.cells #[k, ad, n, x, s] 42)) (.cells #[.slice none 0 0, .slice none 0 0, .slice none 0 0] 36)
    simpa using this

theorem IsRam.bar {w w' : World} {R P K C : Nat} {b : Nat → Int} {wa : Nat → Bool} {g : Nat → Int} (h : IsRam w R P K b wa g) (hb : Bar C w w') (h1 : R ≠ C) (h2 : P ≠ C) : IsRam w' R P K b wa g := by
  obtain ⟨l1, l2⟩ := h.lt
  obtain ⟨hne, hR, cs, hP, hc⟩ := h
  exact ⟨hne, by rw [hb.2.2.2.2 R l1 h1]; exact hR, cs, by rw [hb.2.2.2.2 P l2 h2]; exact hP, hc⟩

/-- The document's memory as a value, its three rows none of the blocks P and C. -/
def RefW (w : World) (P C : Nat) (v : Value) (K : Nat) (b : Nat → Int) (wa : Nat → Bool) (g : Nat → Int) : Prop := RefV w P v K b wa g ∧ RefV w C v K b wa g
theorem RefV.two {w : World} {P C K : Nat} {v : Value} {b : Nat → Int} {wa : Nat → Bool} {g : Nat → Int} (h : RefV w P v K b wa g) (hK : 1 ≤ K) (hC : w.heap.size ≤ C) : RefW w P C v K b wa g := by
  refine ⟨h, ?_⟩
  obtain ⟨B1, B2, B3, c1, c2, c3, hv, hc, hp, h1, h2, h3⟩ := h
  have l1 := World.block_lt_of_cell? w _ (h1 0 (by omega))
  have l2 := World.block_lt_of_cell? w _ (h2 0 (by omega))
  have l3 := World.block_lt_of_cell? w _ (h3 0 (by omega))
  simp only at l1 l2 l3
  exact ⟨B1, B2, B3, c1, c2, c3, hv, hc, ⟨by omega, by omega, by omega⟩, h1, h2, h3⟩
theorem RefW.barP {w w' : World} {P C K : Nat} {v : Value} {b : Nat → Int} {wa : Nat → Bool} {g : Nat → Int} (h : RefW w P C v K b wa g) (hb : Bar P w w') : RefW w' P C v K b wa g := by
  refine ⟨h.1.bar hb, ?_⟩
  obtain ⟨B1, B2, B3, c1, c2, c3, hv, hc, hp, h1, h2, h3⟩ := h.1
  obtain ⟨B1', B2', B3', c1', c2', c3', hv', hc', hp', _⟩ := h.2
  rw [hv] at hv'
  simp at hv'
  obtain ⟨⟨rfl, _⟩, ⟨rfl, _⟩, ⟨rfl, _⟩⟩ := hv'
  exact ⟨B1, B2, B3, c1, c2, c3, hv, hc, hp', h1.bar hb hp.1, h2.bar hb hp.2.1, h3.bar hb hp.2.2⟩
theorem RefW.on {w w' : World} {P C K : Nat} {v : Value} {b : Nat → Int} {wa : Nat → Bool} {g : Nat → Int} (h : RefW w P C v K b wa g) (hb : Below w.heap.size w w') : RefW w' P C v K b wa g := ⟨h.1.on hb, h.2.on hb⟩
theorem RefW.barC {w w' : World} {P C K : Nat} {v : Value} {b : Nat → Int} {wa : Nat → Bool} {g : Nat → Int} (h : RefW w P C v K b wa g) (hb : Bar C w w') : RefV w' P v K b wa g := by
  obtain ⟨B1, B2, B3, c1, c2, c3, hv, hc, hp, h1, h2, h3⟩ := h.1
  obtain ⟨B1', B2', B3', c1', c2', c3', hv', hc', hp', _⟩ := h.2
  rw [hv] at hv'
  simp at hv'
  obtain ⟨⟨rfl, _⟩, ⟨rfl, _⟩, ⟨rfl, _⟩⟩ := hv'
  exact ⟨B1, B2, B3, c1, c2, c3, hv, hc, hp, h1.bar hb hp'.1, h2.bar hb hp'.2.1, h3.bar hb hp'.2.2⟩

theorem bar3 (C : Nat) (w : World) (x y z : Value) : Bar C w (((w.setCell ⟨C, 0, none⟩ x).setCell ⟨C, 1, none⟩ y).setCell ⟨C, 2, none⟩ z) := ((Bar.setCell _ _ _ _).trans (Bar.setCell _ _ _ _)).trans (Bar.setCell _ _ _ _)

/-- What a step leaves: both memories, the same. -/
def StepOut (w : World) (R P K : Nat) (v : Value) (m : Int) : Prop := ∃ b wa g, IsRam w R P K b wa g ∧ RefV w P v K b wa g ∧ BdB K b ∧ BdG K g m

/-- The end of a step: the result is stored into block C. -/
theorem step_end {w : World} {R P K C : Nat} {v x y z : Value} {b : Nat → Int} {wa : Nat → Bool} {g : Nat → Int} {m : Int} (h : IsRam w R P K b wa g) (hr : RefW w P C v K b wa g) (h1 : R < C) (h2 : P < C) (hb : BdB K b) (hg : BdG K g m) :
    StepOut (((w.setCell ⟨C, 0, none⟩ x).setCell ⟨C, 1, none⟩ y).setCell ⟨C, 2, none⟩ z) R P K v m := by
  have hbar : Bar C w (((w.setCell ⟨C, 0, none⟩ x).setCell ⟨C, 1, none⟩ y).setCell ⟨C, 2, none⟩ z) := ((Bar.setCell _ _ _ _).trans (Bar.setCell _ _ _ _)).trans (Bar.setCell _ _ _ _)
  exact ⟨b, wa, g, h.bar hbar (by omega) (by omega), hr.barC hbar, hb, hg⟩
theorem bar_end {w w' : World} {P C : Nat} {x y z : Value} (h : Bar P w w') (hC : w.heap.size ≤ C) : Bar P w (((w'.setCell ⟨C, 0, none⟩ x).setCell ⟨C, 1, none⟩ y).setCell ⟨C, 2, none⟩ z) := by
  have hb : Below C w' (((w'.setCell ⟨C, 0, none⟩ x).setCell ⟨C, 1, none⟩ y).setCell ⟨C, 2, none⟩ z) := three_set (Below.refl _ _) (Nat.le_refl _)
  exact ⟨hb.os.trans h.1, hb.tape.trans h.2.1, hb.output.trans h.2.2.1, Nat.le_trans h.size hb.size, fun k hk hne => (hb.block k (by omega)).trans (h.2.2.2.2 k hk hne)⟩

/-- What holds while the result of a step is reckoned: the boxes, both memories. -/
def StepS (w : World) (R P K : Nat) (a c d k ad n x s v : Value) (b : Nat → Int) (wa : Nat → Bool) (g : Nat → Int) (w' : World) : Prop :=
  Bar P w w' ∧ (Box3 w' w.heap.size a c d ∧ Box5 w' (w.heap.size + 1) k ad n x s) ∧ IsRam w' R P K b wa g ∧ RefW w' P (w.heap.size + 1 + 1) v K b wa g
theorem StepS.on {w : World} {R P K : Nat} {a c d k ad n x s v : Value} {b : Nat → Int} {wa : Nat → Bool} {g : Nat → Int} {w1 w2 : World} (h : StepS w R P K a c d k ad n x s v b wa g w1) (hb : Below w1.heap.size w1 w2) : StepS w R P K a c d k ad n x s v b wa g w2 := by
  obtain ⟨h1, ⟨h2, h3⟩, h4, h5⟩ := h
  have hB := Bar.of w1.heap.size hb
  have l1 := (Array.getElem?_eq_some_iff.1 h2).1
  have l2 := (Array.getElem?_eq_some_iff.1 h3).1
  exact ⟨h1.trans (Bar.of P hb), ⟨h2.bar hB (by omega), h3.bar hB (by omega)⟩, h4.on hb, h5.on hb⟩
theorem StepS.q {w : World} {R P K : Nat} {a c d k ad n x s v : Value} {b : Nat → Int} {wa : Nat → Bool} {g : Nat → Int} {w1 w2 : World} (h : StepS w R P K a c d k ad n x s v b wa g w1) (hq : Q w1 w2) : StepS w R P K a c d k ad n x s v b wa g w2 := h.on (hq.below _)
theorem StepS.store {w : World} {R P K : Nat} {a c d k ad n x s v : Value} {b : Nat → Int} {wa : Nat → Bool} {g : Nat → Int} {w1 : World} (h : StepS w R P K a c d k ad n x s v b wa g w1) (hL : R < w.heap.size ∧ P < w.heap.size) (y1 y2 y3 : Value) :
    StepS w R P K a c d k ad n x s v b wa g (((w1.setCell ⟨w.heap.size + 1 + 1, 0, none⟩ y1).setCell ⟨w.heap.size + 1 + 1, 1, none⟩ y2).setCell ⟨w.heap.size + 1 + 1, 2, none⟩ y3) := by
  obtain ⟨h1, ⟨h2, h3⟩, h4, h5⟩ := h
  have hbar := bar3 (w.heap.size + 1 + 1) w1 y1 y2 y3
  exact ⟨bar_end h1 (by omega), ⟨h2.bar hbar (by omega), h3.bar hbar (by omega)⟩, h4.bar hbar (by omega) (by omega), ⟨h5.barC hbar, h5.2.bar hbar⟩⟩
theorem StepS.out {w : World} {R P K : Nat} {a c d k ad n x s v : Value} {b : Nat → Int} {wa : Nat → Bool} {g : Nat → Int} {w1 : World} {m : Int} (h : StepS w R P K a c d k ad n x s v b wa g w1) (hb : BdB K b) (hg : BdG K g m) : StepOut w1 R P K v m ∧ Bar P w w1 :=
  ⟨⟨b, wa, g, h.2.2.1, h.2.2.2.1, hb, hg⟩, h.1⟩

/-- The same, of the memory alone. -/
def StepT (w : World) (R P K : Nat) (a c d k ad n x s : Value) (b : Nat → Int) (wa : Nat → Bool) (g : Nat → Int) (w' : World) : Prop :=
  Bar P w w' ∧ (Box3 w' w.heap.size a c d ∧ Box5 w' (w.heap.size + 1) k ad n x s) ∧ IsRam w' R P K b wa g
theorem StepT.on {w : World} {R P K : Nat} {a c d k ad n x s : Value} {b : Nat → Int} {wa : Nat → Bool} {g : Nat → Int} {w1 w2 : World} (h : StepT w R P K a c d k ad n x s b wa g w1) (hb : Below w1.heap.size w1 w2) : StepT w R P K a c d k ad n x s b wa g w2 := by
  obtain ⟨h1, ⟨h2, h3⟩, h4⟩ := h
  have hB := Bar.of w1.heap.size hb
  have l1 := (Array.getElem?_eq_some_iff.1 h2).1
  have l2 := (Array.getElem?_eq_some_iff.1 h3).1
  exact ⟨h1.trans (Bar.of P hb), ⟨h2.bar hB (by omega), h3.bar hB (by omega)⟩, h4.on hb⟩
theorem StepT.store {w : World} {R P K : Nat} {a c d k ad n x s : Value} {b : Nat → Int} {wa : Nat → Bool} {g : Nat → Int} {w1 : World} (h : StepT w R P K a c d k ad n x s b wa g w1) (hL : R < w.heap.size ∧ P < w.heap.size) (y1 y2 y3 : Value) :
    StepT w R P K a c d k ad n x s b wa g (((w1.setCell ⟨w.heap.size + 1 + 1, 0, none⟩ y1).setCell ⟨w.heap.size + 1 + 1, 1, none⟩ y2).setCell ⟨w.heap.size + 1 + 1, 2, none⟩ y3) := by
  obtain ⟨h1, ⟨h2, h3⟩, h4⟩ := h
  have hbar := bar3 (w.heap.size + 1 + 1) w1 y1 y2 y3
  exact ⟨bar_end h1 (by omega), ⟨h2.bar hbar (by omega), h3.bar hbar (by omega)⟩, h4.bar hbar (by omega) (by omega)⟩

theorem ask_ok {K : Nat} {addr n : Int} (h : askZ K addr n = 0) : sizeB n = true ∧ addr % n = 0 ∧ hasB K addr n = true := by
  rcases askZ_cases K addr n with ⟨_, e⟩ | ⟨_, _, e⟩ | ⟨_, _, _, e⟩ | ⟨h1, h2, h3, _⟩
  · rw [e] at h; omega
  · rw [e] at h; omega
  · rw [e] at h; omega
  · exact ⟨h1, h2, h3⟩
end Go.Proofs.Ytkgamoacjkmhkaa
