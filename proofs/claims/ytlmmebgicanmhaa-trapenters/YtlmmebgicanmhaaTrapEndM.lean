/- Layer 17: what the walks of the statements keep of their boxes. -/
import Derived.Test.YtlmmebgicanmhaaTrapGo
namespace Go.Proofs.Ytlmmebgicanmhaa
open Go.RowKit
set_option linter.unusedVariables false
set_option linter.unusedSimpArgs false

theorem IsKs.on {w w' : World} {A : Nat} {K : Nat → Int} (h : IsKs w A K) (hb : Below w.heap.size w w') : IsKs w' A K := heap17_on h hb
theorem ks_new (w : World) (K : Nat → Int) : IsKs (w.alloc (.cells #[.int .u32 (K 0), .int .u32 (K 1), .int .u32 (K 2), .int .u32 (K 3), .int .u32 (K 4), .int .u32 (K 5), .int .u32 (K 6)] 24)) w.heap.size K := by
  show (w.heap.push _)[w.heap.size]? = _
  simp
theorem IsKs.alloc {w : World} {A : Nat} {K : Nat → Int} (h : IsKs w A K) (o : Obj) : IsKs (w.alloc o) A K := h.on ((Below.refl _ _).alloc (Nat.le_refl _) _)
theorem below_call {w a b : World} (h : Below w.heap.size w a) (g : Below a.heap.size a b) : Below w.heap.size w b := h.trans (g.mono h.size)
theorem below_alloc {w a : World} (h : Below w.heap.size w a) (o : Obj) : Below w.heap.size w (a.alloc o) := h.alloc h.size _
theorem cells_on {w w' : World} {A j : Nat} {v : Value} (h : w.cell? ⟨A, j, none⟩ = some v) (hA : A < w.heap.size) (hb : Below w.heap.size w w') : w'.cell? ⟨A, j, none⟩ = some v := by
  rw [hb.cell (p := ⟨A, j, none⟩) hA]; exact h
/-- Two words as a block. -/
def IsTwo (w : World) (A : Nat) (a b : Int) : Prop := w.heap[A]? = some (.cells #[.int .u32 a, .int .u32 b] 25 (0, 0))
theorem IsTwo.on {w w' : World} {A : Nat} {a b : Int} (h : IsTwo w A a b) (hb : Below w.heap.size w w') : IsTwo w' A a b := heap17_on h hb
theorem two_cells17 {w : World} {A : Nat} {a b : Int} (h : IsTwo w A a b) : w.cell? ⟨A, 0, none⟩ = some (.int .u32 a) ∧ w.cell? ⟨A, 1, none⟩ = some (.int .u32 b) := by
  unfold IsTwo at h
  simp [World.cell?, h]

/-- Three words as a block. -/
def IsTri (w : World) (A : Nat) (a b c : Int) : Prop := w.heap[A]? = some (.cells #[.int .u32 a, .int .u32 b, .int .u32 c] 36 (0, 0))
theorem IsTri.on {w w' : World} {A : Nat} {a b c : Int} (h : IsTri w A a b c) (hb : Below w.heap.size w w') : IsTri w' A a b c := heap17_on h hb
theorem tri_cells17 {w : World} {A : Nat} {a b c : Int} (h : IsTri w A a b c) : w.cell? ⟨A, 0, none⟩ = some (.int .u32 a) ∧ w.cell? ⟨A, 1, none⟩ = some (.int .u32 b) ∧ w.cell? ⟨A, 2, none⟩ = some (.int .u32 c) := by
  unfold IsTri at h
  simp [World.cell?, h]
end Go.Proofs.Ytlmmebgicanmhaa
