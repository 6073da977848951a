/- Layer 13: a timer as a block of three cells. -/
import Derived.Test.YtkbccccjjlkgbaaTimMath
import Derived.Test.YtkbccccjjlkgbaaBase
namespace Go.Proofs.Ytkbccccjjlkgbaa
open Go.RowKit
set_option linter.unusedVariables false

/-- A timer: its block A. -/
def IsTim (w : World) (A : Nat) (o m : Int) (s : Bool) : Prop := w.heap[A]? = some (.cells #[.int .u64 o, .int .u64 m, .bool s] 83 (0, 0))
theorem three_cells {w : World} {A : Nat} {a b c : Value} {t : TypeId} (h : w.heap[A]? = some (.cells #[a, b, c] t (0, 0))) :
    (w.cell? ⟨A, 0, none⟩ = some a ∧ w.cell? ⟨A, 1, none⟩ = some b ∧ w.cell? ⟨A, 2, none⟩ = some c) ∧ (w.frozen? ⟨A, 0, none⟩ = false ∧ w.frozen? ⟨A, 1, none⟩ = false ∧ w.frozen? ⟨A, 2, none⟩ = false) := by
  simp [World.cell?, World.frozen?, h]
theorem IsTim.lt {w : World} {A : Nat} {o m : Int} {s : Bool} (h : IsTim w A o m s) : A < w.heap.size := (Array.getElem?_eq_some_iff.1 h).1
theorem IsTim.on {w w' : World} {A : Nat} {o m : Int} {s : Bool} (h : IsTim w A o m s) (hb : Below w.heap.size w w') : IsTim w' A o m s := by
  unfold IsTim; rw [hb.block A h.lt]; exact h
theorem IsTim.q {w w' : World} {A : Nat} {o m : Int} {s : Bool} (h : IsTim w A o m s) (hb : Q w w') : IsTim w' A o m s := h.on (hb.below _)

theorem IsTim.drewN {w : World} {A : Nat} {o m : Int} {s : Bool} (h : IsTim w A o m s) (n : Nat) : IsTim (w.drewN n) A o m s := h.on (Q.below ⟨n, rfl⟩ _)

set_option maxHeartbeats 400000 in
theorem tnow_any {A : Nat} {o m : Int} {s : Bool} (k : Int) (w : World) (h : IsTim w A o m s) :
    Calls Try.prog 71 #[.pointer (some ⟨A, 0, none⟩), .int .u64 k] w fun e w' => e = .returned (.int .u64 (nowZ o k)) ∧ w' = w := by
  obtain ⟨⟨q0, q1, q2⟩, -⟩ := three_cells h
  clear h
  go_enter Try.func71, Try.ntmps71
  go_wp2
  go_ret
  exact ⟨ret_int rfl, rfl⟩
end Go.Proofs.Ytkbccccjjlkgbaa
