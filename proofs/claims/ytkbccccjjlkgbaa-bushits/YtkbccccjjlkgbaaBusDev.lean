/- Layer 14: the table of devices. -/
import Derived.Test.YtkbccccjjlkgbaaBusMem
import Derived.BigRegion
import Derived.WalkMore
namespace Go.Proofs.Ytkbccccjjlkgbaa
open Go.RowKit
set_option linter.unusedVariables false
set_option maxRecDepth 100000

/-- A function without what is bound; a method of what lies in block B. -/
abbrev fnV (f : Nat) : Value := .func (.func f) #[] #[]
abbrev mtV (f B : Nat) : Value := .func (.func f) #[.pointer (some ⟨B, 0, none⟩)] #[]
/-- The table's cells. -/
abbrev devC (B A : Nat) : Array Value := #[fnV 81, mtV 82 B, mtV 83 B, fnV 84, mtV 85 B, mtV 86 B, fnV 87, mtV 88 A, mtV 89 A]

set_option maxHeartbeats 1600000 in
theorem devices_any {B R C A : Nat} {off : Bool} {code : Int} (w : World) (h : BusC w B R C A off code) :
    Calls Try.prog 68 #[.pointer (some ⟨B, 0, none⟩)] w fun e w' => e = .returned (.slice (some ⟨w.heap.size, 0, none⟩) 3 3) ∧ w'.heap[w.heap.size]? = some (.cells (devC B A) 89 (0, 0)) ∧ Below w.heap.size w w' := by
  obtain ⟨⟨q0, q1, q2, q3, q4⟩, -⟩ := five_cells h
  clear h q0 q1 q3 q4
  go_enter Try.func68, Try.ntmps68
  go_wp2_with fail
  go_region
  go_wp2
  go_ret
  refine ⟨rfl, ?_, ?_⟩
  · first | exact heap_alloc_new _ _ | simpa using heap_alloc_new w.drew _
  · first | exact ((Below.refl w.heap.size w).drew).alloc (Nat.le_refl _) _ | exact (Below.refl _ _).alloc (Nat.le_refl _) _
end Go.Proofs.Ytkbccccjjlkgbaa
