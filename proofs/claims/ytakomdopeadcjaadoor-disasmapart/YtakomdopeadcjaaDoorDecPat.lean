/- Layer 3: what mimesisref03's Patterns answers. -/
import Derived.Test.YtakomdopeadcjaaDoorDecodeSpec
namespace Go.Proofs.YtakomdopeadcjaaDoor
open Go.RowKit
set_option linter.unusedVariables false

/-- The block that Patterns lays: mask and match, turn by turn. -/
def patCells : Array Value := ((List.range 57).flatMap fun j => [Value.int .u32 (maskL.getD j 0), .int .u32 (matchL.getD j 0)]).toArray

set_option maxHeartbeats 4000000 in
set_option maxRecDepth 100000 in
theorem patterns_any (w : World) :
    Calls Tryd.prog 46 #[] w fun e w' => e = .returned (.slice (some ⟨w.heap.size, 0, none⟩) 57 57) ∧ w' = w.alloc (.cells patCells 69) := by
  go_enter Tryd.func46, Tryd.ntmps46
  go_wp2
  go_ret
  exact ⟨rfl, rfl⟩

theorem patCells_at (j : Nat) (hj : j < 57) : patCells[2 * j]? = some (.int .u32 (maskL.getD j 0)) ∧ patCells[2 * j + 1]? = some (.int .u32 (matchL.getD j 0)) := by
  match j, hj with
  | 0, _ => exact ⟨rfl, rfl⟩
  | 1, _ => exact ⟨rfl, rfl⟩
  | 2, _ => exact ⟨rfl, rfl⟩
  | 3, _ => exact ⟨rfl, rfl⟩
  | 4, _ => exact ⟨rfl, rfl⟩
  | 5, _ => exact ⟨rfl, rfl⟩
  | 6, _ => exact ⟨rfl, rfl⟩
  | 7, _ => exact ⟨rfl, rfl⟩
  | 8, _ => exact ⟨rfl, rfl⟩
  | 9, _ => exact ⟨rfl, rfl⟩
  | 10, _ => exact ⟨rfl, rfl⟩
  | 11, _ => exact ⟨rfl, rfl⟩
  | 12, _ => exact ⟨rfl, rfl⟩
  | 13, _ => exact ⟨rfl, rfl⟩
  | 14, _ => exact ⟨rfl, rfl⟩
  | 15, _ => exact ⟨rfl, rfl⟩
  | 16, _ => exact ⟨rfl, rfl⟩
  | 17, _ => exact ⟨rfl, rfl⟩
  | 18, _ => exact ⟨rfl, rfl⟩
  | 19, _ => exact ⟨rfl, rfl⟩
  | 20, _ => exact ⟨rfl, rfl⟩
  | 21, _ => exact ⟨rfl, rfl⟩
  | 22, _ => exact ⟨rfl, rfl⟩
  | 23, _ => exact ⟨rfl, rfl⟩
  | 24, _ => exact ⟨rfl, rfl⟩
  | 25, _ => exact ⟨rfl, rfl⟩
  | 26, _ => exact ⟨rfl, rfl⟩
  | 27, _ => exact ⟨rfl, rfl⟩
  | 28, _ => exact ⟨rfl, rfl⟩
  | 29, _ => exact ⟨rfl, rfl⟩
  | 30, _ => exact ⟨rfl, rfl⟩
  | 31, _ => exact ⟨rfl, rfl⟩
  | 32, _ => exact ⟨rfl, rfl⟩
  | 33, _ => exact ⟨rfl, rfl⟩
  | 34, _ => exact ⟨rfl, rfl⟩
  | 35, _ => exact ⟨rfl, rfl⟩
  | 36, _ => exact ⟨rfl, rfl⟩
  | 37, _ => exact ⟨rfl, rfl⟩
  | 38, _ => exact ⟨rfl, rfl⟩
  | 39, _ => exact ⟨rfl, rfl⟩
  | 40, _ => exact ⟨rfl, rfl⟩
  | 41, _ => exact ⟨rfl, rfl⟩
  | 42, _ => exact ⟨rfl, rfl⟩
  | 43, _ => exact ⟨rfl, rfl⟩
  | 44, _ => exact ⟨rfl, rfl⟩
  | 45, _ => exact ⟨rfl, rfl⟩
  | 46, _ => exact ⟨rfl, rfl⟩
  | 47, _ => exact ⟨rfl, rfl⟩
  | 48, _ => exact ⟨rfl, rfl⟩
  | 49, _ => exact ⟨rfl, rfl⟩
  | 50, _ => exact ⟨rfl, rfl⟩
  | 51, _ => exact ⟨rfl, rfl⟩
  | 52, _ => exact ⟨rfl, rfl⟩
  | 53, _ => exact ⟨rfl, rfl⟩
  | 54, _ => exact ⟨rfl, rfl⟩
  | 55, _ => exact ⟨rfl, rfl⟩
  | 56, _ => exact ⟨rfl, rfl⟩
  | n + 57, h => exact absurd h (by omega)
end Go.Proofs.YtakomdopeadcjaaDoor
