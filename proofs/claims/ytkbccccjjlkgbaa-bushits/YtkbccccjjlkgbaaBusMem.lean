/- Layer 14: a bus as a block, and its parts. -/
import Derived.Test.YtkbccccjjlkgbaaBusMath
import Derived.Test.YtkbccccjjlkgbaaRamGo3
import Derived.Test.YtkbccccjjlkgbaaConIO
import Derived.Test.YtkbccccjjlkgbaaTimPut
namespace Go.Proofs.Ytkbccccjjlkgbaa
open Go.RowKit
set_option linter.unusedVariables false
set_option linter.unusedSimpArgs false
set_option maxRecDepth 100000

/-- The block of a bus: its parts' blocks. -/
def BusC (w : World) (B R C A : Nat) (off : Bool) (code : Int) : Prop :=
  w.heap[B]? = some (.cells #[.pointer (some ⟨R, 0, none⟩), .pointer (some ⟨C, 0, none⟩), .pointer (some ⟨A, 0, none⟩), .bool off, .int .u32 code] 94 (0, 0))
theorem BusC.lt {w : World} {B R C A : Nat} {off : Bool} {code : Int} (h : BusC w B R C A off code) : B < w.heap.size := (Array.getElem?_eq_some_iff.1 h).1
theorem BusC.keep {w w' : World} {B R C A : Nat} {off : Bool} {code : Int} (h : BusC w B R C A off code) (hb : w'.heap[B]? = w.heap[B]?) : BusC w' B R C A off code := by unfold BusC; rw [hb]; exact h
theorem BusC.on {w w' : World} {B R C A : Nat} {off : Bool} {code : Int} (h : BusC w B R C A off code) (hb : Below w.heap.size w w') : BusC w' B R C A off code := h.keep (hb.block B h.lt)
theorem BusC.q {w w' : World} {B R C A : Nat} {off : Bool} {code : Int} (h : BusC w B R C A off code) (hb : Q w w') : BusC w' B R C A off code := h.on (hb.below _)
theorem BusC.bar {w w' : World} {B R C A P : Nat} {off : Bool} {code : Int} (h : BusC w B R C A off code) (hb : Bar P w w') (hP : B ≠ P) : BusC w' B R C A off code := h.keep (hb.2.2.2.2 B h.lt hP)
theorem BusC.fr {S : Nat → Prop} {w w' : World} {B R C A : Nat} {off : Bool} {code : Int} (h : BusC w B R C A off code) (hb : Fr S w w') (hP : ¬ S B) : BusC w' B R C A off code := h.keep (hb.block h.lt hP)

set_option maxHeartbeats 400000 in
theorem bram_nil (w : World) :
    Calls Try.prog 16 #[.pointer none] w fun e w' => e = .returned (.pointer none) ∧ w' = w := by
  go_enter Try.func16, Try.ntmps16
  go_wp2
  go_ret
  exact ⟨rfl, rfl⟩

set_option maxHeartbeats 400000 in
theorem bram_any {B R C A : Nat} {off : Bool} {code : Int} (w : World) (h : BusC w B R C A off code) :
    Calls Try.prog 16 #[.pointer (some ⟨B, 0, none⟩)] w fun e w' => e = .returned (.pointer (some ⟨R, 0, none⟩)) ∧ w' = w := by
  obtain ⟨⟨q0, q1, q2, q3, q4⟩, -⟩ := five_cells h
  clear h
  go_enter Try.func16, Try.ntmps16
  go_wp2
  go_ret
  exact ⟨rfl, rfl⟩

set_option maxHeartbeats 400000 in
theorem bcon_nil (w : World) :
    Calls Try.prog 28 #[.pointer none] w fun e w' => e = .returned (.pointer none) ∧ w' = w := by
  go_enter Try.func28, Try.ntmps28
  go_wp2
  go_ret
  exact ⟨rfl, rfl⟩

set_option maxHeartbeats 400000 in
theorem bcon_any {B R C A : Nat} {off : Bool} {code : Int} (w : World) (h : BusC w B R C A off code) :
    Calls Try.prog 28 #[.pointer (some ⟨B, 0, none⟩)] w fun e w' => e = .returned (.pointer (some ⟨C, 0, none⟩)) ∧ w' = w := by
  obtain ⟨⟨q0, q1, q2, q3, q4⟩, -⟩ := five_cells h
  clear h
  go_enter Try.func28, Try.ntmps28
  go_wp2
  go_ret
  exact ⟨rfl, rfl⟩

set_option maxHeartbeats 400000 in
theorem btim_nil (w : World) :
    Calls Try.prog 29 #[.pointer none] w fun e w' => e = .returned (.pointer none) ∧ w' = w := by
  go_enter Try.func29, Try.ntmps29
  go_wp2
  go_ret
  exact ⟨rfl, rfl⟩

set_option maxHeartbeats 400000 in
theorem btim_any {B R C A : Nat} {off : Bool} {code : Int} (w : World) (h : BusC w B R C A off code) :
    Calls Try.prog 29 #[.pointer (some ⟨B, 0, none⟩)] w fun e w' => e = .returned (.pointer (some ⟨A, 0, none⟩)) ∧ w' = w := by
  obtain ⟨⟨q0, q1, q2, q3, q4⟩, -⟩ := five_cells h
  clear h
  go_enter Try.func29, Try.ntmps29
  go_wp2
  go_ret
  exact ⟨rfl, rfl⟩

set_option maxHeartbeats 400000 in
theorem boff_nil (w : World) :
    Calls Try.prog 22 #[.pointer none] w fun e w' => e = .returned (.tuple #[.int .u32 0, .bool false]) ∧ w' = w := by
  go_enter Try.func22, Try.ntmps22
  go_wp2
  go_ret2
  exact ⟨rfl, rfl⟩

set_option maxHeartbeats 400000 in
theorem boff_any {B R C A : Nat} {off : Bool} {code : Int} (w : World) (h : BusC w B R C A off code) :
    Calls Try.prog 22 #[.pointer (some ⟨B, 0, none⟩)] w fun e w' => e = .returned (.tuple #[.int .u32 code, .bool off]) ∧ Q w w' := by
  obtain ⟨⟨q0, q1, q2, q3, q4⟩, -⟩ := five_cells h
  clear h
  go_enter Try.func22, Try.ntmps22
  go_wp2_with fail
  go_quiet (fail)
  go_wp2
  go_ret2
  exact ⟨rfl, _, rfl⟩

set_option maxHeartbeats 400000 in
theorem isport_any (a : Int) (w : World) :
    Calls Try.prog 81 #[.int .u32 a] w fun e w' => e = .returned (.bool (a == 1048576)) ∧ w' = w := by
  cases h : a == 1048576
  all_goals
    go_enter Try.func81, Try.ntmps81
    go_wp2
    go_ret
    exact ⟨ret_bool (by first | exact h | exact h.symm | simp [h]), rfl⟩

set_option maxHeartbeats 400000 in
theorem iscon_any (a : Int) (w : World) :
    Calls Try.prog 84 #[.int .u32 a] w fun e w' => e = .returned (.bool (a == 268435456 || a == 268435460)) ∧ w' = w := by
  cases h : a == 268435456
  · cases h1 : a == 268435460
    all_goals
      go_enter Try.func84, Try.ntmps84
      go_wp2
      go_ret
      exact ⟨ret_bool (by simp [h, h1]), rfl⟩
  · go_enter Try.func84, Try.ntmps84
    go_wp2
    go_ret
    exact ⟨ret_bool (by simp [h]), rfl⟩

set_option maxHeartbeats 400000 in
theorem loadport_any (v : Value) (a k : Int) (w : World) :
    Calls Try.prog 82 #[v, .int .u32 a, .int .u64 k] w fun e w' => e = .returned (.tuple #[.int .u32 0, .int .i64 0]) ∧ w' = w := by
  go_enter Try.func82, Try.ntmps82
  go_wp2
  go_ret2
  exact ⟨rfl, rfl⟩

set_option maxHeartbeats 400000 in
theorem storeport_any {B R C A : Nat} {off : Bool} {code : Int} (a x k : Int) (w : World) (h : BusC w B R C A off code) :
    Calls Try.prog 83 #[.pointer (some ⟨B, 0, none⟩), .int .u32 a, .int .u32 x, .int .u64 k] w fun e w' => e = .returned (.int .i64 0) ∧ BusC w' B R C A true x ∧ Bar B w w' := by
  have HE : Hid (BusC ((w.setCell ⟨B, 3, none⟩ (.bool true)).setCell ⟨B, 4, none⟩ (.int .u32 x)) B R C A true x ∧ Bar B w ((w.setCell ⟨B, 3, none⟩ (.bool true)).setCell ⟨B, 4, none⟩ (.int .u32 x))) := ⟨heap_setCell_at (heap_setCell_at h), (Bar.setCell _ _ _ _).trans (Bar.setCell _ _ _ _)⟩
  obtain ⟨⟨q0, q1, q2, q3, q4⟩, f0, f1, f2, f3, f4⟩ := five_cells h
  clear h
  go_enter Try.func83, Try.ntmps83
  go_wp2
  go_ret
  exact ⟨rfl, HE.out⟩

set_option maxHeartbeats 400000 in
theorem bnew_no {r c t : Option Addr} (w : World) (h : r = none ∨ c = none ∨ t = none) :
    Calls Try.prog 25 #[.pointer r, .pointer c, .pointer t] w fun e w' => e = .returned (.tuple #[.pointer none, .int .i64 2]) ∧ w' = w := by
  rcases r with _ | r
  · clear h
    go_enter Try.func25, Try.ntmps25
    go_wp2
    go_ret2
    exact ⟨rfl, rfl⟩
  · rcases c with _ | c
    · clear h
      go_enter Try.func25, Try.ntmps25
      go_wp2
      go_ret2
      exact ⟨rfl, rfl⟩
    · rcases t with _ | t
      · clear h
        go_enter Try.func25, Try.ntmps25
        go_wp2
        go_ret2
        exact ⟨rfl, rfl⟩
      · rcases h with h | h | h <;> exact absurd h (by simp)

set_option maxHeartbeats 400000 in
theorem bnew_yes (R C A : Nat) (w : World) :
    Calls Try.prog 25 #[.pointer (some ⟨R, 0, none⟩), .pointer (some ⟨C, 0, none⟩), .pointer (some ⟨A, 0, none⟩)] w fun e w' => e = .returned (.tuple #[.pointer (some ⟨w.heap.size, 0, none⟩), .int .i64 0]) ∧ BusC w' w.heap.size R C A false 0 ∧ Below w.heap.size w w' := by
  go_enter Try.func25, Try.ntmps25
  go_wp2
  go_ret2
  exact ⟨rfl, heap_alloc_new _ _, (Below.refl _ _).alloc (Nat.le_refl _) _⟩
end Go.Proofs.Ytkbccccjjlkgbaa
