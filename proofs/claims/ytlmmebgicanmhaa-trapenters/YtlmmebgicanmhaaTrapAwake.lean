/- Layer 17: awake. -/
import Derived.Test.YtlmmebgicanmhaaTrapEnt
import Derived.Test.YtlmmebgicanmhaaTrapName
namespace Go.Proofs.Ytlmmebgicanmhaa
open Go.RowKit
set_option linter.unusedVariables false
set_option linter.unusedSimpArgs false

/-- Registers with a Tvec alone. -/
def kAw : Nat → Int
  | 2 => 2147483905
  | _ => 0
theorem kAw_bd : KsB kAw := fun j hj => by
  match j, hj with
  | 0, _ => exact ⟨by decide, by decide⟩
  | 1, _ => exact ⟨by decide, by decide⟩
  | 2, _ => exact ⟨by decide, by decide⟩
  | 3, _ => exact ⟨by decide, by decide⟩
  | 4, _ => exact ⟨by decide, by decide⟩
  | 5, _ => exact ⟨by decide, by decide⟩
  | 6, _ => exact ⟨by decide, by decide⟩

set_option maxHeartbeats 1600000 in
theorem awake17_any (w : World) :
    Calls Try.prog 11 #[] w fun e w' => e = .returned (.bool true) ∧ Below w.heap.size w w' := by
  have HE : Hid (∀ W : World, Calls Try.prog 7 #[.agg #[.int .u32 0, .int .u32 0, .int .u32 2147483905, .int .u32 0, .int .u32 0, .int .u32 0, .int .u32 0], .int .u32 0, .int .u32 2147483655, .int .u32 0] W fun e w' => (∃ z, e = .returned (.tuple #[.agg #[.int .u32 z, .int .u32 0, .int .u32 2147483905, .int .u32 0, .int .u32 0, .int .u32 2147483655, .int .u32 0], .int .u32 2147483932])) ∧ Below W.heap.size W w') := fun W => by
    have h := genter_any kAw 0 2147483655 0 W kAw_bd (by omega) (by omega)
    refine Calls.mono (show Calls Try.prog 7 #[.agg #[.int .u32 0, .int .u32 0, .int .u32 2147483905, .int .u32 0, .int .u32 0, .int .u32 0, .int .u32 0], .int .u32 0, .int .u32 2147483655, .int .u32 0] W _ from h) ?_
    rintro e w' ⟨rfl, hb⟩
    have ha : atZ (kAw 2) 2147483655 = 2147483932 := by decide
    exact ⟨⟨enterS 0, by rw [ha]; rfl⟩, hb⟩
  have HN : Hid (∀ W : World, Calls Try.prog 9 #[.int .u32 11] W fun e w' => e = .returned (.string ⟨#[99, 97, 108, 108]⟩) ∧ Below W.heap.size W w') := fun W =>
    gname_any 11 8 W (by omega) (fun j hj => by
      match j, hj with
      | 0, _ => decide
      | 1, _ => decide
      | 2, _ => decide
      | 3, _ => decide
      | 4, _ => decide
      | 5, _ => decide
      | 6, _ => decide
      | 7, _ => decide) (fun _ => by decide)
  go_enter Try.func11, Try.ntmps11
  go_wp2_with fail
  refine (HE.out _).mono ?_
  rintro e w1 ⟨⟨z, rfl⟩, hb1⟩
  go_wp2_with fail
  refine (HN.out _).mono ?_
  rintro e w2 ⟨rfl, hb2⟩
  have HB : Hid (Below w.heap.size w w2) := (hb1.alloc hb1.size _).trans (hb2.mono (by simp; have := hb1.size; omega))
  clear hb1 hb2
  go_wp2
  go_ret
  exact ⟨rfl, HB.out⟩
end Go.Proofs.Ytlmmebgicanmhaa
