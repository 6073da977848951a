/- Layer 10: awake. -/
import Derived.Test.YtkgamoacjkmhkaaRamRef
import Derived.Test.YtkgamoacjkmhkaaFrame
namespace Go.Proofs.Ytkgamoacjkmhkaa
open Go.RowKit
set_option linter.unusedVariables false

theorem num_two (h : Nat → Int) : numTo h 2 = h 0 + h 1 * 256 := by
  have p0 : pw (8 * ((0 : Nat) : Int)) = 1 := by decide
  have p1 : pw (8 * ((1 : Nat) : Int)) = 256 := by decide
  rw [numTo, numTo, numTo, p0, p1]; omega

set_option maxHeartbeats 1600000 in
theorem awake10_any (w : World) :
    Calls Try.prog 9 #[] w fun e w' => e = .returned (.bool true) ∧ Below w.heap.size w w' := by
  have HN : Hid (∀ W : World, Calls Try.prog 7 #[.int .i64 128] W fun e w' => ∃ R, e = .returned (.tuple #[.pointer (some ⟨R, 0, none⟩), .int .i64 0]) ∧ W.heap.size ≤ R ∧ (∃ P, W.heap.size ≤ P ∧ IsRam w' R P 2 (fun _ => 0) (fun _ => false) (fun _ => 0)) ∧ Below W.heap.size W w') := fun W => new_yes 2 W (by omega) (by omega)
  have HS : Hid (∀ W R P, IsRam W R P 2 (fun _ => 0) (fun _ => false) (fun _ => 0) → Calls Try.prog 20 #[.pointer (some ⟨R, 0, none⟩), .int .u32 2147483712, .int .i64 4, .int .u32 305419896] W fun e w' => e = .returned (.tuple #[.bool false, .int .i64 0]) ∧ IsRam w' R P 2 (bput (fun _ => 0) 64 4 (byteAt 305419896)) (wHit (fun _ => false) 1) (gHit (fun _ => false) (fun _ => 0) 1) ∧ Bar P W w') := fun W R P h =>
    store_yes R P 2 64 4 2147483712 305419896 (fun _ => 0) (fun _ => false) (fun _ => 0) 0 W (by omega) h (fun _ _ => ⟨Int.le_refl 0, Int.le_refl 0⟩) (by omega) (by decide) (by decide) (by decide) (by decide) (by omega) (by omega)
  have HL : Hid (∀ W R P wa g, IsRam W R P 2 (bput (fun _ => 0) 64 4 (byteAt 305419896)) wa g → Calls Try.prog 19 #[.pointer (some ⟨R, 0, none⟩), .int .u32 2147483714, .int .i64 2] W fun e w' => e = .returned (.tuple #[.int .u32 4660, .int .i64 0]) ∧ Q W w') := fun W R P wa g h => by
    have := load_yes R P 2 66 2 2147483714 (bput (fun _ => 0) 64 4 (byteAt 305419896)) wa g W (by omega) h (BdB.put (fun _ _ => by decide) 64 4 (fun i _ => byteAt_bd _ i)) (by decide) (by decide) (by decide) (by decide)
    rwa [num_two, show (bput (fun _ => 0) 64 4 (byteAt 305419896) (66 + 0) + bput (fun _ => 0) 64 4 (byteAt 305419896) (66 + 1) * 256 : Int) = 4660 from by decide +kernel] at this
  have HP : Hid (∀ W R P b wa g, IsRam W R P 2 b wa g → Calls Try.prog 18 #[.pointer (some ⟨R, 0, none⟩), .int .u32 2147483712] W fun e w' => e = .returned (.int .i64 1) ∧ w' = W) := fun W R P b wa g h => page_any R P 2 2147483712 W (by omega) h.ptr (by omega) (by omega)
  go_enter Try.func9, Try.ntmps9
  go_wp2_with fail
  refine (HN.out _).mono ?_
  rintro e w1 ⟨R, rfl, hR, ⟨P, hP, hi⟩, hb⟩
  have HI := Lib.hid hi
  have HB := Lib.hid hb
  have HPP := Lib.hid hP
  clear hi hb hR hP
  go_wp2_with fail
  refine (HS.out _ _ _ HI.out).mono ?_
  rintro e w2 ⟨rfl, hi, hbar⟩
  have HI2 := Lib.hid hi
  have HB2 : Hid (Below w.heap.size w w2) := HB.out.trans (hbar.below HPP.out HB.out.size)
  clear hi hbar
  go_wp2_with fail
  refine (HL.out _ _ _ _ _ HI2.out).mono ?_
  rintro e w3 ⟨rfl, hq⟩
  have HI3 := Lib.hid (HI2.out.q hq)
  have HB3 : Hid (Below w.heap.size w w3) := HB2.out.trans (hq.below _)
  clear hq
  go_wp2_with fail
  refine (HP.out _ _ _ _ _ _ HI3.out).mono ?_
  rintro e w4 ⟨rfl, hw⟩; subst hw
  go_wp2
  go_ret
  exact ⟨rfl, HB3.out⟩

end Go.Proofs.Ytkgamoacjkmhkaa
