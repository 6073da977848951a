/- Layer 8: the deferred call of divideSigned, which puts the signs. -/
import Derived.Test.YtfkghgdlenfcaaaMulGo
import Derived.Defers
import Derived.RegionCalls
import Derived.Lib.Hide
import Derived.Deep.CutRange
import Derived.Deep.DeepCutAuto
import Derived.Deep.RegionHeld3
import Derived.Laws.Pointers
namespace Go.Proofs.Ytfkghgdlenfcaaa
open Go.RowKit
set_option linter.unusedVariables false

set_option maxRecDepth 100000 in
set_option maxHeartbeats 4000000 in
theorem put8_any (A : Nat) (a b q r : Int) (u : FrameMode) (w : World) (a0 : 0 ≤ a) (a1 : a < 4294967296) (b0 : 0 ≤ b) (b1 : b < 4294967296) (q0 : 0 ≤ q) (q1 : q < 4294967296) (r0 : 0 ≤ r) (r1 : r < 4294967296)
    (ca : w.cell? ⟨A, 0, none⟩ = some (.int .u32 a)) (cb : w.cell? ⟨A + 1, 0, none⟩ = some (.int .u32 b)) (cq : w.cell? ⟨A + 2, 0, none⟩ = some (.int .u32 q)) (cr : w.cell? ⟨A + 3, 0, none⟩ = some (.int .u32 r))
    (fq : w.frozen? ⟨A + 2, 0, none⟩ = false) (fr : w.frozen? ⟨A + 3, 0, none⟩ = false) :
    CallsD Try.prog 20 #[.pointer (some ⟨A, 0, none⟩), .pointer (some ⟨A + 1, 0, none⟩), .pointer (some ⟨A + 2, 0, none⟩), .pointer (some ⟨A + 3, 0, none⟩)] u w fun e u' w' =>
      u' = u ∧ (e = .returned (.tuple #[]) ∧ w'.cell? ⟨A + 2, 0, none⟩ = some (.int .u32 (negI (negB a != negB b) q)) ∧ w'.cell? ⟨A + 3, 0, none⟩ = some (.int .u32 (negI (negB a) r)) ∧ Below A w w') := by
  have HA := Lib.hid (And.intro a0 a1)
  have HB := Lib.hid (And.intro b0 b1)
  have HQ := Lib.hid (And.intro q0 q1)
  have HR := Lib.hid (And.intro r0 r1)
  clear a0 a1 b0 b1 q0 q1 r0 r1
  go_enter_d Try.func20, Try.ntmps20
  go_wp2_with fail
  go_cut [10] (fun x wc => wc = (w.setCell ⟨A + 2, 0, none⟩ (.int .u32 (negI (negB a != negB b) q))).drew)
  case first =>
    go_region_with (first
      | (go_at_call 22; refine (nought8_any _ _ (by first | exact HA.out.1 | exact HB.out.1) (by first | exact HA.out.2 | exact HB.out.2)).mono ?_; rintro e w' ⟨rfl, hw⟩; have hw := hw.symm; subst hw)
      | (go_at_call 21; refine (negif8_any _ _ _ HQ.out.1 HQ.out.2).mono ?_; rintro e w' ⟨rfl, hw⟩; have hw := hw.symm; subst hw))
    all_goals (go_wp2_with fail; go_meet; case rel => rfl)
  case rest =>
    obtain rfl := hcut
    go_wp2_with fail
    go_region_with (first
      | (go_at_call 22; refine (nought8_any _ _ HA.out.1 HA.out.2).mono ?_; rintro e w' ⟨rfl, hw⟩; have hw := hw.symm; subst hw)
      | (go_at_call 21; refine (negif8_any _ _ _ HR.out.1 HR.out.2).mono ?_; rintro e w' ⟨rfl, hw⟩; have hw := hw.symm; subst hw))
    all_goals (go_end0; exact ⟨rfl, put_end A w _ _ cq cr⟩)
end Go.Proofs.Ytfkghgdlenfcaaa
