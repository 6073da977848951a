/- The walk of mimesislaw02.InstKinds: it answers true and turns nothing that was there. -/
import Derived.Test.YtokbdajdfmgdiaaDoorInstAwake
namespace Go.Proofs.YtokbdajdfmgdiaaDoor
open Go.RowKit
set_option linter.unusedVariables false

namespace instKinds
set_option maxHeartbeats 1000000 in
theorem walk (a0 : Int) (w : World) (w0 : (Lit.int .i64 a0).wf = true) (tf : FormTab w) (tn : NameTab w) :
    Calls Tryd.prog 6 #[.int .i64 a0] w fun e w' => e = .returned (.bool true) ∧ Below w.heap.size w w' := by
  have TF : Hid (FormTab w) := tf
  have TN : Hid (NameTab w) := tn
  clear tf tn
  go_enter Tryd.func6, Tryd.ntmps6
  go_wp2_with fail
  refine (ends_any _ _).mono ?_
  rintro e w1 ⟨rfl, hw⟩
  have hw := hw.symm
  subst hw
  go_wp2_with fail
  refine (rends_any _ _).mono ?_
  rintro e w1 ⟨rfl, hw⟩
  have hw := hw.symm
  subst hw
  go_wp2_with fail
  refine (loads_any _ _).mono ?_
  rintro e w1 ⟨rfl, hw⟩
  have hw := hw.symm
  subst hw
  go_wp2_with fail
  refine (rloads_any _ _).mono ?_
  rintro e w1 ⟨rfl, hw⟩
  have hw := hw.symm
  subst hw
  go_wp2_with fail
  refine (stores_any _ _).mono ?_
  rintro e w1 ⟨rfl, hw⟩
  have hw := hw.symm
  subst hw
  go_wp2_with fail
  refine (rstores_any _ _).mono ?_
  rintro e w1 ⟨rfl, hw⟩
  have hw := hw.symm
  subst hw
  go_wp2_with fail
  refine (iawake_any _ TF.out TN.out).mono ?_
  rintro e w3 ⟨rfl, hb⟩
  go_wp2
  go_ret
  exact ⟨rfl, hb⟩
end instKinds
end Go.Proofs.YtokbdajdfmgdiaaDoor
