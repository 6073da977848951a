/- The walk of mimesislaw02.InstNames: it answers true and turns nothing that was there. -/
import Derived.Test.YtokbdajdfmgdiaaDoorInstAwake
namespace Go.Proofs.YtokbdajdfmgdiaaDoor
open Go.RowKit
set_option linter.unusedVariables false

namespace instNames
set_option maxHeartbeats 1000000 in
theorem walk (a0 : Int) (w : World) (w0 : (Lit.int .i64 a0).wf = true) (tf : FormTab w) (tn : NameTab w) :
    Calls Tryd.prog 3 #[.int .i64 a0] w fun e w' => e = .returned (.bool true) ∧ Below w.heap.size w w' := by
  cases ho : opB a0 with
  | false =>
    have hn := opB_no ho
    have TF : Hid (FormTab w) := tf
    have TN : Hid (NameTab w) := tn
    clear tf tn
    by_cases h0 : a0 < 0
    · go_enter Tryd.func3, Tryd.ntmps3
      go_wp2_with fail
      refine (name_no _ _ ho).mono ?_
      rintro e w1 ⟨rfl, hw⟩
      have hw := hw.symm
      subst hw
      go_wp2_with fail
      refine (form_no _ _ ho).mono ?_
      rintro e w1 ⟨rfl, hw⟩
      have hw := hw.symm
      subst hw
      go_wp2_with fail
      refine (iawake_any _ TF.out TN.out).mono ?_
      rintro e w1 ⟨rfl, hb⟩
      go_wp2
      go_ret
      exact ⟨rfl, hb⟩
    · have h1 : 58 ≤ a0 := by omega
      go_enter Tryd.func3, Tryd.ntmps3
      go_wp2_with fail
      refine (name_no _ _ ho).mono ?_
      rintro e w1 ⟨rfl, hw⟩
      have hw := hw.symm
      subst hw
      go_wp2_with fail
      refine (form_no _ _ ho).mono ?_
      rintro e w1 ⟨rfl, hw⟩
      have hw := hw.symm
      subst hw
      go_wp2_with fail
      refine (iawake_any _ TF.out TN.out).mono ?_
      rintro e w1 ⟨rfl, hb⟩
      go_wp2
      go_ret
      exact ⟨rfl, hb⟩
  | true =>
    have hn := opB_yes ho
    obtain ⟨k, rfl⟩ := Int.eq_ofNat_of_zero_le hn.1
    have hk : k < 58 := by omega
    have TF : Hid (FormTab w) := tf
    have TN : Hid (NameTab w) := tn
    clear tf tn
    go_enter Tryd.func3, Tryd.ntmps3
    go_wp2_with fail
    refine (name_yes k hk _ TN.out).mono ?_
    rintro e w1 ⟨rfl, hw⟩
    have hw := hw.symm
    subst hw
    go_wp2_with fail
    refine (form_yes k hk _ TF.out).mono ?_
    rintro e w1 ⟨rfl, hw⟩
    have hw := hw.symm
    subst hw
    go_wp2_with fail
    refine (op_own k hk _ TN.out).mono ?_
    rintro e w1 ⟨rfl, hw⟩
    have hw := hw.symm
    subst hw
    go_wp2_with fail
    refine (rnames_any _).mono ?_
    rintro e w1 ⟨g, rfl, hg, hc, hb⟩
    have hck := hc k hk
    have HB : Hid (Below w.heap.size w w1) := hb
    clear hb hc
    go_wp2_with fail
    refine (rform_any k hk _).mono ?_
    rintro e w2 ⟨rfl, hw⟩
    have hw := hw.symm
    subst hw
    go_wp2_with fail
    refine (iawake_any _ (TF.out.below HB.out) (TN.out.below HB.out)).mono ?_
    rintro e w3 ⟨rfl, hb⟩
    go_wp2
    go_ret
    exact ⟨rfl, HB.out.trans (hb.mono HB.out.size)⟩
end instNames
end Go.Proofs.YtokbdajdfmgdiaaDoor
