/- Layer 2: the document's own Names; the program answers at all. -/
import Derived.Test.YtokbdajdfmgdiaaDoorInstOp
import Derived.Test.YtokbdajdfmgdiaaDoorInstRefs
namespace Go.Proofs.YtokbdajdfmgdiaaDoor
open Go.RowKit
set_option linter.unusedVariables false

set_option maxHeartbeats 1000000 in
theorem rnames_any (w : World) :
    Calls Tryd.prog 12 #[] w fun e w' => ∃ g, e = .returned (.slice (some ⟨g, 0, none⟩) 58 58) ∧ w.heap.size ≤ g ∧ (∀ k, k < 58 → w'.cell? ⟨g, k, none⟩ = some (.string (nameS k))) ∧ Below w.heap.size w w' := by
  go_enter Tryd.func12, Tryd.ntmps12
  go_wp2
  go_ret
  refine ⟨_, rfl, Nat.le_refl _, ?_, (Below.refl _ _).alloc (Nat.le_refl _) _⟩
  intro k hk
  have hn : (nameL.map fun s => Value.string ⟨s.toArray⟩)[k]? = some (.string (nameS k)) := by
    have : k < nameL.length := hk
    simp [nameS, List.getD, this]
  rw [← hn, ← List.getElem?_toArray]
  simp only [World.cell?, World.alloc, Array.getElem?_push_size]
  rfl

set_option maxHeartbeats 1000000 in
theorem iawake_any (w : World) (tf : FormTab w) (tn : NameTab w) : Calls Tryd.prog 10 #[] w fun e w' => e = .returned (.bool true) ∧ Below w.heap.size w w' := by
  have h1 : nameS 18 = ⟨#[115, 119]⟩ := rfl
  have h2 : nameS 57 = ⟨#[114, 101, 109, 117]⟩ := rfl
  have h3 : rightOf (formZ 28) 31 0 0 0 0 = true := by decide
  have TF : Hid (FormTab w) := tf
  have TN : Hid (NameTab w) := tn
  clear tf tn
  go_enter Tryd.func10, Tryd.ntmps10
  go_wp2_with fail
  refine (name_yes 18 (by omega) _ TN.out).mono ?_
  rintro e w1 ⟨rfl, hw⟩
  have hw := hw.symm
  subst hw
  rw [h1]
  go_wp2_with fail
  refine (op_yes 57 (by omega) _ h2 (fun j hj => by rw [← h2]; exact str_ne (nameS_apart 57 j (by omega) hj)) _ TN.out).mono ?_
  rintro e w1 ⟨rfl, hw⟩
  have hw := hw.symm
  subst hw
  go_wp2_with fail
  refine (iright_yes 28 _ _ _ _ _ _ (by omega) (by omega) (by omega) TF.out).mono ?_
  rw [h3]
  rintro e w3 ⟨rfl, hb⟩
  go_wp2
  go_ret
  exact ⟨rfl, hb⟩
end Go.Proofs.YtokbdajdfmgdiaaDoor
