/-
  DERIVED. GIVEN WITH THE SEED: THE CARDS: each row of YtokbdajdfmgdiaaDoorRows.lean that lists a variable, with what it lists TIED to the program's text (the seventh form; the later family's looks); each row that meets fmt, with fmt's text TOLD by the authors' own Lean function (tested against real Go, not proved from fmt's source: count such statements apart). THE CARD IS WHAT COUNTS. Prove the row's statement (the work); the ties are given (YtokbdajdfmgdiaaDoorTie.lean); close each card by the builder's one call (the guide's Derived/Test/ToyasCard.lean, 'card_holds'). Laid BY PROGRAM, IN A SANDBOX (cutbox-door.mjs). By AI agents, Wed Nov 11 2026. No macro, syntax, notation, axiom, sorry.
-/
import Derived.Test.YtokbdajdfmgdiaaDoorRows
import GoSem.ClaimSeven
namespace Go.Proofs.YtokbdajdfmgdiaaDoor
namespace Rows

/-- THE TIED CARD OF 'mimesislaw02.InstNames'. -/
def instNamesCard : Claim7 := { stood := { row := instNamesRow, standIns := [], harness := (true, "c8154ae904766dfe95e74b686fff681450aa0bb89a772aa931477db369a7c760"), looks := false }, kinds := [], alts := [], laidByText := true, laidKinds := [.data, .data], laidTests := true, laidLooks := .later }
def InstNamesCardSaid : Prop := Claim7.holds Tryd.pinned (.plain (OpenSpec.ofChange instNamesSpec)) instNamesCard

/-- THE TIED CARD OF 'mimesislaw02.InstOps'. -/
def instOpsCard : Claim7 := { stood := { row := instOpsRow, standIns := [], harness := (true, "c8154ae904766dfe95e74b686fff681450aa0bb89a772aa931477db369a7c760"), looks := false }, kinds := [], alts := [], laidByText := true, laidKinds := [.data, .data], laidTests := true, laidLooks := .later }
def InstOpsCardSaid : Prop := Claim7.holds Tryd.pinned (.plain (OpenSpec.ofChange instOpsSpec)) instOpsCard

/-- THE TIED CARD OF 'mimesislaw02.InstRight'. -/
def instRightCard : Claim7 := { stood := { row := instRightRow, standIns := [], harness := (true, "c8154ae904766dfe95e74b686fff681450aa0bb89a772aa931477db369a7c760"), looks := false }, kinds := [], alts := [], laidByText := true, laidKinds := [.data, .data], laidTests := true, laidLooks := .later }
def InstRightCardSaid : Prop := Claim7.holds Tryd.pinned (.plain (OpenSpec.ofChange instRightSpec)) instRightCard

/-- THE TIED CARD OF 'mimesislaw02.InstKinds'. -/
def instKindsCard : Claim7 := { stood := { row := instKindsRow, standIns := [], harness := (true, "c8154ae904766dfe95e74b686fff681450aa0bb89a772aa931477db369a7c760"), looks := false }, kinds := [], alts := [], laidByText := true, laidKinds := [.data, .data], laidTests := true, laidLooks := .later }
def InstKindsCardSaid : Prop := Claim7.holds Tryd.pinned (.plain (OpenSpec.ofChange instKindsSpec)) instKindsCard

/-- THE TIED CARD OF 'mimesislaw02.InstUses'. -/
def instUsesCard : Claim7 := { stood := { row := instUsesRow, standIns := [], harness := (true, "c8154ae904766dfe95e74b686fff681450aa0bb89a772aa931477db369a7c760"), looks := false }, kinds := [], alts := [], laidByText := true, laidKinds := [.data, .data], laidTests := true, laidLooks := .later }
def InstUsesCardSaid : Prop := Claim7.holds Tryd.pinned (.plain (OpenSpec.ofChange instUsesSpec)) instUsesCard

/-- THE SECOND FORM's CARD OF 'mimesislaw02.InstNames'. -/
def instNamesUptoCard : Claim7 := { stood := { row := instNamesUptoRow, standIns := [], harness := (true, "c8154ae904766dfe95e74b686fff681450aa0bb89a772aa931477db369a7c760"), looks := false }, kinds := [], alts := [], laidByText := true, laidKinds := [.data, .data], laidTests := true, laidLooks := .later }
def InstNamesUptoCardSaid : Prop := Claim7.holds Tryd.pinned (.plain (OpenSpec.upto instNamesSpec)) instNamesUptoCard

/-- THE SECOND FORM's CARD OF 'mimesislaw02.InstOps'. -/
def instOpsUptoCard : Claim7 := { stood := { row := instOpsUptoRow, standIns := [], harness := (true, "c8154ae904766dfe95e74b686fff681450aa0bb89a772aa931477db369a7c760"), looks := false }, kinds := [], alts := [], laidByText := true, laidKinds := [.data, .data], laidTests := true, laidLooks := .later }
def InstOpsUptoCardSaid : Prop := Claim7.holds Tryd.pinned (.plain (OpenSpec.upto instOpsSpec)) instOpsUptoCard

/-- THE SECOND FORM's CARD OF 'mimesislaw02.InstRight'. -/
def instRightUptoCard : Claim7 := { stood := { row := instRightUptoRow, standIns := [], harness := (true, "c8154ae904766dfe95e74b686fff681450aa0bb89a772aa931477db369a7c760"), looks := false }, kinds := [], alts := [], laidByText := true, laidKinds := [.data, .data], laidTests := true, laidLooks := .later }
def InstRightUptoCardSaid : Prop := Claim7.holds Tryd.pinned (.plain (OpenSpec.upto instRightSpec)) instRightUptoCard

/-- THE SECOND FORM's CARD OF 'mimesislaw02.InstKinds'. -/
def instKindsUptoCard : Claim7 := { stood := { row := instKindsUptoRow, standIns := [], harness := (true, "c8154ae904766dfe95e74b686fff681450aa0bb89a772aa931477db369a7c760"), looks := false }, kinds := [], alts := [], laidByText := true, laidKinds := [.data, .data], laidTests := true, laidLooks := .later }
def InstKindsUptoCardSaid : Prop := Claim7.holds Tryd.pinned (.plain (OpenSpec.upto instKindsSpec)) instKindsUptoCard

/-- THE SECOND FORM's CARD OF 'mimesislaw02.InstUses'. -/
def instUsesUptoCard : Claim7 := { stood := { row := instUsesUptoRow, standIns := [], harness := (true, "c8154ae904766dfe95e74b686fff681450aa0bb89a772aa931477db369a7c760"), looks := false }, kinds := [], alts := [], laidByText := true, laidKinds := [.data, .data], laidTests := true, laidLooks := .later }
def InstUsesUptoCardSaid : Prop := Claim7.holds Tryd.pinned (.plain (OpenSpec.upto instUsesSpec)) instUsesUptoCard
end Rows
end Go.Proofs.YtokbdajdfmgdiaaDoor
