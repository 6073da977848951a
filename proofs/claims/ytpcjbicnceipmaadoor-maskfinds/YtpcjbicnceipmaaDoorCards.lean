/-
  DERIVED. GIVEN WITH THE SEED: THE CARDS: each row of YtpcjbicnceipmaaDoorRows.lean that lists a variable, with what it lists TIED to the program's text (the seventh form; the later family's looks); each row that meets fmt, with fmt's text TOLD by the authors' own Lean function (tested against real Go, not proved from fmt's source: count such statements apart). THE CARD IS WHAT COUNTS. Prove the row's statement (the work); the ties are given (YtpcjbicnceipmaaDoorTie.lean); close each card by the builder's one call (the guide's Derived/Test/ToyasCard.lean, 'card_holds'). Laid BY PROGRAM, IN A SANDBOX (cutbox-door.mjs). By AI agents, Wed Nov 11 2026. No macro, syntax, notation, axiom, sorry.
-/
import Derived.Test.YtpcjbicnceipmaaDoorRows
import GoSem.ClaimSeven
namespace Go.Proofs.YtpcjbicnceipmaaDoor
namespace Rows

/-- THE TIED CARD OF 'mimesislaw09.MaskFinds'. -/
def maskFindsCard : Claim7 := { stood := { row := maskFindsRow, standIns := [], harness := (true, "dcd9c8045ddaaf4ae4c32c287b8f6677950d50b15798060cd2f28c38b2cf0221"), looks := false }, kinds := [], alts := [], laidByText := true, laidKinds := [.data], laidTests := true, laidLooks := .later }
def MaskFindsCardSaid : Prop := Claim7.holds Tryd.pinned (.plain (OpenSpec.ofChange maskFindsSpec)) maskFindsCard

/-- THE TIED CARD OF 'mimesislaw09.MaskLegal'. -/
def maskLegalCard : Claim7 := { stood := { row := maskLegalRow, standIns := [], harness := (true, "dcd9c8045ddaaf4ae4c32c287b8f6677950d50b15798060cd2f28c38b2cf0221"), looks := false }, kinds := [], alts := [], laidByText := true, laidKinds := [.data], laidTests := true, laidLooks := .later }
def MaskLegalCardSaid : Prop := Claim7.holds Tryd.pinned (.plain (OpenSpec.ofChange maskLegalSpec)) maskLegalCard

/-- THE TIED CARD OF 'mimesislaw09.MaskNames'. -/
def maskNamesCard : Claim7 := { stood := { row := maskNamesRow, standIns := [], harness := (true, "dcd9c8045ddaaf4ae4c32c287b8f6677950d50b15798060cd2f28c38b2cf0221"), looks := false }, kinds := [], alts := [], laidByText := true, laidKinds := [.data], laidTests := true, laidLooks := .later }
def MaskNamesCardSaid : Prop := Claim7.holds Tryd.pinned (.plain (OpenSpec.ofChange maskNamesSpec)) maskNamesCard

/-- THE TIED CARD OF 'mimesislaw09.MaskWrites'. -/
def maskWritesCard : Claim7 := { stood := { row := maskWritesRow, standIns := [], harness := (true, "dcd9c8045ddaaf4ae4c32c287b8f6677950d50b15798060cd2f28c38b2cf0221"), looks := false }, kinds := [], alts := [], laidByText := true, laidKinds := [.data], laidTests := true, laidLooks := .later }
def MaskWritesCardSaid : Prop := Claim7.holds Tryd.pinned (.plain (OpenSpec.ofChange maskWritesSpec)) maskWritesCard

/-- THE SECOND FORM's CARD OF 'mimesislaw09.MaskFinds'. -/
def maskFindsUptoCard : Claim7 := { stood := { row := maskFindsUptoRow, standIns := [], harness := (true, "dcd9c8045ddaaf4ae4c32c287b8f6677950d50b15798060cd2f28c38b2cf0221"), looks := false }, kinds := [], alts := [], laidByText := true, laidKinds := [.data], laidTests := true, laidLooks := .later }
def MaskFindsUptoCardSaid : Prop := Claim7.holds Tryd.pinned (.plain (OpenSpec.upto maskFindsSpec)) maskFindsUptoCard

/-- THE SECOND FORM's CARD OF 'mimesislaw09.MaskLegal'. -/
def maskLegalUptoCard : Claim7 := { stood := { row := maskLegalUptoRow, standIns := [], harness := (true, "dcd9c8045ddaaf4ae4c32c287b8f6677950d50b15798060cd2f28c38b2cf0221"), looks := false }, kinds := [], alts := [], laidByText := true, laidKinds := [.data], laidTests := true, laidLooks := .later }
def MaskLegalUptoCardSaid : Prop := Claim7.holds Tryd.pinned (.plain (OpenSpec.upto maskLegalSpec)) maskLegalUptoCard

/-- THE SECOND FORM's CARD OF 'mimesislaw09.MaskNames'. -/
def maskNamesUptoCard : Claim7 := { stood := { row := maskNamesUptoRow, standIns := [], harness := (true, "dcd9c8045ddaaf4ae4c32c287b8f6677950d50b15798060cd2f28c38b2cf0221"), looks := false }, kinds := [], alts := [], laidByText := true, laidKinds := [.data], laidTests := true, laidLooks := .later }
def MaskNamesUptoCardSaid : Prop := Claim7.holds Tryd.pinned (.plain (OpenSpec.upto maskNamesSpec)) maskNamesUptoCard

/-- THE SECOND FORM's CARD OF 'mimesislaw09.MaskWrites'. -/
def maskWritesUptoCard : Claim7 := { stood := { row := maskWritesUptoRow, standIns := [], harness := (true, "dcd9c8045ddaaf4ae4c32c287b8f6677950d50b15798060cd2f28c38b2cf0221"), looks := false }, kinds := [], alts := [], laidByText := true, laidKinds := [.data], laidTests := true, laidLooks := .later }
def MaskWritesUptoCardSaid : Prop := Claim7.holds Tryd.pinned (.plain (OpenSpec.upto maskWritesSpec)) maskWritesUptoCard
end Rows
end Go.Proofs.YtpcjbicnceipmaaDoor
