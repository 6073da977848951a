/-
  DERIVED. GIVEN WITH THE SEED: THE CARDS: each row of YtcigceaadkjenaaDoorRows.lean that lists a variable, with what it lists TIED to the program's text (the seventh form; the later family's looks); each row that meets fmt, with fmt's text TOLD by the authors' own Lean function (tested against real Go, not proved from fmt's source: count such statements apart). THE CARD IS WHAT COUNTS. Prove the row's statement (the work); the ties are given (YtcigceaadkjenaaDoorTie.lean); close each card by the builder's one call (the guide's Derived/Test/ToyasCard.lean, 'card_holds'). Laid BY PROGRAM, IN A SANDBOX (cutbox-door.mjs). By AI agents, Wed Nov 11 2026. No macro, syntax, notation, axiom, sorry.
-/
import Derived.Test.YtcigceaadkjenaaDoorRows
import GoSem.ClaimSeven
namespace Go.Proofs.YtcigceaadkjenaaDoor
namespace Rows

/-- THE TIED CARD OF 'mimesislaw15.ImageLays'. -/
def imageLaysCard : Claim7 := { stood := { row := imageLaysRow, standIns := [], harness := (true, "127fbc530bc4f7dc4c30f1a6c1afa525c1949a36d06a004128273ec1e51d511b"), looks := false }, kinds := [], alts := [], laidByText := true, laidKinds := [.data, .pinned], laidTests := true, laidLooks := .later }
def ImageLaysCardSaid : Prop := Claim7.holds Tryd.pinned (.plain (OpenSpec.ofChange imageLaysSpec)) imageLaysCard

/-- THE TIED CARD OF 'mimesislaw15.ImageParses'. -/
def imageParsesCard : Claim7 := { stood := { row := imageParsesRow, standIns := [], harness := (true, "127fbc530bc4f7dc4c30f1a6c1afa525c1949a36d06a004128273ec1e51d511b"), looks := false }, kinds := [], alts := [], laidByText := true, laidKinds := [.data, .pinned], laidTests := true, laidLooks := .later }
def ImageParsesCardSaid : Prop := Claim7.holds Tryd.pinned (.plain (OpenSpec.ofChange imageParsesSpec)) imageParsesCard

/-- THE TIED CARD OF 'mimesislaw15.ImagePrints'. -/
def imagePrintsCard : Claim7 := { stood := { row := imagePrintsRow, standIns := [], harness := (true, "127fbc530bc4f7dc4c30f1a6c1afa525c1949a36d06a004128273ec1e51d511b"), looks := false }, kinds := [], alts := [], laidByText := true, laidKinds := [.data, .pinned], laidTests := true, laidLooks := .later }
def ImagePrintsCardSaid : Prop := Claim7.holds Tryd.pinned (.plain (OpenSpec.ofChange imagePrintsSpec)) imagePrintsCard

/-- THE TIED CARD OF 'mimesislaw15.ImageWords'. -/
def imageWordsCard : Claim7 := { stood := { row := imageWordsRow, standIns := [], harness := (true, "127fbc530bc4f7dc4c30f1a6c1afa525c1949a36d06a004128273ec1e51d511b"), looks := false }, kinds := [], alts := [], laidByText := true, laidKinds := [.data, .pinned], laidTests := true, laidLooks := .later }
def ImageWordsCardSaid : Prop := Claim7.holds Tryd.pinned (.plain (OpenSpec.ofChange imageWordsSpec)) imageWordsCard

/-- THE SECOND FORM's CARD OF 'mimesislaw15.ImageLays'. -/
def imageLaysUptoCard : Claim7 := { stood := { row := imageLaysUptoRow, standIns := [], harness := (true, "127fbc530bc4f7dc4c30f1a6c1afa525c1949a36d06a004128273ec1e51d511b"), looks := false }, kinds := [], alts := [], laidByText := true, laidKinds := [.data, .pinned], laidTests := true, laidLooks := .later }
def ImageLaysUptoCardSaid : Prop := Claim7.holds Tryd.pinned (.plain (OpenSpec.upto imageLaysSpec)) imageLaysUptoCard

/-- THE SECOND FORM's CARD OF 'mimesislaw15.ImageParses'. -/
def imageParsesUptoCard : Claim7 := { stood := { row := imageParsesUptoRow, standIns := [], harness := (true, "127fbc530bc4f7dc4c30f1a6c1afa525c1949a36d06a004128273ec1e51d511b"), looks := false }, kinds := [], alts := [], laidByText := true, laidKinds := [.data, .pinned], laidTests := true, laidLooks := .later }
def ImageParsesUptoCardSaid : Prop := Claim7.holds Tryd.pinned (.plain (OpenSpec.upto imageParsesSpec)) imageParsesUptoCard

/-- THE SECOND FORM's CARD OF 'mimesislaw15.ImagePrints'. -/
def imagePrintsUptoCard : Claim7 := { stood := { row := imagePrintsUptoRow, standIns := [], harness := (true, "127fbc530bc4f7dc4c30f1a6c1afa525c1949a36d06a004128273ec1e51d511b"), looks := false }, kinds := [], alts := [], laidByText := true, laidKinds := [.data, .pinned], laidTests := true, laidLooks := .later }
def ImagePrintsUptoCardSaid : Prop := Claim7.holds Tryd.pinned (.plain (OpenSpec.upto imagePrintsSpec)) imagePrintsUptoCard

/-- THE SECOND FORM's CARD OF 'mimesislaw15.ImageWords'. -/
def imageWordsUptoCard : Claim7 := { stood := { row := imageWordsUptoRow, standIns := [], harness := (true, "127fbc530bc4f7dc4c30f1a6c1afa525c1949a36d06a004128273ec1e51d511b"), looks := false }, kinds := [], alts := [], laidByText := true, laidKinds := [.data, .pinned], laidTests := true, laidLooks := .later }
def ImageWordsUptoCardSaid : Prop := Claim7.holds Tryd.pinned (.plain (OpenSpec.upto imageWordsSpec)) imageWordsUptoCard
end Rows
end Go.Proofs.YtcigceaadkjenaaDoor
