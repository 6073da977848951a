/-
  DERIVED. GIVEN WITH THE SEED: THE CARDS: each row of YtlceglloikamnaaDoorRows.lean that lists a variable, with what it lists TIED to the program's text (the seventh form; the later family's looks); each row that meets fmt, with fmt's text TOLD by the authors' own Lean function (tested against real Go, not proved from fmt's source: count such statements apart). THE CARD IS WHAT COUNTS. Prove the row's statement (the work); the ties are given (YtlceglloikamnaaDoorTie.lean); close each card by the builder's one call (the guide's Derived/Test/ToyasCard.lean, 'card_holds'). Laid BY PROGRAM, IN A SANDBOX (cutbox-door.mjs). By AI agents, Wed Nov 11 2026. No macro, syntax, notation, axiom, sorry.
-/
import Derived.Test.YtlceglloikamnaaDoorRows
import GoSem.ClaimSeven
namespace Go.Proofs.YtlceglloikamnaaDoor
namespace Rows

/-- THE TIED CARD OF 'mimesislaw04.EncodeWords'. -/
def encodeWordsCard : Claim7 := { stood := { row := encodeWordsRow, standIns := [], harness := (true, "949e6af0a5eccfb191906b909f9d782de7805369ca6305978f16ad217bbb6cce"), looks := false }, kinds := [], alts := [], laidByText := true, laidKinds := [.data, .data], laidTests := true, laidLooks := .later }
def EncodeWordsCardSaid : Prop := Claim7.holds Tryd.pinned (.plain (OpenSpec.ofChange encodeWordsSpec)) encodeWordsCard

/-- THE TIED CARD OF 'mimesislaw04.EncodeBack'. -/
def encodeBackCard : Claim7 := { stood := { row := encodeBackRow, standIns := [], harness := (true, "949e6af0a5eccfb191906b909f9d782de7805369ca6305978f16ad217bbb6cce"), looks := false }, kinds := [], alts := [], laidByText := true, laidKinds := [.data, .data, .data], laidTests := true, laidLooks := .later }
def EncodeBackCardSaid : Prop := Claim7.holds Tryd.pinned (.plain (OpenSpec.ofChange encodeBackSpec)) encodeBackCard

/-- THE TIED CARD OF 'mimesislaw04.EncodeLists'. -/
def encodeListsCard : Claim7 := { stood := { row := encodeListsRow, standIns := [], harness := (true, "949e6af0a5eccfb191906b909f9d782de7805369ca6305978f16ad217bbb6cce"), looks := false }, kinds := [], alts := [], laidByText := true, laidKinds := [.data, .data], laidTests := true, laidLooks := .later }
def EncodeListsCardSaid : Prop := Claim7.holds Tryd.pinned (.plain (OpenSpec.ofChange encodeListsSpec)) encodeListsCard

/-- THE TIED CARD OF 'mimesislaw04.EncodeConstants'. -/
def encodeConstantsCard : Claim7 := { stood := { row := encodeConstantsRow, standIns := [], harness := (true, "949e6af0a5eccfb191906b909f9d782de7805369ca6305978f16ad217bbb6cce"), looks := false }, kinds := [], alts := [], laidByText := true, laidKinds := [.data, .data], laidTests := true, laidLooks := .later }
def EncodeConstantsCardSaid : Prop := Claim7.holds Tryd.pinned (.plain (OpenSpec.ofChange encodeConstantsSpec)) encodeConstantsCard

/-- THE SECOND FORM's CARD OF 'mimesislaw04.EncodeWords'. -/
def encodeWordsUptoCard : Claim7 := { stood := { row := encodeWordsUptoRow, standIns := [], harness := (true, "949e6af0a5eccfb191906b909f9d782de7805369ca6305978f16ad217bbb6cce"), looks := false }, kinds := [], alts := [], laidByText := true, laidKinds := [.data, .data], laidTests := true, laidLooks := .later }
def EncodeWordsUptoCardSaid : Prop := Claim7.holds Tryd.pinned (.plain (OpenSpec.upto encodeWordsSpec)) encodeWordsUptoCard

/-- THE SECOND FORM's CARD OF 'mimesislaw04.EncodeBack'. -/
def encodeBackUptoCard : Claim7 := { stood := { row := encodeBackUptoRow, standIns := [], harness := (true, "949e6af0a5eccfb191906b909f9d782de7805369ca6305978f16ad217bbb6cce"), looks := false }, kinds := [], alts := [], laidByText := true, laidKinds := [.data, .data, .data], laidTests := true, laidLooks := .later }
def EncodeBackUptoCardSaid : Prop := Claim7.holds Tryd.pinned (.plain (OpenSpec.upto encodeBackSpec)) encodeBackUptoCard

/-- THE SECOND FORM's CARD OF 'mimesislaw04.EncodeLists'. -/
def encodeListsUptoCard : Claim7 := { stood := { row := encodeListsUptoRow, standIns := [], harness := (true, "949e6af0a5eccfb191906b909f9d782de7805369ca6305978f16ad217bbb6cce"), looks := false }, kinds := [], alts := [], laidByText := true, laidKinds := [.data, .data], laidTests := true, laidLooks := .later }
def EncodeListsUptoCardSaid : Prop := Claim7.holds Tryd.pinned (.plain (OpenSpec.upto encodeListsSpec)) encodeListsUptoCard

/-- THE SECOND FORM's CARD OF 'mimesislaw04.EncodeConstants'. -/
def encodeConstantsUptoCard : Claim7 := { stood := { row := encodeConstantsUptoRow, standIns := [], harness := (true, "949e6af0a5eccfb191906b909f9d782de7805369ca6305978f16ad217bbb6cce"), looks := false }, kinds := [], alts := [], laidByText := true, laidKinds := [.data, .data], laidTests := true, laidLooks := .later }
def EncodeConstantsUptoCardSaid : Prop := Claim7.holds Tryd.pinned (.plain (OpenSpec.upto encodeConstantsSpec)) encodeConstantsUptoCard
end Rows
end Go.Proofs.YtlceglloikamnaaDoor
