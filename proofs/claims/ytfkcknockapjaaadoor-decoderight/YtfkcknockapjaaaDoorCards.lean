/-
  DERIVED. GIVEN WITH THE SEED: THE CARDS: each row of YtfkcknockapjaaaDoorRows.lean that lists a variable, with what it lists TIED to the program's text (the seventh form; the later family's looks); each row that meets fmt, with fmt's text TOLD by the authors' own Lean function (tested against real Go, not proved from fmt's source: count such statements apart). THE CARD IS WHAT COUNTS. Prove the row's statement (the work); the ties are given (YtfkcknockapjaaaDoorTie.lean); close each card by the builder's one call (the guide's Derived/Test/ToyasCard.lean, 'card_holds'). Laid BY PROGRAM, IN A SANDBOX (cutbox-door.mjs). By AI agents, Wed Nov 11 2026. No macro, syntax, notation, axiom, sorry.
-/
import Derived.Test.YtfkcknockapjaaaDoorRows
import GoSem.ClaimSeven
namespace Go.Proofs.YtfkcknockapjaaaDoor
namespace Rows

/-- THE TIED CARD OF 'mimesislaw03.DecodeWords'. -/
def decodeWordsCard : Claim7 := { stood := { row := decodeWordsRow, standIns := [], harness := (true, "2e5dce3b23bca24298ee6a7bab058984287ae74991b457c7e4e939d30c958981"), looks := false }, kinds := [], alts := [], laidByText := true, laidKinds := [.data, .data], laidTests := true, laidLooks := .later }
def DecodeWordsCardSaid : Prop := Claim7.holds Tryd.pinned (.plain (OpenSpec.ofChange decodeWordsSpec)) decodeWordsCard

/-- THE TIED CARD OF 'mimesislaw03.DecodeRight'. -/
def decodeRightCard : Claim7 := { stood := { row := decodeRightRow, standIns := [], harness := (true, "2e5dce3b23bca24298ee6a7bab058984287ae74991b457c7e4e939d30c958981"), looks := false }, kinds := [], alts := [], laidByText := true, laidKinds := [.data, .data], laidTests := true, laidLooks := .later }
def DecodeRightCardSaid : Prop := Claim7.holds Tryd.pinned (.plain (OpenSpec.ofChange decodeRightSpec)) decodeRightCard

/-- THE TIED CARD OF 'mimesislaw03.DecodeApart'. -/
def decodeApartCard : Claim7 := { stood := { row := decodeApartRow, standIns := [], harness := (true, "2e5dce3b23bca24298ee6a7bab058984287ae74991b457c7e4e939d30c958981"), looks := false }, kinds := [], alts := [], laidByText := true, laidKinds := [.data, .data], laidTests := true, laidLooks := .later }
def DecodeApartCardSaid : Prop := Claim7.holds Tryd.pinned (.plain (OpenSpec.ofChange decodeApartSpec)) decodeApartCard

/-- THE TIED CARD OF 'mimesislaw03.DecodeTurned'. -/
def decodeTurnedCard : Claim7 := { stood := { row := decodeTurnedRow, standIns := [], harness := (true, "2e5dce3b23bca24298ee6a7bab058984287ae74991b457c7e4e939d30c958981"), looks := false }, kinds := [], alts := [], laidByText := true, laidKinds := [.data, .data], laidTests := true, laidLooks := .later }
def DecodeTurnedCardSaid : Prop := Claim7.holds Tryd.pinned (.plain (OpenSpec.ofChange decodeTurnedSpec)) decodeTurnedCard

/-- THE TIED CARD OF 'mimesislaw03.DecodeAll'. -/
def decodeAllCard : Claim7 := { stood := { row := decodeAllRow, standIns := [], harness := (true, "2e5dce3b23bca24298ee6a7bab058984287ae74991b457c7e4e939d30c958981"), looks := false }, kinds := [], alts := [], laidByText := true, laidKinds := [.data, .data], laidTests := true, laidLooks := .later }
def DecodeAllCardSaid : Prop := Claim7.holds Tryd.pinned (.plain (OpenSpec.ofChange decodeAllSpec)) decodeAllCard

/-- THE SECOND FORM's CARD OF 'mimesislaw03.DecodeWords'. -/
def decodeWordsUptoCard : Claim7 := { stood := { row := decodeWordsUptoRow, standIns := [], harness := (true, "2e5dce3b23bca24298ee6a7bab058984287ae74991b457c7e4e939d30c958981"), looks := false }, kinds := [], alts := [], laidByText := true, laidKinds := [.data, .data], laidTests := true, laidLooks := .later }
def DecodeWordsUptoCardSaid : Prop := Claim7.holds Tryd.pinned (.plain (OpenSpec.upto decodeWordsSpec)) decodeWordsUptoCard

/-- THE SECOND FORM's CARD OF 'mimesislaw03.DecodeRight'. -/
def decodeRightUptoCard : Claim7 := { stood := { row := decodeRightUptoRow, standIns := [], harness := (true, "2e5dce3b23bca24298ee6a7bab058984287ae74991b457c7e4e939d30c958981"), looks := false }, kinds := [], alts := [], laidByText := true, laidKinds := [.data, .data], laidTests := true, laidLooks := .later }
def DecodeRightUptoCardSaid : Prop := Claim7.holds Tryd.pinned (.plain (OpenSpec.upto decodeRightSpec)) decodeRightUptoCard

/-- THE SECOND FORM's CARD OF 'mimesislaw03.DecodeApart'. -/
def decodeApartUptoCard : Claim7 := { stood := { row := decodeApartUptoRow, standIns := [], harness := (true, "2e5dce3b23bca24298ee6a7bab058984287ae74991b457c7e4e939d30c958981"), looks := false }, kinds := [], alts := [], laidByText := true, laidKinds := [.data, .data], laidTests := true, laidLooks := .later }
def DecodeApartUptoCardSaid : Prop := Claim7.holds Tryd.pinned (.plain (OpenSpec.upto decodeApartSpec)) decodeApartUptoCard

/-- THE SECOND FORM's CARD OF 'mimesislaw03.DecodeTurned'. -/
def decodeTurnedUptoCard : Claim7 := { stood := { row := decodeTurnedUptoRow, standIns := [], harness := (true, "2e5dce3b23bca24298ee6a7bab058984287ae74991b457c7e4e939d30c958981"), looks := false }, kinds := [], alts := [], laidByText := true, laidKinds := [.data, .data], laidTests := true, laidLooks := .later }
def DecodeTurnedUptoCardSaid : Prop := Claim7.holds Tryd.pinned (.plain (OpenSpec.upto decodeTurnedSpec)) decodeTurnedUptoCard

/-- THE SECOND FORM's CARD OF 'mimesislaw03.DecodeAll'. -/
def decodeAllUptoCard : Claim7 := { stood := { row := decodeAllUptoRow, standIns := [], harness := (true, "2e5dce3b23bca24298ee6a7bab058984287ae74991b457c7e4e939d30c958981"), looks := false }, kinds := [], alts := [], laidByText := true, laidKinds := [.data, .data], laidTests := true, laidLooks := .later }
def DecodeAllUptoCardSaid : Prop := Claim7.holds Tryd.pinned (.plain (OpenSpec.upto decodeAllSpec)) decodeAllUptoCard
end Rows
end Go.Proofs.YtfkcknockapjaaaDoor
