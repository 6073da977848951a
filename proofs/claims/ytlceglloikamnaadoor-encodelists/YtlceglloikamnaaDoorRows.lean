/-
  NARROWER THAN 'FOR EVERY INPUT', by the rows' own cells (each row's printed sentence says how): EncodeWords: laid · EncodeBack: laid · EncodeLists: laid · EncodeConstants: laid.
  DERIVED. THE GIVEN ROWS OF THIS SEAT. 4 by the template 'for every input the law returns true; each argument reads behind the call as it read before'; 0 by the template 'total and deterministic' (their statements: YtlceglloikamnaaDoorTotals.lean).
  GIVEN WITH THE SEED: the statements are not yours to turn. If you find one false, say at which input.
  Laid BY PROGRAM, IN A SANDBOX (cutbox-rows.mjs): the forced cells as the released guide's own fill.sh prints them over the translation 62b4f889d9f14219… (all of the seat's roots in one cut). By AI agents, Wed Nov 11 2026. No macro, syntax, notation, axiom, sorry.
-/
import Derived.Test.YtlceglloikamnaaDoorChecked
import GoSem.Claim
import GoSem.ClaimJoined
import GoSem.ClaimMapViews
import Derived.JoinedTies
import Derived.KernelRfl
namespace Go.Proofs.YtlceglloikamnaaDoor
/- THE CELL 'sum', in the pinned program and in every row, IS THE sha256 OF THE DUMP (.gsa) THAT YtlceglloikamnaaDoorProg.lean LOADS. Nothing in Lean hashes anything: it is a label: what it is worth is what the hold of that sum in a sandbox is worth. -/
noncomputable def Tryd.pinned : Pinned := { name := "ytlceglloikamnaadoor", sum := "62b4f889d9f14219cfd98519d01a4e65f4497145a89357f8969841f0f9f65dfd", checked := Tryd.checked }
namespace Rows
def none {H : Type} : Left H := { results := [], args := [] }

/- WHAT THE LISTED PACKAGE-LEVEL VARIABLES READ AS WHEN THE CALL BEGINS. Each datum BY PROGRAM (the guide's laid-datum.mjs) off the statement by which the dump's own 'gosem.cut.vars' lays the variable. In a bare row this is a premise. The card (YtlceglloikamnaaDoorCards.lean) ties it to the program's text. -/
def laid_mimesis_inst_forms {H : Type} : DataW H := .agg [.lit (.int .i64 0), .lit (.int .i64 1), .lit (.int .i64 1), .lit (.int .i64 2), .lit (.int .i64 3), .lit (.int .i64 4), .lit (.int .i64 4), .lit (.int .i64 4), .lit (.int .i64 4), .lit (.int .i64 4), .lit (.int .i64 4), .lit (.int .i64 3), .lit (.int .i64 3), .lit (.int .i64 3), .lit (.int .i64 3), .lit (.int .i64 3), .lit (.int .i64 5), .lit (.int .i64 5), .lit (.int .i64 5), .lit (.int .i64 3), .lit (.int .i64 3), .lit (.int .i64 3), .lit (.int .i64 3), .lit (.int .i64 3), .lit (.int .i64 3), .lit (.int .i64 7), .lit (.int .i64 7), .lit (.int .i64 7), .lit (.int .i64 6), .lit (.int .i64 6), .lit (.int .i64 6), .lit (.int .i64 6), .lit (.int .i64 6), .lit (.int .i64 6), .lit (.int .i64 6), .lit (.int .i64 6), .lit (.int .i64 6), .lit (.int .i64 6), .lit (.int .i64 3), .lit (.int .i64 3), .lit (.int .i64 0), .lit (.int .i64 0), .lit (.int .i64 8), .lit (.int .i64 8), .lit (.int .i64 8), .lit (.int .i64 9), .lit (.int .i64 9), .lit (.int .i64 9), .lit (.int .i64 0), .lit (.int .i64 0), .lit (.int .i64 6), .lit (.int .i64 6), .lit (.int .i64 6), .lit (.int .i64 6), .lit (.int .i64 6), .lit (.int .i64 6), .lit (.int .i64 6), .lit (.int .i64 6)]
def laid_mimesis_encode_matches {H : Type} : DataW H := .agg [.lit (.int .u32 0), .lit (.int .u32 55), .lit (.int .u32 23), .lit (.int .u32 111), .lit (.int .u32 103), .lit (.int .u32 99), .lit (.int .u32 4195), .lit (.int .u32 16483), .lit (.int .u32 20579), .lit (.int .u32 24675), .lit (.int .u32 28771), .lit (.int .u32 3), .lit (.int .u32 4099), .lit (.int .u32 8195), .lit (.int .u32 16387), .lit (.int .u32 20483), .lit (.int .u32 35), .lit (.int .u32 4131), .lit (.int .u32 8227), .lit (.int .u32 19), .lit (.int .u32 8211), .lit (.int .u32 12307), .lit (.int .u32 16403), .lit (.int .u32 24595), .lit (.int .u32 28691), .lit (.int .u32 4115), .lit (.int .u32 20499), .lit (.int .u32 1073762323), .lit (.int .u32 51), .lit (.int .u32 1073741875), .lit (.int .u32 4147), .lit (.int .u32 8243), .lit (.int .u32 12339), .lit (.int .u32 16435), .lit (.int .u32 20531), .lit (.int .u32 1073762355), .lit (.int .u32 24627), .lit (.int .u32 28723), .lit (.int .u32 15), .lit (.int .u32 4111), .lit (.int .u32 115), .lit (.int .u32 1048691), .lit (.int .u32 4211), .lit (.int .u32 8307), .lit (.int .u32 12403), .lit (.int .u32 20595), .lit (.int .u32 24691), .lit (.int .u32 28787), .lit (.int .u32 807403635), .lit (.int .u32 273678451), .lit (.int .u32 33554483), .lit (.int .u32 33558579), .lit (.int .u32 33562675), .lit (.int .u32 33566771), .lit (.int .u32 33570867), .lit (.int .u32 33574963), .lit (.int .u32 33579059), .lit (.int .u32 33583155)]
def laid_mimesis_decode_matches {H : Type} : DataW H := .agg [.lit (.int .u32 0), .lit (.int .u32 55), .lit (.int .u32 23), .lit (.int .u32 111), .lit (.int .u32 103), .lit (.int .u32 99), .lit (.int .u32 4195), .lit (.int .u32 16483), .lit (.int .u32 20579), .lit (.int .u32 24675), .lit (.int .u32 28771), .lit (.int .u32 3), .lit (.int .u32 4099), .lit (.int .u32 8195), .lit (.int .u32 16387), .lit (.int .u32 20483), .lit (.int .u32 35), .lit (.int .u32 4131), .lit (.int .u32 8227), .lit (.int .u32 19), .lit (.int .u32 8211), .lit (.int .u32 12307), .lit (.int .u32 16403), .lit (.int .u32 24595), .lit (.int .u32 28691), .lit (.int .u32 4115), .lit (.int .u32 20499), .lit (.int .u32 1073762323), .lit (.int .u32 51), .lit (.int .u32 1073741875), .lit (.int .u32 4147), .lit (.int .u32 8243), .lit (.int .u32 12339), .lit (.int .u32 16435), .lit (.int .u32 20531), .lit (.int .u32 1073762355), .lit (.int .u32 24627), .lit (.int .u32 28723), .lit (.int .u32 15), .lit (.int .u32 4111), .lit (.int .u32 115), .lit (.int .u32 1048691), .lit (.int .u32 4211), .lit (.int .u32 8307), .lit (.int .u32 12403), .lit (.int .u32 20595), .lit (.int .u32 24691), .lit (.int .u32 28787), .lit (.int .u32 807403635), .lit (.int .u32 273678451), .lit (.int .u32 33554483), .lit (.int .u32 33558579), .lit (.int .u32 33562675), .lit (.int .u32 33566771), .lit (.int .u32 33570867), .lit (.int .u32 33574963), .lit (.int .u32 33579059), .lit (.int .u32 33583155)]

/-- 'mimesislaw04.EncodeWords': WHATEVER THE INPUT: true; the input reads as it did. -/
def encodeWordsSpec : ChangeSpec := { name := "encodeWords", fn := fun _ => fun
  | [d] => { results := [.lit (.bool true)], args := [d] }
  | _ => none }
def encodeWordsRow : OpenClaim := { program := "ytlceglloikamnaadoor", sum := "62b4f889d9f14219cfd98519d01a4e65f4497145a89357f8969841f0f9f65dfd", func := "mimesis/mimesislaw04.EncodeWords", spec := "encodeWords", unfollowed := true, recurses := true, named := ["mimesis/encode.matches", "mimesis/inst.forms"], apart := false, laid := [("mimesis/inst.forms", laid_mimesis_inst_forms), ("mimesis/encode.matches", laid_mimesis_encode_matches)] }
def EncodeWordsSaid : Prop := encodeWordsRow.holds Tryd.pinned (OpenSpec.ofChange encodeWordsSpec)

/-- ITS FALSE NEIGHBOUR: 'it returns false'. Refute it at one input. -/
def encodeWordsWrong : ChangeSpec := { name := "encodeWords", fn := fun _ => fun
  | [d] => { results := [.lit (.bool false)], args := [d] }
  | _ => none }
def EncodeWordsWrongFalsely : Prop := encodeWordsRow.holds Tryd.pinned (OpenSpec.ofChange encodeWordsWrong)

/-- 'mimesislaw04.EncodeBack': WHATEVER THE INPUT: true; the input reads as it did. -/
def encodeBackSpec : ChangeSpec := { name := "encodeBack", fn := fun _ => fun
  | [d1, d2] => { results := [.lit (.bool true)], args := [d1, d2] }
  | _ => none }
def encodeBackRow : OpenClaim := { program := "ytlceglloikamnaadoor", sum := "62b4f889d9f14219cfd98519d01a4e65f4497145a89357f8969841f0f9f65dfd", func := "mimesis/mimesislaw04.EncodeBack", spec := "encodeBack", unfollowed := true, recurses := true, named := ["mimesis/encode.matches", "mimesis/inst.forms", "mimesis/decode.matches"], apart := false, laid := [("mimesis/inst.forms", laid_mimesis_inst_forms), ("mimesis/decode.matches", laid_mimesis_decode_matches), ("mimesis/encode.matches", laid_mimesis_encode_matches)] }
def EncodeBackSaid : Prop := encodeBackRow.holds Tryd.pinned (OpenSpec.ofChange encodeBackSpec)

/-- ITS FALSE NEIGHBOUR: 'it returns false'. Refute it at one input. -/
def encodeBackWrong : ChangeSpec := { name := "encodeBack", fn := fun _ => fun
  | [d1, d2] => { results := [.lit (.bool false)], args := [d1, d2] }
  | _ => none }
def EncodeBackWrongFalsely : Prop := encodeBackRow.holds Tryd.pinned (OpenSpec.ofChange encodeBackWrong)

/-- 'mimesislaw04.EncodeLists': WHATEVER THE INPUT: true; the input reads as it did. -/
def encodeListsSpec : ChangeSpec := { name := "encodeLists", fn := fun _ => fun
  | [d] => { results := [.lit (.bool true)], args := [d] }
  | _ => none }
def encodeListsRow : OpenClaim := { program := "ytlceglloikamnaadoor", sum := "62b4f889d9f14219cfd98519d01a4e65f4497145a89357f8969841f0f9f65dfd", func := "mimesis/mimesislaw04.EncodeLists", spec := "encodeLists", unfollowed := true, recurses := true, named := ["mimesis/encode.matches", "mimesis/inst.forms"], apart := false, laid := [("mimesis/inst.forms", laid_mimesis_inst_forms), ("mimesis/encode.matches", laid_mimesis_encode_matches)] }
def EncodeListsSaid : Prop := encodeListsRow.holds Tryd.pinned (OpenSpec.ofChange encodeListsSpec)

/-- ITS FALSE NEIGHBOUR: 'it returns false'. Refute it at one input. -/
def encodeListsWrong : ChangeSpec := { name := "encodeLists", fn := fun _ => fun
  | [d] => { results := [.lit (.bool false)], args := [d] }
  | _ => none }
def EncodeListsWrongFalsely : Prop := encodeListsRow.holds Tryd.pinned (OpenSpec.ofChange encodeListsWrong)

/-- 'mimesislaw04.EncodeConstants': WHATEVER THE INPUT: true; the input reads as it did. -/
def encodeConstantsSpec : ChangeSpec := { name := "encodeConstants", fn := fun _ => fun
  | [d1, d2] => { results := [.lit (.bool true)], args := [d1, d2] }
  | _ => none }
def encodeConstantsRow : OpenClaim := { program := "ytlceglloikamnaadoor", sum := "62b4f889d9f14219cfd98519d01a4e65f4497145a89357f8969841f0f9f65dfd", func := "mimesis/mimesislaw04.EncodeConstants", spec := "encodeConstants", unfollowed := true, recurses := true, named := ["mimesis/encode.matches", "mimesis/inst.forms"], apart := false, laid := [("mimesis/inst.forms", laid_mimesis_inst_forms), ("mimesis/encode.matches", laid_mimesis_encode_matches)] }
def EncodeConstantsSaid : Prop := encodeConstantsRow.holds Tryd.pinned (OpenSpec.ofChange encodeConstantsSpec)

/-- ITS FALSE NEIGHBOUR: 'it returns false'. Refute it at one input. -/
def encodeConstantsWrong : ChangeSpec := { name := "encodeConstants", fn := fun _ => fun
  | [d1, d2] => { results := [.lit (.bool false)], args := [d1, d2] }
  | _ => none }
def EncodeConstantsWrongFalsely : Prop := encodeConstantsRow.holds Tryd.pinned (OpenSpec.ofChange encodeConstantsWrong)

/- THE SECOND FORM. 'bulk': how many values and letters a reading holds, each counted each time it is reached (what is shared counts as often as it is met; a slice's spare places count too). A statement '..UptoSaid' is the law's where the arguments, and the package variables that the reading takes, are together of bulk at most 1048576: NARROWER than '..Said'. Prove '..Said' where nothing that the law and all that it calls make is longer than what came in: it says more and counts as full. Else prove '..UptoSaid'. A law counts once. -/
mutual
def uptoBulk {H : Type} : DataW H → Nat
  | .lit (.string bytes) => bytes.length + 1
  | .lit _ => 1
  | .nil => 1
  | .ptr d => uptoBulk d + 1
  | .slice elems spare => uptoBulkAll elems + uptoBulkAll spare + 1
  | .agg parts => uptoBulkAll parts + 1
  | .iface _ d => uptoBulk d + 1
  | .map entries => uptoBulkEntries entries + 1
  | .held _ => 1
def uptoBulkAll {H : Type} : List (DataW H) → Nat
  | [] => 0
  | d :: r => uptoBulk d + uptoBulkAll r
def uptoBulkEntries {H : Type} : List (Lit × DataW H) → Nat
  | [] => 0
  | x :: r => uptoBulkEntry x + uptoBulkEntries r
def uptoBulkEntry {H : Type} : Lit × DataW H → Nat
  | (.string bytes, d) => bytes.length + uptoBulk d + 1
  | (_, d) => uptoBulk d + 1
 end
def uptoSmall : (H : Type) → List (DataW H) → Bool := fun _ ds => decide (uptoBulkAll ds ≤ 1048576)
def OpenSpec.upto (s : _root_.Go.ChangeSpec) : _root_.Go.OpenSpec := { _root_.Go.OpenSpec.ofChange s with cond := some uptoSmall }

/-- 'mimesislaw04.EncodeWords', WHERE WHAT IT READS IS OF BULK AT MOST 1048576: true; the input reads as it did. -/
def encodeWordsUptoRow : OpenClaim := { program := "ytlceglloikamnaadoor", sum := "62b4f889d9f14219cfd98519d01a4e65f4497145a89357f8969841f0f9f65dfd", func := "mimesis/mimesislaw04.EncodeWords", spec := "encodeWords", unfollowed := true, recurses := true, named := ["mimesis/encode.matches", "mimesis/inst.forms"], apart := false, laid := [("mimesis/inst.forms", laid_mimesis_inst_forms), ("mimesis/encode.matches", laid_mimesis_encode_matches)], narrowed := true }
def EncodeWordsUptoSaid : Prop := encodeWordsUptoRow.holds Tryd.pinned (OpenSpec.upto encodeWordsSpec)

/-- 'mimesislaw04.EncodeBack', WHERE WHAT IT READS IS OF BULK AT MOST 1048576: true; the input reads as it did. -/
def encodeBackUptoRow : OpenClaim := { program := "ytlceglloikamnaadoor", sum := "62b4f889d9f14219cfd98519d01a4e65f4497145a89357f8969841f0f9f65dfd", func := "mimesis/mimesislaw04.EncodeBack", spec := "encodeBack", unfollowed := true, recurses := true, named := ["mimesis/encode.matches", "mimesis/inst.forms", "mimesis/decode.matches"], apart := false, laid := [("mimesis/inst.forms", laid_mimesis_inst_forms), ("mimesis/decode.matches", laid_mimesis_decode_matches), ("mimesis/encode.matches", laid_mimesis_encode_matches)], narrowed := true }
def EncodeBackUptoSaid : Prop := encodeBackUptoRow.holds Tryd.pinned (OpenSpec.upto encodeBackSpec)

/-- 'mimesislaw04.EncodeLists', WHERE WHAT IT READS IS OF BULK AT MOST 1048576: true; the input reads as it did. -/
def encodeListsUptoRow : OpenClaim := { program := "ytlceglloikamnaadoor", sum := "62b4f889d9f14219cfd98519d01a4e65f4497145a89357f8969841f0f9f65dfd", func := "mimesis/mimesislaw04.EncodeLists", spec := "encodeLists", unfollowed := true, recurses := true, named := ["mimesis/encode.matches", "mimesis/inst.forms"], apart := false, laid := [("mimesis/inst.forms", laid_mimesis_inst_forms), ("mimesis/encode.matches", laid_mimesis_encode_matches)], narrowed := true }
def EncodeListsUptoSaid : Prop := encodeListsUptoRow.holds Tryd.pinned (OpenSpec.upto encodeListsSpec)

/-- 'mimesislaw04.EncodeConstants', WHERE WHAT IT READS IS OF BULK AT MOST 1048576: true; the input reads as it did. -/
def encodeConstantsUptoRow : OpenClaim := { program := "ytlceglloikamnaadoor", sum := "62b4f889d9f14219cfd98519d01a4e65f4497145a89357f8969841f0f9f65dfd", func := "mimesis/mimesislaw04.EncodeConstants", spec := "encodeConstants", unfollowed := true, recurses := true, named := ["mimesis/encode.matches", "mimesis/inst.forms"], apart := false, laid := [("mimesis/inst.forms", laid_mimesis_inst_forms), ("mimesis/encode.matches", laid_mimesis_encode_matches)], narrowed := true }
def EncodeConstantsUptoSaid : Prop := encodeConstantsUptoRow.holds Tryd.pinned (OpenSpec.upto encodeConstantsSpec)

end Rows
end Go.Proofs.YtlceglloikamnaaDoor
