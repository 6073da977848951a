/-
  NARROWER THAN 'FOR EVERY INPUT', by the rows' own cells (each row's printed sentence says how): InstNames: laid · InstOps: laid · InstRight: laid · InstKinds: laid · InstUses: laid.
  DERIVED. THE GIVEN ROWS OF THIS SEAT. 5 by the template 'for every input the law returns true; each argument reads behind the call as it read before'; 0 by the template 'total and deterministic' (their statements: YtokbdajdfmgdiaaDoorTotals.lean).
  GIVEN WITH THE SEED: the statements are not yours to turn. If you find one false, say at which input.
  Laid BY PROGRAM, IN A SANDBOX (cutbox-rows.mjs): the forced cells as the released guide's own fill.sh prints them over the translation 3192bded710dff97… (all of the seat's roots in one cut). By AI agents, Wed Nov 11 2026. No macro, syntax, notation, axiom, sorry.
-/
import Derived.Test.YtokbdajdfmgdiaaDoorChecked
import GoSem.Claim
import GoSem.ClaimJoined
import GoSem.ClaimMapViews
import Derived.JoinedTies
import Derived.KernelRfl
namespace Go.Proofs.YtokbdajdfmgdiaaDoor
/- THE CELL 'sum', in the pinned program and in every row, IS THE sha256 OF THE DUMP (.gsa) THAT YtokbdajdfmgdiaaDoorProg.lean LOADS. Nothing in Lean hashes anything: it is a label: what it is worth is what the hold of that sum in a sandbox is worth. -/
noncomputable def Tryd.pinned : Pinned := { name := "ytokbdajdfmgdiaadoor", sum := "3192bded710dff97a3a632b6e8ef3e333467d508aa77ed73c0a8df08b5756d58", checked := Tryd.checked }
namespace Rows
def none {H : Type} : Left H := { results := [], args := [] }

/- WHAT THE LISTED PACKAGE-LEVEL VARIABLES READ AS WHEN THE CALL BEGINS. Each datum BY PROGRAM (the guide's laid-datum.mjs) off the statement by which the dump's own 'gosem.cut.vars' lays the variable. In a bare row this is a premise. The card (YtokbdajdfmgdiaaDoorCards.lean) ties it to the program's text. -/
def laid_mimesis_inst_forms {H : Type} : DataW H := .agg [.lit (.int .i64 0), .lit (.int .i64 1), .lit (.int .i64 1), .lit (.int .i64 2), .lit (.int .i64 3), .lit (.int .i64 4), .lit (.int .i64 4), .lit (.int .i64 4), .lit (.int .i64 4), .lit (.int .i64 4), .lit (.int .i64 4), .lit (.int .i64 3), .lit (.int .i64 3), .lit (.int .i64 3), .lit (.int .i64 3), .lit (.int .i64 3), .lit (.int .i64 5), .lit (.int .i64 5), .lit (.int .i64 5), .lit (.int .i64 3), .lit (.int .i64 3), .lit (.int .i64 3), .lit (.int .i64 3), .lit (.int .i64 3), .lit (.int .i64 3), .lit (.int .i64 7), .lit (.int .i64 7), .lit (.int .i64 7), .lit (.int .i64 6), .lit (.int .i64 6), .lit (.int .i64 6), .lit (.int .i64 6), .lit (.int .i64 6), .lit (.int .i64 6), .lit (.int .i64 6), .lit (.int .i64 6), .lit (.int .i64 6), .lit (.int .i64 6), .lit (.int .i64 3), .lit (.int .i64 3), .lit (.int .i64 0), .lit (.int .i64 0), .lit (.int .i64 8), .lit (.int .i64 8), .lit (.int .i64 8), .lit (.int .i64 9), .lit (.int .i64 9), .lit (.int .i64 9), .lit (.int .i64 0), .lit (.int .i64 0), .lit (.int .i64 6), .lit (.int .i64 6), .lit (.int .i64 6), .lit (.int .i64 6), .lit (.int .i64 6), .lit (.int .i64 6), .lit (.int .i64 6), .lit (.int .i64 6)]
def laid_mimesis_inst_names {H : Type} : DataW H := .agg [.lit (.string [105, 108, 108, 101, 103, 97, 108]), .lit (.string [108, 117, 105]), .lit (.string [97, 117, 105, 112, 99]), .lit (.string [106, 97, 108]), .lit (.string [106, 97, 108, 114]), .lit (.string [98, 101, 113]), .lit (.string [98, 110, 101]), .lit (.string [98, 108, 116]), .lit (.string [98, 103, 101]), .lit (.string [98, 108, 116, 117]), .lit (.string [98, 103, 101, 117]), .lit (.string [108, 98]), .lit (.string [108, 104]), .lit (.string [108, 119]), .lit (.string [108, 98, 117]), .lit (.string [108, 104, 117]), .lit (.string [115, 98]), .lit (.string [115, 104]), .lit (.string [115, 119]), .lit (.string [97, 100, 100, 105]), .lit (.string [115, 108, 116, 105]), .lit (.string [115, 108, 116, 105, 117]), .lit (.string [120, 111, 114, 105]), .lit (.string [111, 114, 105]), .lit (.string [97, 110, 100, 105]), .lit (.string [115, 108, 108, 105]), .lit (.string [115, 114, 108, 105]), .lit (.string [115, 114, 97, 105]), .lit (.string [97, 100, 100]), .lit (.string [115, 117, 98]), .lit (.string [115, 108, 108]), .lit (.string [115, 108, 116]), .lit (.string [115, 108, 116, 117]), .lit (.string [120, 111, 114]), .lit (.string [115, 114, 108]), .lit (.string [115, 114, 97]), .lit (.string [111, 114]), .lit (.string [97, 110, 100]), .lit (.string [102, 101, 110, 99, 101]), .lit (.string [102, 101, 110, 99, 101, 46, 105]), .lit (.string [101, 99, 97, 108, 108]), .lit (.string [101, 98, 114, 101, 97, 107]), .lit (.string [99, 115, 114, 114, 119]), .lit (.string [99, 115, 114, 114, 115]), .lit (.string [99, 115, 114, 114, 99]), .lit (.string [99, 115, 114, 114, 119, 105]), .lit (.string [99, 115, 114, 114, 115, 105]), .lit (.string [99, 115, 114, 114, 99, 105]), .lit (.string [109, 114, 101, 116]), .lit (.string [119, 102, 105]), .lit (.string [109, 117, 108]), .lit (.string [109, 117, 108, 104]), .lit (.string [109, 117, 108, 104, 115, 117]), .lit (.string [109, 117, 108, 104, 117]), .lit (.string [100, 105, 118]), .lit (.string [100, 105, 118, 117]), .lit (.string [114, 101, 109]), .lit (.string [114, 101, 109, 117])]

/-- 'mimesislaw02.InstNames': WHATEVER THE INPUT: true; the input reads as it did. -/
def instNamesSpec : ChangeSpec := { name := "instNames", fn := fun _ => fun
  | [d] => { results := [.lit (.bool true)], args := [d] }
  | _ => none }
def instNamesRow : OpenClaim := { program := "ytokbdajdfmgdiaadoor", sum := "3192bded710dff97a3a632b6e8ef3e333467d508aa77ed73c0a8df08b5756d58", func := "mimesis/mimesislaw02.InstNames", spec := "instNames", named := ["mimesis/inst.names", "mimesis/inst.forms"], apart := false, laid := [("mimesis/inst.forms", laid_mimesis_inst_forms), ("mimesis/inst.names", laid_mimesis_inst_names)] }
def InstNamesSaid : Prop := instNamesRow.holds Tryd.pinned (OpenSpec.ofChange instNamesSpec)

/-- ITS FALSE NEIGHBOUR: 'it returns false'. Refute it at one input. -/
def instNamesWrong : ChangeSpec := { name := "instNames", fn := fun _ => fun
  | [d] => { results := [.lit (.bool false)], args := [d] }
  | _ => none }
def InstNamesWrongFalsely : Prop := instNamesRow.holds Tryd.pinned (OpenSpec.ofChange instNamesWrong)

/-- 'mimesislaw02.InstOps': WHATEVER THE INPUT: true; the input reads as it did. -/
def instOpsSpec : ChangeSpec := { name := "instOps", fn := fun _ => fun
  | [d] => { results := [.lit (.bool true)], args := [d] }
  | _ => none }
def instOpsRow : OpenClaim := { program := "ytokbdajdfmgdiaadoor", sum := "3192bded710dff97a3a632b6e8ef3e333467d508aa77ed73c0a8df08b5756d58", func := "mimesis/mimesislaw02.InstOps", spec := "instOps", named := ["mimesis/inst.names", "mimesis/inst.forms"], apart := false, laid := [("mimesis/inst.forms", laid_mimesis_inst_forms), ("mimesis/inst.names", laid_mimesis_inst_names)] }
def InstOpsSaid : Prop := instOpsRow.holds Tryd.pinned (OpenSpec.ofChange instOpsSpec)

/-- ITS FALSE NEIGHBOUR: 'it returns false'. Refute it at one input. -/
def instOpsWrong : ChangeSpec := { name := "instOps", fn := fun _ => fun
  | [d] => { results := [.lit (.bool false)], args := [d] }
  | _ => none }
def InstOpsWrongFalsely : Prop := instOpsRow.holds Tryd.pinned (OpenSpec.ofChange instOpsWrong)

/-- 'mimesislaw02.InstRight': WHATEVER THE INPUT: true; the input reads as it did. -/
def instRightSpec : ChangeSpec := { name := "instRight", fn := fun _ => fun
  | [d] => { results := [.lit (.bool true)], args := [d] }
  | _ => none }
def instRightRow : OpenClaim := { program := "ytokbdajdfmgdiaadoor", sum := "3192bded710dff97a3a632b6e8ef3e333467d508aa77ed73c0a8df08b5756d58", func := "mimesis/mimesislaw02.InstRight", spec := "instRight", named := ["mimesis/inst.forms", "mimesis/inst.names"], apart := false, laid := [("mimesis/inst.forms", laid_mimesis_inst_forms), ("mimesis/inst.names", laid_mimesis_inst_names)] }
def InstRightSaid : Prop := instRightRow.holds Tryd.pinned (OpenSpec.ofChange instRightSpec)

/-- ITS FALSE NEIGHBOUR: 'it returns false'. Refute it at one input. -/
def instRightWrong : ChangeSpec := { name := "instRight", fn := fun _ => fun
  | [d] => { results := [.lit (.bool false)], args := [d] }
  | _ => none }
def InstRightWrongFalsely : Prop := instRightRow.holds Tryd.pinned (OpenSpec.ofChange instRightWrong)

/-- 'mimesislaw02.InstKinds': WHATEVER THE INPUT: true; the input reads as it did. -/
def instKindsSpec : ChangeSpec := { name := "instKinds", fn := fun _ => fun
  | [d] => { results := [.lit (.bool true)], args := [d] }
  | _ => none }
def instKindsRow : OpenClaim := { program := "ytokbdajdfmgdiaadoor", sum := "3192bded710dff97a3a632b6e8ef3e333467d508aa77ed73c0a8df08b5756d58", func := "mimesis/mimesislaw02.InstKinds", spec := "instKinds", named := ["mimesis/inst.names", "mimesis/inst.forms"], apart := false, laid := [("mimesis/inst.forms", laid_mimesis_inst_forms), ("mimesis/inst.names", laid_mimesis_inst_names)] }
def InstKindsSaid : Prop := instKindsRow.holds Tryd.pinned (OpenSpec.ofChange instKindsSpec)

/-- ITS FALSE NEIGHBOUR: 'it returns false'. Refute it at one input. -/
def instKindsWrong : ChangeSpec := { name := "instKinds", fn := fun _ => fun
  | [d] => { results := [.lit (.bool false)], args := [d] }
  | _ => none }
def InstKindsWrongFalsely : Prop := instKindsRow.holds Tryd.pinned (OpenSpec.ofChange instKindsWrong)

/-- 'mimesislaw02.InstUses': WHATEVER THE INPUT: true; the input reads as it did. -/
def instUsesSpec : ChangeSpec := { name := "instUses", fn := fun _ => fun
  | [d] => { results := [.lit (.bool true)], args := [d] }
  | _ => none }
def instUsesRow : OpenClaim := { program := "ytokbdajdfmgdiaadoor", sum := "3192bded710dff97a3a632b6e8ef3e333467d508aa77ed73c0a8df08b5756d58", func := "mimesis/mimesislaw02.InstUses", spec := "instUses", named := ["mimesis/inst.forms", "mimesis/inst.names"], apart := false, laid := [("mimesis/inst.forms", laid_mimesis_inst_forms), ("mimesis/inst.names", laid_mimesis_inst_names)] }
def InstUsesSaid : Prop := instUsesRow.holds Tryd.pinned (OpenSpec.ofChange instUsesSpec)

/-- ITS FALSE NEIGHBOUR: 'it returns false'. Refute it at one input. -/
def instUsesWrong : ChangeSpec := { name := "instUses", fn := fun _ => fun
  | [d] => { results := [.lit (.bool false)], args := [d] }
  | _ => none }
def InstUsesWrongFalsely : Prop := instUsesRow.holds Tryd.pinned (OpenSpec.ofChange instUsesWrong)

/- THE SECOND FORM. 'bulk': how many values and letters a reading holds, each counted each time it is reached (what is shared counts as often as it is met; a slice's spare places count too). A statement '..UptoSaid' is the law's where the arguments, and the package variables that the reading takes, are together of bulk at most 1048576: NARROWER than '..Said'. Prove '..Said' where nothing that the law and all that it calls make is longer than what came in: it says more and counts as full. Else prove '..UptoSaid'. A law counts once. -/
mutual
def uptoBulk {H : Type} : DataW H → Nat
  | .lit (.string bytes) => bytes.length + 1
  | .lit _ => 1
  | .nil => 1
  | .ptr d => uptoBulk d + 1
  | .slice elems spare => uptoBulkAll elems + uptoBulkAll spare + 1
  | .agg parts => uptoBulkAll parts + 1
  | .iface _ d => uptoBulk d + 1
  | .map entries => uptoBulkEntries entries + 1
  | .held _ => 1
def uptoBulkAll {H : Type} : List (DataW H) → Nat
  | [] => 0
  | d :: r => uptoBulk d + uptoBulkAll r
def uptoBulkEntries {H : Type} : List (Lit × DataW H) → Nat
  | [] => 0
  | x :: r => uptoBulkEntry x + uptoBulkEntries r
def uptoBulkEntry {H : Type} : Lit × DataW H → Nat
  | (.string bytes, d) => bytes.length + uptoBulk d + 1
  | (_, d) => uptoBulk d + 1
 end
def uptoSmall : (H : Type) → List (DataW H) → Bool := fun _ ds => decide (uptoBulkAll ds ≤ 1048576)
def OpenSpec.upto (s : _root_.Go.ChangeSpec) : _root_.Go.OpenSpec := { _root_.Go.OpenSpec.ofChange s with cond := some uptoSmall }

/-- 'mimesislaw02.InstNames', WHERE WHAT IT READS IS OF BULK AT MOST 1048576: true; the input reads as it did. -/
def instNamesUptoRow : OpenClaim := { program := "ytokbdajdfmgdiaadoor", sum := "3192bded710dff97a3a632b6e8ef3e333467d508aa77ed73c0a8df08b5756d58", func := "mimesis/mimesislaw02.InstNames", spec := "instNames", named := ["mimesis/inst.names", "mimesis/inst.forms"], apart := false, laid := [("mimesis/inst.forms", laid_mimesis_inst_forms), ("mimesis/inst.names", laid_mimesis_inst_names)], narrowed := true }
def InstNamesUptoSaid : Prop := instNamesUptoRow.holds Tryd.pinned (OpenSpec.upto instNamesSpec)

/-- 'mimesislaw02.InstOps', WHERE WHAT IT READS IS OF BULK AT MOST 1048576: true; the input reads as it did. -/
def instOpsUptoRow : OpenClaim := { program := "ytokbdajdfmgdiaadoor", sum := "3192bded710dff97a3a632b6e8ef3e333467d508aa77ed73c0a8df08b5756d58", func := "mimesis/mimesislaw02.InstOps", spec := "instOps", named := ["mimesis/inst.names", "mimesis/inst.forms"], apart := false, laid := [("mimesis/inst.forms", laid_mimesis_inst_forms), ("mimesis/inst.names", laid_mimesis_inst_names)], narrowed := true }
def InstOpsUptoSaid : Prop := instOpsUptoRow.holds Tryd.pinned (OpenSpec.upto instOpsSpec)

/-- 'mimesislaw02.InstRight', WHERE WHAT IT READS IS OF BULK AT MOST 1048576: true; the input reads as it did. -/
def instRightUptoRow : OpenClaim := { program := "ytokbdajdfmgdiaadoor", sum := "3192bded710dff97a3a632b6e8ef3e333467d508aa77ed73c0a8df08b5756d58", func := "mimesis/mimesislaw02.InstRight", spec := "instRight", named := ["mimesis/inst.forms", "mimesis/inst.names"], apart := false, laid := [("mimesis/inst.forms", laid_mimesis_inst_forms), ("mimesis/inst.names", laid_mimesis_inst_names)], narrowed := true }
def InstRightUptoSaid : Prop := instRightUptoRow.holds Tryd.pinned (OpenSpec.upto instRightSpec)

/-- 'mimesislaw02.InstKinds', WHERE WHAT IT READS IS OF BULK AT MOST 1048576: true; the input reads as it did. -/
def instKindsUptoRow : OpenClaim := { program := "ytokbdajdfmgdiaadoor", sum := "3192bded710dff97a3a632b6e8ef3e333467d508aa77ed73c0a8df08b5756d58", func := "mimesis/mimesislaw02.InstKinds", spec := "instKinds", named := ["mimesis/inst.names", "mimesis/inst.forms"], apart := false, laid := [("mimesis/inst.forms", laid_mimesis_inst_forms), ("mimesis/inst.names", laid_mimesis_inst_names)], narrowed := true }
def InstKindsUptoSaid : Prop := instKindsUptoRow.holds Tryd.pinned (OpenSpec.upto instKindsSpec)

/-- 'mimesislaw02.InstUses', WHERE WHAT IT READS IS OF BULK AT MOST 1048576: true; the input reads as it did. -/
def instUsesUptoRow : OpenClaim := { program := "ytokbdajdfmgdiaadoor", sum := "3192bded710dff97a3a632b6e8ef3e333467d508aa77ed73c0a8df08b5756d58", func := "mimesis/mimesislaw02.InstUses", spec := "instUses", named := ["mimesis/inst.forms", "mimesis/inst.names"], apart := false, laid := [("mimesis/inst.forms", laid_mimesis_inst_forms), ("mimesis/inst.names", laid_mimesis_inst_names)], narrowed := true }
def InstUsesUptoSaid : Prop := instUsesUptoRow.holds Tryd.pinned (OpenSpec.upto instUsesSpec)

end Rows
end Go.Proofs.YtokbdajdfmgdiaaDoor
