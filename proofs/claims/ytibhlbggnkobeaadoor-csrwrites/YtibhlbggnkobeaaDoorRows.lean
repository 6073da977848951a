/-
  NARROWER THAN 'FOR EVERY INPUT', by the rows' own cells (each row's printed sentence says how): CsrReads: laid · CsrWrites: laid.
  DERIVED. THE GIVEN ROWS OF THIS SEAT. 2 by the template 'for every input the law returns true; each argument reads behind the call as it read before'; 0 by the template 'total and deterministic' (their statements: YtibhlbggnkobeaaDoorTotals.lean).
  GIVEN WITH THE SEED: the statements are not yours to turn. If you find one false, say at which input.
  Laid BY PROGRAM, IN A SANDBOX (cutbox-rows.mjs): the forced cells as the released guide's own fill.sh prints them over the translation 28212fb1bddc8800… (all of the seat's roots in one cut). By AI agents, Wed Nov 11 2026. No macro, syntax, notation, axiom, sorry.
-/
import Derived.Test.YtibhlbggnkobeaaDoorChecked
import GoSem.Claim
import GoSem.ClaimJoined
import GoSem.ClaimMapViews
import Derived.JoinedTies
import Derived.KernelRfl
namespace Go.Proofs.YtibhlbggnkobeaaDoor
/- THE CELL 'sum', in the pinned program and in every row, IS THE sha256 OF THE DUMP (.gsa) THAT YtibhlbggnkobeaaDoorProg.lean LOADS. Nothing in Lean hashes anything: it is a label: what it is worth is what the hold of that sum in a sandbox is worth. -/
noncomputable def Tryd.pinned : Pinned := { name := "ytibhlbggnkobeaadoor", sum := "28212fb1bddc8800d8c528d77c2344ae09e774736dc31c2f84bbb0ce29163082", checked := Tryd.checked }
namespace Rows
def none {H : Type} : Left H := { results := [], args := [] }

/- WHAT THE LISTED PACKAGE-LEVEL VARIABLES READ AS WHEN THE CALL BEGINS. Each datum BY PROGRAM (the guide's laid-datum.mjs) off the statement by which the dump's own 'gosem.cut.vars' lays the variable. In a bare row this is a premise. The card (YtibhlbggnkobeaaDoorCards.lean) ties it to the program's text. -/
def laid_mimesis_mask_registers {H : Type} : DataW H := .agg [.agg [.lit (.int .i64 768), .lit (.string [109, 115, 116, 97, 116, 117, 115]), .lit (.int .u32 136), .lit (.int .u32 6144)], .agg [.lit (.int .i64 769), .lit (.string [109, 105, 115, 97]), .lit (.int .u32 0), .lit (.int .u32 1073746176)], .agg [.lit (.int .i64 772), .lit (.string [109, 105, 101]), .lit (.int .u32 2184), .lit (.int .u32 0)], .agg [.lit (.int .i64 773), .lit (.string [109, 116, 118, 101, 99]), .lit (.int .u32 4294967293), .lit (.int .u32 0)], .agg [.lit (.int .i64 832), .lit (.string [109, 115, 99, 114, 97, 116, 99, 104]), .lit (.int .u32 4294967295), .lit (.int .u32 0)], .agg [.lit (.int .i64 833), .lit (.string [109, 101, 112, 99]), .lit (.int .u32 4294967292), .lit (.int .u32 0)], .agg [.lit (.int .i64 834), .lit (.string [109, 99, 97, 117, 115, 101]), .lit (.int .u32 4294967295), .lit (.int .u32 0)], .agg [.lit (.int .i64 835), .lit (.string [109, 116, 118, 97, 108]), .lit (.int .u32 4294967295), .lit (.int .u32 0)], .agg [.lit (.int .i64 836), .lit (.string [109, 105, 112]), .lit (.int .u32 0), .lit (.int .u32 0)], .agg [.lit (.int .i64 2816), .lit (.string [109, 99, 121, 99, 108, 101]), .lit (.int .u32 4294967295), .lit (.int .u32 0)], .agg [.lit (.int .i64 2818), .lit (.string [109, 105, 110, 115, 116, 114, 101, 116]), .lit (.int .u32 4294967295), .lit (.int .u32 0)], .agg [.lit (.int .i64 2944), .lit (.string [109, 99, 121, 99, 108, 101, 104]), .lit (.int .u32 4294967295), .lit (.int .u32 0)], .agg [.lit (.int .i64 2946), .lit (.string [109, 105, 110, 115, 116, 114, 101, 116, 104]), .lit (.int .u32 4294967295), .lit (.int .u32 0)], .agg [.lit (.int .i64 3072), .lit (.string [99, 121, 99, 108, 101]), .lit (.int .u32 0), .lit (.int .u32 0)], .agg [.lit (.int .i64 3073), .lit (.string [116, 105, 109, 101]), .lit (.int .u32 0), .lit (.int .u32 0)], .agg [.lit (.int .i64 3074), .lit (.string [105, 110, 115, 116, 114, 101, 116]), .lit (.int .u32 0), .lit (.int .u32 0)], .agg [.lit (.int .i64 3200), .lit (.string [99, 121, 99, 108, 101, 104]), .lit (.int .u32 0), .lit (.int .u32 0)], .agg [.lit (.int .i64 3201), .lit (.string [116, 105, 109, 101, 104]), .lit (.int .u32 0), .lit (.int .u32 0)], .agg [.lit (.int .i64 3202), .lit (.string [105, 110, 115, 116, 114, 101, 116, 104]), .lit (.int .u32 0), .lit (.int .u32 0)], .agg [.lit (.int .i64 3857), .lit (.string [109, 118, 101, 110, 100, 111, 114, 105, 100]), .lit (.int .u32 0), .lit (.int .u32 0)], .agg [.lit (.int .i64 3858), .lit (.string [109, 97, 114, 99, 104, 105, 100]), .lit (.int .u32 0), .lit (.int .u32 0)], .agg [.lit (.int .i64 3859), .lit (.string [109, 105, 109, 112, 105, 100]), .lit (.int .u32 0), .lit (.int .u32 0)], .agg [.lit (.int .i64 3860), .lit (.string [109, 104, 97, 114, 116, 105, 100]), .lit (.int .u32 0), .lit (.int .u32 0)]]

/-- 'mimesislaw16.CsrReads': WHATEVER THE INPUT: true; the input reads as it did. -/
def csrReadsSpec : ChangeSpec := { name := "csrReads", fn := fun _ => fun
  | [d1, d2, d3] => { results := [.lit (.bool true)], args := [d1, d2, d3] }
  | _ => none }
def csrReadsRow : OpenClaim := { program := "ytibhlbggnkobeaadoor", sum := "28212fb1bddc8800d8c528d77c2344ae09e774736dc31c2f84bbb0ce29163082", func := "mimesis/mimesislaw16.CsrReads", spec := "csrReads", unfollowed := true, recurses := true, named := ["mimesis/mask.registers"], apart := false, laid := [("mimesis/mask.registers", laid_mimesis_mask_registers)] }
def CsrReadsSaid : Prop := csrReadsRow.holds Tryd.pinned (OpenSpec.ofChange csrReadsSpec)

/-- ITS FALSE NEIGHBOUR: 'it returns false'. Refute it at one input. -/
def csrReadsWrong : ChangeSpec := { name := "csrReads", fn := fun _ => fun
  | [d1, d2, d3] => { results := [.lit (.bool false)], args := [d1, d2, d3] }
  | _ => none }
def CsrReadsWrongFalsely : Prop := csrReadsRow.holds Tryd.pinned (OpenSpec.ofChange csrReadsWrong)

/-- 'mimesislaw16.CsrWrites': WHATEVER THE INPUT: true; the input reads as it did. -/
def csrWritesSpec : ChangeSpec := { name := "csrWrites", fn := fun _ => fun
  | [d1, d2, d3] => { results := [.lit (.bool true)], args := [d1, d2, d3] }
  | _ => none }
def csrWritesRow : OpenClaim := { program := "ytibhlbggnkobeaadoor", sum := "28212fb1bddc8800d8c528d77c2344ae09e774736dc31c2f84bbb0ce29163082", func := "mimesis/mimesislaw16.CsrWrites", spec := "csrWrites", unfollowed := true, recurses := true, named := ["mimesis/mask.registers"], apart := false, laid := [("mimesis/mask.registers", laid_mimesis_mask_registers)] }
def CsrWritesSaid : Prop := csrWritesRow.holds Tryd.pinned (OpenSpec.ofChange csrWritesSpec)

/-- ITS FALSE NEIGHBOUR: 'it returns false'. Refute it at one input. -/
def csrWritesWrong : ChangeSpec := { name := "csrWrites", fn := fun _ => fun
  | [d1, d2, d3] => { results := [.lit (.bool false)], args := [d1, d2, d3] }
  | _ => none }
def CsrWritesWrongFalsely : Prop := csrWritesRow.holds Tryd.pinned (OpenSpec.ofChange csrWritesWrong)

/- THE SECOND FORM. 'bulk': how many values and letters a reading holds, each counted each time it is reached (what is shared counts as often as it is met; a slice's spare places count too). A statement '..UptoSaid' is the law's where the arguments, and the package variables that the reading takes, are together of bulk at most 1048576: NARROWER than '..Said'. Prove '..Said' where nothing that the law and all that it calls make is longer than what came in: it says more and counts as full. Else prove '..UptoSaid'. A law counts once. -/
mutual
def uptoBulk {H : Type} : DataW H → Nat
  | .lit (.string bytes) => bytes.length + 1
  | .lit _ => 1
  | .nil => 1
  | .ptr d => uptoBulk d + 1
  | .slice elems spare => uptoBulkAll elems + uptoBulkAll spare + 1
  | .agg parts => uptoBulkAll parts + 1
  | .iface _ d => uptoBulk d + 1
  | .map entries => uptoBulkEntries entries + 1
  | .held _ => 1
def uptoBulkAll {H : Type} : List (DataW H) → Nat
  | [] => 0
  | d :: r => uptoBulk d + uptoBulkAll r
def uptoBulkEntries {H : Type} : List (Lit × DataW H) → Nat
  | [] => 0
  | x :: r => uptoBulkEntry x + uptoBulkEntries r
def uptoBulkEntry {H : Type} : Lit × DataW H → Nat
  | (.string bytes, d) => bytes.length + uptoBulk d + 1
  | (_, d) => uptoBulk d + 1
 end
def uptoSmall : (H : Type) → List (DataW H) → Bool := fun _ ds => decide (uptoBulkAll ds ≤ 1048576)
def OpenSpec.upto (s : _root_.Go.ChangeSpec) : _root_.Go.OpenSpec := { _root_.Go.OpenSpec.ofChange s with cond := some uptoSmall }

/-- 'mimesislaw16.CsrReads', WHERE WHAT IT READS IS OF BULK AT MOST 1048576: true; the input reads as it did. -/
def csrReadsUptoRow : OpenClaim := { program := "ytibhlbggnkobeaadoor", sum := "28212fb1bddc8800d8c528d77c2344ae09e774736dc31c2f84bbb0ce29163082", func := "mimesis/mimesislaw16.CsrReads", spec := "csrReads", unfollowed := true, recurses := true, named := ["mimesis/mask.registers"], apart := false, laid := [("mimesis/mask.registers", laid_mimesis_mask_registers)], narrowed := true }
def CsrReadsUptoSaid : Prop := csrReadsUptoRow.holds Tryd.pinned (OpenSpec.upto csrReadsSpec)

/-- 'mimesislaw16.CsrWrites', WHERE WHAT IT READS IS OF BULK AT MOST 1048576: true; the input reads as it did. -/
def csrWritesUptoRow : OpenClaim := { program := "ytibhlbggnkobeaadoor", sum := "28212fb1bddc8800d8c528d77c2344ae09e774736dc31c2f84bbb0ce29163082", func := "mimesis/mimesislaw16.CsrWrites", spec := "csrWrites", unfollowed := true, recurses := true, named := ["mimesis/mask.registers"], apart := false, laid := [("mimesis/mask.registers", laid_mimesis_mask_registers)], narrowed := true }
def CsrWritesUptoSaid : Prop := csrWritesUptoRow.holds Tryd.pinned (OpenSpec.upto csrWritesSpec)

end Rows
end Go.Proofs.YtibhlbggnkobeaaDoor
