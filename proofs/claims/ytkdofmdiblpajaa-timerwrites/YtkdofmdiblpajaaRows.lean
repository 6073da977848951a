/-
  No cell of these rows narrows 'for every input' (looked for: loops, veiled, ifaces, maps, wideKeys, modest, calm, conditions, laid).
  DERIVED. THE GIVEN ROWS OF THIS SEAT. 4 by the template 'for every input the law returns true; each argument reads behind the call as it read before'; 0 by the template 'total and deterministic' (their statements: YtkdofmdiblpajaaTotals.lean).
  GIVEN WITH THE SEED: the statements are not yours to turn. If you find one false, say at which input.
  Laid BY PROGRAM, IN A SANDBOX (cutbox-rows.mjs): the forced cells as the released guide's own fill.sh prints them over the translation 60c1ec75c6a476c2… (all of the seat's roots in one cut). By AI agents, Wed Nov 11 2026. No macro, syntax, notation, axiom, sorry.
-/
import Derived.Test.YtkdofmdiblpajaaChecked
import GoSem.Claim
import GoSem.ClaimJoined
import GoSem.ClaimMapViews
import Derived.JoinedTies
import Derived.KernelRfl
namespace Go.Proofs.Ytkdofmdiblpajaa
/- THE CELL 'sum', in the pinned program and in every row, IS THE sha256 OF THE DUMP (.gsa) THAT YtkdofmdiblpajaaProg.lean LOADS. Nothing in Lean hashes anything: it is a label: what it is worth is what the hold of that sum in a sandbox is worth. -/
noncomputable def Try.pinned : Pinned := { name := "ytkdofmdiblpajaa", sum := "60c1ec75c6a476c2781e89cbf74e3f337bd9d3deb4f512734643404d449280e7", checked := Try.checked }
namespace Rows
def none {H : Type} : Left H := { results := [], args := [] }

/-- 'mimesislaw13.TimerReads': WHATEVER THE INPUT: true; the input reads as it did. -/
def timerReadsSpec : ChangeSpec := { name := "timerReads", fn := fun _ => fun
  | [d1, d2, d3] => { results := [.lit (.bool true)], args := [d1, d2, d3] }
  | _ => none }
def timerReadsRow : OpenClaim := { program := "ytkdofmdiblpajaa", sum := "60c1ec75c6a476c2781e89cbf74e3f337bd9d3deb4f512734643404d449280e7", func := "mimesis/mimesislaw13.TimerReads", spec := "timerReads", apart := false }
def TimerReadsSaid : Prop := timerReadsRow.holds Try.pinned (OpenSpec.ofChange timerReadsSpec)

/-- ITS FALSE NEIGHBOUR: 'it returns false'. Refute it at one input. -/
def timerReadsWrong : ChangeSpec := { name := "timerReads", fn := fun _ => fun
  | [d1, d2, d3] => { results := [.lit (.bool false)], args := [d1, d2, d3] }
  | _ => none }
def TimerReadsWrongFalsely : Prop := timerReadsRow.holds Try.pinned (OpenSpec.ofChange timerReadsWrong)

/-- 'mimesislaw13.TimerWrites': WHATEVER THE INPUT: true; the input reads as it did. -/
def timerWritesSpec : ChangeSpec := { name := "timerWrites", fn := fun _ => fun
  | [d1, d2, d3] => { results := [.lit (.bool true)], args := [d1, d2, d3] }
  | _ => none }
def timerWritesRow : OpenClaim := { program := "ytkdofmdiblpajaa", sum := "60c1ec75c6a476c2781e89cbf74e3f337bd9d3deb4f512734643404d449280e7", func := "mimesis/mimesislaw13.TimerWrites", spec := "timerWrites", unfollowed := true, recurses := true, apart := false }
def TimerWritesSaid : Prop := timerWritesRow.holds Try.pinned (OpenSpec.ofChange timerWritesSpec)

/-- ITS FALSE NEIGHBOUR: 'it returns false'. Refute it at one input. -/
def timerWritesWrong : ChangeSpec := { name := "timerWrites", fn := fun _ => fun
  | [d1, d2, d3] => { results := [.lit (.bool false)], args := [d1, d2, d3] }
  | _ => none }
def TimerWritesWrongFalsely : Prop := timerWritesRow.holds Try.pinned (OpenSpec.ofChange timerWritesWrong)

/-- 'mimesislaw13.TimerSkips': WHATEVER THE INPUT: true; the input reads as it did. -/
def timerSkipsSpec : ChangeSpec := { name := "timerSkips", fn := fun _ => fun
  | [d1, d2] => { results := [.lit (.bool true)], args := [d1, d2] }
  | _ => none }
def timerSkipsRow : OpenClaim := { program := "ytkdofmdiblpajaa", sum := "60c1ec75c6a476c2781e89cbf74e3f337bd9d3deb4f512734643404d449280e7", func := "mimesis/mimesislaw13.TimerSkips", spec := "timerSkips", apart := false }
def TimerSkipsSaid : Prop := timerSkipsRow.holds Try.pinned (OpenSpec.ofChange timerSkipsSpec)

/-- ITS FALSE NEIGHBOUR: 'it returns false'. Refute it at one input. -/
def timerSkipsWrong : ChangeSpec := { name := "timerSkips", fn := fun _ => fun
  | [d1, d2] => { results := [.lit (.bool false)], args := [d1, d2] }
  | _ => none }
def TimerSkipsWrongFalsely : Prop := timerSkipsRow.holds Try.pinned (OpenSpec.ofChange timerSkipsWrong)

/-- 'mimesislaw13.TimerNils': WHATEVER THE INPUT: true; the input reads as it did. -/
def timerNilsSpec : ChangeSpec := { name := "timerNils", fn := fun _ => fun
  | [d1, d2, d3] => { results := [.lit (.bool true)], args := [d1, d2, d3] }
  | _ => none }
def timerNilsRow : OpenClaim := { program := "ytkdofmdiblpajaa", sum := "60c1ec75c6a476c2781e89cbf74e3f337bd9d3deb4f512734643404d449280e7", func := "mimesis/mimesislaw13.TimerNils", spec := "timerNils", unfollowed := true, recurses := true, apart := false }
def TimerNilsSaid : Prop := timerNilsRow.holds Try.pinned (OpenSpec.ofChange timerNilsSpec)

/-- ITS FALSE NEIGHBOUR: 'it returns false'. Refute it at one input. -/
def timerNilsWrong : ChangeSpec := { name := "timerNils", fn := fun _ => fun
  | [d1, d2, d3] => { results := [.lit (.bool false)], args := [d1, d2, d3] }
  | _ => none }
def TimerNilsWrongFalsely : Prop := timerNilsRow.holds Try.pinned (OpenSpec.ofChange timerNilsWrong)

/- THE SECOND FORM. 'bulk': how many values and letters a reading holds, each counted each time it is reached (what is shared counts as often as it is met; a slice's spare places count too). A statement '..UptoSaid' is the law's where the arguments, and the package variables that the reading takes, are together of bulk at most 1048576: NARROWER than '..Said'. Prove '..Said' where nothing that the law and all that it calls make is longer than what came in: it says more and counts as full. Else prove '..UptoSaid'. A law counts once. -/
mutual
def uptoBulk {H : Type} : DataW H → Nat
  | .lit (.string bytes) => bytes.length + 1
  | .lit _ => 1
  | .nil => 1
  | .ptr d => uptoBulk d + 1
  | .slice elems spare => uptoBulkAll elems + uptoBulkAll spare + 1
  | .agg parts => uptoBulkAll parts + 1
  | .iface _ d => uptoBulk d + 1
  | .map entries => uptoBulkEntries entries + 1
  | .held _ => 1
def uptoBulkAll {H : Type} : List (DataW H) → Nat
  | [] => 0
  | d :: r => uptoBulk d + uptoBulkAll r
def uptoBulkEntries {H : Type} : List (Lit × DataW H) → Nat
  | [] => 0
  | x :: r => uptoBulkEntry x + uptoBulkEntries r
def uptoBulkEntry {H : Type} : Lit × DataW H → Nat
  | (.string bytes, d) => bytes.length + uptoBulk d + 1
  | (_, d) => uptoBulk d + 1
 end
def uptoSmall : (H : Type) → List (DataW H) → Bool := fun _ ds => decide (uptoBulkAll ds ≤ 1048576)
def OpenSpec.upto (s : _root_.Go.ChangeSpec) : _root_.Go.OpenSpec := { _root_.Go.OpenSpec.ofChange s with cond := some uptoSmall }

/-- 'mimesislaw13.TimerReads', WHERE WHAT IT READS IS OF BULK AT MOST 1048576: true; the input reads as it did. -/
def timerReadsUptoRow : OpenClaim := { program := "ytkdofmdiblpajaa", sum := "60c1ec75c6a476c2781e89cbf74e3f337bd9d3deb4f512734643404d449280e7", func := "mimesis/mimesislaw13.TimerReads", spec := "timerReads", apart := false, narrowed := true }
def TimerReadsUptoSaid : Prop := timerReadsUptoRow.holds Try.pinned (OpenSpec.upto timerReadsSpec)

/-- 'mimesislaw13.TimerWrites', WHERE WHAT IT READS IS OF BULK AT MOST 1048576: true; the input reads as it did. -/
def timerWritesUptoRow : OpenClaim := { program := "ytkdofmdiblpajaa", sum := "60c1ec75c6a476c2781e89cbf74e3f337bd9d3deb4f512734643404d449280e7", func := "mimesis/mimesislaw13.TimerWrites", spec := "timerWrites", unfollowed := true, recurses := true, apart := false, narrowed := true }
def TimerWritesUptoSaid : Prop := timerWritesUptoRow.holds Try.pinned (OpenSpec.upto timerWritesSpec)

/-- 'mimesislaw13.TimerSkips', WHERE WHAT IT READS IS OF BULK AT MOST 1048576: true; the input reads as it did. -/
def timerSkipsUptoRow : OpenClaim := { program := "ytkdofmdiblpajaa", sum := "60c1ec75c6a476c2781e89cbf74e3f337bd9d3deb4f512734643404d449280e7", func := "mimesis/mimesislaw13.TimerSkips", spec := "timerSkips", apart := false, narrowed := true }
def TimerSkipsUptoSaid : Prop := timerSkipsUptoRow.holds Try.pinned (OpenSpec.upto timerSkipsSpec)

/-- 'mimesislaw13.TimerNils', WHERE WHAT IT READS IS OF BULK AT MOST 1048576: true; the input reads as it did. -/
def timerNilsUptoRow : OpenClaim := { program := "ytkdofmdiblpajaa", sum := "60c1ec75c6a476c2781e89cbf74e3f337bd9d3deb4f512734643404d449280e7", func := "mimesis/mimesislaw13.TimerNils", spec := "timerNils", unfollowed := true, recurses := true, apart := false, narrowed := true }
def TimerNilsUptoSaid : Prop := timerNilsUptoRow.holds Try.pinned (OpenSpec.upto timerNilsSpec)

end Rows
end Go.Proofs.Ytkdofmdiblpajaa
