/-
  No cell of these rows narrows 'for every input' (looked for: loops, veiled, ifaces, maps, wideKeys, modest, calm, conditions, laid).
  DERIVED. THE GIVEN ROWS OF THIS SEAT. 4 by the template 'for every input the law returns true; each argument reads behind the call as it read before'; 0 by the template 'total and deterministic' (their statements: YtkgamoacjkmhkaaTotals.lean).
  GIVEN WITH THE SEED: the statements are not yours to turn. If you find one false, say at which input.
  Laid BY PROGRAM, IN A SANDBOX (cutbox-rows.mjs): the forced cells as the released guide's own fill.sh prints them over the translation 7a730d56ff1885e6… (all of the seat's roots in one cut). By AI agents, Wed Nov 11 2026. No macro, syntax, notation, axiom, sorry.
-/
import Derived.Test.YtkgamoacjkmhkaaChecked
import GoSem.Claim
import GoSem.ClaimJoined
import GoSem.ClaimMapViews
import Derived.JoinedTies
import Derived.KernelRfl
namespace Go.Proofs.Ytkgamoacjkmhkaa
/- THE CELL 'sum', in the pinned program and in every row, IS THE sha256 OF THE DUMP (.gsa) THAT YtkgamoacjkmhkaaProg.lean LOADS. Nothing in Lean hashes anything: it is a label: what it is worth is what the hold of that sum in a sandbox is worth. -/
noncomputable def Try.pinned : Pinned := { name := "ytkgamoacjkmhkaa", sum := "7a730d56ff1885e60c35877aa69fb577c3a92e9c27350ea10bd93be26bfc1df0", checked := Try.checked }
namespace Rows
def none {H : Type} : Left H := { results := [], args := [] }

/-- 'mimesislaw10.RamNews': WHATEVER THE INPUT: true; the input reads as it did. -/
def ramNewsSpec : ChangeSpec := { name := "ramNews", fn := fun _ => fun
  | [d] => { results := [.lit (.bool true)], args := [d] }
  | _ => none }
def ramNewsRow : OpenClaim := { program := "ytkgamoacjkmhkaa", sum := "7a730d56ff1885e60c35877aa69fb577c3a92e9c27350ea10bd93be26bfc1df0", func := "mimesis/mimesislaw10.RamNews", spec := "ramNews", apart := false }
def RamNewsSaid : Prop := ramNewsRow.holds Try.pinned (OpenSpec.ofChange ramNewsSpec)

/-- ITS FALSE NEIGHBOUR: 'it returns false'. Refute it at one input. -/
def ramNewsWrong : ChangeSpec := { name := "ramNews", fn := fun _ => fun
  | [d] => { results := [.lit (.bool false)], args := [d] }
  | _ => none }
def RamNewsWrongFalsely : Prop := ramNewsRow.holds Try.pinned (OpenSpec.ofChange ramNewsWrong)

/-- 'mimesislaw10.RamPlays': WHATEVER THE INPUT: true; the input reads as it did. -/
def ramPlaysSpec : ChangeSpec := { name := "ramPlays", fn := fun _ => fun
  | [d1, d2] => { results := [.lit (.bool true)], args := [d1, d2] }
  | _ => none }
def ramPlaysRow : OpenClaim := { program := "ytkgamoacjkmhkaa", sum := "7a730d56ff1885e60c35877aa69fb577c3a92e9c27350ea10bd93be26bfc1df0", func := "mimesis/mimesislaw10.RamPlays", spec := "ramPlays", apart := false }
def RamPlaysSaid : Prop := ramPlaysRow.holds Try.pinned (OpenSpec.ofChange ramPlaysSpec)

/-- ITS FALSE NEIGHBOUR: 'it returns false'. Refute it at one input. -/
def ramPlaysWrong : ChangeSpec := { name := "ramPlays", fn := fun _ => fun
  | [d1, d2] => { results := [.lit (.bool false)], args := [d1, d2] }
  | _ => none }
def RamPlaysWrongFalsely : Prop := ramPlaysRow.holds Try.pinned (OpenSpec.ofChange ramPlaysWrong)

/-- 'mimesislaw10.RamAsks': WHATEVER THE INPUT: true; the input reads as it did. -/
def ramAsksSpec : ChangeSpec := { name := "ramAsks", fn := fun _ => fun
  | [d1, d2, d3] => { results := [.lit (.bool true)], args := [d1, d2, d3] }
  | _ => none }
def ramAsksRow : OpenClaim := { program := "ytkgamoacjkmhkaa", sum := "7a730d56ff1885e60c35877aa69fb577c3a92e9c27350ea10bd93be26bfc1df0", func := "mimesis/mimesislaw10.RamAsks", spec := "ramAsks", apart := false }
def RamAsksSaid : Prop := ramAsksRow.holds Try.pinned (OpenSpec.ofChange ramAsksSpec)

/-- ITS FALSE NEIGHBOUR: 'it returns false'. Refute it at one input. -/
def ramAsksWrong : ChangeSpec := { name := "ramAsks", fn := fun _ => fun
  | [d1, d2, d3] => { results := [.lit (.bool false)], args := [d1, d2, d3] }
  | _ => none }
def RamAsksWrongFalsely : Prop := ramAsksRow.holds Try.pinned (OpenSpec.ofChange ramAsksWrong)

/-- 'mimesislaw10.RamNils': WHATEVER THE INPUT: true; the input reads as it did. -/
def ramNilsSpec : ChangeSpec := { name := "ramNils", fn := fun _ => fun
  | [d1, d2, d3] => { results := [.lit (.bool true)], args := [d1, d2, d3] }
  | _ => none }
def ramNilsRow : OpenClaim := { program := "ytkgamoacjkmhkaa", sum := "7a730d56ff1885e60c35877aa69fb577c3a92e9c27350ea10bd93be26bfc1df0", func := "mimesis/mimesislaw10.RamNils", spec := "ramNils", apart := false }
def RamNilsSaid : Prop := ramNilsRow.holds Try.pinned (OpenSpec.ofChange ramNilsSpec)

/-- ITS FALSE NEIGHBOUR: 'it returns false'. Refute it at one input. -/
def ramNilsWrong : ChangeSpec := { name := "ramNils", fn := fun _ => fun
  | [d1, d2, d3] => { results := [.lit (.bool false)], args := [d1, d2, d3] }
  | _ => none }
def RamNilsWrongFalsely : Prop := ramNilsRow.holds Try.pinned (OpenSpec.ofChange ramNilsWrong)

/- THE SECOND FORM. 'bulk': how many values and letters a reading holds, each counted each time it is reached (what is shared counts as often as it is met; a slice's spare places count too). A statement '..UptoSaid' is the law's where the arguments, and the package variables that the reading takes, are together of bulk at most 1048576: NARROWER than '..Said'. Prove '..Said' where nothing that the law and all that it calls make is longer than what came in: it says more and counts as full. Else prove '..UptoSaid'. A law counts once. -/
mutual
def uptoBulk {H : Type} : DataW H → Nat
  | .lit (.string bytes) => bytes.length + 1
  | .lit _ => 1
  | .nil => 1
  | .ptr d => uptoBulk d + 1
  | .slice elems spare => uptoBulkAll elems + uptoBulkAll spare + 1
  | .agg parts => uptoBulkAll parts + 1
  | .iface _ d => uptoBulk d + 1
  | .map entries => uptoBulkEntries entries + 1
  | .held _ => 1
def uptoBulkAll {H : Type} : List (DataW H) → Nat
  | [] => 0
  | d :: r => uptoBulk d + uptoBulkAll r
def uptoBulkEntries {H : Type} : List (Lit × DataW H) → Nat
  | [] => 0
  | x :: r => uptoBulkEntry x + uptoBulkEntries r
def uptoBulkEntry {H : Type} : Lit × DataW H → Nat
  | (.string bytes, d) => bytes.length + uptoBulk d + 1
  | (_, d) => uptoBulk d + 1
 end
def uptoSmall : (H : Type) → List (DataW H) → Bool := fun _ ds => decide (uptoBulkAll ds ≤ 1048576)
def OpenSpec.upto (s : _root_.Go.ChangeSpec) : _root_.Go.OpenSpec := { _root_.Go.OpenSpec.ofChange s with cond := some uptoSmall }

/-- 'mimesislaw10.RamNews', WHERE WHAT IT READS IS OF BULK AT MOST 1048576: true; the input reads as it did. -/
def ramNewsUptoRow : OpenClaim := { program := "ytkgamoacjkmhkaa", sum := "7a730d56ff1885e60c35877aa69fb577c3a92e9c27350ea10bd93be26bfc1df0", func := "mimesis/mimesislaw10.RamNews", spec := "ramNews", apart := false, narrowed := true }
def RamNewsUptoSaid : Prop := ramNewsUptoRow.holds Try.pinned (OpenSpec.upto ramNewsSpec)

/-- 'mimesislaw10.RamPlays', WHERE WHAT IT READS IS OF BULK AT MOST 1048576: true; the input reads as it did. -/
def ramPlaysUptoRow : OpenClaim := { program := "ytkgamoacjkmhkaa", sum := "7a730d56ff1885e60c35877aa69fb577c3a92e9c27350ea10bd93be26bfc1df0", func := "mimesis/mimesislaw10.RamPlays", spec := "ramPlays", apart := false, narrowed := true }
def RamPlaysUptoSaid : Prop := ramPlaysUptoRow.holds Try.pinned (OpenSpec.upto ramPlaysSpec)

/-- 'mimesislaw10.RamAsks', WHERE WHAT IT READS IS OF BULK AT MOST 1048576: true; the input reads as it did. -/
def ramAsksUptoRow : OpenClaim := { program := "ytkgamoacjkmhkaa", sum := "7a730d56ff1885e60c35877aa69fb577c3a92e9c27350ea10bd93be26bfc1df0", func := "mimesis/mimesislaw10.RamAsks", spec := "ramAsks", apart := false, narrowed := true }
def RamAsksUptoSaid : Prop := ramAsksUptoRow.holds Try.pinned (OpenSpec.upto ramAsksSpec)

/-- 'mimesislaw10.RamNils', WHERE WHAT IT READS IS OF BULK AT MOST 1048576: true; the input reads as it did. -/
def ramNilsUptoRow : OpenClaim := { program := "ytkgamoacjkmhkaa", sum := "7a730d56ff1885e60c35877aa69fb577c3a92e9c27350ea10bd93be26bfc1df0", func := "mimesis/mimesislaw10.RamNils", spec := "ramNils", apart := false, narrowed := true }
def RamNilsUptoSaid : Prop := ramNilsUptoRow.holds Try.pinned (OpenSpec.upto ramNilsSpec)

end Rows
end Go.Proofs.Ytkgamoacjkmhkaa
