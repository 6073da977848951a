/-
  No cell of these rows narrows 'for every input' (looked for: loops, veiled, ifaces, maps, wideKeys, modest, calm, conditions, laid).
  DERIVED. THE GIVEN ROWS OF THIS SEAT. 4 by the template 'for every input the law returns true; each argument reads behind the call as it read before'; 0 by the template 'total and deterministic' (their statements: YtkbccccjjlkgbaaTotals.lean).
  GIVEN WITH THE SEED: the statements are not yours to turn. If you find one false, say at which input.
  Laid BY PROGRAM, IN A SANDBOX (cutbox-rows.mjs): the forced cells as the released guide's own fill.sh prints them over the translation 4309dab3a68d409f… (all of the seat's roots in one cut). By AI agents, Wed Nov 11 2026. No macro, syntax, notation, axiom, sorry.
-/
import Derived.Test.YtkbccccjjlkgbaaChecked
import GoSem.Claim
import GoSem.ClaimJoined
import GoSem.ClaimMapViews
import Derived.JoinedTies
import Derived.KernelRfl
namespace Go.Proofs.Ytkbccccjjlkgbaa
/- THE CELL 'sum', in the pinned program and in every row, IS THE sha256 OF THE DUMP (.gsa) THAT YtkbccccjjlkgbaaProg.lean LOADS. Nothing in Lean hashes anything: it is a label: what it is worth is what the hold of that sum in a sandbox is worth. -/
noncomputable def Try.pinned : Pinned := { name := "ytkbccccjjlkgbaa", sum := "4309dab3a68d409f1fb90d942c7331fc7e29c22874a251555e0469cd5a99fb64", checked := Try.checked }
namespace Rows
def none {H : Type} : Left H := { results := [], args := [] }

/-- 'mimesislaw14.BusPlays': WHATEVER THE INPUT: true; the input reads as it did. -/
def busPlaysSpec : ChangeSpec := { name := "busPlays", fn := fun _ => fun
  | [d1, d2, d3] => { results := [.lit (.bool true)], args := [d1, d2, d3] }
  | _ => none }
def busPlaysRow : OpenClaim := { program := "ytkbccccjjlkgbaa", sum := "4309dab3a68d409f1fb90d942c7331fc7e29c22874a251555e0469cd5a99fb64", func := "mimesis/mimesislaw14.BusPlays", spec := "busPlays", unfollowed := true, recurses := true, apart := false }
def BusPlaysSaid : Prop := busPlaysRow.holds Try.pinned (OpenSpec.ofChange busPlaysSpec)

/-- ITS FALSE NEIGHBOUR: 'it returns false'. Refute it at one input. -/
def busPlaysWrong : ChangeSpec := { name := "busPlays", fn := fun _ => fun
  | [d1, d2, d3] => { results := [.lit (.bool false)], args := [d1, d2, d3] }
  | _ => none }
def BusPlaysWrongFalsely : Prop := busPlaysRow.holds Try.pinned (OpenSpec.ofChange busPlaysWrong)

/-- 'mimesislaw14.BusClasses': WHATEVER THE INPUT: true; the input reads as it did. -/
def busClassesSpec : ChangeSpec := { name := "busClasses", fn := fun _ => fun
  | [d1, d2, d3] => { results := [.lit (.bool true)], args := [d1, d2, d3] }
  | _ => none }
def busClassesRow : OpenClaim := { program := "ytkbccccjjlkgbaa", sum := "4309dab3a68d409f1fb90d942c7331fc7e29c22874a251555e0469cd5a99fb64", func := "mimesis/mimesislaw14.BusClasses", spec := "busClasses", unfollowed := true, recurses := true, apart := false }
def BusClassesSaid : Prop := busClassesRow.holds Try.pinned (OpenSpec.ofChange busClassesSpec)

/-- ITS FALSE NEIGHBOUR: 'it returns false'. Refute it at one input. -/
def busClassesWrong : ChangeSpec := { name := "busClasses", fn := fun _ => fun
  | [d1, d2, d3] => { results := [.lit (.bool false)], args := [d1, d2, d3] }
  | _ => none }
def BusClassesWrongFalsely : Prop := busClassesRow.holds Try.pinned (OpenSpec.ofChange busClassesWrong)

/-- 'mimesislaw14.BusHits': WHATEVER THE INPUT: true; the input reads as it did. -/
def busHitsSpec : ChangeSpec := { name := "busHits", fn := fun _ => fun
  | [d1, d2, d3] => { results := [.lit (.bool true)], args := [d1, d2, d3] }
  | _ => none }
def busHitsRow : OpenClaim := { program := "ytkbccccjjlkgbaa", sum := "4309dab3a68d409f1fb90d942c7331fc7e29c22874a251555e0469cd5a99fb64", func := "mimesis/mimesislaw14.BusHits", spec := "busHits", unfollowed := true, recurses := true, apart := false }
def BusHitsSaid : Prop := busHitsRow.holds Try.pinned (OpenSpec.ofChange busHitsSpec)

/-- ITS FALSE NEIGHBOUR: 'it returns false'. Refute it at one input. -/
def busHitsWrong : ChangeSpec := { name := "busHits", fn := fun _ => fun
  | [d1, d2, d3] => { results := [.lit (.bool false)], args := [d1, d2, d3] }
  | _ => none }
def BusHitsWrongFalsely : Prop := busHitsRow.holds Try.pinned (OpenSpec.ofChange busHitsWrong)

/-- 'mimesislaw14.BusNils': WHATEVER THE INPUT: true; the input reads as it did. -/
def busNilsSpec : ChangeSpec := { name := "busNils", fn := fun _ => fun
  | [d1, d2, d3] => { results := [.lit (.bool true)], args := [d1, d2, d3] }
  | _ => none }
def busNilsRow : OpenClaim := { program := "ytkbccccjjlkgbaa", sum := "4309dab3a68d409f1fb90d942c7331fc7e29c22874a251555e0469cd5a99fb64", func := "mimesis/mimesislaw14.BusNils", spec := "busNils", unfollowed := true, recurses := true, apart := false }
def BusNilsSaid : Prop := busNilsRow.holds Try.pinned (OpenSpec.ofChange busNilsSpec)

/-- ITS FALSE NEIGHBOUR: 'it returns false'. Refute it at one input. -/
def busNilsWrong : ChangeSpec := { name := "busNils", fn := fun _ => fun
  | [d1, d2, d3] => { results := [.lit (.bool false)], args := [d1, d2, d3] }
  | _ => none }
def BusNilsWrongFalsely : Prop := busNilsRow.holds Try.pinned (OpenSpec.ofChange busNilsWrong)

/- THE SECOND FORM. 'bulk': how many values and letters a reading holds, each counted each time it is reached (what is shared counts as often as it is met; a slice's spare places count too). A statement '..UptoSaid' is the law's where the arguments, and the package variables that the reading takes, are together of bulk at most 1048576: NARROWER than '..Said'. Prove '..Said' where nothing that the law and all that it calls make is longer than what came in: it says more and counts as full. Else prove '..UptoSaid'. A law counts once. -/
mutual
def uptoBulk {H : Type} : DataW H → Nat
  | .lit (.string bytes) => bytes.length + 1
  | .lit _ => 1
  | .nil => 1
  | .ptr d => uptoBulk d + 1
  | .slice elems spare => uptoBulkAll elems + uptoBulkAll spare + 1
  | .agg parts => uptoBulkAll parts + 1
  | .iface _ d => uptoBulk d + 1
  | .map entries => uptoBulkEntries entries + 1
  | .held _ => 1
def uptoBulkAll {H : Type} : List (DataW H) → Nat
  | [] => 0
  | d :: r => uptoBulk d + uptoBulkAll r
def uptoBulkEntries {H : Type} : List (Lit × DataW H) → Nat
  | [] => 0
  | x :: r => uptoBulkEntry x + uptoBulkEntries r
def uptoBulkEntry {H : Type} : Lit × DataW H → Nat
  | (.string bytes, d) => bytes.length + uptoBulk d + 1
  | (_, d) => uptoBulk d + 1
 end
def uptoSmall : (H : Type) → List (DataW H) → Bool := fun _ ds => decide (uptoBulkAll ds ≤ 1048576)
def OpenSpec.upto (s : _root_.Go.ChangeSpec) : _root_.Go.OpenSpec := { _root_.Go.OpenSpec.ofChange s with cond := some uptoSmall }

/-- 'mimesislaw14.BusPlays', WHERE WHAT IT READS IS OF BULK AT MOST 1048576: true; the input reads as it did. -/
def busPlaysUptoRow : OpenClaim := { program := "ytkbccccjjlkgbaa", sum := "4309dab3a68d409f1fb90d942c7331fc7e29c22874a251555e0469cd5a99fb64", func := "mimesis/mimesislaw14.BusPlays", spec := "busPlays", unfollowed := true, recurses := true, apart := false, narrowed := true }
def BusPlaysUptoSaid : Prop := busPlaysUptoRow.holds Try.pinned (OpenSpec.upto busPlaysSpec)

/-- 'mimesislaw14.BusClasses', WHERE WHAT IT READS IS OF BULK AT MOST 1048576: true; the input reads as it did. -/
def busClassesUptoRow : OpenClaim := { program := "ytkbccccjjlkgbaa", sum := "4309dab3a68d409f1fb90d942c7331fc7e29c22874a251555e0469cd5a99fb64", func := "mimesis/mimesislaw14.BusClasses", spec := "busClasses", unfollowed := true, recurses := true, apart := false, narrowed := true }
def BusClassesUptoSaid : Prop := busClassesUptoRow.holds Try.pinned (OpenSpec.upto busClassesSpec)

/-- 'mimesislaw14.BusHits', WHERE WHAT IT READS IS OF BULK AT MOST 1048576: true; the input reads as it did. -/
def busHitsUptoRow : OpenClaim := { program := "ytkbccccjjlkgbaa", sum := "4309dab3a68d409f1fb90d942c7331fc7e29c22874a251555e0469cd5a99fb64", func := "mimesis/mimesislaw14.BusHits", spec := "busHits", unfollowed := true, recurses := true, apart := false, narrowed := true }
def BusHitsUptoSaid : Prop := busHitsUptoRow.holds Try.pinned (OpenSpec.upto busHitsSpec)

/-- 'mimesislaw14.BusNils', WHERE WHAT IT READS IS OF BULK AT MOST 1048576: true; the input reads as it did. -/
def busNilsUptoRow : OpenClaim := { program := "ytkbccccjjlkgbaa", sum := "4309dab3a68d409f1fb90d942c7331fc7e29c22874a251555e0469cd5a99fb64", func := "mimesis/mimesislaw14.BusNils", spec := "busNils", unfollowed := true, recurses := true, apart := false, narrowed := true }
def BusNilsUptoSaid : Prop := busNilsUptoRow.holds Try.pinned (OpenSpec.upto busNilsSpec)

end Rows
end Go.Proofs.Ytkbccccjjlkgbaa
