/- Layer 16: the walk of CsrReads, for every register. -/
import Derived.Test.YtibhlbggnkobeaaDoorCsrReads
import Derived.Test.YtibhlbggnkobeaaDoorCsrOpen
namespace Go.Proofs.YtibhlbggnkobeaaDoor
open Go.RowKit
set_option linter.unusedVariables false

namespace csrReads
theorem walk (K : Nat → Int) (c : Int) (E : Nat → Int) (w : World) (hK : FileB K) (hc : (Lit.int .i64 c).wf = true) (hE : EnvB E) (ht : RegTab w) :
    Calls Tryd.prog 3 #[.agg #[.int .u32 (K 0), .int .u32 (K 1), .int .u32 (K 2), .int .u32 (K 3), .int .u32 (K 4), .int .u32 (K 5), .int .u32 (K 6), .int .u64 (K 7), .int .u64 (K 8)], .int .i64 c, .agg #[.int .u64 (E 0), .int .u64 (E 1), .int .u64 (E 2), .int .u32 (E 3)]] w fun e w' => e = .returned (.bool true) ∧ Below w.heap.size w w' := by
  rcases mplace c with ⟨k, hk, rfl⟩ | h
  · exact yes K E k w hk hE ht
  · exact no K E c w h ht
end csrReads
end Go.Proofs.YtibhlbggnkobeaaDoor
