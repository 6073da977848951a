/- Layer 5: the laws' walks over what the program answers. -/
import Derived.Test.YtakomdopeadcjaaDoorDisProg
import Derived.Test.YtakomdopeadcjaaDoorDisLaws
import Derived.Test.YtakomdopeadcjaaDoorDisApart
import Derived.Test.YtakomdopeadcjaaDoorDisWords
namespace Go.Proofs.YtakomdopeadcjaaDoor
open Go.RowKit
set_option linter.unusedVariables false

namespace disasmNumbers
theorem walk (n : Int) (w : World) (w0 : (Lit.int .i64 n).wf = true) (tf : FormTab w) (tn : NameTab w) (tm : MatchTab w) (tp : PowTab w) :
    Calls Tryd.prog 3 #[.int .i64 n] w fun e w' => e = .returned (.bool true) ∧ Below w.heap.size w w' := by
  have h := bounds_i64 w0
  exact disasmNumbers_walk numP regP wordP n w (by omega) (by omega) tf tn tp tm
end disasmNumbers

namespace disasmTexts
theorem walk (a b c d e f : Int) (w : World) (w0 : (Lit.int .i64 a).wf = true) (w1 : (Lit.int .i64 b).wf = true) (w2 : (Lit.int .i64 c).wf = true) (w3 : (Lit.int .i64 d).wf = true) (w4 : (Lit.int .u32 e).wf = true) (w5 : (Lit.int .i64 f).wf = true) (tf : FormTab w) (tn : NameTab w) (tm : MatchTab w) (tp : PowTab w) :
    Calls Tryd.prog 4 #[.agg #[.int .i64 a, .int .i64 b, .int .i64 c, .int .i64 d, .int .u32 e, .int .i64 f]] w fun e w' => e = .returned (.bool true) ∧ Below w.heap.size w w' := by
  have h := bounds_u32 w4
  exact disasmTexts_walk numP wordP textP textQ a b c d e f w h.1 (by omega) tf tn tp tm
end disasmTexts

namespace disasmApart
theorem walk (a b c d e f g h i j k l : Int) (w : World) (w0 : (Lit.int .i64 a).wf = true) (w1 : (Lit.int .i64 b).wf = true) (w2 : (Lit.int .i64 c).wf = true) (w3 : (Lit.int .i64 d).wf = true) (w4 : (Lit.int .u32 e).wf = true) (w5 : (Lit.int .i64 f).wf = true) (u0 : (Lit.int .i64 g).wf = true) (u1 : (Lit.int .i64 h).wf = true) (u2 : (Lit.int .i64 i).wf = true) (u3 : (Lit.int .i64 j).wf = true) (u4 : (Lit.int .u32 k).wf = true) (u5 : (Lit.int .i64 l).wf = true) (tf : FormTab w) (tn : NameTab w) (tm : MatchTab w) (tp : PowTab w) :
    Calls Tryd.prog 6 #[.agg #[.int .i64 a, .int .i64 b, .int .i64 c, .int .i64 d, .int .u32 e, .int .i64 f], .agg #[.int .i64 g, .int .i64 h, .int .i64 i, .int .i64 j, .int .u32 k, .int .i64 l]] w fun e w' => e = .returned (.bool true) ∧ Below w.heap.size w w' := by
  have p := bounds_u32 w4
  have q := bounds_u32 u4
  exact disasmApart_walk numP wordP textP textQ a b c d e f g h i j k l w p.1 (by omega) q.1 (by omega) tf tn tp tm
end disasmApart

namespace disasmWords
theorem walk (a : Option Addr) (len cap : Nat) (z : List Int) (w : World) (w0 : IsRow .u32 w a len cap z) (tf : FormTab w) (tn : NameTab w) (tm : MatchTab w) (tp : PowTab w) :
    Calls Tryd.prog 5 #[.slice a len cap] w fun e w' => e = .returned (.bool true) ∧ Below w.heap.size w w' :=
  disasmWords_walk numP wordP linesP _ a len cap w (isWords_of w0) tf tn tp tm
end disasmWords
end Go.Proofs.YtakomdopeadcjaaDoor
