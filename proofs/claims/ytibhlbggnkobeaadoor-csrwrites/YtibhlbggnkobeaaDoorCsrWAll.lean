/- Layer 16: Write of any register that can be written, the program's and the document's. -/
import Derived.Test.YtibhlbggnkobeaaDoorCsrWA
import Derived.Test.YtibhlbggnkobeaaDoorCsrWB
import Derived.Test.YtibhlbggnkobeaaDoorCsrWC
import Derived.Test.YtibhlbggnkobeaaDoorCsrWD
import Derived.Test.YtibhlbggnkobeaaDoorCsrWE
import Derived.Test.YtibhlbggnkobeaaDoorCsrWF
import Derived.Test.YtibhlbggnkobeaaDoorCsrRWA
import Derived.Test.YtibhlbggnkobeaaDoorCsrRWB
import Derived.Test.YtibhlbggnkobeaaDoorCsrRWC
import Derived.Test.YtibhlbggnkobeaaDoorCsrRWD
import Derived.Test.YtibhlbggnkobeaaDoorCsrRWE
namespace Go.Proofs.YtibhlbggnkobeaaDoor
open Go.RowKit
set_option linter.unusedVariables false

theorem mfast_lt : ∀ k, k < 23 → mfast k = false → k < 13 := by decide +kernel

theorem cwrite_any (K E : Nat → Int) (k : Nat) (x : Int) (w : World) (hk : k < 13) (x0 : 0 ≤ x) (x1 : x < 4294967296) (ht : RegTab w) :
    Calls Tryd.prog 13 #[.agg #[.int .u32 (K 0), .int .u32 (K 1), .int .u32 (K 2), .int .u32 (K 3), .int .u32 (K 4), .int .u32 (K 5), .int .u32 (K 6), .int .u64 (K 7), .int .u64 (K 8)], .int .i64 (mnum k), .int .u32 x, .agg #[.int .u64 (E 0), .int .u64 (E 1), .int .u64 (E 2), .int .u32 (E 3)]] w fun e w' => e = .returned (.tuple #[.agg #[.int .u32 ((writeC K E x k) 0), .int .u32 ((writeC K E x k) 1), .int .u32 ((writeC K E x k) 2), .int .u32 ((writeC K E x k) 3), .int .u32 ((writeC K E x k) 4), .int .u32 ((writeC K E x k) 5), .int .u32 ((writeC K E x k) 6), .int .u64 ((writeC K E x k) 7), .int .u64 ((writeC K E x k) 8)], .int .i64 0]) ∧ Below w.heap.size w w' := by
  match k, hk with
  | 0, _ => exact cwrite_0 K E x w x0 x1 ht
  | 1, _ => exact cwrite_1 K E x w x0 x1 ht
  | 2, _ => exact cwrite_2 K E x w x0 x1 ht
  | 3, _ => exact cwrite_3 K E x w x0 x1 ht
  | 4, _ => exact cwrite_4 K E x w x0 x1 ht
  | 5, _ => exact cwrite_5 K E x w x0 x1 ht
  | 6, _ => exact cwrite_6 K E x w x0 x1 ht
  | 7, _ => exact cwrite_7 K E x w x0 x1 ht
  | 8, _ => exact cwrite_8 K E x w x0 x1 ht
  | 9, _ => exact cwrite_9 K E x w x0 x1 ht
  | 10, _ => exact cwrite_10 K E x w x0 x1 ht
  | 11, _ => exact cwrite_11 K E x w x0 x1 ht
  | 12, _ => exact cwrite_12 K E x w x0 x1 ht
  | k + 13, hk => exact absurd hk (by omega)

theorem rwrite16_any (K E : Nat → Int) (k : Nat) (x : Int) (w : World) (hk : k < 13) (x0 : 0 ≤ x) (x1 : x < 4294967296) :
    Calls Tryd.prog 15 #[.agg #[.int .u32 (K 0), .int .u32 (K 1), .int .u32 (K 2), .int .u32 (K 3), .int .u32 (K 4), .int .u32 (K 5), .int .u32 (K 6), .int .u64 (K 7), .int .u64 (K 8)], .int .i64 (mnum k), .int .u32 x, .agg #[.int .u64 (E 0), .int .u64 (E 1), .int .u64 (E 2), .int .u32 (E 3)]] w fun e w' => e = .returned (.agg #[.int .u32 ((writeC K E x k) 0), .int .u32 ((writeC K E x k) 1), .int .u32 ((writeC K E x k) 2), .int .u32 ((writeC K E x k) 3), .int .u32 ((writeC K E x k) 4), .int .u32 ((writeC K E x k) 5), .int .u32 ((writeC K E x k) 6), .int .u64 ((writeC K E x k) 7), .int .u64 ((writeC K E x k) 8)]) ∧ Below w.heap.size w w' := by
  match k, hk with
  | 0, _ => exact rwrite16_0 K E x w x0 x1
  | 1, _ => exact rwrite16_1 K E x w x0 x1
  | 2, _ => exact rwrite16_2 K E x w x0 x1
  | 3, _ => exact rwrite16_3 K E x w x0 x1
  | 4, _ => exact rwrite16_4 K E x w x0 x1
  | 5, _ => exact rwrite16_5 K E x w x0 x1
  | 6, _ => exact rwrite16_6 K E x w x0 x1
  | 7, _ => exact rwrite16_7 K E x w x0 x1
  | 8, _ => exact rwrite16_8 K E x w x0 x1
  | 9, _ => exact rwrite16_9 K E x w x0 x1
  | 10, _ => exact rwrite16_10 K E x w x0 x1
  | 11, _ => exact rwrite16_11 K E x w x0 x1
  | 12, _ => exact rwrite16_12 K E x w x0 x1
  | k + 13, hk => exact absurd hk (by omega)
end Go.Proofs.YtibhlbggnkobeaaDoor
