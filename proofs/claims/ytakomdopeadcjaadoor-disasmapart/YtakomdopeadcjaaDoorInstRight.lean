/- Layer 2: what Right answers of any instruction, and its parts. -/
import Derived.Test.YtakomdopeadcjaaDoorInstTabs
namespace Go.Proofs.YtakomdopeadcjaaDoor
open Go.RowKit
set_option linter.unusedVariables false

def partB (n : Int) (has : Bool) (last : Int) : Bool := if has then decide (0 ≤ n ∧ n ≤ last) else decide (n = 0)
theorem partB_t {n last : Int} (h : 0 ≤ n ∧ n ≤ last) : partB n true last = true := by simpa [partB] using h
theorem partB_f {n last : Int} (h : ¬ (0 ≤ n ∧ n ≤ last)) : partB n true last = false := by simpa [partB] using h

set_option maxHeartbeats 400000 in
theorem isPart_any (n : Int) (has : Bool) (last : Int) (w : World) :
    Calls Tryd.prog 34 #[.int .i64 n, .bool has, .int .i64 last] w fun e w' => e = .returned (.bool (partB n has last)) ∧ w' = w := by
  cases has
  · go_enter Tryd.func34, Tryd.ntmps34
    go_wp2
    go_ret
    exact ⟨ret_bool rfl, rfl⟩
  · by_cases h0 : 0 ≤ n
    · by_cases h1 : n ≤ last
      all_goals
        go_enter Tryd.func34, Tryd.ntmps34
        go_wp2
        go_ret
        refine ⟨?_, rfl⟩; first | (refine ret_bool (partB_t ?_); omega) | (refine ret_bool (partB_f ?_); omega)
    · go_enter Tryd.func34, Tryd.ntmps34
      go_wp2
      go_ret
      refine ⟨?_, rfl⟩; first | (refine ret_bool (partB_t ?_); omega) | (refine ret_bool (partB_f ?_); omega)

theorem form10 {f : Int} (h : 0 ≤ f ∧ f < 10) : f = 0 ∨ f = 1 ∨ f = 2 ∨ f = 3 ∨ f = 4 ∨ f = 5 ∨ f = 6 ∨ f = 7 ∨ f = 8 ∨ f = 9 := by omega
theorem formZ_lt : ∀ k, k < 58 → 0 ≤ formZ k ∧ formZ k < 10 := by decide +kernel
def hasRdB (f : Int) : Bool := decide (f = 1 ∨ f = 2 ∨ f = 3 ∨ f = 6 ∨ f = 7 ∨ f = 8 ∨ f = 9)
def hasRs1B (f : Int) : Bool := decide (f = 3 ∨ f = 4 ∨ f = 5 ∨ f = 6 ∨ f = 7 ∨ f = 8)
def hasRs2B (f : Int) : Bool := decide (f = 4 ∨ f = 5 ∨ f = 6)
def hasCsrB (f : Int) : Bool := decide (f = 8 ∨ f = 9)

set_option maxHeartbeats 400000 in
theorem hasRd_any (f : Int) (hf : 0 ≤ f ∧ f < 10) (w : World) :
    Calls Tryd.prog 35 #[.int .i64 f] w fun e w' => e = .returned (.bool (hasRdB f)) ∧ w' = w := by
  rcases form10 hf with rfl | rfl | rfl | rfl | rfl | rfl | rfl | rfl | rfl | rfl
  all_goals
    go_enter Tryd.func35, Tryd.ntmps35
    go_wp2
    go_ret
    exact ⟨rfl, rfl⟩

set_option maxHeartbeats 400000 in
theorem hasRs1_any (f : Int) (hf : 0 ≤ f ∧ f < 10) (w : World) :
    Calls Tryd.prog 36 #[.int .i64 f] w fun e w' => e = .returned (.bool (hasRs1B f)) ∧ w' = w := by
  rcases form10 hf with rfl | rfl | rfl | rfl | rfl | rfl | rfl | rfl | rfl | rfl
  all_goals
    go_enter Tryd.func36, Tryd.ntmps36
    go_wp2
    go_ret
    exact ⟨rfl, rfl⟩

set_option maxHeartbeats 400000 in
theorem hasRs2_any (f : Int) (hf : 0 ≤ f ∧ f < 10) (w : World) :
    Calls Tryd.prog 37 #[.int .i64 f] w fun e w' => e = .returned (.bool (hasRs2B f)) ∧ w' = w := by
  rcases form10 hf with rfl | rfl | rfl | rfl | rfl | rfl | rfl | rfl | rfl | rfl
  all_goals
    go_enter Tryd.func37, Tryd.ntmps37
    go_wp2
    go_ret
    exact ⟨rfl, rfl⟩

set_option maxHeartbeats 400000 in
theorem hasCsr_any (f : Int) (hf : 0 ≤ f ∧ f < 10) (w : World) :
    Calls Tryd.prog 38 #[.int .i64 f] w fun e w' => e = .returned (.bool (hasCsrB f)) ∧ w' = w := by
  rcases form10 hf with rfl | rfl | rfl | rfl | rfl | rfl | rfl | rfl | rfl | rfl
  all_goals
    go_enter Tryd.func38, Tryd.ntmps38
    go_wp2
    go_ret
    exact ⟨rfl, rfl⟩

def evenB (x : Int) : Bool := decide (x % 2 = 0)
theorem even_and (x : Int) (h0 : 0 ≤ x) (h1 : x < 4294967296) : bits .and .u32 x 1 = x % 2 := by
  have a := and_low x 1 h0 h1 (by omega) (by omega)
  have p : pw 1 = 2 := by decide
  rw [p] at a
  exact a

set_option maxHeartbeats 400000 in
theorem isEven_any (x : Int) (h0 : 0 ≤ x) (h1 : x < 4294967296) (w : World) :
    Calls Tryd.prog 58 #[.int .u32 x] w fun e w' => e = .returned (.bool (evenB x)) ∧ w' = w := by
  have ha := even_and x h0 h1
  go_enter Tryd.func58, Tryd.ntmps58
  go_wp2
  go_ret
  exact ⟨ret_bool rfl, rfl⟩

def sgB (x h : Int) : Bool := decide (0 - h ≤ signedOf x ∧ signedOf x < h)
theorem sgB_t {x h : Int} (hh : 0 - h ≤ signedOf x ∧ signedOf x < h) : sgB x h = true := by simpa [sgB] using hh
theorem sgB_f {x h : Int} (hh : ¬ (0 - h ≤ signedOf x ∧ signedOf x < h)) : sgB x h = false := by
  unfold sgB; exact decide_eq_false hh
theorem wrap32_sg (x : Int) (h0 : 0 ≤ x) (h1 : x < 4294967296) : wrap32 x = signedOf x := by
  unfold wrap32 signedOf; split <;> omega
theorem signedOf_bd (x : Int) (h0 : 0 ≤ x) (h1 : x < 4294967296) : -2147483648 ≤ signedOf x ∧ signedOf x < 2147483648 := by
  unfold signedOf; split <;> omega

set_option maxHeartbeats 400000 in
theorem isSigned_any (x n : Int) (hn : n = 12 ∨ n = 13 ∨ n = 21) (h0 : 0 ≤ x) (h1 : x < 4294967296) (w : World) :
    Calls Tryd.prog 59 #[.int .u32 x, .int .i64 n] w fun e w' => e = .returned (.bool (sgB x (pw (n - 1)))) ∧ w' = w := by
  have p12 : pw (12 - 1) = 2048 := by decide
  have p13 : pw (13 - 1) = 4096 := by decide
  have p21 : pw (21 - 1) = 1048576 := by decide
  have hs := wrap32_sg x h0 h1
  have hb := signedOf_bd x h0 h1
  rcases hn with rfl | rfl | rfl
  · rw [p12]; clear p12 p13 p21
    by_cases c0 : -2048 ≤ signedOf x
    · by_cases c1 : signedOf x < 2048
      all_goals
        go_enter Tryd.func59, Tryd.ntmps59
        go_wp2
        go_ret
        refine ⟨?_, rfl⟩; first | (refine ret_bool (sgB_t ?_); omega) | (refine ret_bool (sgB_f ?_); omega)
    · go_enter Tryd.func59, Tryd.ntmps59
      go_wp2
      go_ret
      refine ⟨?_, rfl⟩; first | (refine ret_bool (sgB_t ?_); omega) | (refine ret_bool (sgB_f ?_); omega)
  · rw [p13]; clear p12 p13 p21
    by_cases c0 : -4096 ≤ signedOf x
    · by_cases c1 : signedOf x < 4096
      all_goals
        go_enter Tryd.func59, Tryd.ntmps59
        go_wp2
        go_ret
        refine ⟨?_, rfl⟩; first | (refine ret_bool (sgB_t ?_); omega) | (refine ret_bool (sgB_f ?_); omega)
    · go_enter Tryd.func59, Tryd.ntmps59
      go_wp2
      go_ret
      refine ⟨?_, rfl⟩; first | (refine ret_bool (sgB_t ?_); omega) | (refine ret_bool (sgB_f ?_); omega)
  · rw [p21]; clear p12 p13 p21
    by_cases c0 : -1048576 ≤ signedOf x
    · by_cases c1 : signedOf x < 1048576
      all_goals
        go_enter Tryd.func59, Tryd.ntmps59
        go_wp2
        go_ret
        refine ⟨?_, rfl⟩; first | (refine ret_bool (sgB_t ?_); omega) | (refine ret_bool (sgB_f ?_); omega)
    · go_enter Tryd.func59, Tryd.ntmps59
      go_wp2
      go_ret
      refine ⟨?_, rfl⟩; first | (refine ret_bool (sgB_t ?_); omega) | (refine ret_bool (sgB_f ?_); omega)

/-- May x be in the part Imm of an instruction of form f? -/
def immB (x f : Int) : Bool :=
  if f = 1 then decide (x % 4096 = 0) else if f = 2 then evenB x && sgB x 1048576 else if f = 3 ∨ f = 5 then sgB x 2048
  else if f = 4 then evenB x && sgB x 4096 else if f = 7 ∨ f = 9 then decide (x < 32) else decide (x = 0)
end Go.Proofs.YtakomdopeadcjaaDoor
