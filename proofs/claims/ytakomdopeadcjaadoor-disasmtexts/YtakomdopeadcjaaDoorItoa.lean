/- The numerals that the language's own library writes: strconv.Itoa and strconv.FormatUint at base 10; its table of powers. -/
import Derived.Test.YtakomdopeadcjaaDoorShelf
import Derived.Test.YtakomdopeadcjaaDoorDisMath
import Derived.Test.YtakomdopeadcjaaDoorLaid
import Derived.Lib.AppendIntMem
import Derived.Lib.ItoaMem
import Derived.Lib.Walk
import Derived.WalkKit
import Derived.BigCall
import Derived.BigGuard
namespace Go.Proofs.YtakomdopeadcjaaDoor
open Go.RowKit Go.Sort
set_option linter.unusedVariables false

/-- The library's table of powers of ten lies as it was laid. -/
def PowTab (w : World) : Prop := Lib.TabIs Tryd.prog w "internal/strconv.uint64pow10" .u64 Lib.pow10Tab
theorem powTab_below {w w' : World} (h : PowTab w) (hb : Below w.heap.size w w') : PowTab w' := Lib.tabBelow_of_tabIs h w' hb
def pow10L : List Int := [1, 10, 100, 1000, 10000, 100000, 1000000, 10000000, 100000000, 1000000000, 10000000000, 100000000000, 1000000000000, 10000000000000, 100000000000000, 1000000000000000, 10000000000000000, 100000000000000000, 1000000000000000000, 10000000000000000000]
theorem pow10L_eq : pow10L = Lib.pow10Tab := by decide +kernel
theorem powTab_of_laid {l : List (String × DataW Unit)} {W : World} (h : laidMetH Tryd.prog l W) (hp : (l.all fun x => x.2.handleName?.isNone) = true) (hm : ("internal/strconv.uint64pow10", Lib.tabData .u64 pow10L) ∈ l) : PowTab W := by
  rw [MakeChecks.laidMetH_plain _ _ _ hp] at h
  obtain ⟨ps, hv, _⟩ := h
  obtain ⟨g, t, cs, fuel, p, h1, h2, h3, h4⟩ := laid_mem hv hm
  obtain rfl : t = 95 := by
    obtain rfl := Option.some.inj ((show Tryd.prog.globalNamed "internal/strconv.uint64pow10" = some 3 by kernel_rfl).symm.trans h1)
    exact Option.some.inj (h2.symm.trans (show (Tryd.prog.globals[3]?).map (·.type) = some 95 by kernel_rfl))
  have hcs := Lib.cells_of_tab Tryd.underlying95 Tryd.underlying40 (by kernel_rfl) (by kernel_rfl) h4
  unfold PowTab Lib.TabIs
  rw [h3, ← pow10L_eq, ← hcs]

/-- The library's digits are the document's. -/
theorem decDigits_dig10 (n : Nat) (h : n < 10 ^ 20) : Lib.decDigits n = dig10 n := by
  induction n using Nat.strongRecOn with
  | _ n ih =>
    rw [Lib.decDigits]
    by_cases c : n < 10
    · rw [dif_pos c, dig10_small n c]; unfold dch; rfl
    · rw [dif_neg c, dig10_step n c h, ih (n / 10) (by omega) (by omega)]; unfold dch; rfl
theorem itoa_numL (n : Int) (h0 : -9223372036854775808 ≤ n) (h1 : n ≤ 9223372036854775807) : Lib.itoa n = numL n := by
  unfold Lib.itoa numL
  split
  · rw [decDigits_dig10 _ (by omega), show n.natAbs = (0 - n).toNat from by omega]
  · rw [decDigits_dig10 _ (by omega)]
theorem grow_below {w w' : World} (h : ∃ k os, w' = grow (w.drewN k) os) : Below w.heap.size w w' := by
  obtain ⟨k, os, rfl⟩ := h
  refine ⟨?_, ?_, ?_, ?_, ?_⟩
  · simp [grow, World.drewN]
  · simp [grow, World.drewN]
  · simp [grow, World.drewN]
  · simp [grow, World.drewN]
  · intro j hj
    rw [heap_grow_old]
    · simp [World.drewN]
    · simpa [World.drewN] using hj

theorem itoa_any (n : Int) (w : World) (h0 : -9223372036854775808 ≤ n) (h1 : n < 9223372036854775808) (ht : PowTab w) :
    Calls Tryd.prog 17 #[.int .i64 n] w fun e w' => e = .returned (.string (bs (numL n))) ∧ Below w.heap.size w w' := by
  refine (show Calls Tryd.prog 17 #[.int .i64 n] w _ from Any.strconv_Itoa laysM171 n h0 (by omega) w ht).mono ?_
  rintro e w' ⟨rfl, hg⟩
  refine ⟨?_, grow_below hg⟩
  rw [itoa_numL n h0 (by omega)]
  rfl

theorem small_any (i : Nat) (hi : i < 100) (w : World) : Calls Tryd.prog 70 #[.int .i64 i] w fun e w' => e = .returned (.string ⟨(Lib.decDigits i).toArray⟩) ∧ w' = w := Any.internal_strconv_small lays283 i hi w
theorem ndig_any (u : Nat) (h1 : 1 ≤ u) (h2 : u < 18446744073709551616) (w : World) (ht : PowTab w) : Calls Tryd.prog 71 #[.int .u64 u] w fun e w' => e = .returned (.int .i64 (Lib.nDigits u)) ∧ w' = w := Any.internal_strconv_numDigits laysM284 u h1 h2 w ht
end Go.Proofs.YtakomdopeadcjaaDoor
