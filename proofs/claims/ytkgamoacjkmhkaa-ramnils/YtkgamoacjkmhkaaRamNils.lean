/- Layer 10: the walk of RamNils. -/
import Derived.Test.YtkgamoacjkmhkaaRamAwake
import Derived.Test.YtkgamoacjkmhkaaFrame
namespace Go.Proofs.Ytkgamoacjkmhkaa
open Go.RowKit
set_option linter.unusedVariables false

namespace ramNils
set_option maxHeartbeats 1600000 in
theorem walk (addr n : Int) (v : Option Addr) (len cap : Nat) (zs : List Int) (w : World) (w0 : (Lit.int .u32 addr).wf = true) (w1 : (Lit.int .i64 n).wf = true) (w2 : IsRow .u8 w v len cap zs) :
    Calls Try.prog 6 #[.int .u32 addr, .int .i64 n, .slice v len cap] w fun e w' => e = .returned (.bool true) ∧ Below w.heap.size w w' := by
  have ha := bounds_u32 w0
  have a0 : 0 ≤ addr := by omega
  have a1 : addr < 4294967296 := by omega
  clear ha w0 w1 w2
  go_enter Try.func6, Try.ntmps6
  go_wp2_with (first
    | (go_at_call 19; refine (load_nil _ _ _).mono ?_; rintro e w' ⟨rfl, hw⟩; have hw := hw.symm; subst hw)
    | (go_at_call 20; refine (store_nil _ _ _ _).mono ?_; rintro e w' ⟨rfl, hw⟩; have hw := hw.symm; subst hw)
    | (go_at_call 21; refine (fill_nil _ _ _ _ _).mono ?_; rintro e w' ⟨rfl, hw⟩; have hw := hw.symm; subst hw)
    | (go_at_call 22; refine (watch_nil _ _).mono ?_; rintro e w' ⟨rfl, hw⟩; have hw := hw.symm; subst hw)
    | (go_at_call 10; refine (size_nil _).mono ?_; rintro e w' ⟨rfl, hw⟩; have hw := hw.symm; subst hw)
    | (go_at_call 17; refine (has_nil _ _ _ a0 a1).mono ?_; rintro e w' ⟨rfl, hw⟩; have hw := hw.symm; subst hw)
    | (go_at_call 12; refine (bytes_nil _).mono ?_; rintro e w' ⟨rfl, hw⟩; have hw := hw.symm; subst hw)
    | (go_at_call 18; refine (page_nil _ _ a0 a1).mono ?_; rintro e w' ⟨rfl, hw⟩; have hw := hw.symm; subst hw)
    | (go_at_call 23; refine (watched_nil _ _).mono ?_; rintro e w' ⟨rfl, hw⟩; have hw := hw.symm; subst hw)
    | (go_at_call 24; refine (gen_nil _ _).mono ?_; rintro e w' ⟨rfl, hw⟩; have hw := hw.symm; subst hw))
  refine (awake10_any _).mono ?_
  rintro e w3 ⟨rfl, hb3⟩
  go_wp2
  go_ret
  exact ⟨rfl, hb3⟩
end ramNils
end Go.Proofs.Ytkgamoacjkmhkaa
