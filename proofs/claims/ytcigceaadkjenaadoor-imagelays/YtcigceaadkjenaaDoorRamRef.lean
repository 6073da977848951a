/- Layer 10, the document's side: Right, Has, Asked, Load. -/
import Derived.Test.YtcigceaadkjenaaDoorRamGo4
namespace Go.Proofs.YtcigceaadkjenaaDoor
open Go.RowKit
set_option linter.unusedVariables false
set_option maxRecDepth 100000

set_option maxHeartbeats 400000 in
theorem right10_any (n : Int) (w : World) :
    Calls Tryd.prog 8 #[.int .i64 n] w fun e w' => e = .returned (.bool (rightB n)) ∧ w' = w := by
  by_cases h1 : 64 ≤ n
  · by_cases h2 : n ≤ 65536
    · have h0 : 0 ≤ n := by omega
      by_cases h3 : n % 64 = 0
      · go_enter Tryd.func8, Tryd.ntmps8
        go_wp2
        go_ret
        exact ⟨ret_bool (by rw [rightB_t (by omega)]), rfl⟩
      · have h4 : (n % 64 == 0) = false := by simpa using h3
        have H3 := Lib.hid h3
        clear h3
        go_enter Tryd.func8, Tryd.ntmps8
        go_wp2
        go_ret
        exact ⟨ret_bool (by rw [rightB_f (by have := H3.out; omega)]), rfl⟩
    · go_enter Tryd.func8, Tryd.ntmps8
      go_wp2
      go_ret
      exact ⟨ret_bool (by rw [rightB_f (by omega)]), rfl⟩
  · go_enter Tryd.func8, Tryd.ntmps8
    go_wp2
    go_ret
    exact ⟨ret_bool (by rw [rightB_f (by omega)]), rfl⟩

set_option maxHeartbeats 400000 in
theorem rhas10_any (K : Nat) (v : Option Addr) (cap : Nat) (addr n : Int) (w : World) (hK : K ≤ 1024) (h0 : 0 ≤ addr) (h1 : addr < 4294967296) :
    Calls Tryd.prog 26 #[.slice v (64 * K) cap, .int .u32 addr, .int .i64 n] w fun e w' => e = .returned (.bool (hasB K addr n)) ∧ w' = w := by
  obtain ⟨L, hL⟩ : ∃ L : Nat, 64 * K = L := ⟨_, rfl⟩
  have e : ∀ n : Int, hasB K addr n = decide (1 ≤ n ∧ 2147483648 ≤ addr ∧ n ≤ (L : Int) - (addr - 2147483648)) := fun n => by
    unfold hasB; rw [decide_eq_decide]; omega
  have HE := Lib.hid (e n)
  have hL1 : L ≤ 65536 := by omega
  clear e
  rw [hL]
  clear hL hK
  generalize hasB K addr n = y at *
  by_cases c1 : 1 ≤ n
  · by_cases c2 : 0 ≤ addr - 2147483648
    · by_cases c3 : n ≤ L
      · by_cases c4 : addr - 2147483648 ≤ (L : Int) - n
        · go_enter Tryd.func26, Tryd.ntmps26
          go_wp2
          go_ret
          exact ⟨ret_bool (by rw [HE.out]; simp; omega), rfl⟩
        · go_enter Tryd.func26, Tryd.ntmps26
          go_wp2
          go_ret
          exact ⟨ret_bool (by rw [HE.out]; simp; omega), rfl⟩
      · go_enter Tryd.func26, Tryd.ntmps26
        go_wp2
        go_ret
        exact ⟨ret_bool (by rw [HE.out]; simp; omega), rfl⟩
    · go_enter Tryd.func26, Tryd.ntmps26
      go_wp2
      go_ret
      exact ⟨ret_bool (by rw [HE.out]; simp; omega), rfl⟩
  · go_enter Tryd.func26, Tryd.ntmps26
    go_wp2
    go_ret
    exact ⟨ret_bool (by rw [HE.out]; simp; omega), rfl⟩

end Go.Proofs.YtcigceaadkjenaaDoor
