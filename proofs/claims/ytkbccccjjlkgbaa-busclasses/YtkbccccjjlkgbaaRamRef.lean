/- Layer 10, the document's side: Right, Has, Asked, Load. -/
import Derived.Test.YtkbccccjjlkgbaaRamGo4
namespace Go.Proofs.Ytkbccccjjlkgbaa
open Go.RowKit
set_option linter.unusedVariables false
set_option maxRecDepth 100000

set_option maxHeartbeats 400000 in
theorem right10_any (n : Int) (w : World) :
    Calls Try.prog 7 #[.int .i64 n] w fun e w' => e = .returned (.bool (rightB n)) ∧ w' = w := by
  by_cases h1 : 64 ≤ n
  · by_cases h2 : n ≤ 65536
    · have h0 : 0 ≤ n := by omega
      by_cases h3 : n % 64 = 0
      · go_enter Try.func7, Try.ntmps7
        go_wp2
        go_ret
        exact ⟨ret_bool (by rw [rightB_t (by omega)]), rfl⟩
      · have h4 : (n % 64 == 0) = false := by simpa using h3
        have H3 := Lib.hid h3
        clear h3
        go_enter Try.func7, Try.ntmps7
        go_wp2
        go_ret
        exact ⟨ret_bool (by rw [rightB_f (by have := H3.out; omega)]), rfl⟩
    · go_enter Try.func7, Try.ntmps7
      go_wp2
      go_ret
      exact ⟨ret_bool (by rw [rightB_f (by omega)]), rfl⟩
  · go_enter Try.func7, Try.ntmps7
    go_wp2
    go_ret
    exact ⟨ret_bool (by rw [rightB_f (by omega)]), rfl⟩

set_option maxHeartbeats 400000 in
theorem rhas10_any (K : Nat) (v : Option Addr) (cap : Nat) (addr n : Int) (w : World) (hK : K ≤ 1024) (h0 : 0 ≤ addr) (h1 : addr < 4294967296) :
    Calls Try.prog 43 #[.slice v (64 * K) cap, .int .u32 addr, .int .i64 n] w fun e w' => e = .returned (.bool (hasB K addr n)) ∧ w' = w := by
  obtain ⟨L, hL⟩ : ∃ L : Nat, 64 * K = L := ⟨_, rfl⟩
  have e : ∀ n : Int, hasB K addr n = decide (1 ≤ n ∧ 2147483648 ≤ addr ∧ n ≤ (L : Int) - (addr - 2147483648)) := fun n => by
    unfold hasB; rw [decide_eq_decide]; omega
  have HE := Lib.hid (e n)
  have hL1 : L ≤ 65536 := by omega
  clear e
  rw [hL]
  clear hL hK
  generalize hasB K addr n = y at *
  by_cases c1 : 1 ≤ n
  · by_cases c2 : 0 ≤ addr - 2147483648
    · by_cases c3 : n ≤ L
      · by_cases c4 : addr - 2147483648 ≤ (L : Int) - n
        · go_enter Try.func43, Try.ntmps43
          go_wp2
          go_ret
          exact ⟨ret_bool (by rw [HE.out]; simp; omega), rfl⟩
        · go_enter Try.func43, Try.ntmps43
          go_wp2
          go_ret
          exact ⟨ret_bool (by rw [HE.out]; simp; omega), rfl⟩
      · go_enter Try.func43, Try.ntmps43
        go_wp2
        go_ret
        exact ⟨ret_bool (by rw [HE.out]; simp; omega), rfl⟩
    · go_enter Try.func43, Try.ntmps43
      go_wp2
      go_ret
      exact ⟨ret_bool (by rw [HE.out]; simp; omega), rfl⟩
  · go_enter Try.func43, Try.ntmps43
    go_wp2
    go_ret
    exact ⟨ret_bool (by rw [HE.out]; simp; omega), rfl⟩

set_option maxHeartbeats 800000 in
theorem rload10_any (K a n : Nat) (addr : Int) (B cap : Nat) (b : Nat → Int) (w : World) (hK : K ≤ 1024) (hB : RowB w B (64 * K) b) (hb : BdB K b) (ha : addr = 2147483648 + (a : Int)) (hn : n ≤ 4) (hn1 : 1 ≤ n) (hfit : a + n ≤ 64 * K) (hcap : 64 * K ≤ cap) :
    Calls Try.prog 52 #[.slice (some ⟨B, 0, none⟩) (64 * K) cap, .int .u32 addr, .int .i64 n] w fun e w' => e = .returned (.int .u32 (numTo (fun i => b (a + i)) n)) ∧ Q w w' := by
  have h0 : 0 ≤ addr := by omega
  have h1 : addr < 2147549184 := by omega
  have HN : Hid (∀ W, Q w W → ∀ c, Calls Try.prog 73 #[.slice (some ⟨B, a, none⟩) n c] W fun e w' => e = .returned (.int .u32 (numTo (fun i => b (a + i)) n)) ∧ Q W w') := fun W hq c =>
    rnumber_any (fun i => b (a + i)) B a n c W hn (fun i hi => hb _ (by omega)) (fun i hi => cell_q hq (hB (a + i) (by omega)))
  have e1 : addr - 2147483648 = (a : Int) := by omega
  have hsl : ∀ w : World, (Instr.sliceAt 30 (.slice (some ⟨B, 0, none⟩) (64 * K) cap) (some (.int .i64 (a : Int))) (some (.int .i64 ((a : Int) + (n : Int)))) none).run Try.prog w = .ok (.slice (some ⟨B, a, none⟩) n (cap - a)) w := fun w => by
    rw [run_sliceAt_slice w _ _ _ _ _ Try.underlying30, run_slice_lh w _ _ _ _ Try.underlying30 .i64 .i64 _ _ (by omega) (by omega) (by omega)]
    rw [show (sizeOf (Try.prog.elem 30)).run Try.prog w = .ok 1 w from by kernel_rfl]
    simp only [Result.andThen, sliced]
    rw [show ((a : Int)).toNat = a from by omega, show ((a : Int) + (n : Int)).toNat = a + n from by omega, if_neg (by omega)]
    simp [Addr.add_lit]
  have h2 : (a : Int) + (n : Int) ≤ 65536 := by omega
  clear hB hb ha hfit hcap
  go_enter Try.func52, Try.ntmps52
  go_wp2_with fail
  refine (HN.out _ (Q.refl _) _).mono ?_
  rintro e w1 ⟨rfl, hq⟩
  have HQ := Lib.hid hq
  clear hq
  go_wp2
  go_ret
  exact ⟨rfl, HQ.out⟩
end Go.Proofs.Ytkbccccjjlkgbaa
