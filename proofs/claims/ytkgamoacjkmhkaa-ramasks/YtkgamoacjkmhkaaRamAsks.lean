/- Layer 10: the walk of RamAsks. -/
import Derived.Test.YtkgamoacjkmhkaaRamAwake
import Derived.Test.YtkgamoacjkmhkaaFrame
namespace Go.Proofs.Ytkgamoacjkmhkaa
open Go.RowKit
set_option linter.unusedVariables false

namespace ramAsks
set_option maxHeartbeats 800000 in
theorem no (n addr c : Int) (w : World) (h : rightB n = false) :
    Calls Try.prog 5 #[.int .i64 n, .int .u32 addr, .int .i64 c] w fun e w' => e = .returned (.bool true) ∧ Below w.heap.size w w' := by
  have HR : Hid (∀ W : World, Calls Try.prog 8 #[.int .i64 n] W fun e w' => e = .returned (.bool false) ∧ w' = W) := fun W => by rw [← h]; exact right10_any n W
  clear h
  go_enter Try.func5, Try.ntmps5
  go_wp2_with (go_at_call 8; refine (HR.out _).mono ?_; rintro e w' ⟨rfl, hw⟩; have hw := hw.symm; subst hw)
  refine (awake10_any _).mono ?_
  rintro e w1 ⟨rfl, hb⟩
  go_wp2
  go_ret
  exact ⟨rfl, hb⟩

set_option maxHeartbeats 1600000 in
theorem yes (K : Nat) (addr c : Int) (w : World) (h1 : 1 ≤ K) (hK : K ≤ 1024) (a0 : 0 ≤ addr) (a1 : addr < 4294967296) :
    Calls Try.prog 5 #[.int .i64 (64 * (K : Int)), .int .u32 addr, .int .i64 c] w fun e w' => e = .returned (.bool true) ∧ Below w.heap.size w w' := by
  have HN : Hid (∀ W : World, Calls Try.prog 7 #[.int .i64 (64 * (K : Int))] W fun e w' => ∃ R, e = .returned (.tuple #[.pointer (some ⟨R, 0, none⟩), .int .i64 0]) ∧ W.heap.size ≤ R ∧ (∃ P, W.heap.size ≤ P ∧ IsRam w' R P K (fun _ => 0) (fun _ => false) (fun _ => 0)) ∧ Below W.heap.size W w') := fun W => new_yes K W h1 hK
  have HR : Hid (∀ W : World, Calls Try.prog 8 #[.int .i64 (64 * (K : Int))] W fun e w' => e = .returned (.bool true) ∧ w' = W) := fun W => by
    have := right10_any (64 * (K : Int)) W
    rwa [rightB_t (by omega)] at this
  have m30 : ∀ w : World, (Instr.makeSlice 30 (.int .i64 (64 * (K : Int))) (.int .i64 (64 * (K : Int)))).run Try.prog w = .ok (.slice (some ⟨w.heap.size, 0, none⟩) (64 * K) (64 * K)) (w.alloc (.cells (madeCells (Value.int .u8 0).cells (64 * K)) 5)) := fun w => by
    obtain ⟨i, hi, hz0, hz1, hz2⟩ := info_parts Try.info5
    have := run_make (P := Try.prog) w 30 5 i (.int .u8 0) Try.underlying30 hi hz0 .i64 .i64 (64 * (K : Int)) (64 * (K : Int)) (by omega) (Int.le_refl _) (by rw [hz2]; omega) (by omega)
    rw [hz1, show (64 * (K : Int)).toNat = 64 * K from by omega, Nat.mul_one] at this
    exact this
  generalize madeCells (Value.int .u8 0).cells (64 * K) = c0 at *
  have HH : Hid (∀ W R P n, IsRam W R P K (fun _ => 0) (fun _ => false) (fun _ => 0) → Calls Try.prog 17 #[.pointer (some ⟨R, 0, none⟩), .int .u32 addr, .int .i64 n] W fun e w' => e = .returned (.bool (hasB K addr n)) ∧ w' = W) := fun W R P n h => has_any R P K addr n W hK h.ptr a0 a1
  have HPG : Hid (∀ W R P, IsRam W R P K (fun _ => 0) (fun _ => false) (fun _ => 0) → Calls Try.prog 18 #[.pointer (some ⟨R, 0, none⟩), .int .u32 addr] W fun e w' => e = .returned (.int .i64 (pageZ K addr)) ∧ w' = W) := fun W R P h => page_any R P K addr W hK h.ptr a0 a1
  have HRH : Hid (∀ W B n, Calls Try.prog 16 #[.slice (some ⟨B, 0, none⟩) (64 * K) (64 * K), .int .u32 addr, .int .i64 n] W fun e w' => e = .returned (.bool (hasB K addr n)) ∧ w' = W) := fun W B n => rhas10_any K _ _ addr n W hK a0 a1
  generalize hasB K addr c = y at *
  cases hb1 : hasB K addr 1
  all_goals
    first
    | (have HZ : Hid (pageZ K addr = -1) := pageZ_no hb1)
    | (have HZ : Hid (pageZ K addr = (addr - 2147483648) / 64) := pageZ_yes hb1
       have a2 : 2147483648 ≤ addr := (hasB_yes hb1).2.1)
    have HB1 := Lib.hid hb1
    clear hb1
    go_enter Try.func5, Try.ntmps5
    go_wp2_with (go_at_call 8; refine (HR.out _).mono ?_; rintro e w' ⟨rfl, hw⟩; have hw := hw.symm; subst hw)
    refine (HN.out _).mono ?_
    rintro e w1 ⟨R, rfl, hR, ⟨P, hP, hi⟩, hb⟩
    have HI := Lib.hid (hi.on ((Below.refl _ _).alloc (Nat.le_refl _) (.cells c0 5)))
    have HB := Lib.hid hb
    clear hi hb hR hP
    go_wp2_with fail
    refine (HRH.out _ _ _).mono ?_
    rw [HB1.out]
    rintro e w2 ⟨rfl, hw⟩; have hw := hw.symm; subst hw
    go_wp2_with (first | (go_at_call 17; refine (HH.out _ _ _ _ HI.out).mono ?_; rintro e w' ⟨rfl, hw⟩; have hw := hw.symm; subst hw) | (go_at_call 16; refine (HRH.out _ _ _).mono ?_; rintro e w' ⟨rfl, hw⟩; have hw := hw.symm; subst hw) | (go_at_call 18; refine (HPG.out _ _ _ HI.out).mono ?_; rw [HZ.out]; rintro e w' ⟨rfl, hw⟩; have hw := hw.symm; subst hw))
    refine (awake10_any _).mono ?_
    rintro e w3 ⟨rfl, hb3⟩
    have HB3 : Hid (Below w.heap.size w w3) := (HB.out.alloc HB.out.size _).trans (hb3.mono (HB.out.alloc HB.out.size _).size)
    clear hb3
    go_wp2
    go_ret
    exact ⟨rfl, HB3.out⟩

theorem walk (n addr c : Int) (w : World) (w0 : (Lit.int .i64 n).wf = true) (w1 : (Lit.int .u32 addr).wf = true) (w2 : (Lit.int .i64 c).wf = true) :
    Calls Try.prog 5 #[.int .i64 n, .int .u32 addr, .int .i64 c] w fun e w' => e = .returned (.bool true) ∧ Below w.heap.size w w' := by
  have ha := bounds_u32 w1
  cases h : rightB n
  · exact no n addr c w h
  · obtain ⟨K, rfl, h1, h2⟩ := rightB_yes h
    exact yes K addr c w h1 h2 (by omega) (by omega)
end ramAsks
end Go.Proofs.Ytkgamoacjkmhkaa
