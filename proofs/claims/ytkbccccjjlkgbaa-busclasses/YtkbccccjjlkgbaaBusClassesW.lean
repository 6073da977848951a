/- Layer 14: the walk of BusClasses. -/
import Derived.Test.YtkbccccjjlkgbaaBusCalls
import Derived.Test.YtkbccccjjlkgbaaBusRefA
namespace Go.Proofs.Ytkbccccjjlkgbaa
open Go.RowKit
set_option linter.unusedVariables false
set_option linter.unusedSimpArgs false
set_option maxRecDepth 100000

namespace busClasses
set_option maxHeartbeats 800000 in
theorem no (s a n : Int) (w : World) (h : rightB s = false) :
    Calls Try.prog 4 #[.int .i64 s, .int .u32 a, .int .i64 n] w fun e w' => e = .returned (.bool true) ∧ Below w.heap.size w w' := by
  have HR : Hid (∀ W : World, Calls Try.prog 7 #[.int .i64 s] W fun e w' => e = .returned (.bool false) ∧ w' = W) := fun W => by rw [← h]; exact right10_any s W
  clear h
  go_enter Try.func4, Try.ntmps4
  go_wp2_with (go_at_call 7; refine (HR.out _).mono ?_; rintro e w' ⟨rfl, hw⟩; have hw := hw.symm; subst hw)
  refine (awake14_any _).mono ?_
  rintro e w1 ⟨rfl, hb⟩
  go_wp2
  go_ret
  exact ⟨rfl, hb⟩

set_option maxHeartbeats 3200000 in
theorem yes (K : Nat) (a n : Int) (w : World) (h1 : 1 ≤ K) (hK : K ≤ 1024) (a0 : 0 ≤ a) (a1 : a < 4294967296) :
    Calls Try.prog 4 #[.int .i64 (64 * (K : Int)), .int .u32 a, .int .i64 n] w fun e w' => e = .returned (.bool true) ∧ Below w.heap.size w w' := by
  have HR : Hid (∀ W : World, Calls Try.prog 7 #[.int .i64 (64 * (K : Int))] W fun e w' => e = .returned (.bool true) ∧ w' = W) := fun W => by
    have := right10_any (64 * (K : Int)) W
    rwa [rightB_t (by omega)] at this
  have HM : Hid (∀ W : World, Calls Try.prog 10 #[.int .i64 (64 * (K : Int)), .slice none 0 0] W fun e w' => ∃ B R P C A S, e = .returned (.pointer (some ⟨B, 0, none⟩)) ∧ IsBus w' B R P C A K S 0 (fun _ => 0) (fun _ => 0) BS.new ∧ (∀ k, Fp B R P A S k → W.heap.size ≤ k) ∧ Below W.heap.size W w') := fun W => made_any K W h1 hK (by omega) (IsArr.nil _ _ _) (fun i hi => absurd hi (by omega))
  have m30 : ∀ w : World, (Instr.makeSlice 30 (.int .i64 (64 * (K : Int))) (.int .i64 (64 * (K : Int)))).run Try.prog w = .ok (.slice (some ⟨w.heap.size, 0, none⟩) (64 * K) (64 * K)) (w.alloc (.cells (madeCells (Value.int .u8 0).cells (64 * K)) 5)) := fun w => by
    obtain ⟨i, hi, hz0, hz1, hz2⟩ := info_parts Try.info5
    have := run_make (P := Try.prog) w 30 5 i (.int .u8 0) Try.underlying30 hi hz0 .i64 .i64 (64 * (K : Int)) (64 * (K : Int)) (by omega) (Int.le_refl _) (by rw [hz2]; omega) (by omega)
    rw [hz1, show (64 * (K : Int)).toNat = 64 * K from by omega, Nat.mul_one] at this
    exact this
  generalize madeCells (Value.int .u8 0).cells (64 * K) = c0 at *
  have HRC : Hid (∀ W B, Calls Try.prog 15 #[.slice (some ⟨B, 0, none⟩) (64 * K) (64 * K), .int .u32 a, .int .i64 n] W fun e w' => e = .returned (.int .i64 (classZ K a n)) ∧ w' = W) := fun W B => rclass14_any K _ _ a n W hK a0 a1
  go_enter Try.func4, Try.ntmps4
  go_wp2_with (go_at_call 7; refine (HR.out _).mono ?_; rintro e w' ⟨rfl, hw⟩; have hw := hw.symm; subst hw)
  refine (HM.out w).mono ?_
  rintro e w1 ⟨B, R, P, C, A, S, rfl, hi, -, hb⟩
  have HCL : Hid (∀ W, Below w1.heap.size w1 W → Calls Try.prog 14 #[.pointer (some ⟨B, 0, none⟩), .int .u32 a, .int .i64 n] W fun e w' => e = .returned (.int .i64 (classZ K a n)) ∧ Below w.heap.size w w') := fun W hW => by
    refine (bclass_any a n W hK (hi.on hW) (BsOk.new (c := 0)).1 a0 a1).mono ?_
    rintro e w' ⟨rfl, h⟩
    have h2 := hb.trans (hW.mono hb.size)
    exact ⟨rfl, h2.trans (h.mono h2.size)⟩
  clear hi hb HM HR
  generalize classZ K a n = z at *
  go_wp2_with fail
  go_region_with (first
    | (go_at_call 14; refine (HCL.out _ (by first | exact Below.refl _ _ | exact (Below.refl _ _).drew | exact ((Below.refl _ _).drew).alloc (Nat.le_refl _) _)).mono ?_; rintro e wc ⟨rfl, hbc⟩; have HBC := Lib.hid hbc; clear hbc)
    | (go_at_call 15; refine (HRC.out _ _).mono ?_; rintro e w' ⟨rfl, hw⟩; have hw := hw.symm; subst hw)
    | (go_at_call 9; refine (awake14_any _).mono ?_; rintro e wa ⟨rfl, hba⟩; have HBA := Lib.hid hba; clear hba))
  all_goals go_wp2
  all_goals go_ret
  all_goals
    first
    | exact ⟨rfl, HBC.out.trans (HBA.out.mono HBC.out.size)⟩
    | exact ⟨rfl, (HBC.out.alloc HBC.out.size _).trans (HBA.out.mono (HBC.out.alloc HBC.out.size _).size)⟩

theorem walk (n a c : Int) (w : World) (w0 : (Lit.int .i64 n).wf = true) (w1 : (Lit.int .u32 a).wf = true) (w2 : (Lit.int .i64 c).wf = true) :
    Calls Try.prog 4 #[.int .i64 n, .int .u32 a, .int .i64 c] w fun e w' => e = .returned (.bool true) ∧ Below w.heap.size w w' := by
  have ha := bounds_u32 w1
  cases h : rightB n
  · exact no n a c w h
  · obtain ⟨K, rfl, h1, h2⟩ := rightB_yes h
    exact yes K a c w h1 h2 (by omega) (by omega)
end busClasses
end Go.Proofs.Ytkbccccjjlkgbaa
