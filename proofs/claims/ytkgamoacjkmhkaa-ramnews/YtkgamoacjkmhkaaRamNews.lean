/- Layer 10: the walk of RamNews. -/
import Derived.Test.YtkgamoacjkmhkaaRamAwake
import Derived.Test.YtkgamoacjkmhkaaFrame
namespace Go.Proofs.Ytkgamoacjkmhkaa
open Go.RowKit
set_option linter.unusedVariables false

namespace ramNews
set_option maxHeartbeats 800000 in
theorem no (n : Int) (w : World) (h : rightB n = false) :
    Calls Try.prog 3 #[.int .i64 n] w fun e w' => e = .returned (.bool true) ∧ Below w.heap.size w w' := by
  have HN : Hid (∀ W : World, Calls Try.prog 7 #[.int .i64 n] W fun e w' => e = .returned (.tuple #[.pointer none, .int .i64 4]) ∧ w' = W) := fun W => new_no n W h
  have HR : Hid (∀ W : World, Calls Try.prog 8 #[.int .i64 n] W fun e w' => e = .returned (.bool false) ∧ w' = W) := fun W => by rw [← h]; exact right10_any n W
  clear h
  go_enter Try.func3, Try.ntmps3
  go_wp2_with (first | (go_at_call 7; refine (HN.out _).mono ?_; rintro e w' ⟨rfl, hw⟩; have hw := hw.symm; subst hw) | (go_at_call 8; refine (HR.out _).mono ?_; rintro e w' ⟨rfl, hw⟩; have hw := hw.symm; subst hw))
  refine (awake10_any _).mono ?_
  rintro e w1 ⟨rfl, hb⟩
  go_wp2
  go_ret
  exact ⟨rfl, hb⟩

set_option maxHeartbeats 1600000 in
theorem yes (K : Nat) (w : World) (h1 : 1 ≤ K) (hK : K ≤ 1024) :
    Calls Try.prog 3 #[.int .i64 (64 * (K : Int))] w fun e w' => e = .returned (.bool true) ∧ Below w.heap.size w w' := by
  have HN : Hid (∀ W : World, Calls Try.prog 7 #[.int .i64 (64 * (K : Int))] W fun e w' => ∃ R, e = .returned (.tuple #[.pointer (some ⟨R, 0, none⟩), .int .i64 0]) ∧ W.heap.size ≤ R ∧ (∃ P, W.heap.size ≤ P ∧ IsRam w' R P K (fun _ => 0) (fun _ => false) (fun _ => 0)) ∧ Below W.heap.size W w') := fun W => new_yes K W h1 hK
  have HR : Hid (∀ W : World, Calls Try.prog 8 #[.int .i64 (64 * (K : Int))] W fun e w' => e = .returned (.bool true) ∧ w' = W) := fun W => by
    have := right10_any (64 * (K : Int)) W
    rwa [rightB_t (by omega)] at this
  have m30 : ∀ w : World, (Instr.makeSlice 30 (.int .i64 (64 * (K : Int))) (.int .i64 (64 * (K : Int)))).run Try.prog w = .ok (.slice (some ⟨w.heap.size, 0, none⟩) (64 * K) (64 * K)) (w.alloc (.cells (madeCells (Value.int .u8 0).cells (64 * K)) 5)) := fun w => by
    obtain ⟨i, hi, hz0, hz1, hz2⟩ := info_parts Try.info5
    have := run_make (P := Try.prog) w 30 5 i (.int .u8 0) Try.underlying30 hi hz0 .i64 .i64 (64 * (K : Int)) (64 * (K : Int)) (by omega) (Int.le_refl _) (by rw [hz2]; omega) (by omega)
    rw [hz1, show (64 * (K : Int)).toNat = 64 * K from by omega, Nat.mul_one] at this
    exact this
  obtain ⟨c0, hc0⟩ : ∃ c, c = madeCells (Value.int .u8 0).cells (64 * K) := ⟨_, rfl⟩
  have HC0 : Hid (∀ i, i < 64 * K → c0[i]? = some (.int .u8 0)) := fun i hi => by
    rw [hc0]
    refine made_at hi ?_
    simp [Value.cells, Nat.mod_one]
  rw [← hc0] at m30
  clear hc0
  have HSZ : Hid (∀ W R P, IsRam W R P K (fun _ => 0) (fun _ => false) (fun _ => 0) → Calls Try.prog 10 #[.pointer (some ⟨R, 0, none⟩)] W fun e w' => e = .returned (.int .i64 (64 * (K : Int))) ∧ w' = W) := fun W R P h => size_any R P K W hK h.ptr
  have HBY : Hid (∀ W R P, IsRam W R P K (fun _ => 0) (fun _ => false) (fun _ => 0) → Calls Try.prog 12 #[.pointer (some ⟨R, 0, none⟩)] W fun e w' => ∃ B, e = .returned (.slice (some ⟨B, 0, none⟩) (64 * K) (64 * K)) ∧ W.heap.size ≤ B ∧ RowB w' B (64 * K) (fun _ => 0) ∧ Below W.heap.size W w') := fun W R P h => bytes_any R P K _ _ _ W h1 hK h
  have HSM : Hid (∀ W B B', RowB W B (64 * K) (fun _ => 0) → RowB W B' (64 * K) (fun _ => 0) → Calls Try.prog 11 #[.slice (some ⟨B, 0, none⟩) (64 * K) (64 * K), .slice (some ⟨B', 0, none⟩) (64 * K) (64 * K)] W fun e w' => e = .returned (.bool true) ∧ Q W w') := fun W B B' h h' =>
    same_yes (fun _ => 0) B 0 B' 0 (64 * K) _ _ W (by unfold maxLen; omega) (fun i hi => by rw [Nat.zero_add]; exact h i hi) (fun i hi => by rw [Nat.zero_add]; exact h' i hi)
  have HNEW : Hid (∀ W : World, RowB (W.alloc (.cells c0 5)) W.heap.size (64 * K) (fun _ => 0)) := fun W i hi => by
    rw [World.cell?_alloc_at _ _ _ _ rfl]; exact HC0.out i hi
  go_enter Try.func3, Try.ntmps3
  go_wp2_with fail
  refine (HN.out _).mono ?_
  rintro e w1 ⟨R, rfl, hR, ⟨P, hP, hi⟩, hb⟩
  have HI := Lib.hid hi
  have HB := Lib.hid hb
  clear hi hb hR hP
  go_wp2_with fail
  refine (HR.out _).mono ?_
  rintro e w2 ⟨rfl, hw⟩; have hw := hw.symm; subst hw
  go_wp2_with fail
  go_region_with (first
    | (go_at_call 10; refine (HSZ.out _ R P ?_).mono ?_; exact HI.out.on (Below.refl _ _).drew; rintro e w' ⟨rfl, hw⟩; have hw := hw.symm; subst hw)
    | (go_at_call 12
       refine (HBY.out _ R P ?_).mono ?_
       first | exact HI.out.on (Below.refl _ _).drew | exact HI.out.on (((Below.refl _ _).drew).alloc (Nat.le_refl _) _)
       rintro e w3 ⟨B, rfl, hB, hrow, hb3⟩
       have HROW := Lib.hid hrow
       have HB3 := Lib.hid hb3
       have HA3 : Hid (Below w.heap.size w w3) := by
         first
         | exact HB.out.drew.trans (HB3.out.mono HB.out.size)
         | exact (HB.out.drew.alloc HB.out.size _).trans (HB3.out.mono (HB.out.drew.alloc HB.out.size _).size)
       clear hB hrow hb3)
    | (go_at_call 11
       refine (HSM.out _ _ _ ?_ ?_).mono ?_
       first | exact HROW.out | exact HROW.out.on ((Below.refl _ _).alloc (Nat.le_refl _) _)
       first | exact HNEW.out _ | exact RowB.on (show RowB ((w1.alloc (.cells c0 5)).drew) w1.heap.size _ _ from HNEW.out w1) HB3.out
       rintro e w4 ⟨rfl, hq⟩
       have HA4 : Hid (Below w.heap.size w w4) := by
         first
         | exact (HA3.out.alloc HA3.out.size _).trans (hq.below _)
         | exact HA3.out.trans (hq.below _)
       clear hq)
    | (go_at_call 9
       refine (awake10_any _).mono ?_
       rintro e w5 ⟨rfl, hb⟩
       have HA5 : Hid (Below w.heap.size w w5) := HA4.out.trans (hb.mono HA4.out.size)
       clear hb))
  all_goals
    go_wp2
    go_ret
    exact ⟨rfl, HA5.out⟩

theorem walk (n : Int) (w : World) (w0 : (Lit.int .i64 n).wf = true) :
    Calls Try.prog 3 #[.int .i64 n] w fun e w' => e = .returned (.bool true) ∧ Below w.heap.size w w' := by
  cases h : rightB n
  · exact no n w h
  · obtain ⟨K, rfl, h1, h2⟩ := rightB_yes h
    exact yes K w h1 h2
end ramNews

end Go.Proofs.Ytkgamoacjkmhkaa
