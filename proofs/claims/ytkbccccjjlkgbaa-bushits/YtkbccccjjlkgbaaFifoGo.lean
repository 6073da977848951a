/- Layer 11: what fifo's functions do but All. -/
import Derived.Test.YtkbccccjjlkgbaaFifoMem
import Derived.Test.YtkbccccjjlkgbaaNumbers
import Derived.Lib.Hide
namespace Go.Proofs.Ytkbccccjjlkgbaa
open Go.RowKit
set_option linter.unusedVariables false

set_option maxHeartbeats 400000 in
theorem fplace_any (B s i : Nat) (w : World) (hs : s < 16) (hi : i ≤ 16) (hc : w.cell? ⟨B, 16, none⟩ = some (.int .i64 (s : Int))) :
    Calls Try.prog 90 #[.pointer (some ⟨B, 0, none⟩), .int .i64 (i : Int)] w fun e w' => e = .returned (.int .i64 (((s + i) % 16 : Nat) : Int)) ∧ w' = w := by
  go_enter Try.func90, Try.ntmps90
  go_wp2
  go_ret
  refine ⟨ret_int ?_, rfl⟩
  go_num

set_option maxHeartbeats 400000 in
theorem fpush_nil (b : Int) (w : World) :
    Calls Try.prog 77 #[.pointer none, .int .u8 b] w fun e w' => e = .returned (.bool false) ∧ w' = w := by
  go_enter Try.func77, Try.ntmps77
  go_wp2
  go_ret
  exact ⟨rfl, rfl⟩

set_option maxHeartbeats 400000 in
theorem fpush_full (B : Nat) (f : Nat → Int) (b : Int) (w : World) (h : IsFifo w B 16 f) :
    Calls Try.prog 77 #[.pointer (some ⟨B, 0, none⟩), .int .u8 b] w fun e w' => e = .returned (.bool false) ∧ w' = w := by
  have hc := h.count
  clear h
  go_enter Try.func77, Try.ntmps77
  go_wp2
  go_ret
  exact ⟨rfl, rfl⟩

set_option maxHeartbeats 1600000 in
theorem fpush_yes (B n : Nat) (f : Nat → Int) (b : Int) (w : World) (h : IsFifo w B n f) (hn : n < 16) :
    Calls Try.prog 77 #[.pointer (some ⟨B, 0, none⟩), .int .u8 b] w fun e w' => e = .returned (.bool true) ∧ IsFifo w' B (n + 1) (snoc n f b) ∧ Bar B w w' := by
  have hd : IsFifo w.drew B n f := h
  have hc := h.count
  obtain ⟨s, hs, h16, _, hj, hpu, _⟩ := hd.first
  have hf17 := h.free 17
  have hne : ((n : Int) == 16) = false := by simp; omega
  obtain ⟨p, hp⟩ : ∃ p, (s + n) % 16 = p := ⟨_, rfl⟩
  have hp1 : p < 16 := by omega
  have hfp := h.free p
  obtain ⟨x, hx⟩ := hj p hp1
  have HU : Hid (IsFifo ((w.drew.setCell ⟨B, p, none⟩ (.int .u8 b)).setCell ⟨B, 17, none⟩ (.int .i64 ((n : Int) + 1))) B (n + 1) (snoc n f b)) := by have := hpu b hn; rwa [hp] at this
  have HB : Hid (Bar B w ((w.drew.setCell ⟨B, p, none⟩ (.int .u8 b)).setCell ⟨B, 17, none⟩ (.int .i64 ((n : Int) + 1)))) := ((Bar.refl B w).drew.trans (Bar.setCell B p _ _)).trans (Bar.setCell B 17 _ _)
  have HP : Hid (∀ W : World, W.cell? ⟨B, 16, none⟩ = some (.int .i64 (s : Int)) → Calls Try.prog 90 #[.pointer (some ⟨B, 0, none⟩), .int .i64 (n : Int)] W fun e w' => e = .returned (.int .i64 (p : Int)) ∧ w' = W) := fun W hW => by
    have := fplace_any B s n W hs (by omega) hW
    rwa [hp] at this
  have hpi : (p : Int) < 16 := by omega
  have hp17 : p ≠ 17 := by omega
  clear hd h hj hpu hp
  go_enter Try.func77, Try.ntmps77
  go_wp2_with fail
  go_region_with (go_at_call 90; refine (HP.out _ h16).mono ?_; rintro e w' ⟨rfl, hw⟩; have hw := hw.symm; subst hw)
  all_goals
    go_wp2
    go_ret
    exact ⟨rfl, HU.out, HB.out⟩

set_option maxHeartbeats 400000 in
theorem fpop_nil (w : World) :
    Calls Try.prog 105 #[.pointer none] w fun e w' => e = .returned (.tuple #[.int .u8 0, .bool false]) ∧ w' = w := by
  go_enter Try.func105, Try.ntmps105
  go_wp2
  go_ret2
  exact ⟨rfl, rfl⟩

set_option maxHeartbeats 400000 in
theorem fpop_none (B : Nat) (f : Nat → Int) (w : World) (h : IsFifo w B 0 f) :
    Calls Try.prog 105 #[.pointer (some ⟨B, 0, none⟩)] w fun e w' => e = .returned (.tuple #[.int .u8 0, .bool false]) ∧ w' = w := by
  have hc := h.count
  clear h
  go_enter Try.func105, Try.ntmps105
  go_wp2
  go_ret2
  exact ⟨rfl, rfl⟩

set_option maxHeartbeats 1600000 in
theorem fpop_yes (B n : Nat) (f : Nat → Int) (w : World) (h : IsFifo w B (n + 1) f) :
    Calls Try.prog 105 #[.pointer (some ⟨B, 0, none⟩)] w fun e w' => e = .returned (.tuple #[.int .u8 (f 0), .bool true]) ∧ IsFifo w' B n (fun i => f (i + 1)) ∧ Bar B w w' := by
  have hle := h.le
  have hc := h.count
  obtain ⟨s, hs, h16, hcell, _, _, hpo⟩ := h.first
  have hf16 := h.free 16
  have hf17 := h.free 17
  have hne : ((n : Int) + 1 == 0) = false := by simp; omega
  have hx := hcell 0 (by omega)
  rw [show (s + 0) % 16 = s from by omega] at hx
  obtain ⟨q, hq⟩ : ∃ q, (s + 1) % 16 = q := ⟨_, rfl⟩
  have HU : Hid (IsFifo ((w.setCell ⟨B, 16, none⟩ (.int .i64 (q : Int))).setCell ⟨B, 17, none⟩ (.int .i64 (n : Int))) B n (fun i => f (i + 1))) := by have := hpo n rfl; rwa [hq] at this
  have HB : Hid (Bar B w ((w.setCell ⟨B, 16, none⟩ (.int .i64 (q : Int))).setCell ⟨B, 17, none⟩ (.int .i64 (n : Int)))) := (Bar.setCell B 16 _ _).trans (Bar.setCell B 17 _ _)
  have HP : Hid (∀ W : World, W.cell? ⟨B, 16, none⟩ = some (.int .i64 (s : Int)) → Calls Try.prog 90 #[.pointer (some ⟨B, 0, none⟩), .int .i64 1] W fun e w' => e = .returned (.int .i64 (q : Int)) ∧ w' = W) := fun W hW => by
    have := fplace_any B s 1 W hs (by omega) hW
    rwa [hq] at this
  have hsi : (s : Int) < 16 := by omega
  have hc' : w.cell? ⟨B, 17, none⟩ = some (.int .i64 ((n : Int) + 1)) := by rw [hc]; rfl
  clear h hcell hpo hq hc
  generalize f 0 = y at *
  go_enter Try.func105, Try.ntmps105
  go_wp2_with fail
  go_quiet (fail)
  go_wp2_with (go_at_call 90; refine (HP.out _ (by simpa using h16)).mono ?_; rintro e w' ⟨rfl, hw⟩; have hw := hw.symm; subst hw)
  go_ret2
  exact ⟨rfl, HU.out, HB.out⟩

set_option maxHeartbeats 400000 in
theorem flen_nil (w : World) :
    Calls Try.prog 72 #[.pointer none] w fun e w' => e = .returned (.int .i64 0) ∧ w' = w := by
  go_enter Try.func72, Try.ntmps72
  go_wp2
  go_ret
  exact ⟨rfl, rfl⟩

set_option maxHeartbeats 400000 in
theorem flen_any (B n : Nat) (f : Nat → Int) (w : World) (h : IsFifo w B n f) :
    Calls Try.prog 72 #[.pointer (some ⟨B, 0, none⟩)] w fun e w' => e = .returned (.int .i64 (n : Int)) ∧ w' = w := by
  have hc := h.count
  clear h
  go_enter Try.func72, Try.ntmps72
  go_wp2
  go_ret
  exact ⟨rfl, rfl⟩

set_option maxHeartbeats 400000 in
theorem fnew_any (w : World) :
    Calls Try.prog 49 #[] w fun e w' => e = .returned (.pointer (some ⟨w.heap.size, 0, none⟩)) ∧ w' = w.alloc (.cells fifoZ 130) := by
  go_enter Try.func49, Try.ntmps49
  go_wp2
  go_ret
  exact ⟨rfl, rfl⟩

set_option maxHeartbeats 400000 in
theorem fall_nil (w : World) :
    Calls Try.prog 64 #[.pointer none] w fun e w' => e = .returned (.slice none 0 0) ∧ w' = w := by
  go_enter Try.func64, Try.ntmps64
  go_wp2
  go_ret
  exact ⟨rfl, rfl⟩
/-- A new row. -/
theorem fnew_row (w : World) : Calls Try.prog 49 #[] w fun e w' => ∃ B, e = .returned (.pointer (some ⟨B, 0, none⟩)) ∧ w.heap.size ≤ B ∧ (∀ f, IsFifo w' B 0 f) ∧ Below w.heap.size w w' := by
  refine (fnew_any w).mono ?_
  rintro e w' ⟨rfl, rfl⟩
  exact ⟨_, rfl, Nat.le_refl _, fun f => fifo_zero w f, (Below.refl _ w).alloc (Nat.le_refl _) _⟩

end Go.Proofs.Ytkbccccjjlkgbaa
