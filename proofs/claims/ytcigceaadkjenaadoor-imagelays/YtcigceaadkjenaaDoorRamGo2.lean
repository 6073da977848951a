/- Layer 10: piece, hit, Watch, New. -/
import Derived.Test.YtcigceaadkjenaaDoorRamGo
namespace Go.Proofs.YtcigceaadkjenaaDoor
open Go.RowKit
set_option linter.unusedVariables false

theorem cell_q {w w' : World} (hq : Q w w') {p : Addr} {v : Value} (h : w.cell? p = some v) : w'.cell? p = some v := by
  obtain ⟨k, rfl⟩ := hq; simpa using h

theorem arr64 : Tryd.prog.underlying 64 = some (.array (Tryd.prog.arrayLen 64) (Tryd.prog.elem 64)) := by kernel_rfl
theorem arr64_len : Tryd.prog.arrayLen 64 = 64 := by kernel_rfl
theorem arr64_size (w : World) : (sizeOf (Tryd.prog.elem 64)).run Tryd.prog w = .ok 1 w := by kernel_rfl

theorem slice3_run (B o f q : Nat) (t : Int) (h : f + q ≤ 64) (hq : 1 ≤ q) (ht : t = (f : Int) + (q : Int)) (w : World) :
    (Instr.sliceAt 64 (.pointer (some ⟨B, o, none⟩)) (some (.int .i64 (f : Int))) (some (.int .i64 t)) (some (.int .i64 t))).run Tryd.prog w = .ok (.slice (some ⟨B, o + f, none⟩) q q) w := by
  subst ht
  rw [run_sliceAt_array_lhm w 64 ⟨B, o, none⟩ arr64 .i64 .i64 .i64 _ _ _ (by omega) (by omega) (Int.le_refl _) (by rw [arr64_len]; omega), arr64_size]
  simp only [Result.andThen, slicedAt]
  rw [show ((f : Int) + (q : Int)).toNat = f + q from by omega, show ((f : Int)).toNat = f from by omega, if_neg (by omega), Nat.mul_one, Nat.add_sub_cancel_left, Addr.add_lit]

theorem slice0_run (B o : Nat) (w : World) :
    (Instr.sliceAt 64 (.pointer (some ⟨B, o, none⟩)) none none none).run Tryd.prog w = .ok (.slice (some ⟨B, o, none⟩) 64 64) w := by
  rw [run_sliceAt_array_all w 64 ⟨B, o, none⟩ arr64, arr64_size, arr64_len]
  simp [Result.andThen, slicedAt, Addr.add_lit]

set_option maxHeartbeats 800000 in
theorem piece_any (R P K a n q : Nat) (addr : Int) (w : World) (hK : K ≤ 1024) (hc : w.cell? ⟨R, 0, none⟩ = some (.slice (some ⟨P, 0, none⟩) K K)) (ha : addr = 2147483648 + (a : Int)) (hK1 : a < 64 * K) (hn : 1 ≤ n) (hn1 : n ≤ 65536) (hq : q = min (a % 64 + n) 64 - a % 64) :
    Calls Tryd.prog 48 #[.pointer (some ⟨R, 0, none⟩), .int .u32 addr, .int .i64 n] w fun e w' => e = .returned (.slice (some ⟨P, a / 64 * 66 + a % 64, none⟩) q q) ∧ Q w w' := by
  have HPL : Hid (∀ W : World, Calls Tryd.prog 59 #[.int .u32 addr] W fun e w' => e = .returned (.int .i64 (a : Int)) ∧ w' = W) := fun W => by
    have := place_any addr W (by omega) (by omega)
    rwa [show addr - 2147483648 = (a : Int) from by omega] at this
  have HPG : Hid (∀ W : World, W.cell? ⟨R, 0, none⟩ = some (.slice (some ⟨P, 0, none⟩) K K) → Calls Tryd.prog 60 #[.pointer (some ⟨R, 0, none⟩), .int .u32 addr] W fun e w' => e = .returned (.int .i64 ((a / 64 : Nat) : Int)) ∧ w' = W) := fun W hW => by
    have := page_any R P K addr W hK hW (by omega) (by omega)
    rwa [pageZ_yes (hasB_t (by omega)), show (addr - 2147483648) / 64 = ((a / 64 : Nat) : Int) from by omega] at this
  obtain ⟨f, hf⟩ : ∃ f : Nat, a % 64 = f := ⟨_, rfl⟩
  obtain ⟨p, hp⟩ : ∃ p : Nat, a / 64 = p := ⟨_, rfl⟩
  have hf1 : f < 64 := by omega
  have hp1 : p < K := by omega
  have hm : (a : Int) % 64 = (f : Int) := by omega
  rw [hf] at hq
  rw [hp] at HPG
  rw [hf, hp]
  by_cases c : f + n ≤ 64
  · obtain rfl : q = n := by omega
    clear hq hf hp ha hK1
    go_enter Tryd.func48, Tryd.ntmps48
    go_wp2_with (go_at_call 59; refine (HPL.out _).mono ?_; rintro e w' ⟨rfl, hw⟩; have hw := hw.symm; subst hw)
    simp only [hm]
    have hi : (p : Int) < K := by omega
    have hsl := slice3_run P (p * 66) f q ((f : Int) + (q : Int)) (by omega) (by omega) (by omega)
    go_quiet ((go_at_call 60; exact Calls.quiet_of_same (HPG.out _ (by simpa using hc))))
    go_wp2
    go_ret
    exact ⟨rfl, _, rfl⟩
  · obtain rfl : q = 64 - f := by omega
    clear hq hf hp ha hK1
    go_enter Tryd.func48, Tryd.ntmps48
    go_wp2_with (go_at_call 59; refine (HPL.out _).mono ?_; rintro e w' ⟨rfl, hw⟩; have hw := hw.symm; subst hw)
    simp only [hm]
    have hi : (p : Int) < K := by omega
    have hsl := slice3_run P (p * 66) f (64 - f) 64 (by omega) (by omega) (by omega)
    go_quiet ((go_at_call 60; exact Calls.quiet_of_same (HPG.out _ (by simpa using hc))))
    go_wp2
    go_ret
    exact ⟨rfl, _, rfl⟩

/-- A page of noughts. -/
def pageZero : Value := .agg (Array.replicate 64 (.int .u8 0) ++ #[.bool false, .int .u64 0])
theorem info_page : (Tryd.prog.info? 67).map (fun i => (i.zero, i.size, i.bytes)) = some (some pageZero, 66, 80) := by kernel_rfl
theorem zero_bytes : ∀ k, k < 64 → pageZero.cells[k]? = some (.int .u8 0) := by
  intro k hk
  have h : ∀ j : Fin 64, pageZero.cells[j.val]? = some (.int .u8 0) := by
    have e : pageZero.cells = Array.replicate 64 (.int .u8 0) ++ #[.bool false, .int .u64 0] := by kernel_rfl
    intro j
    rw [e, Array.getElem?_append_left (by simp), Array.getElem?_replicate, if_pos j.isLt]
  exact h ⟨k, hk⟩
theorem zero_watch : pageZero.cells[64]? = some (.bool false) := by kernel_rfl
theorem zero_gen : pageZero.cells[65]? = some (.int .u64 0) := by kernel_rfl
theorem zero_size : pageZero.cells.size = 66 := by kernel_rfl

theorem made_at {z : Array Value} {n j : Nat} {v : Value} (hj : j < n) (h : z[j % z.size]? = some v) : (madeCells z n)[j]? = some v := by
  unfold madeCells
  rw [Array.getElem?_map, Array.getElem?_range, if_pos hj]
  simp only [Option.map_some]
  rw [getElem!_def, h]

theorem pages_made (K : Nat) : PageC (madeCells pageZero.cells (K * 66)) K (fun _ => 0) (fun _ => false) (fun _ => 0) := by
  refine ⟨size_madeCells _ _, fun i hi => made_at (by omega) ?_, fun p hp => made_at (by omega) ?_, fun p hp => made_at (by omega) ?_⟩
  · rw [zero_size, show (i / 64 * 66 + i % 64) % 66 = i % 64 from by omega]; exact zero_bytes _ (by omega)
  · rw [zero_size, show (p * 66 + 64) % 66 = 64 from by omega]; exact zero_watch
  · rw [zero_size, show (p * 66 + 65) % 66 = 65 from by omega]; exact zero_gen

set_option maxHeartbeats 400000 in
theorem new_no (n : Int) (w : World) (h : rightB n = false) :
    Calls Tryd.prog 10 #[.int .i64 n] w fun e w' => e = .returned (.tuple #[.pointer none, .int .i64 4]) ∧ w' = w := by
  have hn := rightB_no h
  clear h
  by_cases h1 : n < 64
  · go_enter Tryd.func10, Tryd.ntmps10
    go_wp2
    go_ret2
    exact ⟨rfl, rfl⟩
  · by_cases h2 : 65536 < n
    · go_enter Tryd.func10, Tryd.ntmps10
      go_wp2
      go_ret2
      exact ⟨rfl, rfl⟩
    · have h3 : (n % 64 != 0) = true := bne_iff_ne.2 (by omega)
      have h4 : 0 ≤ n := by omega
      clear hn
      go_enter Tryd.func10, Tryd.ntmps10
      go_wp2
      go_ret2
      exact ⟨rfl, rfl⟩

set_option maxHeartbeats 800000 in
theorem new_yes (K : Nat) (w : World) (h1 : 1 ≤ K) (hK : K ≤ 1024) :
    Calls Tryd.prog 10 #[.int .i64 (64 * (K : Int))] w fun e w' => ∃ R, e = .returned (.tuple #[.pointer (some ⟨R, 0, none⟩), .int .i64 0]) ∧ w.heap.size ≤ R ∧ (∃ P, w.heap.size ≤ P ∧ IsRam w' R P K (fun _ => 0) (fun _ => false) (fun _ => 0)) ∧ Below w.heap.size w w' := by
  have hmk : ∀ w : World, (Instr.makeSlice 55 (.int .i64 (K : Int)) (.int .i64 (K : Int))).run Tryd.prog w = .ok (.slice (some ⟨w.heap.size, 0, none⟩) K K) (w.alloc (.cells (madeCells pageZero.cells (K * 66)) 67)) := fun w => by
    obtain ⟨i, hi, hz0, hz1, hz2⟩ := info_parts info_page
    have := run_make (P := Tryd.prog) w 55 67 i pageZero Tryd.underlying55 hi hz0 .i64 .i64 K K (by omega) (Int.le_refl _) (by rw [hz2]; omega) (by omega)
    rw [hz1] at this
    simpa using this
  have hC := pages_made K
  generalize madeCells pageZero.cells (K * 66) = cs at *
  have HC := Lib.hid hC
  have h64 : (64 * (K : Int)) % 64 = 0 := by omega
  have hd : (64 * (K : Int)) / 64 = K := by omega
  clear hC
  go_enter Tryd.func10, Tryd.ntmps10
  go_wp2
  go_ret2
  refine ⟨w.heap.size + 1, rfl, by omega, ⟨w.heap.size, Nat.le_refl _, by omega, ?_, cs, ?_, HC.out⟩, ((Below.refl _ _).alloc (Nat.le_refl _) _).alloc (by simp) _⟩
  · have := heap_alloc_new (w.alloc (.cells cs 67)) (.cells #[.slice (some ⟨w.heap.size, 0, none⟩) K K] 57)
    simpa using this
  · rw [heap_alloc_old _ _ (by simp)]
    exact heap_alloc_new _ _
end Go.Proofs.YtcigceaadkjenaaDoor
