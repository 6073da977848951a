/- Layer 10: Fill and Bytes. -/
import Derived.Test.YtkbccccjjlkgbaaRamGo3
namespace Go.Proofs.Ytkbccccjjlkgbaa
open Go.RowKit
set_option linter.unusedVariables false
set_option maxRecDepth 100000

set_option maxHeartbeats 400000 in
theorem bytes_nil (w : World) :
    Calls Try.prog 38 #[.pointer none] w fun e w' => e = .returned (.slice none 0 0) ∧ w' = w := by
  go_enter Try.func38, Try.ntmps38
  go_wp2
  go_ret
  exact ⟨rfl, rfl⟩

set_option maxHeartbeats 1600000 in
theorem bytes_any (R P K : Nat) (b : Nat → Int) (wa : Nat → Bool) (g : Nat → Int) (w : World) (h1 : 1 ≤ K) (hK : K ≤ 1024) (h : IsRam w R P K b wa g) :
    Calls Try.prog 38 #[.pointer (some ⟨R, 0, none⟩)] w fun e w' => ∃ B, e = .returned (.slice (some ⟨B, 0, none⟩) (64 * K) (64 * K)) ∧ w.heap.size ≤ B ∧ RowB w' B (64 * K) b ∧ Below w.heap.size w w' := by
  have hc := h.ptr
  have HI : Hid (IsRam w R P K b wa g) := h
  clear h
  have hmk : ∀ w : World, (Instr.makeSlice 30 (.int .i64 (64 * (K : Int))) (.int .i64 (64 * (K : Int)))).run Try.prog w = .ok (.slice (some ⟨w.heap.size, 0, none⟩) (64 * K) (64 * K)) (w.alloc (.cells (madeCells (Value.int .u8 0).cells (64 * K)) 5)) := fun w => by
    obtain ⟨i, hi, hz0, hz1, hz2⟩ := info_parts Try.info5
    have := run_make (P := Try.prog) w 30 5 i (.int .u8 0) Try.underlying30 hi hz0 .i64 .i64 (64 * (K : Int)) (64 * (K : Int)) (by omega) (Int.le_refl _) (by rw [hz2]; omega) (by omega)
    rw [hz1, show (64 * (K : Int)).toNat = 64 * K from by omega, Nat.mul_one] at this
    exact this
  obtain ⟨c0, hc0⟩ : ∃ c, c = madeCells (Value.int .u8 0).cells (64 * K) := ⟨_, rfl⟩
  have hs0 : c0.size = 64 * K := by rw [hc0]; exact size_madeCells _ _
  rw [← hc0] at hmk
  clear hc0
  have HS0 := Lib.hid hs0
  clear hs0
  have hb0 : Below w.heap.size w (w.alloc (.cells c0 5)) := (Below.refl _ _).alloc (Nat.le_refl _) _
  have HI0 : Hid (IsRam (w.alloc (.cells c0 5)) R P K b wa g) := HI.out.on hb0
  have hc0 := HI0.out.ptr
  clear hb0
  go_enter Try.func38, Try.ntmps38
  go_wp2_with (go_at_call 63; refine (size_any _ _ _ _ hK hc).mono ?_; rintro e w' ⟨rfl, hw⟩; have hw := hw.symm; subst hw)
  have hB0 : (w.alloc (.cells c0 5)).heap[w.heap.size]? = some (.cells c0.toList.toArray 5 (0, 0)) := by simpa using heap_alloc_new w (.cells c0 5)
  have hb0 : Below w.heap.size w (w.alloc (.cells c0 5)) := (Below.refl _ _).alloc (Nat.le_refl _) _
  have HB0 := Lib.hid hB0
  have HBE0 := Lib.hid hb0
  clear hB0 hb0 hmk hc0
  generalize (w.alloc (.cells c0 5)) = w1 at *
  obtain ⟨B, hB⟩ : ∃ B, w.heap.size = B := ⟨_, rfl⟩
  have HBB := Lib.hid hB
  rw [hB] at HB0
  simp only [hB]
  clear hB
  go_loopw [15] (fun i wr => ∃ k : Nat, k ≤ K ∧ i = .int .i64 k ∧ (∃ cur : List Value, wr.heap[B]? = some (.cells cur.toArray 5 (0, 0)) ∧ cur.length = 64 * K ∧ ∀ i, i < 64 * k → cur[i]? = some (.int .u8 (b i))) ∧ Below w.heap.size w wr) (fun i _ => K - (intOf i).toNat)
  case atStart => exact ⟨0, Nat.zero_le _, rfl, ⟨c0.toList, HB0.out, by simpa using HS0.out, fun i hi => absurd hi (by omega)⟩, HBE0.out⟩
  case round =>
    obtain ⟨k, hk, rfl, ⟨cur, hcur, hlen, hcells⟩, hb⟩ := hrel
    have HCUR := Lib.hid hcur
    have HLEN := Lib.hid hlen
    have HCELLS := Lib.hid hcells
    have HBE := Lib.hid hb
    clear hcur hlen hcells hb
    by_cases hlt : k < K
    · have HI1 : Hid (IsRam wr R P K b wa g) := HI.out.on HBE.out
      have hcr := HI1.out.ptr
      have hi : (k : Int) < K := by omega
      have hsl : ∀ w : World, (Instr.sliceAt 30 (.slice (some ⟨B, 0, none⟩) (64 * K) (64 * K)) (some (.int .i64 ((k : Int) * 64))) none none).run Try.prog w = .ok (.slice (some ⟨B, k * 64, none⟩) (64 * K - k * 64) (64 * K - k * 64)) w := fun w => by
        rw [run_sliceAt_slice w _ _ _ _ _ Try.underlying30, run_slice_l w _ _ _ _ Try.underlying30 .i64 _ (by omega) (by omega)]
        rw [show (sizeOf (Try.prog.elem 30)).run Try.prog w = .ok 1 w from by kernel_rfl]
        simp only [Result.andThen, sliced]
        rw [show ((k : Int) * 64).toNat = k * 64 from by omega, if_neg (by omega)]
        simp [Addr.add_lit]
      have hs0 := slice0_run P (k * 66)
      have hcp : (Builtin.copy_ #[30, 30] 3 #[.slice (some ⟨B, k * 64, none⟩) (64 * K - k * 64) (64 * K - k * 64), .slice (some ⟨P, k * 66, none⟩) 64 64]).run Try.prog wr.drew = .ok (.int .i64 64) (wr.drew.setRow B (splice cur (k * 64) ((List.range 64).map fun i => Value.int .u8 (b (64 * k + i)))).toArray) := by
        have h := run_copy_row (P := Try.prog) wr.drew 30 30 3 5 B (k * 64) (64 * K - k * 64) (64 * K - k * 64) ⟨P, k * 66, none⟩ 64 64 cur.toArray _ ((List.range 64).map fun i => Value.int .u8 (b (64 * k + i))) Try.underlying30 (by kernel_rfl) HCUR.out (by simp only [List.length_map, List.length_range]; show 64 = min 64 _; omega)
          (fun j u hj => by
            have hj1 : j < 64 := by
              have := (List.getElem?_eq_some_iff.1 hj).1
              simpa using this
            rw [List.getElem?_map, List.getElem?_range hj1] at hj
            have e := Option.some.inj hj
            subst e
            have := HI1.out.byte (i := 64 * k + j) (by omega)
            rw [show (64 * k + j) / 64 * 66 + (64 * k + j) % 64 = k * 66 + j from by omega] at this
            rw [Addr.add_lit]
            exact this)
          (by
            have h2 := HLEN.out
            simp only [List.length_map, List.length_range, List.size_toArray]; omega)
          (fun u hu => by
            obtain ⟨i, _, rfl⟩ := List.mem_map.1 hu
            rfl)
        simp only [List.length_map, List.length_range] at h
        rw [h]
        unfold splice
        simp only [List.length_map, List.length_range, List.append_assoc, goInt]
        rfl
      have HNEW : Hid (∃ cur' : List Value, (wr.drew.setRow B (splice cur (k * 64) ((List.range 64).map fun i => Value.int .u8 (b (64 * k + i)))).toArray).heap[B]? = some (.cells cur'.toArray 5 (0, 0)) ∧ cur'.length = 64 * K ∧ ∀ i, i < 64 * (k + 1) → cur'[i]? = some (.int .u8 (b i))) := by
        have h2 := HLEN.out
        have hfit : k * 64 + ((List.range 64).map fun i => Value.int .u8 (b (64 * k + i))).length ≤ cur.length := by simp only [List.length_map, List.length_range]; omega
        refine ⟨_, setRow_heap _ _ _ _ _ _ HCUR.out, by rw [length_splice _ _ _ hfit]; exact h2, fun i hi => ?_⟩
        rw [splice_get _ _ _ hfit]
        simp only [List.length_map, List.length_range]
        by_cases c : k * 64 ≤ i
        · rw [if_pos (by omega), List.getElem?_map, List.getElem?_range (by omega)]
          simp only [Option.map_some]
          rw [show 64 * k + (i - k * 64) = i from by omega]
        · rw [if_neg (by omega)]; exact HCELLS.out i (by omega)
      have HBE2 : Hid (Below w.heap.size w (wr.drew.setRow B (splice cur (k * 64) ((List.range 64).map fun i => Value.int .u8 (b (64 * k + i)))).toArray)) := below_setRow HBE.out.drew (by have := HBB.out; omega) _
      generalize (wr.drew.setRow B (splice cur (k * 64) ((List.range 64).map fun i => Value.int .u8 (b (64 * k + i)))).toArray) = w5 at *
      go_wp2_with fail
      go_region
      clear hcp
      go_wp2
      go_roundw
      case rel => exact ⟨k + 1, by omega, by go_num, HNEW.out, HBE2.out⟩
      case measure => simp [intOf]; omega
    · obtain rfl : k = K := by omega
      go_wp2
      go_ret
      refine ⟨B, rfl, by have := HBB.out; omega, fun i hi => ?_, HBE.out⟩
      simp [World.cell?, HCUR.out, HCELLS.out i hi]
end Go.Proofs.Ytkbccccjjlkgbaa
