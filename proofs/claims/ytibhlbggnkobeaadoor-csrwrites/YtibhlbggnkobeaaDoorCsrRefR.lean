/- Layer 16, the document's side: Read, of registers that are kept, of what calls, of those that have one word always. -/
import Derived.Test.YtibhlbggnkobeaaDoorCsrRead
import Derived.Test.YtibhlbggnkobeaaDoorMaskRL
namespace Go.Proofs.YtibhlbggnkobeaaDoor
open Go.RowKit
set_option linter.unusedVariables false
set_option linter.unusedSimpArgs false

theorem num_apart {k j : Nat} (hk : k < 23) (hj : j < 23) (h : k ≠ j) : (mnum k == mnum j) = false := by
  rw [beq_eq_false_iff_ne]
  rcases Nat.lt_or_gt_of_ne h with hl | hl
  · exact mnum_apart j hj k hl
  · exact fun q => mnum_apart k hk j hl q.symm

theorem rbox_fe (w : World) (K E : Nat → Int) :
    ((w.alloc (.cells #[.int .u32 (K 0), .int .u32 (K 1), .int .u32 (K 2), .int .u32 (K 3), .int .u32 (K 4), .int .u32 (K 5), .int .u32 (K 6), .int .u64 (K 7), .int .u64 (K 8)] 36)).alloc (.cells #[.int .u64 (E 0), .int .u64 (E 1), .int .u64 (E 2), .int .u32 (E 3)] 38)).heap[w.heap.size]? = some (.cells #[.int .u32 (K 0), .int .u32 (K 1), .int .u32 (K 2), .int .u32 (K 3), .int .u32 (K 4), .int .u32 (K 5), .int .u32 (K 6), .int .u64 (K 7), .int .u64 (K 8)] 36 (0, 0)) ∧
    ((w.alloc (.cells #[.int .u32 (K 0), .int .u32 (K 1), .int .u32 (K 2), .int .u32 (K 3), .int .u32 (K 4), .int .u32 (K 5), .int .u32 (K 6), .int .u64 (K 7), .int .u64 (K 8)] 36)).alloc (.cells #[.int .u64 (E 0), .int .u64 (E 1), .int .u64 (E 2), .int .u32 (E 3)] 38)).heap[w.heap.size + 1]? = some (.cells #[.int .u64 (E 0), .int .u64 (E 1), .int .u64 (E 2), .int .u32 (E 3)] 38 (0, 0)) ∧
    Below w.heap.size w ((w.alloc (.cells #[.int .u32 (K 0), .int .u32 (K 1), .int .u32 (K 2), .int .u32 (K 3), .int .u32 (K 4), .int .u32 (K 5), .int .u32 (K 6), .int .u64 (K 7), .int .u64 (K 8)] 36)).alloc (.cells #[.int .u64 (E 0), .int .u64 (E 1), .int .u64 (E 2), .int .u32 (E 3)] 38)) := by
  refine ⟨?_, ?_, ((Below.refl _ _).alloc (Nat.le_refl _) _).alloc (by simp) _⟩
  · rw [heap_alloc_old _ _ (by simp)]
    exact heap_alloc_new _ _
  · have h := heap_alloc_new (w.alloc (.cells #[.int .u32 (K 0), .int .u32 (K 1), .int .u32 (K 2), .int .u32 (K 3), .int .u32 (K 4), .int .u32 (K 5), .int .u32 (K 6), .int .u64 (K 7), .int .u64 (K 8)] 36)) (.cells #[.int .u64 (E 0), .int .u64 (E 1), .int .u64 (E 2), .int .u32 (E 3)] 38)
    rw [World.size_alloc] at h
    exact h

set_option maxHeartbeats 1600000 in
set_option maxRecDepth 100000 in
theorem rread16_0 (K E : Nat → Int) (w : World) :
    Calls Tryd.prog 8 #[.agg #[.int .u32 (K 0), .int .u32 (K 1), .int .u32 (K 2), .int .u32 (K 3), .int .u32 (K 4), .int .u32 (K 5), .int .u32 (K 6), .int .u64 (K 7), .int .u64 (K 8)], .int .i64 (768), .agg #[.int .u64 (E 0), .int .u64 (E 1), .int .u64 (E 2), .int .u32 (E 3)]] w fun e w' => e = .returned (.int .u32 (K 0)) ∧ Below w.heap.size w w' := by
  obtain ⟨hf0, he0, hb0⟩ := rbox_fe w K E
  obtain ⟨W0, hW0⟩ : ∃ W0, W0 = (w.alloc (.cells #[.int .u32 (K 0), .int .u32 (K 1), .int .u32 (K 2), .int .u32 (K 3), .int .u32 (K 4), .int .u32 (K 5), .int .u32 (K 6), .int .u64 (K 7), .int .u64 (K 8)] 36)).alloc (.cells #[.int .u64 (E 0), .int .u64 (E 1), .int .u64 (E 2), .int .u32 (E 3)] 38) := ⟨_, rfl⟩
  rw [← hW0] at hf0 he0 hb0
  have HW0 := Lib.hid hW0
  have HB0 := Lib.hid hb0
  obtain ⟨⟨q0, q1, q2, q3, q4, q5, q6, q7, q8⟩, -⟩ := nine_cells hf0
  obtain ⟨⟨e0, e1, e2, e3⟩, -⟩ := env_cells he0
  clear hW0 hf0 he0 hb0
  go_enter Tryd.func8, Tryd.ntmps8
  go_wp2_with fail
  rw [← HW0.out]
  go_wp2
  go_ret
  exact ⟨rfl, HB0.out⟩

set_option maxHeartbeats 1600000 in
set_option maxRecDepth 100000 in
theorem rread16_2 (K E : Nat → Int) (w : World) :
    Calls Tryd.prog 8 #[.agg #[.int .u32 (K 0), .int .u32 (K 1), .int .u32 (K 2), .int .u32 (K 3), .int .u32 (K 4), .int .u32 (K 5), .int .u32 (K 6), .int .u64 (K 7), .int .u64 (K 8)], .int .i64 (772), .agg #[.int .u64 (E 0), .int .u64 (E 1), .int .u64 (E 2), .int .u32 (E 3)]] w fun e w' => e = .returned (.int .u32 (K 1)) ∧ Below w.heap.size w w' := by
  obtain ⟨hf0, he0, hb0⟩ := rbox_fe w K E
  obtain ⟨W0, hW0⟩ : ∃ W0, W0 = (w.alloc (.cells #[.int .u32 (K 0), .int .u32 (K 1), .int .u32 (K 2), .int .u32 (K 3), .int .u32 (K 4), .int .u32 (K 5), .int .u32 (K 6), .int .u64 (K 7), .int .u64 (K 8)] 36)).alloc (.cells #[.int .u64 (E 0), .int .u64 (E 1), .int .u64 (E 2), .int .u32 (E 3)] 38) := ⟨_, rfl⟩
  rw [← hW0] at hf0 he0 hb0
  have HW0 := Lib.hid hW0
  have HB0 := Lib.hid hb0
  obtain ⟨⟨q0, q1, q2, q3, q4, q5, q6, q7, q8⟩, -⟩ := nine_cells hf0
  obtain ⟨⟨e0, e1, e2, e3⟩, -⟩ := env_cells he0
  clear hW0 hf0 he0 hb0
  go_enter Tryd.func8, Tryd.ntmps8
  go_wp2_with fail
  rw [← HW0.out]
  go_wp2
  go_ret
  exact ⟨rfl, HB0.out⟩

set_option maxHeartbeats 1600000 in
set_option maxRecDepth 100000 in
theorem rread16_3 (K E : Nat → Int) (w : World) :
    Calls Tryd.prog 8 #[.agg #[.int .u32 (K 0), .int .u32 (K 1), .int .u32 (K 2), .int .u32 (K 3), .int .u32 (K 4), .int .u32 (K 5), .int .u32 (K 6), .int .u64 (K 7), .int .u64 (K 8)], .int .i64 (773), .agg #[.int .u64 (E 0), .int .u64 (E 1), .int .u64 (E 2), .int .u32 (E 3)]] w fun e w' => e = .returned (.int .u32 (K 2)) ∧ Below w.heap.size w w' := by
  obtain ⟨hf0, he0, hb0⟩ := rbox_fe w K E
  obtain ⟨W0, hW0⟩ : ∃ W0, W0 = (w.alloc (.cells #[.int .u32 (K 0), .int .u32 (K 1), .int .u32 (K 2), .int .u32 (K 3), .int .u32 (K 4), .int .u32 (K 5), .int .u32 (K 6), .int .u64 (K 7), .int .u64 (K 8)] 36)).alloc (.cells #[.int .u64 (E 0), .int .u64 (E 1), .int .u64 (E 2), .int .u32 (E 3)] 38) := ⟨_, rfl⟩
  rw [← hW0] at hf0 he0 hb0
  have HW0 := Lib.hid hW0
  have HB0 := Lib.hid hb0
  obtain ⟨⟨q0, q1, q2, q3, q4, q5, q6, q7, q8⟩, -⟩ := nine_cells hf0
  obtain ⟨⟨e0, e1, e2, e3⟩, -⟩ := env_cells he0
  clear hW0 hf0 he0 hb0
  go_enter Tryd.func8, Tryd.ntmps8
  go_wp2_with fail
  rw [← HW0.out]
  go_wp2
  go_ret
  exact ⟨rfl, HB0.out⟩

set_option maxHeartbeats 1600000 in
set_option maxRecDepth 100000 in
theorem rread16_4 (K E : Nat → Int) (w : World) :
    Calls Tryd.prog 8 #[.agg #[.int .u32 (K 0), .int .u32 (K 1), .int .u32 (K 2), .int .u32 (K 3), .int .u32 (K 4), .int .u32 (K 5), .int .u32 (K 6), .int .u64 (K 7), .int .u64 (K 8)], .int .i64 (832), .agg #[.int .u64 (E 0), .int .u64 (E 1), .int .u64 (E 2), .int .u32 (E 3)]] w fun e w' => e = .returned (.int .u32 (K 3)) ∧ Below w.heap.size w w' := by
  obtain ⟨hf0, he0, hb0⟩ := rbox_fe w K E
  obtain ⟨W0, hW0⟩ : ∃ W0, W0 = (w.alloc (.cells #[.int .u32 (K 0), .int .u32 (K 1), .int .u32 (K 2), .int .u32 (K 3), .int .u32 (K 4), .int .u32 (K 5), .int .u32 (K 6), .int .u64 (K 7), .int .u64 (K 8)] 36)).alloc (.cells #[.int .u64 (E 0), .int .u64 (E 1), .int .u64 (E 2), .int .u32 (E 3)] 38) := ⟨_, rfl⟩
  rw [← hW0] at hf0 he0 hb0
  have HW0 := Lib.hid hW0
  have HB0 := Lib.hid hb0
  obtain ⟨⟨q0, q1, q2, q3, q4, q5, q6, q7, q8⟩, -⟩ := nine_cells hf0
  obtain ⟨⟨e0, e1, e2, e3⟩, -⟩ := env_cells he0
  clear hW0 hf0 he0 hb0
  go_enter Tryd.func8, Tryd.ntmps8
  go_wp2_with fail
  rw [← HW0.out]
  go_wp2
  go_ret
  exact ⟨rfl, HB0.out⟩

set_option maxHeartbeats 1600000 in
set_option maxRecDepth 100000 in
theorem rread16_5 (K E : Nat → Int) (w : World) :
    Calls Tryd.prog 8 #[.agg #[.int .u32 (K 0), .int .u32 (K 1), .int .u32 (K 2), .int .u32 (K 3), .int .u32 (K 4), .int .u32 (K 5), .int .u32 (K 6), .int .u64 (K 7), .int .u64 (K 8)], .int .i64 (833), .agg #[.int .u64 (E 0), .int .u64 (E 1), .int .u64 (E 2), .int .u32 (E 3)]] w fun e w' => e = .returned (.int .u32 (K 4)) ∧ Below w.heap.size w w' := by
  obtain ⟨hf0, he0, hb0⟩ := rbox_fe w K E
  obtain ⟨W0, hW0⟩ : ∃ W0, W0 = (w.alloc (.cells #[.int .u32 (K 0), .int .u32 (K 1), .int .u32 (K 2), .int .u32 (K 3), .int .u32 (K 4), .int .u32 (K 5), .int .u32 (K 6), .int .u64 (K 7), .int .u64 (K 8)] 36)).alloc (.cells #[.int .u64 (E 0), .int .u64 (E 1), .int .u64 (E 2), .int .u32 (E 3)] 38) := ⟨_, rfl⟩
  rw [← hW0] at hf0 he0 hb0
  have HW0 := Lib.hid hW0
  have HB0 := Lib.hid hb0
  obtain ⟨⟨q0, q1, q2, q3, q4, q5, q6, q7, q8⟩, -⟩ := nine_cells hf0
  obtain ⟨⟨e0, e1, e2, e3⟩, -⟩ := env_cells he0
  clear hW0 hf0 he0 hb0
  go_enter Tryd.func8, Tryd.ntmps8
  go_wp2_with fail
  rw [← HW0.out]
  go_wp2
  go_ret
  exact ⟨rfl, HB0.out⟩

set_option maxHeartbeats 1600000 in
set_option maxRecDepth 100000 in
theorem rread16_6 (K E : Nat → Int) (w : World) :
    Calls Tryd.prog 8 #[.agg #[.int .u32 (K 0), .int .u32 (K 1), .int .u32 (K 2), .int .u32 (K 3), .int .u32 (K 4), .int .u32 (K 5), .int .u32 (K 6), .int .u64 (K 7), .int .u64 (K 8)], .int .i64 (834), .agg #[.int .u64 (E 0), .int .u64 (E 1), .int .u64 (E 2), .int .u32 (E 3)]] w fun e w' => e = .returned (.int .u32 (K 5)) ∧ Below w.heap.size w w' := by
  obtain ⟨hf0, he0, hb0⟩ := rbox_fe w K E
  obtain ⟨W0, hW0⟩ : ∃ W0, W0 = (w.alloc (.cells #[.int .u32 (K 0), .int .u32 (K 1), .int .u32 (K 2), .int .u32 (K 3), .int .u32 (K 4), .int .u32 (K 5), .int .u32 (K 6), .int .u64 (K 7), .int .u64 (K 8)] 36)).alloc (.cells #[.int .u64 (E 0), .int .u64 (E 1), .int .u64 (E 2), .int .u32 (E 3)] 38) := ⟨_, rfl⟩
  rw [← hW0] at hf0 he0 hb0
  have HW0 := Lib.hid hW0
  have HB0 := Lib.hid hb0
  obtain ⟨⟨q0, q1, q2, q3, q4, q5, q6, q7, q8⟩, -⟩ := nine_cells hf0
  obtain ⟨⟨e0, e1, e2, e3⟩, -⟩ := env_cells he0
  clear hW0 hf0 he0 hb0
  go_enter Tryd.func8, Tryd.ntmps8
  go_wp2_with fail
  rw [← HW0.out]
  go_wp2
  go_ret
  exact ⟨rfl, HB0.out⟩

set_option maxHeartbeats 1600000 in
set_option maxRecDepth 100000 in
theorem rread16_7 (K E : Nat → Int) (w : World) :
    Calls Tryd.prog 8 #[.agg #[.int .u32 (K 0), .int .u32 (K 1), .int .u32 (K 2), .int .u32 (K 3), .int .u32 (K 4), .int .u32 (K 5), .int .u32 (K 6), .int .u64 (K 7), .int .u64 (K 8)], .int .i64 (835), .agg #[.int .u64 (E 0), .int .u64 (E 1), .int .u64 (E 2), .int .u32 (E 3)]] w fun e w' => e = .returned (.int .u32 (K 6)) ∧ Below w.heap.size w w' := by
  obtain ⟨hf0, he0, hb0⟩ := rbox_fe w K E
  obtain ⟨W0, hW0⟩ : ∃ W0, W0 = (w.alloc (.cells #[.int .u32 (K 0), .int .u32 (K 1), .int .u32 (K 2), .int .u32 (K 3), .int .u32 (K 4), .int .u32 (K 5), .int .u32 (K 6), .int .u64 (K 7), .int .u64 (K 8)] 36)).alloc (.cells #[.int .u64 (E 0), .int .u64 (E 1), .int .u64 (E 2), .int .u32 (E 3)] 38) := ⟨_, rfl⟩
  rw [← hW0] at hf0 he0 hb0
  have HW0 := Lib.hid hW0
  have HB0 := Lib.hid hb0
  obtain ⟨⟨q0, q1, q2, q3, q4, q5, q6, q7, q8⟩, -⟩ := nine_cells hf0
  obtain ⟨⟨e0, e1, e2, e3⟩, -⟩ := env_cells he0
  clear hW0 hf0 he0 hb0
  go_enter Tryd.func8, Tryd.ntmps8
  go_wp2_with fail
  rw [← HW0.out]
  go_wp2
  go_ret
  exact ⟨rfl, HB0.out⟩

set_option maxHeartbeats 1600000 in
set_option maxRecDepth 100000 in
theorem rread16_8 (K E : Nat → Int) (w : World) :
    Calls Tryd.prog 8 #[.agg #[.int .u32 (K 0), .int .u32 (K 1), .int .u32 (K 2), .int .u32 (K 3), .int .u32 (K 4), .int .u32 (K 5), .int .u32 (K 6), .int .u64 (K 7), .int .u64 (K 8)], .int .i64 (836), .agg #[.int .u64 (E 0), .int .u64 (E 1), .int .u64 (E 2), .int .u32 (E 3)]] w fun e w' => e = .returned (.int .u32 (E 3)) ∧ Below w.heap.size w w' := by
  obtain ⟨hf0, he0, hb0⟩ := rbox_fe w K E
  obtain ⟨W0, hW0⟩ : ∃ W0, W0 = (w.alloc (.cells #[.int .u32 (K 0), .int .u32 (K 1), .int .u32 (K 2), .int .u32 (K 3), .int .u32 (K 4), .int .u32 (K 5), .int .u32 (K 6), .int .u64 (K 7), .int .u64 (K 8)] 36)).alloc (.cells #[.int .u64 (E 0), .int .u64 (E 1), .int .u64 (E 2), .int .u32 (E 3)] 38) := ⟨_, rfl⟩
  rw [← hW0] at hf0 he0 hb0
  have HW0 := Lib.hid hW0
  have HB0 := Lib.hid hb0
  obtain ⟨⟨q0, q1, q2, q3, q4, q5, q6, q7, q8⟩, -⟩ := nine_cells hf0
  obtain ⟨⟨e0, e1, e2, e3⟩, -⟩ := env_cells he0
  clear hW0 hf0 he0 hb0
  go_enter Tryd.func8, Tryd.ntmps8
  go_wp2_with fail
  rw [← HW0.out]
  go_wp2
  go_ret
  exact ⟨rfl, HB0.out⟩

set_option maxHeartbeats 1600000 in
set_option maxRecDepth 100000 in
theorem rread16_fixed (K E : Nat → Int) (k : Nat) (w : World) (hk : k < 23) (hs : ∀ j, (j < 19 ∧ j ≠ 1) → k ≠ j):
    Calls Tryd.prog 8 #[.agg #[.int .u32 (K 0), .int .u32 (K 1), .int .u32 (K 2), .int .u32 (K 3), .int .u32 (K 4), .int .u32 (K 5), .int .u32 (K 6), .int .u64 (K 7), .int .u64 (K 8)], .int .i64 (mnum k), .agg #[.int .u64 (E 0), .int .u64 (E 1), .int .u64 (E 2), .int .u32 (E 3)]] w fun e w' => e = .returned (.int .u32 (mfix k)) ∧ Below w.heap.size w w' := by
  have n0 : (mnum k == 768) = false := num_apart (j := 0) hk (by decide) (hs 0 (by decide))
  have n2 : (mnum k == 772) = false := num_apart (j := 2) hk (by decide) (hs 2 (by decide))
  have n3 : (mnum k == 773) = false := num_apart (j := 3) hk (by decide) (hs 3 (by decide))
  have n4 : (mnum k == 832) = false := num_apart (j := 4) hk (by decide) (hs 4 (by decide))
  have n5 : (mnum k == 833) = false := num_apart (j := 5) hk (by decide) (hs 5 (by decide))
  have n6 : (mnum k == 834) = false := num_apart (j := 6) hk (by decide) (hs 6 (by decide))
  have n7 : (mnum k == 835) = false := num_apart (j := 7) hk (by decide) (hs 7 (by decide))
  have n8 : (mnum k == 836) = false := num_apart (j := 8) hk (by decide) (hs 8 (by decide))
  have n9 : (mnum k == 2816) = false := num_apart (j := 9) hk (by decide) (hs 9 (by decide))
  have n10 : (mnum k == 2818) = false := num_apart (j := 10) hk (by decide) (hs 10 (by decide))
  have n11 : (mnum k == 2944) = false := num_apart (j := 11) hk (by decide) (hs 11 (by decide))
  have n12 : (mnum k == 2946) = false := num_apart (j := 12) hk (by decide) (hs 12 (by decide))
  have n13 : (mnum k == 3072) = false := num_apart (j := 13) hk (by decide) (hs 13 (by decide))
  have n14 : (mnum k == 3073) = false := num_apart (j := 14) hk (by decide) (hs 14 (by decide))
  have n15 : (mnum k == 3074) = false := num_apart (j := 15) hk (by decide) (hs 15 (by decide))
  have n16 : (mnum k == 3200) = false := num_apart (j := 16) hk (by decide) (hs 16 (by decide))
  have n17 : (mnum k == 3201) = false := num_apart (j := 17) hk (by decide) (hs 17 (by decide))
  have n18 : (mnum k == 3202) = false := num_apart (j := 18) hk (by decide) (hs 18 (by decide))
  clear hs
  have HP : Hid (∀ W : World, Calls Tryd.prog 6 #[.int .i64 (mnum k)] W fun e w' => e = .returned (.int .i64 k) ∧ Below W.heap.size W w') := fun W => rplace_yes k W hk
  have i0 : (0 : Int) ≤ (k : Int) := by omega
  have i1 : (k : Int) < 23 := by omega
  generalize mnum k = c at *
  obtain ⟨hf0, he0, hb0⟩ := rbox_fe w K E
  obtain ⟨W0, hW0⟩ : ∃ W0, W0 = (w.alloc (.cells #[.int .u32 (K 0), .int .u32 (K 1), .int .u32 (K 2), .int .u32 (K 3), .int .u32 (K 4), .int .u32 (K 5), .int .u32 (K 6), .int .u64 (K 7), .int .u64 (K 8)] 36)).alloc (.cells #[.int .u64 (E 0), .int .u64 (E 1), .int .u64 (E 2), .int .u32 (E 3)] 38) := ⟨_, rfl⟩
  rw [← hW0] at hf0 he0 hb0
  have HW0 := Lib.hid hW0
  have HB0 := Lib.hid hb0
  obtain ⟨⟨q0, q1, q2, q3, q4, q5, q6, q7, q8⟩, -⟩ := nine_cells hf0
  obtain ⟨⟨e0, e1, e2, e3⟩, -⟩ := env_cells he0
  clear hW0 hf0 he0 hb0
  go_enter Tryd.func8, Tryd.ntmps8
  go_wp2_with fail
  rw [← HW0.out]
  go_wp2_with fail
  refine (rfixed_any _).mono ?_
  rintro e w1 ⟨g, rfl, hr, hb⟩
  have HR := Lib.hid hr
  have HB1 := Lib.hid (HB0.out.trans (hb.mono HB0.out.size))
  clear hr hb q0 q1 q2 q3 q4 q5 q6 q7 q8 e0 e1 e2 e3
  go_wp2_with fail
  refine (HP.out _).mono ?_
  rintro e w2 ⟨rfl, hb⟩
  have hc := HR.out.on hb k hk
  have HB2 := Lib.hid (HB1.out.trans (hb.mono HB1.out.size))
  clear hb
  go_wp2
  go_ret
  exact ⟨rfl, HB2.out⟩
end Go.Proofs.YtibhlbggnkobeaaDoor
