/- Layer 16: the walk of CsrReads. -/
import Derived.Test.YtibhlbggnkobeaaDoorCsrAll
import Derived.Test.YtibhlbggnkobeaaDoorFrame
namespace Go.Proofs.YtibhlbggnkobeaaDoor
open Go.RowKit
set_option linter.unusedVariables false
set_option linter.unusedSimpArgs false

/-- The statements' two boxes on their way. -/
def Bx (w W : World) (A C : Nat) (K E : Nat → Int) : Prop := IsFile W A K ∧ IsEnv W C E ∧ Below w.heap.size w W
theorem Bx.on {w W W' : World} {A C : Nat} {K E : Nat → Int} (h : Bx w W A C K E) (hb : Below W.heap.size W W') : Bx w W' A C K E :=
  ⟨heap_on h.1 hb, heap_on h.2.1 hb, h.2.2.trans (hb.mono h.2.2.size)⟩
theorem Bx.drew {w W : World} {A C : Nat} {K E : Nat → Int} (h : Bx w W A C K E) : Bx w W.drew A C K E := h.on ((Below.refl _ _).drew)
/-- Their thirteen cells. -/
abbrev Cells13 (W : World) (A C : Nat) (K E : Nat → Int) : Prop :=
  W.cell? ⟨A, 0, none⟩ = some (.int .u32 (K 0)) ∧ W.cell? ⟨A, 1, none⟩ = some (.int .u32 (K 1)) ∧ W.cell? ⟨A, 2, none⟩ = some (.int .u32 (K 2)) ∧ W.cell? ⟨A, 3, none⟩ = some (.int .u32 (K 3)) ∧ W.cell? ⟨A, 4, none⟩ = some (.int .u32 (K 4)) ∧ W.cell? ⟨A, 5, none⟩ = some (.int .u32 (K 5)) ∧ W.cell? ⟨A, 6, none⟩ = some (.int .u32 (K 6)) ∧ W.cell? ⟨A, 7, none⟩ = some (.int .u64 (K 7)) ∧ W.cell? ⟨A, 8, none⟩ = some (.int .u64 (K 8)) ∧
  W.cell? ⟨C, 0, none⟩ = some (.int .u64 (E 0)) ∧ W.cell? ⟨C, 1, none⟩ = some (.int .u64 (E 1)) ∧ W.cell? ⟨C, 2, none⟩ = some (.int .u64 (E 2)) ∧ W.cell? ⟨C, 3, none⟩ = some (.int .u32 (E 3))
theorem Bx.cells {w W : World} {A C : Nat} {K E : Nat → Int} (h : Bx w W A C K E) : Cells13 W A C K E := by
  obtain ⟨⟨q0, q1, q2, q3, q4, q5, q6, q7, q8⟩, -⟩ := nine_cells h.1
  obtain ⟨⟨e0, e1, e2, e3⟩, -⟩ := env_cells h.2.1
  exact ⟨q0, q1, q2, q3, q4, q5, q6, q7, q8, e0, e1, e2, e3⟩

namespace csrReads
set_option maxHeartbeats 1600000 in
theorem no (K E : Nat → Int) (c : Int) (w : World) (h : ∀ k, k < 23 → mnum k ≠ c) (ht : RegTab w) :
    Calls Tryd.prog 3 #[.agg #[.int .u32 (K 0), .int .u32 (K 1), .int .u32 (K 2), .int .u32 (K 3), .int .u32 (K 4), .int .u32 (K 5), .int .u32 (K 6), .int .u64 (K 7), .int .u64 (K 8)], .int .i64 c, .agg #[.int .u64 (E 0), .int .u64 (E 1), .int .u64 (E 2), .int .u32 (E 3)]] w fun e w' => e = .returned (.bool true) ∧ Below w.heap.size w w' := by
  have HR : Hid (∀ W : World, RegTab W → Calls Tryd.prog 5 #[.agg #[.int .u32 (K 0), .int .u32 (K 1), .int .u32 (K 2), .int .u32 (K 3), .int .u32 (K 4), .int .u32 (K 5), .int .u32 (K 6), .int .u64 (K 7), .int .u64 (K 8)], .int .i64 c, .agg #[.int .u64 (E 0), .int .u64 (E 1), .int .u64 (E 2), .int .u32 (E 3)]] W fun e w' => e = .returned (.tuple #[.int .u32 0, .int .i64 8]) ∧ Below W.heap.size W w') := fun W hT => cread_no K E c W h hT
  have HP : Hid (∀ W : World, Calls Tryd.prog 6 #[.int .i64 c] W fun e w' => e = .returned (.int .i64 (-1)) ∧ Below W.heap.size W w') := fun W => rplace_no c W h
  have HT := Lib.hid ht
  clear h ht
  obtain ⟨hf0, he0, hb0⟩ := box_fe w K E
  obtain ⟨W0, hW0⟩ : ∃ W0, W0 = (w.alloc (.cells #[.int .u32 (K 0), .int .u32 (K 1), .int .u32 (K 2), .int .u32 (K 3), .int .u32 (K 4), .int .u32 (K 5), .int .u32 (K 6), .int .u64 (K 7), .int .u64 (K 8)] 27)).alloc (.cells #[.int .u64 (E 0), .int .u64 (E 1), .int .u64 (E 2), .int .u32 (E 3)] 29) := ⟨_, rfl⟩
  rw [← hW0] at hf0 he0 hb0
  have HW0 := Lib.hid hW0
  have HX0 : Hid (Bx w W0 w.heap.size (w.heap.size + 1) K E) := ⟨hf0, he0, hb0⟩
  clear hW0 hf0 he0 hb0
  go_enter Tryd.func3, Tryd.ntmps3
  go_wp2_with fail
  rw [← HW0.out]
  refine (HR.out W0 (HT.out.on HX0.out.2.2)).mono ?_
  rintro e w1 ⟨rfl, hb1⟩
  have HX1 := Lib.hid (HX0.out.on hb1)
  clear hb1
  go_wp2_with fail
  refine (HP.out _).mono ?_
  rintro e w2 ⟨rfl, hb2⟩
  have HX2 := Lib.hid (HX1.out.on hb2)
  clear hb2
  go_wp2_with fail
  refine (awake16_any _ (HT.out.on HX2.out.2.2)).mono ?_
  rintro e w3 ⟨rfl, hb3⟩
  have HX3 := Lib.hid (HX2.out.on hb3)
  clear hb3
  go_wp2
  go_ret
  exact ⟨rfl, HX3.out.2.2⟩

set_option maxHeartbeats 4000000 in
set_option maxRecDepth 100000 in
theorem yes (K E : Nat → Int) (k : Nat) (w : World) (hk : k < 23) (he : EnvB E) (ht : RegTab w) :
    Calls Tryd.prog 3 #[.agg #[.int .u32 (K 0), .int .u32 (K 1), .int .u32 (K 2), .int .u32 (K 3), .int .u32 (K 4), .int .u32 (K 5), .int .u32 (K 6), .int .u64 (K 7), .int .u64 (K 8)], .int .i64 (mnum k), .agg #[.int .u64 (E 0), .int .u64 (E 1), .int .u64 (E 2), .int .u32 (E 3)]] w fun e w' => e = .returned (.bool true) ∧ Below w.heap.size w w' := by
  have HR : Hid (∀ W : World, RegTab W → Calls Tryd.prog 5 #[.agg #[.int .u32 (K 0), .int .u32 (K 1), .int .u32 (K 2), .int .u32 (K 3), .int .u32 (K 4), .int .u32 (K 5), .int .u32 (K 6), .int .u64 (K 7), .int .u64 (K 8)], .int .i64 (mnum k), .agg #[.int .u64 (E 0), .int .u64 (E 1), .int .u64 (E 2), .int .u32 (E 3)]] W fun e w' => e = .returned (.tuple #[.int .u32 (readC K E k), .int .i64 0]) ∧ Below W.heap.size W w') := fun W hT => cread_any K E k W hk he hT
  have HRR : Hid (∀ W : World, Calls Tryd.prog 8 #[.agg #[.int .u32 (K 0), .int .u32 (K 1), .int .u32 (K 2), .int .u32 (K 3), .int .u32 (K 4), .int .u32 (K 5), .int .u32 (K 6), .int .u64 (K 7), .int .u64 (K 8)], .int .i64 (mnum k), .agg #[.int .u64 (E 0), .int .u64 (E 1), .int .u64 (E 2), .int .u32 (E 3)]] W fun e w' => e = .returned (.int .u32 (readC K E k)) ∧ Below W.heap.size W w') := fun W => rread16_any K E k W hk he
  have HP : Hid (∀ W : World, Calls Tryd.prog 6 #[.int .i64 (mnum k)] W fun e w' => e = .returned (.int .i64 k) ∧ Below W.heap.size W w') := fun W => rplace_yes k W hk
  have i0 : (0 : Int) ≤ (k : Int) := by omega
  have hlt : ((k : Int) < 0) = False := by simp
  have HT := Lib.hid ht
  clear he ht hk
  generalize readC K E k = v at *
  generalize mnum k = c at *
  obtain ⟨hf0, he0, hb0⟩ := box_fe w K E
  obtain ⟨W0, hW0⟩ : ∃ W0, W0 = (w.alloc (.cells #[.int .u32 (K 0), .int .u32 (K 1), .int .u32 (K 2), .int .u32 (K 3), .int .u32 (K 4), .int .u32 (K 5), .int .u32 (K 6), .int .u64 (K 7), .int .u64 (K 8)] 27)).alloc (.cells #[.int .u64 (E 0), .int .u64 (E 1), .int .u64 (E 2), .int .u32 (E 3)] 29) := ⟨_, rfl⟩
  rw [← hW0] at hf0 he0 hb0
  have HW0 := Lib.hid hW0
  have HX0 : Hid (Bx w W0 w.heap.size (w.heap.size + 1) K E) := ⟨hf0, he0, hb0⟩
  clear hW0 hf0 he0 hb0
  go_enter Tryd.func3, Tryd.ntmps3
  go_wp2_with fail
  rw [← HW0.out]
  refine (HR.out W0 (HT.out.on HX0.out.2.2)).mono ?_
  rintro e w1 ⟨rfl, hb1⟩
  have HX1 := Lib.hid (HX0.out.on hb1)
  clear hb1
  go_wp2_with fail
  refine (HP.out _).mono ?_
  rintro e w2 ⟨rfl, hb2⟩
  have HX2 := Lib.hid (HX1.out.on hb2)
  clear hb2
  obtain ⟨c0, c1, c2, c3, c4, c5, c6, c7, c8, c9, c10, c11, c12⟩ := HX2.out.cells
  go_wp2_with fail
  go_region_held3 (fun w' => Cells13 w' w.heap.size (w.heap.size + 1) K E) (first | (refine ⟨?_, ?_, ?_, ?_, ?_, ?_, ?_, ?_, ?_, ?_, ?_, ?_, ?_⟩ <;> assumption) | simp)
    (first
      | (go_at_call 9; refine (of16_any K _).mono ?_; rintro e w3 ⟨rfl, hb3⟩; have HX3 := Lib.hid (HX2.out.drew.on hb3); obtain ⟨d0, d1, d2, d3, d4, d5, d6, d7, d8, d9, d10, d11, d12⟩ := HX3.out.cells; clear hb3)
      | (go_at_call 10; refine (in16_any E _).mono ?_; rintro e w4 ⟨rfl, hb4⟩; have HX4 := Lib.hid (HX3.out.on hb4); obtain ⟨d0, d1, d2, d3, d4, d5, d6, d7, d8, d9, d10, d11, d12⟩ := HX4.out.cells; clear hb4)
      | (go_at_call 8; refine (HRR.out _).mono ?_; rintro e w5 ⟨rfl, hb5⟩; have HX5 := Lib.hid (HX4.out.on hb5); obtain ⟨d0, d1, d2, d3, d4, d5, d6, d7, d8, d9, d10, d11, d12⟩ := HX5.out.cells; clear hb5)
      | (go_at_call 11; refine (cnew_any _).mono ?_; rintro e w6 ⟨rfl, hb6⟩; have HX6 := Lib.hid (HX5.out.on hb6); obtain ⟨d0, d1, d2, d3, d4, d5, d6, d7, d8, d9, d10, d11, d12⟩ := HX6.out.cells; clear hb6)
      | (go_at_call 9; refine (of16_any newK _).mono ?_; rintro e w7 ⟨rfl, hb7⟩; have HX7 := Lib.hid (HX6.out.on hb7); obtain ⟨d0, d1, d2, d3, d4, d5, d6, d7, d8, d9, d10, d11, d12⟩ := HX7.out.cells; clear hb7)
      | (go_at_call 12; refine (rnew16_any _).mono ?_; rintro e w8 ⟨rfl, hb8⟩; have HX8 := Lib.hid (HX7.out.on hb8); obtain ⟨d0, d1, d2, d3, d4, d5, d6, d7, d8, d9, d10, d11, d12⟩ := HX8.out.cells; clear hb8)
      | (go_at_call 7; refine (awake16_any _ (HT.out.on HX8.out.2.2)).mono ?_; rintro e w9 ⟨rfl, hb9⟩; have HX9 := Lib.hid (HX8.out.on hb9); obtain ⟨d0, d1, d2, d3, d4, d5, d6, d7, d8, d9, d10, d11, d12⟩ := HX9.out.cells; clear hb9))
  go_wp2
  go_ret
  exact ⟨rfl, HX9.out.2.2⟩
end csrReads
end Go.Proofs.YtibhlbggnkobeaaDoor
