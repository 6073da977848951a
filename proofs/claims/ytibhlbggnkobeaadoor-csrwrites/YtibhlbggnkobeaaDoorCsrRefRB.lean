/- Layer 16, the document's side: Read, of the registers that count. -/
import Derived.Test.YtibhlbggnkobeaaDoorCsrRefR
namespace Go.Proofs.YtibhlbggnkobeaaDoor
open Go.RowKit
set_option linter.unusedVariables false
set_option linter.unusedSimpArgs false

set_option maxHeartbeats 1600000 in
set_option maxRecDepth 100000 in
theorem rread16_15 (K E : Nat → Int) (w : World) (he : EnvB E) :
    Calls Tryd.prog 8 #[.agg #[.int .u32 (K 0), .int .u32 (K 1), .int .u32 (K 2), .int .u32 (K 3), .int .u32 (K 4), .int .u32 (K 5), .int .u32 (K 6), .int .u64 (K 7), .int .u64 (K 8)], .int .i64 (3074), .agg #[.int .u64 (E 0), .int .u64 (E 1), .int .u64 (E 2), .int .u32 (E 3)]] w fun e w' => e = .returned (.int .u32 (readC K E 15)) ∧ Below w.heap.size w w' := by
  have HH : Hid (∀ W : World, Calls Tryd.prog 21 #[.int .u64 (IntKind.u64.wrap (E 1 + K 8))] W fun e w' => e = .returned (.int .u32 (readC K E 15)) ∧ w' = W) := fun W => by have h := rlow16_any (nowZ (K 8) (E 1)) W (nowZ_lt _ _).1; rwa [← show IntKind.u64.wrap (E 1 + K 8) = nowZ (K 8) (E 1) from by rw [IntKind.wrap_u64]; rfl] at h
  clear he
  generalize hv : readC K E 15 = v at *
  clear hv
  obtain ⟨hf0, he0, hb0⟩ := rbox_fe w K E
  obtain ⟨W0, hW0⟩ : ∃ W0, W0 = (w.alloc (.cells #[.int .u32 (K 0), .int .u32 (K 1), .int .u32 (K 2), .int .u32 (K 3), .int .u32 (K 4), .int .u32 (K 5), .int .u32 (K 6), .int .u64 (K 7), .int .u64 (K 8)] 36)).alloc (.cells #[.int .u64 (E 0), .int .u64 (E 1), .int .u64 (E 2), .int .u32 (E 3)] 38) := ⟨_, rfl⟩
  rw [← hW0] at hf0 he0 hb0
  have HW0 := Lib.hid hW0
  have HB0 := Lib.hid hb0
  obtain ⟨⟨q0, q1, q2, q3, q4, q5, q6, q7, q8⟩, -⟩ := nine_cells hf0
  obtain ⟨⟨e0, e1, e2, e3⟩, -⟩ := env_cells he0
  clear hW0 hf0 he0 hb0
  go_enter Tryd.func8, Tryd.ntmps8
  go_wp2_with fail
  rw [← HW0.out]
  go_wp2_with fail
  refine (HH.out _).mono ?_
  rintro e w' ⟨rfl, hw⟩
  have hw := hw.symm
  subst hw
  go_wp2
  go_ret
  exact ⟨rfl, HB0.out⟩

set_option maxHeartbeats 1600000 in
set_option maxRecDepth 100000 in
theorem rread16_12 (K E : Nat → Int) (w : World) (he : EnvB E) :
    Calls Tryd.prog 8 #[.agg #[.int .u32 (K 0), .int .u32 (K 1), .int .u32 (K 2), .int .u32 (K 3), .int .u32 (K 4), .int .u32 (K 5), .int .u32 (K 6), .int .u64 (K 7), .int .u64 (K 8)], .int .i64 (2946), .agg #[.int .u64 (E 0), .int .u64 (E 1), .int .u64 (E 2), .int .u32 (E 3)]] w fun e w' => e = .returned (.int .u32 (readC K E 12)) ∧ Below w.heap.size w w' := by
  have HH : Hid (∀ W : World, Calls Tryd.prog 22 #[.int .u64 (IntKind.u64.wrap (E 1 + K 8))] W fun e w' => e = .returned (.int .u32 (readC K E 12)) ∧ w' = W) := fun W => by have h := rhigh16_any (nowZ (K 8) (E 1)) W (nowZ_lt _ _).1 (nowZ_lt _ _).2; rwa [← show IntKind.u64.wrap (E 1 + K 8) = nowZ (K 8) (E 1) from by rw [IntKind.wrap_u64]; rfl] at h
  clear he
  generalize hv : readC K E 12 = v at *
  clear hv
  obtain ⟨hf0, he0, hb0⟩ := rbox_fe w K E
  obtain ⟨W0, hW0⟩ : ∃ W0, W0 = (w.alloc (.cells #[.int .u32 (K 0), .int .u32 (K 1), .int .u32 (K 2), .int .u32 (K 3), .int .u32 (K 4), .int .u32 (K 5), .int .u32 (K 6), .int .u64 (K 7), .int .u64 (K 8)] 36)).alloc (.cells #[.int .u64 (E 0), .int .u64 (E 1), .int .u64 (E 2), .int .u32 (E 3)] 38) := ⟨_, rfl⟩
  rw [← hW0] at hf0 he0 hb0
  have HW0 := Lib.hid hW0
  have HB0 := Lib.hid hb0
  obtain ⟨⟨q0, q1, q2, q3, q4, q5, q6, q7, q8⟩, -⟩ := nine_cells hf0
  obtain ⟨⟨e0, e1, e2, e3⟩, -⟩ := env_cells he0
  clear hW0 hf0 he0 hb0
  go_enter Tryd.func8, Tryd.ntmps8
  go_wp2_with fail
  rw [← HW0.out]
  go_wp2_with fail
  refine (HH.out _).mono ?_
  rintro e w' ⟨rfl, hw⟩
  have hw := hw.symm
  subst hw
  go_wp2
  go_ret
  exact ⟨rfl, HB0.out⟩

set_option maxHeartbeats 1600000 in
set_option maxRecDepth 100000 in
theorem rread16_18 (K E : Nat → Int) (w : World) (he : EnvB E) :
    Calls Tryd.prog 8 #[.agg #[.int .u32 (K 0), .int .u32 (K 1), .int .u32 (K 2), .int .u32 (K 3), .int .u32 (K 4), .int .u32 (K 5), .int .u32 (K 6), .int .u64 (K 7), .int .u64 (K 8)], .int .i64 (3202), .agg #[.int .u64 (E 0), .int .u64 (E 1), .int .u64 (E 2), .int .u32 (E 3)]] w fun e w' => e = .returned (.int .u32 (readC K E 18)) ∧ Below w.heap.size w w' := by
  have HH : Hid (∀ W : World, Calls Tryd.prog 22 #[.int .u64 (IntKind.u64.wrap (E 1 + K 8))] W fun e w' => e = .returned (.int .u32 (readC K E 18)) ∧ w' = W) := fun W => by have h := rhigh16_any (nowZ (K 8) (E 1)) W (nowZ_lt _ _).1 (nowZ_lt _ _).2; rwa [← show IntKind.u64.wrap (E 1 + K 8) = nowZ (K 8) (E 1) from by rw [IntKind.wrap_u64]; rfl] at h
  clear he
  generalize hv : readC K E 18 = v at *
  clear hv
  obtain ⟨hf0, he0, hb0⟩ := rbox_fe w K E
  obtain ⟨W0, hW0⟩ : ∃ W0, W0 = (w.alloc (.cells #[.int .u32 (K 0), .int .u32 (K 1), .int .u32 (K 2), .int .u32 (K 3), .int .u32 (K 4), .int .u32 (K 5), .int .u32 (K 6), .int .u64 (K 7), .int .u64 (K 8)] 36)).alloc (.cells #[.int .u64 (E 0), .int .u64 (E 1), .int .u64 (E 2), .int .u32 (E 3)] 38) := ⟨_, rfl⟩
  rw [← hW0] at hf0 he0 hb0
  have HW0 := Lib.hid hW0
  have HB0 := Lib.hid hb0
  obtain ⟨⟨q0, q1, q2, q3, q4, q5, q6, q7, q8⟩, -⟩ := nine_cells hf0
  obtain ⟨⟨e0, e1, e2, e3⟩, -⟩ := env_cells he0
  clear hW0 hf0 he0 hb0
  go_enter Tryd.func8, Tryd.ntmps8
  go_wp2_with fail
  rw [← HW0.out]
  go_wp2_with fail
  refine (HH.out _).mono ?_
  rintro e w' ⟨rfl, hw⟩
  have hw := hw.symm
  subst hw
  go_wp2
  go_ret
  exact ⟨rfl, HB0.out⟩

set_option maxHeartbeats 1600000 in
set_option maxRecDepth 100000 in
theorem rread16_14 (K E : Nat → Int) (w : World) (he : EnvB E) :
    Calls Tryd.prog 8 #[.agg #[.int .u32 (K 0), .int .u32 (K 1), .int .u32 (K 2), .int .u32 (K 3), .int .u32 (K 4), .int .u32 (K 5), .int .u32 (K 6), .int .u64 (K 7), .int .u64 (K 8)], .int .i64 (3073), .agg #[.int .u64 (E 0), .int .u64 (E 1), .int .u64 (E 2), .int .u32 (E 3)]] w fun e w' => e = .returned (.int .u32 (readC K E 14)) ∧ Below w.heap.size w w' := by
  have HH : Hid (∀ W : World, Calls Tryd.prog 21 #[.int .u64 (E 2)] W fun e w' => e = .returned (.int .u32 (readC K E 14)) ∧ w' = W) := fun W => rlow16_any (E 2) W (he.1 2 (by decide)).1
  clear he
  generalize hv : readC K E 14 = v at *
  clear hv
  obtain ⟨hf0, he0, hb0⟩ := rbox_fe w K E
  obtain ⟨W0, hW0⟩ : ∃ W0, W0 = (w.alloc (.cells #[.int .u32 (K 0), .int .u32 (K 1), .int .u32 (K 2), .int .u32 (K 3), .int .u32 (K 4), .int .u32 (K 5), .int .u32 (K 6), .int .u64 (K 7), .int .u64 (K 8)] 36)).alloc (.cells #[.int .u64 (E 0), .int .u64 (E 1), .int .u64 (E 2), .int .u32 (E 3)] 38) := ⟨_, rfl⟩
  rw [← hW0] at hf0 he0 hb0
  have HW0 := Lib.hid hW0
  have HB0 := Lib.hid hb0
  obtain ⟨⟨q0, q1, q2, q3, q4, q5, q6, q7, q8⟩, -⟩ := nine_cells hf0
  obtain ⟨⟨e0, e1, e2, e3⟩, -⟩ := env_cells he0
  clear hW0 hf0 he0 hb0
  go_enter Tryd.func8, Tryd.ntmps8
  go_wp2_with fail
  rw [← HW0.out]
  go_wp2_with fail
  refine (HH.out _).mono ?_
  rintro e w' ⟨rfl, hw⟩
  have hw := hw.symm
  subst hw
  go_wp2
  go_ret
  exact ⟨rfl, HB0.out⟩

set_option maxHeartbeats 1600000 in
set_option maxRecDepth 100000 in
theorem rread16_17 (K E : Nat → Int) (w : World) (he : EnvB E) :
    Calls Tryd.prog 8 #[.agg #[.int .u32 (K 0), .int .u32 (K 1), .int .u32 (K 2), .int .u32 (K 3), .int .u32 (K 4), .int .u32 (K 5), .int .u32 (K 6), .int .u64 (K 7), .int .u64 (K 8)], .int .i64 (3201), .agg #[.int .u64 (E 0), .int .u64 (E 1), .int .u64 (E 2), .int .u32 (E 3)]] w fun e w' => e = .returned (.int .u32 (readC K E 17)) ∧ Below w.heap.size w w' := by
  have HH : Hid (∀ W : World, Calls Tryd.prog 22 #[.int .u64 (E 2)] W fun e w' => e = .returned (.int .u32 (readC K E 17)) ∧ w' = W) := fun W => rhigh16_any (E 2) W (he.1 2 (by decide)).1 (he.1 2 (by decide)).2
  clear he
  generalize hv : readC K E 17 = v at *
  clear hv
  obtain ⟨hf0, he0, hb0⟩ := rbox_fe w K E
  obtain ⟨W0, hW0⟩ : ∃ W0, W0 = (w.alloc (.cells #[.int .u32 (K 0), .int .u32 (K 1), .int .u32 (K 2), .int .u32 (K 3), .int .u32 (K 4), .int .u32 (K 5), .int .u32 (K 6), .int .u64 (K 7), .int .u64 (K 8)] 36)).alloc (.cells #[.int .u64 (E 0), .int .u64 (E 1), .int .u64 (E 2), .int .u32 (E 3)] 38) := ⟨_, rfl⟩
  rw [← hW0] at hf0 he0 hb0
  have HW0 := Lib.hid hW0
  have HB0 := Lib.hid hb0
  obtain ⟨⟨q0, q1, q2, q3, q4, q5, q6, q7, q8⟩, -⟩ := nine_cells hf0
  obtain ⟨⟨e0, e1, e2, e3⟩, -⟩ := env_cells he0
  clear hW0 hf0 he0 hb0
  go_enter Tryd.func8, Tryd.ntmps8
  go_wp2_with fail
  rw [← HW0.out]
  go_wp2_with fail
  refine (HH.out _).mono ?_
  rintro e w' ⟨rfl, hw⟩
  have hw := hw.symm
  subst hw
  go_wp2
  go_ret
  exact ⟨rfl, HB0.out⟩

end Go.Proofs.YtibhlbggnkobeaaDoor
