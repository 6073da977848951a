/- Layer 16, the document's side: Write, a register a theorem. -/
import Derived.Test.YtibhlbggnkobeaaDoorCsrRW
namespace Go.Proofs.YtibhlbggnkobeaaDoor
open Go.RowKit
set_option linter.unusedVariables false
set_option linter.unusedSimpArgs false

set_option maxHeartbeats 3000000 in
set_option maxRecDepth 100000 in
theorem rwrite16_7 (K E : Nat → Int) (x : Int) (w : World) (x0 : 0 ≤ x) (x1 : x < 4294967296) :
    Calls Tryd.prog 15 #[.agg #[.int .u32 (K 0), .int .u32 (K 1), .int .u32 (K 2), .int .u32 (K 3), .int .u32 (K 4), .int .u32 (K 5), .int .u32 (K 6), .int .u64 (K 7), .int .u64 (K 8)], .int .i64 835, .int .u32 x, .agg #[.int .u64 (E 0), .int .u64 (E 1), .int .u64 (E 2), .int .u32 (E 3)]] w fun e w' => e = .returned (.agg #[.int .u32 ((writeC K E x 7) 0), .int .u32 ((writeC K E x 7) 1), .int .u32 ((writeC K E x 7) 2), .int .u32 ((writeC K E x 7) 3), .int .u32 ((writeC K E x 7) 4), .int .u32 ((writeC K E x 7) 5), .int .u32 ((writeC K E x 7) 6), .int .u64 ((writeC K E x 7) 7), .int .u64 ((writeC K E x 7) 8)]) ∧ Below w.heap.size w w' := by
  have HLEG : Hid (∀ W : World, Calls Tryd.prog 26 #[.int .i64 835, .int .u32 x] W fun e w' => e = .returned (.int .u32 (mlegal 7 x)) ∧ Below W.heap.size W w') := fun W => rlegal_yes 7 x W (by decide) x0 x1
  have HV0 : Hid (∀ j, writeC K E x 7 j = upd K 6 (mlegal 7 x) j) := fun j => rfl
  generalize writeC K E x 7 = K' at *
  generalize mlegal 7 x = v at *
  have HXB : Hid (0 ≤ x ∧ x < 4294967296) := ⟨x0, x1⟩
  have HN7 : Hid _ := nowZ_lt (K 7) (E 0)
  have HN8 : Hid _ := nowZ_lt (K 8) (E 1)
  have g7 : IntKind.u64.wrap (E 0 + K 7) = nowZ (K 7) (E 0) := by rw [IntKind.wrap_u64]; rfl
  have g8 : IntKind.u64.wrap (E 1 + K 8) = nowZ (K 8) (E 1) := by rw [IntKind.wrap_u64]; rfl
  obtain ⟨W0, hW0⟩ : ∃ W0, W0 = ((w.alloc (.cells #[.int .u32 (K 0), .int .u32 (K 1), .int .u32 (K 2), .int .u32 (K 3), .int .u32 (K 4), .int .u32 (K 5), .int .u32 (K 6), .int .u64 (K 7), .int .u64 (K 8)] 36)).alloc (.cells #[.int .u64 (E 0), .int .u64 (E 1), .int .u64 (E 2), .int .u32 (E 3)] 38)).alloc (.cells #[.int .u32 0, .int .u32 0, .int .u32 0, .int .u32 0, .int .u32 0, .int .u32 0, .int .u32 0, .int .u64 0, .int .u64 0] 36) := ⟨_, rfl⟩
  have hx0 : RWx w W0 K E := by rw [hW0]; exact rwbox w K E
  have HW0 := Lib.hid hW0
  have HX0 := Lib.hid hx0
  clear hW0 hx0
  go_enter Tryd.func15, Tryd.ntmps15
  go_wp2_with fail
  rw [← HW0.out]
  refine (HLEG.out _).mono ?_
  rintro e w1 ⟨rfl, hb⟩
  have HX1 := Lib.hid (HX0.out.on hb)
  clear hb
  obtain ⟨⟨q0, q1, q2, q3, q4, q5, q6, q7, q8⟩, hz⟩ := nine_cells HX1.out.1
  have z0 := hz 0; have z1 := hz 1; have z2 := hz 2; have z3 := hz 3; have z4 := hz 4; have z5 := hz 5; have z6 := hz 6; have z7 := hz 7; have z8 := hz 8
  clear hz
  obtain ⟨⟨t0, t1, t2, t3, t4, t5, t6, t7, t8⟩, hz⟩ := nine_cells HX1.out.2.2.1
  have o0 := hz 0; have o1 := hz 1; have o2 := hz 2; have o3 := hz 3; have o4 := hz 4; have o5 := hz 5; have o6 := hz 6; have o7 := hz 7; have o8 := hz 8
  clear hz
  obtain ⟨⟨e0, e1, e2, e3⟩, -⟩ := env_cells HX1.out.2.1
  go_wp2
  refine bodyPost_ret (v := .agg #[.int .u32 (K' 0), .int .u32 (K' 1), .int .u32 (K' 2), .int .u32 (K' 3), .int .u32 (K' 4), .int .u32 (K' 5), .int .u32 (K' 6), .int .u64 (K' 7), .int .u64 (K' 8)]) (by simp [results, Tryd.results15, go_sem, t0, t1, t2, t3, t4, t5, t6, t7, t8, HV0.out, upd]) rfl ?_
  exact ⟨rfl, end9 (by omega) _ _ _ _ _ _ _ _ _ (end1 _ _ HX1.out.2.2.2)⟩

set_option maxHeartbeats 3000000 in
set_option maxRecDepth 100000 in
theorem rwrite16_1 (K E : Nat → Int) (x : Int) (w : World) (x0 : 0 ≤ x) (x1 : x < 4294967296) :
    Calls Tryd.prog 15 #[.agg #[.int .u32 (K 0), .int .u32 (K 1), .int .u32 (K 2), .int .u32 (K 3), .int .u32 (K 4), .int .u32 (K 5), .int .u32 (K 6), .int .u64 (K 7), .int .u64 (K 8)], .int .i64 769, .int .u32 x, .agg #[.int .u64 (E 0), .int .u64 (E 1), .int .u64 (E 2), .int .u32 (E 3)]] w fun e w' => e = .returned (.agg #[.int .u32 ((writeC K E x 1) 0), .int .u32 ((writeC K E x 1) 1), .int .u32 ((writeC K E x 1) 2), .int .u32 ((writeC K E x 1) 3), .int .u32 ((writeC K E x 1) 4), .int .u32 ((writeC K E x 1) 5), .int .u32 ((writeC K E x 1) 6), .int .u64 ((writeC K E x 1) 7), .int .u64 ((writeC K E x 1) 8)]) ∧ Below w.heap.size w w' := by
  have HLEG : Hid (∀ W : World, Calls Tryd.prog 26 #[.int .i64 769, .int .u32 x] W fun e w' => e = .returned (.int .u32 (mlegal 1 x)) ∧ Below W.heap.size W w') := fun W => rlegal_yes 1 x W (by decide) x0 x1
  have HV0 : Hid (∀ j, writeC K E x 1 j = K j) := fun j => rfl
  generalize writeC K E x 1 = K' at *
  generalize mlegal 1 x = v at *
  have HXB : Hid (0 ≤ x ∧ x < 4294967296) := ⟨x0, x1⟩
  have HN7 : Hid _ := nowZ_lt (K 7) (E 0)
  have HN8 : Hid _ := nowZ_lt (K 8) (E 1)
  have g7 : IntKind.u64.wrap (E 0 + K 7) = nowZ (K 7) (E 0) := by rw [IntKind.wrap_u64]; rfl
  have g8 : IntKind.u64.wrap (E 1 + K 8) = nowZ (K 8) (E 1) := by rw [IntKind.wrap_u64]; rfl
  obtain ⟨W0, hW0⟩ : ∃ W0, W0 = ((w.alloc (.cells #[.int .u32 (K 0), .int .u32 (K 1), .int .u32 (K 2), .int .u32 (K 3), .int .u32 (K 4), .int .u32 (K 5), .int .u32 (K 6), .int .u64 (K 7), .int .u64 (K 8)] 36)).alloc (.cells #[.int .u64 (E 0), .int .u64 (E 1), .int .u64 (E 2), .int .u32 (E 3)] 38)).alloc (.cells #[.int .u32 0, .int .u32 0, .int .u32 0, .int .u32 0, .int .u32 0, .int .u32 0, .int .u32 0, .int .u64 0, .int .u64 0] 36) := ⟨_, rfl⟩
  have hx0 : RWx w W0 K E := by rw [hW0]; exact rwbox w K E
  have HW0 := Lib.hid hW0
  have HX0 := Lib.hid hx0
  clear hW0 hx0
  go_enter Tryd.func15, Tryd.ntmps15
  go_wp2_with fail
  rw [← HW0.out]
  refine (HLEG.out _).mono ?_
  rintro e w1 ⟨rfl, hb⟩
  have HX1 := Lib.hid (HX0.out.on hb)
  clear hb
  obtain ⟨⟨q0, q1, q2, q3, q4, q5, q6, q7, q8⟩, hz⟩ := nine_cells HX1.out.1
  have z0 := hz 0; have z1 := hz 1; have z2 := hz 2; have z3 := hz 3; have z4 := hz 4; have z5 := hz 5; have z6 := hz 6; have z7 := hz 7; have z8 := hz 8
  clear hz
  obtain ⟨⟨t0, t1, t2, t3, t4, t5, t6, t7, t8⟩, hz⟩ := nine_cells HX1.out.2.2.1
  have o0 := hz 0; have o1 := hz 1; have o2 := hz 2; have o3 := hz 3; have o4 := hz 4; have o5 := hz 5; have o6 := hz 6; have o7 := hz 7; have o8 := hz 8
  clear hz
  obtain ⟨⟨e0, e1, e2, e3⟩, -⟩ := env_cells HX1.out.2.1
  go_wp2
  refine bodyPost_ret (v := .agg #[.int .u32 (K' 0), .int .u32 (K' 1), .int .u32 (K' 2), .int .u32 (K' 3), .int .u32 (K' 4), .int .u32 (K' 5), .int .u32 (K' 6), .int .u64 (K' 7), .int .u64 (K' 8)]) (by simp [results, Tryd.results15, go_sem, t0, t1, t2, t3, t4, t5, t6, t7, t8, HV0.out]) rfl ?_
  exact ⟨rfl, end9 (by omega) _ _ _ _ _ _ _ _ _ HX1.out.2.2.2⟩

set_option maxHeartbeats 3000000 in
set_option maxRecDepth 100000 in
theorem rwrite16_8 (K E : Nat → Int) (x : Int) (w : World) (x0 : 0 ≤ x) (x1 : x < 4294967296) :
    Calls Tryd.prog 15 #[.agg #[.int .u32 (K 0), .int .u32 (K 1), .int .u32 (K 2), .int .u32 (K 3), .int .u32 (K 4), .int .u32 (K 5), .int .u32 (K 6), .int .u64 (K 7), .int .u64 (K 8)], .int .i64 836, .int .u32 x, .agg #[.int .u64 (E 0), .int .u64 (E 1), .int .u64 (E 2), .int .u32 (E 3)]] w fun e w' => e = .returned (.agg #[.int .u32 ((writeC K E x 8) 0), .int .u32 ((writeC K E x 8) 1), .int .u32 ((writeC K E x 8) 2), .int .u32 ((writeC K E x 8) 3), .int .u32 ((writeC K E x 8) 4), .int .u32 ((writeC K E x 8) 5), .int .u32 ((writeC K E x 8) 6), .int .u64 ((writeC K E x 8) 7), .int .u64 ((writeC K E x 8) 8)]) ∧ Below w.heap.size w w' := by
  have HLEG : Hid (∀ W : World, Calls Tryd.prog 26 #[.int .i64 836, .int .u32 x] W fun e w' => e = .returned (.int .u32 (mlegal 8 x)) ∧ Below W.heap.size W w') := fun W => rlegal_yes 8 x W (by decide) x0 x1
  have HV0 : Hid (∀ j, writeC K E x 8 j = K j) := fun j => rfl
  generalize writeC K E x 8 = K' at *
  generalize mlegal 8 x = v at *
  have HXB : Hid (0 ≤ x ∧ x < 4294967296) := ⟨x0, x1⟩
  have HN7 : Hid _ := nowZ_lt (K 7) (E 0)
  have HN8 : Hid _ := nowZ_lt (K 8) (E 1)
  have g7 : IntKind.u64.wrap (E 0 + K 7) = nowZ (K 7) (E 0) := by rw [IntKind.wrap_u64]; rfl
  have g8 : IntKind.u64.wrap (E 1 + K 8) = nowZ (K 8) (E 1) := by rw [IntKind.wrap_u64]; rfl
  obtain ⟨W0, hW0⟩ : ∃ W0, W0 = ((w.alloc (.cells #[.int .u32 (K 0), .int .u32 (K 1), .int .u32 (K 2), .int .u32 (K 3), .int .u32 (K 4), .int .u32 (K 5), .int .u32 (K 6), .int .u64 (K 7), .int .u64 (K 8)] 36)).alloc (.cells #[.int .u64 (E 0), .int .u64 (E 1), .int .u64 (E 2), .int .u32 (E 3)] 38)).alloc (.cells #[.int .u32 0, .int .u32 0, .int .u32 0, .int .u32 0, .int .u32 0, .int .u32 0, .int .u32 0, .int .u64 0, .int .u64 0] 36) := ⟨_, rfl⟩
  have hx0 : RWx w W0 K E := by rw [hW0]; exact rwbox w K E
  have HW0 := Lib.hid hW0
  have HX0 := Lib.hid hx0
  clear hW0 hx0
  go_enter Tryd.func15, Tryd.ntmps15
  go_wp2_with fail
  rw [← HW0.out]
  refine (HLEG.out _).mono ?_
  rintro e w1 ⟨rfl, hb⟩
  have HX1 := Lib.hid (HX0.out.on hb)
  clear hb
  obtain ⟨⟨q0, q1, q2, q3, q4, q5, q6, q7, q8⟩, hz⟩ := nine_cells HX1.out.1
  have z0 := hz 0; have z1 := hz 1; have z2 := hz 2; have z3 := hz 3; have z4 := hz 4; have z5 := hz 5; have z6 := hz 6; have z7 := hz 7; have z8 := hz 8
  clear hz
  obtain ⟨⟨t0, t1, t2, t3, t4, t5, t6, t7, t8⟩, hz⟩ := nine_cells HX1.out.2.2.1
  have o0 := hz 0; have o1 := hz 1; have o2 := hz 2; have o3 := hz 3; have o4 := hz 4; have o5 := hz 5; have o6 := hz 6; have o7 := hz 7; have o8 := hz 8
  clear hz
  obtain ⟨⟨e0, e1, e2, e3⟩, -⟩ := env_cells HX1.out.2.1
  go_wp2
  refine bodyPost_ret (v := .agg #[.int .u32 (K' 0), .int .u32 (K' 1), .int .u32 (K' 2), .int .u32 (K' 3), .int .u32 (K' 4), .int .u32 (K' 5), .int .u32 (K' 6), .int .u64 (K' 7), .int .u64 (K' 8)]) (by simp [results, Tryd.results15, go_sem, t0, t1, t2, t3, t4, t5, t6, t7, t8, HV0.out]) rfl ?_
  exact ⟨rfl, end9 (by omega) _ _ _ _ _ _ _ _ _ HX1.out.2.2.2⟩

end Go.Proofs.YtibhlbggnkobeaaDoor
