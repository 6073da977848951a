/- Layer 16: Write, a register a theorem. -/
import Derived.Test.YtibhlbggnkobeaaDoorCsrW
namespace Go.Proofs.YtibhlbggnkobeaaDoor
open Go.RowKit
set_option linter.unusedVariables false
set_option linter.unusedSimpArgs false

set_option maxHeartbeats 3000000 in
set_option maxRecDepth 100000 in
theorem cwrite_7 (K E : Nat → Int) (x : Int) (w : World) (x0 : 0 ≤ x) (x1 : x < 4294967296) (ht : RegTab w) :
    Calls Tryd.prog 13 #[.agg #[.int .u32 (K 0), .int .u32 (K 1), .int .u32 (K 2), .int .u32 (K 3), .int .u32 (K 4), .int .u32 (K 5), .int .u32 (K 6), .int .u64 (K 7), .int .u64 (K 8)], .int .i64 (mnum 7), .int .u32 x, .agg #[.int .u64 (E 0), .int .u64 (E 1), .int .u64 (E 2), .int .u32 (E 3)]] w fun e w' => e = .returned (.tuple #[.agg #[.int .u32 ((writeC K E x 7) 0), .int .u32 ((writeC K E x 7) 1), .int .u32 ((writeC K E x 7) 2), .int .u32 ((writeC K E x 7) 3), .int .u32 ((writeC K E x 7) 4), .int .u32 ((writeC K E x 7) 5), .int .u32 ((writeC K E x 7) 6), .int .u64 ((writeC K E x 7) 7), .int .u64 ((writeC K E x 7) 8)], .int .i64 0]) ∧ Below w.heap.size w w' := by
  have HFIND : Hid (∀ W : World, RegTab W → Calls Tryd.prog 16 #[.int .i64 (mnum 7)] W fun e w' => e = .returned (.tuple #[.agg #[.string (mname 7), .int .u32 (mkept 7), .int .u32 (mfix 7), .bool (false)], .int .i64 0]) ∧ Below W.heap.size W w') := fun W ht => find_yes 7 W (by decide) ht
  have HLEG : Hid (∀ W : World, RegTab W → Calls Tryd.prog 24 #[.int .i64 (mnum 7), .int .u32 x] W fun e w' => e = .returned (.tuple #[.int .u32 (mlegal 7 x), .int .i64 0]) ∧ Below W.heap.size W w') := fun W ht => legal_yes 7 x W (by decide) x0 x1 ht
  have HPL : Hid (∀ (B : Nat) (W : World), Calls Tryd.prog 17 #[.pointer (some ⟨B, 0, none⟩), .string (mname 7)] W fun e w' => e = .returned (.pointer (some ⟨B, 6, none⟩)) ∧ w' = W) := fun B W => place_yes B 7 6 W rfl
  have HT := Lib.hid ht
  have HV0 : Hid (∀ j, writeC K E x 7 j = upd K 6 (mlegal 7 x) j) := fun j => rfl
  generalize writeC K E x 7 = K' at *
  generalize mlegal 7 x = v at *
  clear ht x0 x1
  generalize mnum 7 = c at *
  generalize mname 7 = s at *
  generalize mkept 7 = p at *
  generalize mfix 7 = q at *
  obtain ⟨W0, hW0⟩ : ∃ W0, W0 = (((w.alloc (.cells #[.int .u32 (K 0), .int .u32 (K 1), .int .u32 (K 2), .int .u32 (K 3), .int .u32 (K 4), .int .u32 (K 5), .int .u32 (K 6), .int .u64 (K 7), .int .u64 (K 8)] 27)).alloc (.cells #[.int .u32 (x)] 22)).alloc (.cells #[.int .u64 (E 0), .int .u64 (E 1), .int .u64 (E 2), .int .u32 (E 3)] 29)).alloc (.cells #[.int .u32 0, .int .u32 0, .int .u32 0, .int .u32 0, .int .u32 0, .int .u32 0, .int .u32 0, .int .u64 0, .int .u64 0] 27) := ⟨_, rfl⟩
  have hx0 : Wx w W0 K E x := by rw [hW0]; exact wbox w K E x
  have HW0 := Lib.hid hW0
  have HX0 := Lib.hid hx0
  clear hW0 hx0
  go_enter Tryd.func13, Tryd.ntmps13
  go_wp2_with fail
  rw [← HW0.out]
  refine (HFIND.out W0 (HT.out.on HX0.out.2.2.2.2)).mono ?_
  rintro e w1 ⟨rfl, hb1⟩
  obtain ⟨hr, hb2⟩ := box_reg w1 s p q false
  obtain ⟨U, hU⟩ : ∃ U, U = w1.alloc (.cells #[.string s, .int .u32 p, .int .u32 q, .bool false] 51) := ⟨_, rfl⟩
  rw [← hU] at hr hb2
  have hx1 := HX0.out.on hb1
  have hlt : w.heap.size + 1 + 1 + 1 < w1.heap.size := heap_lt hx1.2.2.2.1
  have HX1 := Lib.hid (hx1.on hb2)
  have HR1 := Lib.hid hr
  have HU := Lib.hid hU
  have HLT := Lib.hid hlt
  obtain ⟨x0, -⟩ := one_cell HX1.out.2.1
  rw [hU] at x0
  clear hb1 hb2 hr hU hlt hx1
  go_wp2_with fail
  rw [← HU.out]
  clear x0
  refine (HLEG.out _ (HT.out.on HX1.out.2.2.2.2)).mono ?_
  rintro e w2 ⟨rfl, hb⟩
  have hx2 := HX1.out.on hb
  have hr2 := heap_on HR1.out hb
  obtain ⟨V, hV⟩ : ∃ V, V = w2.setCell ⟨w.heap.size + 1, 0, none⟩ (.int .u32 v) := ⟨_, rfl⟩
  have hx3 : Wx w V K E v := by rw [hV]; exact hx2.set1 v
  have hr3 : IsReg V w1.heap.size s p q false := by
    have := HLT.out
    unfold IsReg
    rw [hV, (Bar.setCell _ _ _ _).2.2.2.2 w1.heap.size (heap_lt hr2) (by omega)]; exact hr2
  obtain ⟨x2, y2⟩ := one_cell hx2.2.1
  have HV := Lib.hid hV
  have HX3 := Lib.hid hx3
  clear hx2 hr2 hV hx3 hb
  obtain ⟨r0, -⟩ := reg_cells hr3
  rw [HV.out] at r0
  go_wp2_with fail
  rw [← HV.out]
  clear r0 x2 y2
  obtain ⟨r0, r1, r2, r3⟩ := reg_cells hr3
  clear hr3
  obtain ⟨x2, y2⟩ := one_cell HX3.out.2.1
  refine (HPL.out w.heap.size _).mono ?_
  rintro e w' ⟨rfl, hw⟩
  have hw := hw.symm
  subst hw
  obtain ⟨⟨q0, q1, q2, q3, q4, q5, q6, q7, q8⟩, hz⟩ := nine_cells HX3.out.1
  have z0 := hz 0; have z1 := hz 1; have z2 := hz 2; have z3 := hz 3; have z4 := hz 4; have z5 := hz 5; have z6 := hz 6; have z7 := hz 7; have z8 := hz 8
  clear hz
  obtain ⟨⟨t0, t1, t2, t3, t4, t5, t6, t7, t8⟩, hz⟩ := nine_cells HX3.out.2.2.2.1
  have o0 := hz 0; have o1 := hz 1; have o2 := hz 2; have o3 := hz 3; have o4 := hz 4; have o5 := hz 5; have o6 := hz 6; have o7 := hz 7; have o8 := hz 8
  clear hz
  go_wp2
  refine bodyPost_ret (v := .tuple #[.agg #[.int .u32 (K' 0), .int .u32 (K' 1), .int .u32 (K' 2), .int .u32 (K' 3), .int .u32 (K' 4), .int .u32 (K' 5), .int .u32 (K' 6), .int .u64 (K' 7), .int .u64 (K' 8)], .int .i64 0]) (by simp [results, Tryd.results13, go_sem, t0, t1, t2, t3, t4, t5, t6, t7, t8, HV0.out, upd]) rfl ?_
  exact ⟨rfl, end9 (by omega) _ _ _ _ _ _ _ _ _ (end1 _ _ HX3.out.2.2.2.2)⟩

set_option maxHeartbeats 3000000 in
set_option maxRecDepth 100000 in
theorem cwrite_1 (K E : Nat → Int) (x : Int) (w : World) (x0 : 0 ≤ x) (x1 : x < 4294967296) (ht : RegTab w) :
    Calls Tryd.prog 13 #[.agg #[.int .u32 (K 0), .int .u32 (K 1), .int .u32 (K 2), .int .u32 (K 3), .int .u32 (K 4), .int .u32 (K 5), .int .u32 (K 6), .int .u64 (K 7), .int .u64 (K 8)], .int .i64 (mnum 1), .int .u32 x, .agg #[.int .u64 (E 0), .int .u64 (E 1), .int .u64 (E 2), .int .u32 (E 3)]] w fun e w' => e = .returned (.tuple #[.agg #[.int .u32 ((writeC K E x 1) 0), .int .u32 ((writeC K E x 1) 1), .int .u32 ((writeC K E x 1) 2), .int .u32 ((writeC K E x 1) 3), .int .u32 ((writeC K E x 1) 4), .int .u32 ((writeC K E x 1) 5), .int .u32 ((writeC K E x 1) 6), .int .u64 ((writeC K E x 1) 7), .int .u64 ((writeC K E x 1) 8)], .int .i64 0]) ∧ Below w.heap.size w w' := by
  have HFIND : Hid (∀ W : World, RegTab W → Calls Tryd.prog 16 #[.int .i64 (mnum 1)] W fun e w' => e = .returned (.tuple #[.agg #[.string (mname 1), .int .u32 (mkept 1), .int .u32 (mfix 1), .bool (false)], .int .i64 0]) ∧ Below W.heap.size W w') := fun W ht => find_yes 1 W (by decide) ht
  have HLEG : Hid (∀ W : World, RegTab W → Calls Tryd.prog 24 #[.int .i64 (mnum 1), .int .u32 x] W fun e w' => e = .returned (.tuple #[.int .u32 (mlegal 1 x), .int .i64 0]) ∧ Below W.heap.size W w') := fun W ht => legal_yes 1 x W (by decide) x0 x1 ht
  have HPL : Hid (∀ (B : Nat) (W : World), Calls Tryd.prog 17 #[.pointer (some ⟨B, 0, none⟩), .string (mname 1)] W fun e w' => e = .returned (.pointer none) ∧ w' = W) := fun B W => place_no B 1 W (by decide) rfl
  have n9 := name_ne_of (k := 1) (j := 9) (by decide) (by decide) (by decide) (c := [109, 99, 121, 99, 108, 101]) rfl
  have n11 := name_ne_of (k := 1) (j := 11) (by decide) (by decide) (by decide) (c := [109, 99, 121, 99, 108, 101, 104]) rfl
  have n10 := name_ne_of (k := 1) (j := 10) (by decide) (by decide) (by decide) (c := [109, 105, 110, 115, 116, 114, 101, 116]) rfl
  have n12 := name_ne_of (k := 1) (j := 12) (by decide) (by decide) (by decide) (c := [109, 105, 110, 115, 116, 114, 101, 116, 104]) rfl
  have HT := Lib.hid ht
  have HV0 : Hid (∀ j, writeC K E x 1 j = K j) := fun j => rfl
  generalize writeC K E x 1 = K' at *
  generalize mlegal 1 x = v at *
  clear ht x0 x1
  generalize mnum 1 = c at *
  generalize mname 1 = s at *
  generalize mkept 1 = p at *
  generalize mfix 1 = q at *
  obtain ⟨W0, hW0⟩ : ∃ W0, W0 = (((w.alloc (.cells #[.int .u32 (K 0), .int .u32 (K 1), .int .u32 (K 2), .int .u32 (K 3), .int .u32 (K 4), .int .u32 (K 5), .int .u32 (K 6), .int .u64 (K 7), .int .u64 (K 8)] 27)).alloc (.cells #[.int .u32 (x)] 22)).alloc (.cells #[.int .u64 (E 0), .int .u64 (E 1), .int .u64 (E 2), .int .u32 (E 3)] 29)).alloc (.cells #[.int .u32 0, .int .u32 0, .int .u32 0, .int .u32 0, .int .u32 0, .int .u32 0, .int .u32 0, .int .u64 0, .int .u64 0] 27) := ⟨_, rfl⟩
  have hx0 : Wx w W0 K E x := by rw [hW0]; exact wbox w K E x
  have HW0 := Lib.hid hW0
  have HX0 := Lib.hid hx0
  clear hW0 hx0
  go_enter Tryd.func13, Tryd.ntmps13
  go_wp2_with fail
  rw [← HW0.out]
  refine (HFIND.out W0 (HT.out.on HX0.out.2.2.2.2)).mono ?_
  rintro e w1 ⟨rfl, hb1⟩
  obtain ⟨hr, hb2⟩ := box_reg w1 s p q false
  obtain ⟨U, hU⟩ : ∃ U, U = w1.alloc (.cells #[.string s, .int .u32 p, .int .u32 q, .bool false] 51) := ⟨_, rfl⟩
  rw [← hU] at hr hb2
  have hx1 := HX0.out.on hb1
  have hlt : w.heap.size + 1 + 1 + 1 < w1.heap.size := heap_lt hx1.2.2.2.1
  have HX1 := Lib.hid (hx1.on hb2)
  have HR1 := Lib.hid hr
  have HU := Lib.hid hU
  have HLT := Lib.hid hlt
  obtain ⟨x0, -⟩ := one_cell HX1.out.2.1
  rw [hU] at x0
  clear hb1 hb2 hr hU hlt hx1
  go_wp2_with fail
  rw [← HU.out]
  clear x0
  refine (HLEG.out _ (HT.out.on HX1.out.2.2.2.2)).mono ?_
  rintro e w2 ⟨rfl, hb⟩
  have hx2 := HX1.out.on hb
  have hr2 := heap_on HR1.out hb
  obtain ⟨V, hV⟩ : ∃ V, V = w2.setCell ⟨w.heap.size + 1, 0, none⟩ (.int .u32 v) := ⟨_, rfl⟩
  have hx3 : Wx w V K E v := by rw [hV]; exact hx2.set1 v
  have hr3 : IsReg V w1.heap.size s p q false := by
    have := HLT.out
    unfold IsReg
    rw [hV, (Bar.setCell _ _ _ _).2.2.2.2 w1.heap.size (heap_lt hr2) (by omega)]; exact hr2
  obtain ⟨x2, y2⟩ := one_cell hx2.2.1
  have HV := Lib.hid hV
  have HX3 := Lib.hid hx3
  clear hx2 hr2 hV hx3 hb
  obtain ⟨r0, -⟩ := reg_cells hr3
  rw [HV.out] at r0
  go_wp2_with fail
  rw [← HV.out]
  clear r0 x2 y2
  obtain ⟨r0, r1, r2, r3⟩ := reg_cells hr3
  clear hr3
  obtain ⟨x2, y2⟩ := one_cell HX3.out.2.1
  refine (HPL.out w.heap.size _).mono ?_
  rintro e w' ⟨rfl, hw⟩
  have hw := hw.symm
  subst hw
  obtain ⟨⟨q0, q1, q2, q3, q4, q5, q6, q7, q8⟩, hz⟩ := nine_cells HX3.out.1
  have z0 := hz 0; have z1 := hz 1; have z2 := hz 2; have z3 := hz 3; have z4 := hz 4; have z5 := hz 5; have z6 := hz 6; have z7 := hz 7; have z8 := hz 8
  clear hz
  obtain ⟨⟨t0, t1, t2, t3, t4, t5, t6, t7, t8⟩, hz⟩ := nine_cells HX3.out.2.2.2.1
  have o0 := hz 0; have o1 := hz 1; have o2 := hz 2; have o3 := hz 3; have o4 := hz 4; have o5 := hz 5; have o6 := hz 6; have o7 := hz 7; have o8 := hz 8
  clear hz
  go_wp2
  refine bodyPost_ret (v := .tuple #[.agg #[.int .u32 (K' 0), .int .u32 (K' 1), .int .u32 (K' 2), .int .u32 (K' 3), .int .u32 (K' 4), .int .u32 (K' 5), .int .u32 (K' 6), .int .u64 (K' 7), .int .u64 (K' 8)], .int .i64 0]) (by simp [results, Tryd.results13, go_sem, t0, t1, t2, t3, t4, t5, t6, t7, t8, HV0.out]) rfl ?_
  exact ⟨rfl, end9 (by omega) _ _ _ _ _ _ _ _ _ HX3.out.2.2.2.2⟩

set_option maxHeartbeats 3000000 in
set_option maxRecDepth 100000 in
theorem cwrite_8 (K E : Nat → Int) (x : Int) (w : World) (x0 : 0 ≤ x) (x1 : x < 4294967296) (ht : RegTab w) :
    Calls Tryd.prog 13 #[.agg #[.int .u32 (K 0), .int .u32 (K 1), .int .u32 (K 2), .int .u32 (K 3), .int .u32 (K 4), .int .u32 (K 5), .int .u32 (K 6), .int .u64 (K 7), .int .u64 (K 8)], .int .i64 (mnum 8), .int .u32 x, .agg #[.int .u64 (E 0), .int .u64 (E 1), .int .u64 (E 2), .int .u32 (E 3)]] w fun e w' => e = .returned (.tuple #[.agg #[.int .u32 ((writeC K E x 8) 0), .int .u32 ((writeC K E x 8) 1), .int .u32 ((writeC K E x 8) 2), .int .u32 ((writeC K E x 8) 3), .int .u32 ((writeC K E x 8) 4), .int .u32 ((writeC K E x 8) 5), .int .u32 ((writeC K E x 8) 6), .int .u64 ((writeC K E x 8) 7), .int .u64 ((writeC K E x 8) 8)], .int .i64 0]) ∧ Below w.heap.size w w' := by
  have HFIND : Hid (∀ W : World, RegTab W → Calls Tryd.prog 16 #[.int .i64 (mnum 8)] W fun e w' => e = .returned (.tuple #[.agg #[.string (mname 8), .int .u32 (mkept 8), .int .u32 (mfix 8), .bool (false)], .int .i64 0]) ∧ Below W.heap.size W w') := fun W ht => find_yes 8 W (by decide) ht
  have HLEG : Hid (∀ W : World, RegTab W → Calls Tryd.prog 24 #[.int .i64 (mnum 8), .int .u32 x] W fun e w' => e = .returned (.tuple #[.int .u32 (mlegal 8 x), .int .i64 0]) ∧ Below W.heap.size W w') := fun W ht => legal_yes 8 x W (by decide) x0 x1 ht
  have HPL : Hid (∀ (B : Nat) (W : World), Calls Tryd.prog 17 #[.pointer (some ⟨B, 0, none⟩), .string (mname 8)] W fun e w' => e = .returned (.pointer none) ∧ w' = W) := fun B W => place_no B 8 W (by decide) rfl
  have n9 := name_ne_of (k := 8) (j := 9) (by decide) (by decide) (by decide) (c := [109, 99, 121, 99, 108, 101]) rfl
  have n11 := name_ne_of (k := 8) (j := 11) (by decide) (by decide) (by decide) (c := [109, 99, 121, 99, 108, 101, 104]) rfl
  have n10 := name_ne_of (k := 8) (j := 10) (by decide) (by decide) (by decide) (c := [109, 105, 110, 115, 116, 114, 101, 116]) rfl
  have n12 := name_ne_of (k := 8) (j := 12) (by decide) (by decide) (by decide) (c := [109, 105, 110, 115, 116, 114, 101, 116, 104]) rfl
  have HT := Lib.hid ht
  have HV0 : Hid (∀ j, writeC K E x 8 j = K j) := fun j => rfl
  generalize writeC K E x 8 = K' at *
  generalize mlegal 8 x = v at *
  clear ht x0 x1
  generalize mnum 8 = c at *
  generalize mname 8 = s at *
  generalize mkept 8 = p at *
  generalize mfix 8 = q at *
  obtain ⟨W0, hW0⟩ : ∃ W0, W0 = (((w.alloc (.cells #[.int .u32 (K 0), .int .u32 (K 1), .int .u32 (K 2), .int .u32 (K 3), .int .u32 (K 4), .int .u32 (K 5), .int .u32 (K 6), .int .u64 (K 7), .int .u64 (K 8)] 27)).alloc (.cells #[.int .u32 (x)] 22)).alloc (.cells #[.int .u64 (E 0), .int .u64 (E 1), .int .u64 (E 2), .int .u32 (E 3)] 29)).alloc (.cells #[.int .u32 0, .int .u32 0, .int .u32 0, .int .u32 0, .int .u32 0, .int .u32 0, .int .u32 0, .int .u64 0, .int .u64 0] 27) := ⟨_, rfl⟩
  have hx0 : Wx w W0 K E x := by rw [hW0]; exact wbox w K E x
  have HW0 := Lib.hid hW0
  have HX0 := Lib.hid hx0
  clear hW0 hx0
  go_enter Tryd.func13, Tryd.ntmps13
  go_wp2_with fail
  rw [← HW0.out]
  refine (HFIND.out W0 (HT.out.on HX0.out.2.2.2.2)).mono ?_
  rintro e w1 ⟨rfl, hb1⟩
  obtain ⟨hr, hb2⟩ := box_reg w1 s p q false
  obtain ⟨U, hU⟩ : ∃ U, U = w1.alloc (.cells #[.string s, .int .u32 p, .int .u32 q, .bool false] 51) := ⟨_, rfl⟩
  rw [← hU] at hr hb2
  have hx1 := HX0.out.on hb1
  have hlt : w.heap.size + 1 + 1 + 1 < w1.heap.size := heap_lt hx1.2.2.2.1
  have HX1 := Lib.hid (hx1.on hb2)
  have HR1 := Lib.hid hr
  have HU := Lib.hid hU
  have HLT := Lib.hid hlt
  obtain ⟨x0, -⟩ := one_cell HX1.out.2.1
  rw [hU] at x0
  clear hb1 hb2 hr hU hlt hx1
  go_wp2_with fail
  rw [← HU.out]
  clear x0
  refine (HLEG.out _ (HT.out.on HX1.out.2.2.2.2)).mono ?_
  rintro e w2 ⟨rfl, hb⟩
  have hx2 := HX1.out.on hb
  have hr2 := heap_on HR1.out hb
  obtain ⟨V, hV⟩ : ∃ V, V = w2.setCell ⟨w.heap.size + 1, 0, none⟩ (.int .u32 v) := ⟨_, rfl⟩
  have hx3 : Wx w V K E v := by rw [hV]; exact hx2.set1 v
  have hr3 : IsReg V w1.heap.size s p q false := by
    have := HLT.out
    unfold IsReg
    rw [hV, (Bar.setCell _ _ _ _).2.2.2.2 w1.heap.size (heap_lt hr2) (by omega)]; exact hr2
  obtain ⟨x2, y2⟩ := one_cell hx2.2.1
  have HV := Lib.hid hV
  have HX3 := Lib.hid hx3
  clear hx2 hr2 hV hx3 hb
  obtain ⟨r0, -⟩ := reg_cells hr3
  rw [HV.out] at r0
  go_wp2_with fail
  rw [← HV.out]
  clear r0 x2 y2
  obtain ⟨r0, r1, r2, r3⟩ := reg_cells hr3
  clear hr3
  obtain ⟨x2, y2⟩ := one_cell HX3.out.2.1
  refine (HPL.out w.heap.size _).mono ?_
  rintro e w' ⟨rfl, hw⟩
  have hw := hw.symm
  subst hw
  obtain ⟨⟨q0, q1, q2, q3, q4, q5, q6, q7, q8⟩, hz⟩ := nine_cells HX3.out.1
  have z0 := hz 0; have z1 := hz 1; have z2 := hz 2; have z3 := hz 3; have z4 := hz 4; have z5 := hz 5; have z6 := hz 6; have z7 := hz 7; have z8 := hz 8
  clear hz
  obtain ⟨⟨t0, t1, t2, t3, t4, t5, t6, t7, t8⟩, hz⟩ := nine_cells HX3.out.2.2.2.1
  have o0 := hz 0; have o1 := hz 1; have o2 := hz 2; have o3 := hz 3; have o4 := hz 4; have o5 := hz 5; have o6 := hz 6; have o7 := hz 7; have o8 := hz 8
  clear hz
  go_wp2
  refine bodyPost_ret (v := .tuple #[.agg #[.int .u32 (K' 0), .int .u32 (K' 1), .int .u32 (K' 2), .int .u32 (K' 3), .int .u32 (K' 4), .int .u32 (K' 5), .int .u32 (K' 6), .int .u64 (K' 7), .int .u64 (K' 8)], .int .i64 0]) (by simp [results, Tryd.results13, go_sem, t0, t1, t2, t3, t4, t5, t6, t7, t8, HV0.out]) rfl ?_
  exact ⟨rfl, end9 (by omega) _ _ _ _ _ _ _ _ _ HX3.out.2.2.2.2⟩

end Go.Proofs.YtibhlbggnkobeaaDoor
