/- Layer 16: Write, a register a theorem. -/
import Derived.Test.YtibhlbggnkobeaaDoorCsrW
namespace Go.Proofs.YtibhlbggnkobeaaDoor
open Go.RowKit
set_option linter.unusedVariables false
set_option linter.unusedSimpArgs false

set_option maxHeartbeats 3000000 in
set_option maxRecDepth 100000 in
theorem cwrite_11 (K E : Nat → Int) (x : Int) (w : World) (x0 : 0 ≤ x) (x1 : x < 4294967296) (ht : RegTab w) :
    Calls Tryd.prog 13 #[.agg #[.int .u32 (K 0), .int .u32 (K 1), .int .u32 (K 2), .int .u32 (K 3), .int .u32 (K 4), .int .u32 (K 5), .int .u32 (K 6), .int .u64 (K 7), .int .u64 (K 8)], .int .i64 (mnum 11), .int .u32 x, .agg #[.int .u64 (E 0), .int .u64 (E 1), .int .u64 (E 2), .int .u32 (E 3)]] w fun e w' => e = .returned (.tuple #[.agg #[.int .u32 ((writeC K E x 11) 0), .int .u32 ((writeC K E x 11) 1), .int .u32 ((writeC K E x 11) 2), .int .u32 ((writeC K E x 11) 3), .int .u32 ((writeC K E x 11) 4), .int .u32 ((writeC K E x 11) 5), .int .u32 ((writeC K E x 11) 6), .int .u64 ((writeC K E x 11) 7), .int .u64 ((writeC K E x 11) 8)], .int .i64 0]) ∧ Below w.heap.size w w' := by
  have HFIND : Hid (∀ W : World, RegTab W → Calls Tryd.prog 16 #[.int .i64 (mnum 11)] W fun e w' => e = .returned (.tuple #[.agg #[.string (mname 11), .int .u32 (mkept 11), .int .u32 (mfix 11), .bool (false)], .int .i64 0]) ∧ Below W.heap.size W w') := fun W ht => find_yes 11 W (by decide) ht
  have HLEG : Hid (∀ W : World, RegTab W → Calls Tryd.prog 24 #[.int .i64 (mnum 11), .int .u32 x] W fun e w' => e = .returned (.tuple #[.int .u32 (mlegal 11 x), .int .i64 0]) ∧ Below W.heap.size W w') := fun W ht => legal_yes 11 x W (by decide) x0 x1 ht
  have HPL : Hid (∀ (B : Nat) (W : World), Calls Tryd.prog 17 #[.pointer (some ⟨B, 0, none⟩), .string (mname 11)] W fun e w' => e = .returned (.pointer none) ∧ w' = W) := fun B W => place_no B 11 W (by decide) rfl
  have n9 := name_ne_of (k := 11) (j := 9) (by decide) (by decide) (by decide) (c := [109, 99, 121, 99, 108, 101]) rfl
  have n11 := name_eq_of (k := 11) (by decide) (c := [109, 99, 121, 99, 108, 101, 104]) rfl
  rw [mlegal_whole (by decide) (by decide) x0 x1] at HLEG
  have HT := Lib.hid ht
  have HXB : Hid (0 ≤ x ∧ x < 4294967296) := ⟨x0, x1⟩
  have HV0 : Hid (∀ j, writeC K E x 11 j = upd K 7 (offZ (highP (nowZ (K 7) (E 0)) x) (E 0 + 1)) j) := fun j => rfl
  generalize writeC K E x 11 = K' at *
  clear ht x0 x1
  generalize mnum 11 = c at *
  generalize mname 11 = s at *
  generalize mkept 11 = p at *
  generalize mfix 11 = q at *
  obtain ⟨W0, hW0⟩ : ∃ W0, W0 = (((w.alloc (.cells #[.int .u32 (K 0), .int .u32 (K 1), .int .u32 (K 2), .int .u32 (K 3), .int .u32 (K 4), .int .u32 (K 5), .int .u32 (K 6), .int .u64 (K 7), .int .u64 (K 8)] 27)).alloc (.cells #[.int .u32 (x)] 22)).alloc (.cells #[.int .u64 (E 0), .int .u64 (E 1), .int .u64 (E 2), .int .u32 (E 3)] 29)).alloc (.cells #[.int .u32 0, .int .u32 0, .int .u32 0, .int .u32 0, .int .u32 0, .int .u32 0, .int .u32 0, .int .u64 0, .int .u64 0] 27) := ⟨_, rfl⟩
  have hx0 : Wx w W0 K E x := by rw [hW0]; exact wbox w K E x
  have HW0 := Lib.hid hW0
  have HX0 := Lib.hid hx0
  clear hW0 hx0
  go_enter Tryd.func13, Tryd.ntmps13
  go_wp2_with fail
  rw [← HW0.out]
  refine (HFIND.out W0 (HT.out.on HX0.out.2.2.2.2)).mono ?_
  rintro e w1 ⟨rfl, hb1⟩
  obtain ⟨hr, hb2⟩ := box_reg w1 s p q false
  obtain ⟨U, hU⟩ : ∃ U, U = w1.alloc (.cells #[.string s, .int .u32 p, .int .u32 q, .bool false] 51) := ⟨_, rfl⟩
  rw [← hU] at hr hb2
  have hx1 := HX0.out.on hb1
  have hlt : w.heap.size + 1 + 1 + 1 < w1.heap.size := heap_lt hx1.2.2.2.1
  have HX1 := Lib.hid (hx1.on hb2)
  have HR1 := Lib.hid hr
  have HU := Lib.hid hU
  have HLT := Lib.hid hlt
  obtain ⟨x0, -⟩ := one_cell HX1.out.2.1
  rw [hU] at x0
  clear hb1 hb2 hr hU hlt hx1
  go_wp2_with fail
  rw [← HU.out]
  clear x0
  refine (HLEG.out _ (HT.out.on HX1.out.2.2.2.2)).mono ?_
  rintro e w2 ⟨rfl, hb⟩
  have hx2 := HX1.out.on hb
  have hr2 := heap_on HR1.out hb
  obtain ⟨V, hV⟩ : ∃ V, V = w2.setCell ⟨w.heap.size + 1, 0, none⟩ (.int .u32 x) := ⟨_, rfl⟩
  have hx3 : Wx w V K E x := by rw [hV]; exact hx2.set1 x
  have hr3 : IsReg V w1.heap.size s p q false := by
    have := HLT.out
    unfold IsReg
    rw [hV, (Bar.setCell _ _ _ _).2.2.2.2 w1.heap.size (heap_lt hr2) (by omega)]; exact hr2
  obtain ⟨x2, y2⟩ := one_cell hx2.2.1
  have HV := Lib.hid hV
  have HX3 := Lib.hid hx3
  clear hx2 hr2 hV hx3 hb
  obtain ⟨r0, -⟩ := reg_cells hr3
  rw [HV.out] at r0
  go_wp2_with fail
  rw [← HV.out]
  clear r0 x2 y2
  obtain ⟨r0, r1, r2, r3⟩ := reg_cells hr3
  clear hr3
  obtain ⟨x2, y2⟩ := one_cell HX3.out.2.1
  refine (HPL.out w.heap.size _).mono ?_
  rintro e w' ⟨rfl, hw⟩
  have hw := hw.symm
  subst hw
  obtain ⟨⟨-, -, -, -, -, -, -, q7, q8⟩, -⟩ := nine_cells HX3.out.1
  obtain ⟨⟨e0, e1, -, -⟩, -⟩ := env_cells HX3.out.2.2.1
  go_wp2_with fail
  refine (put16_high (w.heap.size + 1) (E 0) (K 7) x _ HXB.out.1 HXB.out.2 x2).mono ?_
  rintro e w4 ⟨rfl, hq⟩
  have HX4 := Lib.hid (HX3.out.on (hq.below _))
  clear hq q7 q8 e0 e1 r0 r1 r2 r3 x2 y2
  obtain ⟨⟨q0, q1, q2, q3, q4, q5, q6, q7, q8⟩, hz⟩ := nine_cells HX4.out.1
  have z0 := hz 0; have z1 := hz 1; have z2 := hz 2; have z3 := hz 3; have z4 := hz 4; have z5 := hz 5; have z6 := hz 6; have z7 := hz 7; have z8 := hz 8
  clear hz
  obtain ⟨⟨t0, t1, t2, t3, t4, t5, t6, t7, t8⟩, hz⟩ := nine_cells HX4.out.2.2.2.1
  have o0 := hz 0; have o1 := hz 1; have o2 := hz 2; have o3 := hz 3; have o4 := hz 4; have o5 := hz 5; have o6 := hz 6; have o7 := hz 7; have o8 := hz 8
  clear hz
  generalize offZ (highP (nowZ (K 7) (E 0)) x) (E 0 + 1) = z at *
  go_wp2
  refine bodyPost_ret (v := .tuple #[.agg #[.int .u32 (K' 0), .int .u32 (K' 1), .int .u32 (K' 2), .int .u32 (K' 3), .int .u32 (K' 4), .int .u32 (K' 5), .int .u32 (K' 6), .int .u64 (K' 7), .int .u64 (K' 8)], .int .i64 0]) (by simp [results, Tryd.results13, go_sem, t0, t1, t2, t3, t4, t5, t6, t7, t8, HV0.out, upd]) rfl ?_
  exact ⟨rfl, end9 (by omega) _ _ _ _ _ _ _ _ _ (end1 _ _ HX4.out.2.2.2.2)⟩

set_option maxHeartbeats 3000000 in
set_option maxRecDepth 100000 in
theorem cwrite_12 (K E : Nat → Int) (x : Int) (w : World) (x0 : 0 ≤ x) (x1 : x < 4294967296) (ht : RegTab w) :
    Calls Tryd.prog 13 #[.agg #[.int .u32 (K 0), .int .u32 (K 1), .int .u32 (K 2), .int .u32 (K 3), .int .u32 (K 4), .int .u32 (K 5), .int .u32 (K 6), .int .u64 (K 7), .int .u64 (K 8)], .int .i64 (mnum 12), .int .u32 x, .agg #[.int .u64 (E 0), .int .u64 (E 1), .int .u64 (E 2), .int .u32 (E 3)]] w fun e w' => e = .returned (.tuple #[.agg #[.int .u32 ((writeC K E x 12) 0), .int .u32 ((writeC K E x 12) 1), .int .u32 ((writeC K E x 12) 2), .int .u32 ((writeC K E x 12) 3), .int .u32 ((writeC K E x 12) 4), .int .u32 ((writeC K E x 12) 5), .int .u32 ((writeC K E x 12) 6), .int .u64 ((writeC K E x 12) 7), .int .u64 ((writeC K E x 12) 8)], .int .i64 0]) ∧ Below w.heap.size w w' := by
  have HFIND : Hid (∀ W : World, RegTab W → Calls Tryd.prog 16 #[.int .i64 (mnum 12)] W fun e w' => e = .returned (.tuple #[.agg #[.string (mname 12), .int .u32 (mkept 12), .int .u32 (mfix 12), .bool (false)], .int .i64 0]) ∧ Below W.heap.size W w') := fun W ht => find_yes 12 W (by decide) ht
  have HLEG : Hid (∀ W : World, RegTab W → Calls Tryd.prog 24 #[.int .i64 (mnum 12), .int .u32 x] W fun e w' => e = .returned (.tuple #[.int .u32 (mlegal 12 x), .int .i64 0]) ∧ Below W.heap.size W w') := fun W ht => legal_yes 12 x W (by decide) x0 x1 ht
  have HPL : Hid (∀ (B : Nat) (W : World), Calls Tryd.prog 17 #[.pointer (some ⟨B, 0, none⟩), .string (mname 12)] W fun e w' => e = .returned (.pointer none) ∧ w' = W) := fun B W => place_no B 12 W (by decide) rfl
  have n9 := name_ne_of (k := 12) (j := 9) (by decide) (by decide) (by decide) (c := [109, 99, 121, 99, 108, 101]) rfl
  have n11 := name_ne_of (k := 12) (j := 11) (by decide) (by decide) (by decide) (c := [109, 99, 121, 99, 108, 101, 104]) rfl
  have n10 := name_ne_of (k := 12) (j := 10) (by decide) (by decide) (by decide) (c := [109, 105, 110, 115, 116, 114, 101, 116]) rfl
  have n12 := name_eq_of (k := 12) (by decide) (c := [109, 105, 110, 115, 116, 114, 101, 116, 104]) rfl
  rw [mlegal_whole (by decide) (by decide) x0 x1] at HLEG
  have HT := Lib.hid ht
  have HXB : Hid (0 ≤ x ∧ x < 4294967296) := ⟨x0, x1⟩
  have HV0 : Hid (∀ j, writeC K E x 12 j = upd K 8 (offZ (highP (nowZ (K 8) (E 1)) x) (E 1 + 1)) j) := fun j => rfl
  generalize writeC K E x 12 = K' at *
  clear ht x0 x1
  generalize mnum 12 = c at *
  generalize mname 12 = s at *
  generalize mkept 12 = p at *
  generalize mfix 12 = q at *
  obtain ⟨W0, hW0⟩ : ∃ W0, W0 = (((w.alloc (.cells #[.int .u32 (K 0), .int .u32 (K 1), .int .u32 (K 2), .int .u32 (K 3), .int .u32 (K 4), .int .u32 (K 5), .int .u32 (K 6), .int .u64 (K 7), .int .u64 (K 8)] 27)).alloc (.cells #[.int .u32 (x)] 22)).alloc (.cells #[.int .u64 (E 0), .int .u64 (E 1), .int .u64 (E 2), .int .u32 (E 3)] 29)).alloc (.cells #[.int .u32 0, .int .u32 0, .int .u32 0, .int .u32 0, .int .u32 0, .int .u32 0, .int .u32 0, .int .u64 0, .int .u64 0] 27) := ⟨_, rfl⟩
  have hx0 : Wx w W0 K E x := by rw [hW0]; exact wbox w K E x
  have HW0 := Lib.hid hW0
  have HX0 := Lib.hid hx0
  clear hW0 hx0
  go_enter Tryd.func13, Tryd.ntmps13
  go_wp2_with fail
  rw [← HW0.out]
  refine (HFIND.out W0 (HT.out.on HX0.out.2.2.2.2)).mono ?_
  rintro e w1 ⟨rfl, hb1⟩
  obtain ⟨hr, hb2⟩ := box_reg w1 s p q false
  obtain ⟨U, hU⟩ : ∃ U, U = w1.alloc (.cells #[.string s, .int .u32 p, .int .u32 q, .bool false] 51) := ⟨_, rfl⟩
  rw [← hU] at hr hb2
  have hx1 := HX0.out.on hb1
  have hlt : w.heap.size + 1 + 1 + 1 < w1.heap.size := heap_lt hx1.2.2.2.1
  have HX1 := Lib.hid (hx1.on hb2)
  have HR1 := Lib.hid hr
  have HU := Lib.hid hU
  have HLT := Lib.hid hlt
  obtain ⟨x0, -⟩ := one_cell HX1.out.2.1
  rw [hU] at x0
  clear hb1 hb2 hr hU hlt hx1
  go_wp2_with fail
  rw [← HU.out]
  clear x0
  refine (HLEG.out _ (HT.out.on HX1.out.2.2.2.2)).mono ?_
  rintro e w2 ⟨rfl, hb⟩
  have hx2 := HX1.out.on hb
  have hr2 := heap_on HR1.out hb
  obtain ⟨V, hV⟩ : ∃ V, V = w2.setCell ⟨w.heap.size + 1, 0, none⟩ (.int .u32 x) := ⟨_, rfl⟩
  have hx3 : Wx w V K E x := by rw [hV]; exact hx2.set1 x
  have hr3 : IsReg V w1.heap.size s p q false := by
    have := HLT.out
    unfold IsReg
    rw [hV, (Bar.setCell _ _ _ _).2.2.2.2 w1.heap.size (heap_lt hr2) (by omega)]; exact hr2
  obtain ⟨x2, y2⟩ := one_cell hx2.2.1
  have HV := Lib.hid hV
  have HX3 := Lib.hid hx3
  clear hx2 hr2 hV hx3 hb
  obtain ⟨r0, -⟩ := reg_cells hr3
  rw [HV.out] at r0
  go_wp2_with fail
  rw [← HV.out]
  clear r0 x2 y2
  obtain ⟨r0, r1, r2, r3⟩ := reg_cells hr3
  clear hr3
  obtain ⟨x2, y2⟩ := one_cell HX3.out.2.1
  refine (HPL.out w.heap.size _).mono ?_
  rintro e w' ⟨rfl, hw⟩
  have hw := hw.symm
  subst hw
  obtain ⟨⟨-, -, -, -, -, -, -, q7, q8⟩, -⟩ := nine_cells HX3.out.1
  obtain ⟨⟨e0, e1, -, -⟩, -⟩ := env_cells HX3.out.2.2.1
  go_wp2_with fail
  refine (put16_high (w.heap.size + 1) (E 1) (K 8) x _ HXB.out.1 HXB.out.2 x2).mono ?_
  rintro e w4 ⟨rfl, hq⟩
  have HX4 := Lib.hid (HX3.out.on (hq.below _))
  clear hq q7 q8 e0 e1 r0 r1 r2 r3 x2 y2
  obtain ⟨⟨q0, q1, q2, q3, q4, q5, q6, q7, q8⟩, hz⟩ := nine_cells HX4.out.1
  have z0 := hz 0; have z1 := hz 1; have z2 := hz 2; have z3 := hz 3; have z4 := hz 4; have z5 := hz 5; have z6 := hz 6; have z7 := hz 7; have z8 := hz 8
  clear hz
  obtain ⟨⟨t0, t1, t2, t3, t4, t5, t6, t7, t8⟩, hz⟩ := nine_cells HX4.out.2.2.2.1
  have o0 := hz 0; have o1 := hz 1; have o2 := hz 2; have o3 := hz 3; have o4 := hz 4; have o5 := hz 5; have o6 := hz 6; have o7 := hz 7; have o8 := hz 8
  clear hz
  generalize offZ (highP (nowZ (K 8) (E 1)) x) (E 1 + 1) = z at *
  go_wp2
  refine bodyPost_ret (v := .tuple #[.agg #[.int .u32 (K' 0), .int .u32 (K' 1), .int .u32 (K' 2), .int .u32 (K' 3), .int .u32 (K' 4), .int .u32 (K' 5), .int .u32 (K' 6), .int .u64 (K' 7), .int .u64 (K' 8)], .int .i64 0]) (by simp [results, Tryd.results13, go_sem, t0, t1, t2, t3, t4, t5, t6, t7, t8, HV0.out, upd]) rfl ?_
  exact ⟨rfl, end9 (by omega) _ _ _ _ _ _ _ _ _ (end1 _ _ HX4.out.2.2.2.2)⟩

end Go.Proofs.YtibhlbggnkobeaaDoor
