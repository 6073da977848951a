/- Layer 16: Read, of what calls, and of the registers that count. -/
import Derived.Test.YtibhlbggnkobeaaDoorCsrRead
namespace Go.Proofs.YtibhlbggnkobeaaDoor
open Go.RowKit
set_option linter.unusedVariables false
set_option linter.unusedSimpArgs false

set_option maxHeartbeats 1600000 in
set_option maxRecDepth 100000 in
theorem cread_8 (K E : Nat → Int) (w : World) (he : EnvB E) (ht : RegTab w) :
    Calls Tryd.prog 5 #[.agg #[.int .u32 (K 0), .int .u32 (K 1), .int .u32 (K 2), .int .u32 (K 3), .int .u32 (K 4), .int .u32 (K 5), .int .u32 (K 6), .int .u64 (K 7), .int .u64 (K 8)], .int .i64 (mnum 8), .agg #[.int .u64 (E 0), .int .u64 (E 1), .int .u64 (E 2), .int .u32 (E 3)]] w fun e w' => e = .returned (.tuple #[.int .u32 (readC K E 8), .int .i64 0]) ∧ Below w.heap.size w w' := by
  have HFIND : Hid (∀ W : World, RegTab W → Calls Tryd.prog 16 #[.int .i64 (mnum 8)] W fun e w' => e = .returned (.tuple #[.agg #[.string (mname 8), .int .u32 (mkept 8), .int .u32 (mfix 8), .bool (mfast 8)], .int .i64 0]) ∧ Below W.heap.size W w') := fun W ht => find_yes 8 W (by decide) ht
  have HPL : Hid (∀ (B : Nat) (W : World), Calls Tryd.prog 17 #[.pointer (some ⟨B, 0, none⟩), .string (mname 8)] W fun e w' => e = .returned (.pointer none) ∧ w' = W) := fun B W => place_no B 8 W (by decide) rfl
  have n8 := name_eq_of (k := 8) (by decide) (c := [109, 105, 112]) rfl
  clear he
  generalize mnum 8 = c at *
  generalize mname 8 = s at *
  generalize mkept 8 = x at *
  generalize mfix 8 = y at *
  generalize mfast 8 = f at *
  obtain ⟨hf0, he0, hb0⟩ := box_fe w K E
  obtain ⟨W0, hW0⟩ : ∃ W0, W0 = (w.alloc (.cells #[.int .u32 (K 0), .int .u32 (K 1), .int .u32 (K 2), .int .u32 (K 3), .int .u32 (K 4), .int .u32 (K 5), .int .u32 (K 6), .int .u64 (K 7), .int .u64 (K 8)] 27)).alloc (.cells #[.int .u64 (E 0), .int .u64 (E 1), .int .u64 (E 2), .int .u32 (E 3)] 29) := ⟨_, rfl⟩
  rw [← hW0] at hf0 he0 hb0
  have HW0 := Lib.hid hW0
  have HF0 := Lib.hid hf0
  have HE0 := Lib.hid he0
  have HB0 := Lib.hid hb0
  have HT0 := Lib.hid (ht.on hb0)
  clear hW0 hf0 he0 hb0 ht
  go_enter Tryd.func5, Tryd.ntmps5
  go_wp2_with fail
  rw [← HW0.out]
  refine (HFIND.out W0 HT0.out).mono ?_
  rintro e w1 ⟨rfl, hb1⟩
  obtain ⟨hr, hb2⟩ := box_reg w1 s x y f
  obtain ⟨U, hU⟩ : ∃ U, U = w1.alloc (.cells #[.string s, .int .u32 x, .int .u32 y, .bool f] 51) := ⟨_, rfl⟩
  rw [← hU] at hr hb2
  have hb3 := hb1.trans (hb2.mono hb1.size)
  have HF1 := Lib.hid (heap_on HF0.out hb3)
  have HE1 := Lib.hid (heap_on HE0.out hb3)
  have HB1 := Lib.hid (HB0.out.trans (hb3.mono HB0.out.size))
  have HR1 := Lib.hid hr
  have HU := Lib.hid hU
  obtain ⟨r0, r1, r2, r3⟩ := reg_cells hr
  clear hb1 hb2 hb3 hr hU
  go_wp2_with fail
  rw [← HU.out]
  go_wp2_with fail
  refine (HPL.out w.heap.size _).mono ?_
  rintro e w' ⟨rfl, hw⟩
  have hw := hw.symm
  subst hw
  obtain ⟨⟨e0, e1, e2, e3⟩, -⟩ := env_cells HE1.out
  go_wp2
  go_ret2
  exact ⟨rfl, HB1.out⟩

set_option maxHeartbeats 1600000 in
set_option maxRecDepth 100000 in
theorem cread_9 (K E : Nat → Int) (w : World) (he : EnvB E) (ht : RegTab w) :
    Calls Tryd.prog 5 #[.agg #[.int .u32 (K 0), .int .u32 (K 1), .int .u32 (K 2), .int .u32 (K 3), .int .u32 (K 4), .int .u32 (K 5), .int .u32 (K 6), .int .u64 (K 7), .int .u64 (K 8)], .int .i64 (mnum 9), .agg #[.int .u64 (E 0), .int .u64 (E 1), .int .u64 (E 2), .int .u32 (E 3)]] w fun e w' => e = .returned (.tuple #[.int .u32 (readC K E 9), .int .i64 0]) ∧ Below w.heap.size w w' := by
  have HFIND : Hid (∀ W : World, RegTab W → Calls Tryd.prog 16 #[.int .i64 (mnum 9)] W fun e w' => e = .returned (.tuple #[.agg #[.string (mname 9), .int .u32 (mkept 9), .int .u32 (mfix 9), .bool (mfast 9)], .int .i64 0]) ∧ Below W.heap.size W w') := fun W ht => find_yes 9 W (by decide) ht
  have HPL : Hid (∀ (B : Nat) (W : World), Calls Tryd.prog 17 #[.pointer (some ⟨B, 0, none⟩), .string (mname 9)] W fun e w' => e = .returned (.pointer none) ∧ w' = W) := fun B W => place_no B 9 W (by decide) rfl
  have n8 := name_ne_of (k := 9) (j := 8) (by decide) (by decide) (by decide) (c := [109, 105, 112]) rfl
  have n9 := name_eq_of (k := 9) (by decide) (c := [109, 99, 121, 99, 108, 101]) rfl
  have HH : Hid (∀ W : World, Calls Tryd.prog 18 #[.int .u64 (IntKind.u64.wrap (E 0 + K 7))] W fun e w' => e = .returned (.int .u32 (readC K E 9)) ∧ w' = W) := fun W => by have h := low16_any (nowZ (K 7) (E 0)) W ; rwa [← show IntKind.u64.wrap (E 0 + K 7) = nowZ (K 7) (E 0) from by rw [IntKind.wrap_u64]; rfl] at h
  clear he
  generalize hv : readC K E 9 = v at *
  clear hv
  generalize mnum 9 = c at *
  generalize mname 9 = s at *
  generalize mkept 9 = x at *
  generalize mfix 9 = y at *
  generalize mfast 9 = f at *
  obtain ⟨hf0, he0, hb0⟩ := box_fe w K E
  obtain ⟨W0, hW0⟩ : ∃ W0, W0 = (w.alloc (.cells #[.int .u32 (K 0), .int .u32 (K 1), .int .u32 (K 2), .int .u32 (K 3), .int .u32 (K 4), .int .u32 (K 5), .int .u32 (K 6), .int .u64 (K 7), .int .u64 (K 8)] 27)).alloc (.cells #[.int .u64 (E 0), .int .u64 (E 1), .int .u64 (E 2), .int .u32 (E 3)] 29) := ⟨_, rfl⟩
  rw [← hW0] at hf0 he0 hb0
  have HW0 := Lib.hid hW0
  have HF0 := Lib.hid hf0
  have HE0 := Lib.hid he0
  have HB0 := Lib.hid hb0
  have HT0 := Lib.hid (ht.on hb0)
  clear hW0 hf0 he0 hb0 ht
  go_enter Tryd.func5, Tryd.ntmps5
  go_wp2_with fail
  rw [← HW0.out]
  refine (HFIND.out W0 HT0.out).mono ?_
  rintro e w1 ⟨rfl, hb1⟩
  obtain ⟨hr, hb2⟩ := box_reg w1 s x y f
  obtain ⟨U, hU⟩ : ∃ U, U = w1.alloc (.cells #[.string s, .int .u32 x, .int .u32 y, .bool f] 51) := ⟨_, rfl⟩
  rw [← hU] at hr hb2
  have hb3 := hb1.trans (hb2.mono hb1.size)
  have HF1 := Lib.hid (heap_on HF0.out hb3)
  have HE1 := Lib.hid (heap_on HE0.out hb3)
  have HB1 := Lib.hid (HB0.out.trans (hb3.mono HB0.out.size))
  have HR1 := Lib.hid hr
  have HU := Lib.hid hU
  obtain ⟨r0, r1, r2, r3⟩ := reg_cells hr
  clear hb1 hb2 hb3 hr hU
  go_wp2_with fail
  rw [← HU.out]
  go_wp2_with fail
  refine (HPL.out w.heap.size _).mono ?_
  rintro e w' ⟨rfl, hw⟩
  have hw := hw.symm
  subst hw
  obtain ⟨⟨-, -, -, -, -, -, -, q7, q8⟩, -⟩ := nine_cells HF1.out
  obtain ⟨⟨e0, e1, e2, e3⟩, -⟩ := env_cells HE1.out
  go_wp2_with fail
  refine (HH.out _).mono ?_
  rintro e w' ⟨rfl, hw⟩
  have hw := hw.symm
  subst hw
  go_wp2
  go_ret2
  exact ⟨rfl, HB1.out⟩

set_option maxHeartbeats 1600000 in
set_option maxRecDepth 100000 in
theorem cread_13 (K E : Nat → Int) (w : World) (he : EnvB E) (ht : RegTab w) :
    Calls Tryd.prog 5 #[.agg #[.int .u32 (K 0), .int .u32 (K 1), .int .u32 (K 2), .int .u32 (K 3), .int .u32 (K 4), .int .u32 (K 5), .int .u32 (K 6), .int .u64 (K 7), .int .u64 (K 8)], .int .i64 (mnum 13), .agg #[.int .u64 (E 0), .int .u64 (E 1), .int .u64 (E 2), .int .u32 (E 3)]] w fun e w' => e = .returned (.tuple #[.int .u32 (readC K E 13), .int .i64 0]) ∧ Below w.heap.size w w' := by
  have HFIND : Hid (∀ W : World, RegTab W → Calls Tryd.prog 16 #[.int .i64 (mnum 13)] W fun e w' => e = .returned (.tuple #[.agg #[.string (mname 13), .int .u32 (mkept 13), .int .u32 (mfix 13), .bool (mfast 13)], .int .i64 0]) ∧ Below W.heap.size W w') := fun W ht => find_yes 13 W (by decide) ht
  have HPL : Hid (∀ (B : Nat) (W : World), Calls Tryd.prog 17 #[.pointer (some ⟨B, 0, none⟩), .string (mname 13)] W fun e w' => e = .returned (.pointer none) ∧ w' = W) := fun B W => place_no B 13 W (by decide) rfl
  have n8 := name_ne_of (k := 13) (j := 8) (by decide) (by decide) (by decide) (c := [109, 105, 112]) rfl
  have n9 := name_ne_of (k := 13) (j := 9) (by decide) (by decide) (by decide) (c := [109, 99, 121, 99, 108, 101]) rfl
  have n13 := name_eq_of (k := 13) (by decide) (c := [99, 121, 99, 108, 101]) rfl
  have HH : Hid (∀ W : World, Calls Tryd.prog 18 #[.int .u64 (IntKind.u64.wrap (E 0 + K 7))] W fun e w' => e = .returned (.int .u32 (readC K E 13)) ∧ w' = W) := fun W => by have h := low16_any (nowZ (K 7) (E 0)) W ; rwa [← show IntKind.u64.wrap (E 0 + K 7) = nowZ (K 7) (E 0) from by rw [IntKind.wrap_u64]; rfl] at h
  clear he
  generalize hv : readC K E 13 = v at *
  clear hv
  generalize mnum 13 = c at *
  generalize mname 13 = s at *
  generalize mkept 13 = x at *
  generalize mfix 13 = y at *
  generalize mfast 13 = f at *
  obtain ⟨hf0, he0, hb0⟩ := box_fe w K E
  obtain ⟨W0, hW0⟩ : ∃ W0, W0 = (w.alloc (.cells #[.int .u32 (K 0), .int .u32 (K 1), .int .u32 (K 2), .int .u32 (K 3), .int .u32 (K 4), .int .u32 (K 5), .int .u32 (K 6), .int .u64 (K 7), .int .u64 (K 8)] 27)).alloc (.cells #[.int .u64 (E 0), .int .u64 (E 1), .int .u64 (E 2), .int .u32 (E 3)] 29) := ⟨_, rfl⟩
  rw [← hW0] at hf0 he0 hb0
  have HW0 := Lib.hid hW0
  have HF0 := Lib.hid hf0
  have HE0 := Lib.hid he0
  have HB0 := Lib.hid hb0
  have HT0 := Lib.hid (ht.on hb0)
  clear hW0 hf0 he0 hb0 ht
  go_enter Tryd.func5, Tryd.ntmps5
  go_wp2_with fail
  rw [← HW0.out]
  refine (HFIND.out W0 HT0.out).mono ?_
  rintro e w1 ⟨rfl, hb1⟩
  obtain ⟨hr, hb2⟩ := box_reg w1 s x y f
  obtain ⟨U, hU⟩ : ∃ U, U = w1.alloc (.cells #[.string s, .int .u32 x, .int .u32 y, .bool f] 51) := ⟨_, rfl⟩
  rw [← hU] at hr hb2
  have hb3 := hb1.trans (hb2.mono hb1.size)
  have HF1 := Lib.hid (heap_on HF0.out hb3)
  have HE1 := Lib.hid (heap_on HE0.out hb3)
  have HB1 := Lib.hid (HB0.out.trans (hb3.mono HB0.out.size))
  have HR1 := Lib.hid hr
  have HU := Lib.hid hU
  obtain ⟨r0, r1, r2, r3⟩ := reg_cells hr
  clear hb1 hb2 hb3 hr hU
  go_wp2_with fail
  rw [← HU.out]
  go_wp2_with fail
  refine (HPL.out w.heap.size _).mono ?_
  rintro e w' ⟨rfl, hw⟩
  have hw := hw.symm
  subst hw
  obtain ⟨⟨-, -, -, -, -, -, -, q7, q8⟩, -⟩ := nine_cells HF1.out
  obtain ⟨⟨e0, e1, e2, e3⟩, -⟩ := env_cells HE1.out
  go_wp2_with fail
  refine (HH.out _).mono ?_
  rintro e w' ⟨rfl, hw⟩
  have hw := hw.symm
  subst hw
  go_wp2
  go_ret2
  exact ⟨rfl, HB1.out⟩

end Go.Proofs.YtibhlbggnkobeaaDoor
