/- Layer 16: Read, of what calls, and of the registers that count. -/
import Derived.Test.YtibhlbggnkobeaaDoorCsrRead
namespace Go.Proofs.YtibhlbggnkobeaaDoor
open Go.RowKit
set_option linter.unusedVariables false
set_option linter.unusedSimpArgs false

set_option maxHeartbeats 1600000 in
set_option maxRecDepth 100000 in
theorem cread_11 (K E : Nat → Int) (w : World) (he : EnvB E) (ht : RegTab w) :
    Calls Tryd.prog 5 #[.agg #[.int .u32 (K 0), .int .u32 (K 1), .int .u32 (K 2), .int .u32 (K 3), .int .u32 (K 4), .int .u32 (K 5), .int .u32 (K 6), .int .u64 (K 7), .int .u64 (K 8)], .int .i64 (mnum 11), .agg #[.int .u64 (E 0), .int .u64 (E 1), .int .u64 (E 2), .int .u32 (E 3)]] w fun e w' => e = .returned (.tuple #[.int .u32 (readC K E 11), .int .i64 0]) ∧ Below w.heap.size w w' := by
  have HFIND : Hid (∀ W : World, RegTab W → Calls Tryd.prog 16 #[.int .i64 (mnum 11)] W fun e w' => e = .returned (.tuple #[.agg #[.string (mname 11), .int .u32 (mkept 11), .int .u32 (mfix 11), .bool (mfast 11)], .int .i64 0]) ∧ Below W.heap.size W w') := fun W ht => find_yes 11 W (by decide) ht
  have HPL : Hid (∀ (B : Nat) (W : World), Calls Tryd.prog 17 #[.pointer (some ⟨B, 0, none⟩), .string (mname 11)] W fun e w' => e = .returned (.pointer none) ∧ w' = W) := fun B W => place_no B 11 W (by decide) rfl
  have n8 := name_ne_of (k := 11) (j := 8) (by decide) (by decide) (by decide) (c := [109, 105, 112]) rfl
  have n9 := name_ne_of (k := 11) (j := 9) (by decide) (by decide) (by decide) (c := [109, 99, 121, 99, 108, 101]) rfl
  have n13 := name_ne_of (k := 11) (j := 13) (by decide) (by decide) (by decide) (c := [99, 121, 99, 108, 101]) rfl
  have n11 := name_eq_of (k := 11) (by decide) (c := [109, 99, 121, 99, 108, 101, 104]) rfl
  have HH : Hid (∀ W : World, Calls Tryd.prog 19 #[.int .u64 (IntKind.u64.wrap (E 0 + K 7))] W fun e w' => e = .returned (.int .u32 (readC K E 11)) ∧ w' = W) := fun W => by have h := high16_any (nowZ (K 7) (E 0)) W (nowZ_lt _ _).1 (nowZ_lt _ _).2; rwa [← show IntKind.u64.wrap (E 0 + K 7) = nowZ (K 7) (E 0) from by rw [IntKind.wrap_u64]; rfl] at h
  clear he
  generalize hv : readC K E 11 = v at *
  clear hv
  generalize mnum 11 = c at *
  generalize mname 11 = s at *
  generalize mkept 11 = x at *
  generalize mfix 11 = y at *
  generalize mfast 11 = f at *
  obtain ⟨hf0, he0, hb0⟩ := box_fe w K E
  obtain ⟨W0, hW0⟩ : ∃ W0, W0 = (w.alloc (.cells #[.int .u32 (K 0), .int .u32 (K 1), .int .u32 (K 2), .int .u32 (K 3), .int .u32 (K 4), .int .u32 (K 5), .int .u32 (K 6), .int .u64 (K 7), .int .u64 (K 8)] 27)).alloc (.cells #[.int .u64 (E 0), .int .u64 (E 1), .int .u64 (E 2), .int .u32 (E 3)] 29) := ⟨_, rfl⟩
  rw [← hW0] at hf0 he0 hb0
  have HW0 := Lib.hid hW0
  have HF0 := Lib.hid hf0
  have HE0 := Lib.hid he0
  have HB0 := Lib.hid hb0
  have HT0 := Lib.hid (ht.on hb0)
  clear hW0 hf0 he0 hb0 ht
  go_enter Tryd.func5, Tryd.ntmps5
  go_wp2_with fail
  rw [← HW0.out]
  refine (HFIND.out W0 HT0.out).mono ?_
  rintro e w1 ⟨rfl, hb1⟩
  obtain ⟨hr, hb2⟩ := box_reg w1 s x y f
  obtain ⟨U, hU⟩ : ∃ U, U = w1.alloc (.cells #[.string s, .int .u32 x, .int .u32 y, .bool f] 51) := ⟨_, rfl⟩
  rw [← hU] at hr hb2
  have hb3 := hb1.trans (hb2.mono hb1.size)
  have HF1 := Lib.hid (heap_on HF0.out hb3)
  have HE1 := Lib.hid (heap_on HE0.out hb3)
  have HB1 := Lib.hid (HB0.out.trans (hb3.mono HB0.out.size))
  have HR1 := Lib.hid hr
  have HU := Lib.hid hU
  obtain ⟨r0, r1, r2, r3⟩ := reg_cells hr
  clear hb1 hb2 hb3 hr hU
  go_wp2_with fail
  rw [← HU.out]
  go_wp2_with fail
  refine (HPL.out w.heap.size _).mono ?_
  rintro e w' ⟨rfl, hw⟩
  have hw := hw.symm
  subst hw
  obtain ⟨⟨-, -, -, -, -, -, -, q7, q8⟩, -⟩ := nine_cells HF1.out
  obtain ⟨⟨e0, e1, e2, e3⟩, -⟩ := env_cells HE1.out
  go_wp2_with fail
  refine (HH.out _).mono ?_
  rintro e w' ⟨rfl, hw⟩
  have hw := hw.symm
  subst hw
  go_wp2
  go_ret2
  exact ⟨rfl, HB1.out⟩

set_option maxHeartbeats 1600000 in
set_option maxRecDepth 100000 in
theorem cread_16 (K E : Nat → Int) (w : World) (he : EnvB E) (ht : RegTab w) :
    Calls Tryd.prog 5 #[.agg #[.int .u32 (K 0), .int .u32 (K 1), .int .u32 (K 2), .int .u32 (K 3), .int .u32 (K 4), .int .u32 (K 5), .int .u32 (K 6), .int .u64 (K 7), .int .u64 (K 8)], .int .i64 (mnum 16), .agg #[.int .u64 (E 0), .int .u64 (E 1), .int .u64 (E 2), .int .u32 (E 3)]] w fun e w' => e = .returned (.tuple #[.int .u32 (readC K E 16), .int .i64 0]) ∧ Below w.heap.size w w' := by
  have HFIND : Hid (∀ W : World, RegTab W → Calls Tryd.prog 16 #[.int .i64 (mnum 16)] W fun e w' => e = .returned (.tuple #[.agg #[.string (mname 16), .int .u32 (mkept 16), .int .u32 (mfix 16), .bool (mfast 16)], .int .i64 0]) ∧ Below W.heap.size W w') := fun W ht => find_yes 16 W (by decide) ht
  have HPL : Hid (∀ (B : Nat) (W : World), Calls Tryd.prog 17 #[.pointer (some ⟨B, 0, none⟩), .string (mname 16)] W fun e w' => e = .returned (.pointer none) ∧ w' = W) := fun B W => place_no B 16 W (by decide) rfl
  have n8 := name_ne_of (k := 16) (j := 8) (by decide) (by decide) (by decide) (c := [109, 105, 112]) rfl
  have n9 := name_ne_of (k := 16) (j := 9) (by decide) (by decide) (by decide) (c := [109, 99, 121, 99, 108, 101]) rfl
  have n13 := name_ne_of (k := 16) (j := 13) (by decide) (by decide) (by decide) (c := [99, 121, 99, 108, 101]) rfl
  have n11 := name_ne_of (k := 16) (j := 11) (by decide) (by decide) (by decide) (c := [109, 99, 121, 99, 108, 101, 104]) rfl
  have n16 := name_eq_of (k := 16) (by decide) (c := [99, 121, 99, 108, 101, 104]) rfl
  have HH : Hid (∀ W : World, Calls Tryd.prog 19 #[.int .u64 (IntKind.u64.wrap (E 0 + K 7))] W fun e w' => e = .returned (.int .u32 (readC K E 16)) ∧ w' = W) := fun W => by have h := high16_any (nowZ (K 7) (E 0)) W (nowZ_lt _ _).1 (nowZ_lt _ _).2; rwa [← show IntKind.u64.wrap (E 0 + K 7) = nowZ (K 7) (E 0) from by rw [IntKind.wrap_u64]; rfl] at h
  clear he
  generalize hv : readC K E 16 = v at *
  clear hv
  generalize mnum 16 = c at *
  generalize mname 16 = s at *
  generalize mkept 16 = x at *
  generalize mfix 16 = y at *
  generalize mfast 16 = f at *
  obtain ⟨hf0, he0, hb0⟩ := box_fe w K E
  obtain ⟨W0, hW0⟩ : ∃ W0, W0 = (w.alloc (.cells #[.int .u32 (K 0), .int .u32 (K 1), .int .u32 (K 2), .int .u32 (K 3), .int .u32 (K 4), .int .u32 (K 5), .int .u32 (K 6), .int .u64 (K 7), .int .u64 (K 8)] 27)).alloc (.cells #[.int .u64 (E 0), .int .u64 (E 1), .int .u64 (E 2), .int .u32 (E 3)] 29) := ⟨_, rfl⟩
  rw [← hW0] at hf0 he0 hb0
  have HW0 := Lib.hid hW0
  have HF0 := Lib.hid hf0
  have HE0 := Lib.hid he0
  have HB0 := Lib.hid hb0
  have HT0 := Lib.hid (ht.on hb0)
  clear hW0 hf0 he0 hb0 ht
  go_enter Tryd.func5, Tryd.ntmps5
  go_wp2_with fail
  rw [← HW0.out]
  refine (HFIND.out W0 HT0.out).mono ?_
  rintro e w1 ⟨rfl, hb1⟩
  obtain ⟨hr, hb2⟩ := box_reg w1 s x y f
  obtain ⟨U, hU⟩ : ∃ U, U = w1.alloc (.cells #[.string s, .int .u32 x, .int .u32 y, .bool f] 51) := ⟨_, rfl⟩
  rw [← hU] at hr hb2
  have hb3 := hb1.trans (hb2.mono hb1.size)
  have HF1 := Lib.hid (heap_on HF0.out hb3)
  have HE1 := Lib.hid (heap_on HE0.out hb3)
  have HB1 := Lib.hid (HB0.out.trans (hb3.mono HB0.out.size))
  have HR1 := Lib.hid hr
  have HU := Lib.hid hU
  obtain ⟨r0, r1, r2, r3⟩ := reg_cells hr
  clear hb1 hb2 hb3 hr hU
  go_wp2_with fail
  rw [← HU.out]
  go_wp2_with fail
  refine (HPL.out w.heap.size _).mono ?_
  rintro e w' ⟨rfl, hw⟩
  have hw := hw.symm
  subst hw
  obtain ⟨⟨-, -, -, -, -, -, -, q7, q8⟩, -⟩ := nine_cells HF1.out
  obtain ⟨⟨e0, e1, e2, e3⟩, -⟩ := env_cells HE1.out
  go_wp2_with fail
  refine (HH.out _).mono ?_
  rintro e w' ⟨rfl, hw⟩
  have hw := hw.symm
  subst hw
  go_wp2
  go_ret2
  exact ⟨rfl, HB1.out⟩

set_option maxHeartbeats 1600000 in
set_option maxRecDepth 100000 in
theorem cread_10 (K E : Nat → Int) (w : World) (he : EnvB E) (ht : RegTab w) :
    Calls Tryd.prog 5 #[.agg #[.int .u32 (K 0), .int .u32 (K 1), .int .u32 (K 2), .int .u32 (K 3), .int .u32 (K 4), .int .u32 (K 5), .int .u32 (K 6), .int .u64 (K 7), .int .u64 (K 8)], .int .i64 (mnum 10), .agg #[.int .u64 (E 0), .int .u64 (E 1), .int .u64 (E 2), .int .u32 (E 3)]] w fun e w' => e = .returned (.tuple #[.int .u32 (readC K E 10), .int .i64 0]) ∧ Below w.heap.size w w' := by
  have HFIND : Hid (∀ W : World, RegTab W → Calls Tryd.prog 16 #[.int .i64 (mnum 10)] W fun e w' => e = .returned (.tuple #[.agg #[.string (mname 10), .int .u32 (mkept 10), .int .u32 (mfix 10), .bool (mfast 10)], .int .i64 0]) ∧ Below W.heap.size W w') := fun W ht => find_yes 10 W (by decide) ht
  have HPL : Hid (∀ (B : Nat) (W : World), Calls Tryd.prog 17 #[.pointer (some ⟨B, 0, none⟩), .string (mname 10)] W fun e w' => e = .returned (.pointer none) ∧ w' = W) := fun B W => place_no B 10 W (by decide) rfl
  have n8 := name_ne_of (k := 10) (j := 8) (by decide) (by decide) (by decide) (c := [109, 105, 112]) rfl
  have n9 := name_ne_of (k := 10) (j := 9) (by decide) (by decide) (by decide) (c := [109, 99, 121, 99, 108, 101]) rfl
  have n13 := name_ne_of (k := 10) (j := 13) (by decide) (by decide) (by decide) (c := [99, 121, 99, 108, 101]) rfl
  have n11 := name_ne_of (k := 10) (j := 11) (by decide) (by decide) (by decide) (c := [109, 99, 121, 99, 108, 101, 104]) rfl
  have n16 := name_ne_of (k := 10) (j := 16) (by decide) (by decide) (by decide) (c := [99, 121, 99, 108, 101, 104]) rfl
  have n10 := name_eq_of (k := 10) (by decide) (c := [109, 105, 110, 115, 116, 114, 101, 116]) rfl
  have HH : Hid (∀ W : World, Calls Tryd.prog 18 #[.int .u64 (IntKind.u64.wrap (E 1 + K 8))] W fun e w' => e = .returned (.int .u32 (readC K E 10)) ∧ w' = W) := fun W => by have h := low16_any (nowZ (K 8) (E 1)) W ; rwa [← show IntKind.u64.wrap (E 1 + K 8) = nowZ (K 8) (E 1) from by rw [IntKind.wrap_u64]; rfl] at h
  clear he
  generalize hv : readC K E 10 = v at *
  clear hv
  generalize mnum 10 = c at *
  generalize mname 10 = s at *
  generalize mkept 10 = x at *
  generalize mfix 10 = y at *
  generalize mfast 10 = f at *
  obtain ⟨hf0, he0, hb0⟩ := box_fe w K E
  obtain ⟨W0, hW0⟩ : ∃ W0, W0 = (w.alloc (.cells #[.int .u32 (K 0), .int .u32 (K 1), .int .u32 (K 2), .int .u32 (K 3), .int .u32 (K 4), .int .u32 (K 5), .int .u32 (K 6), .int .u64 (K 7), .int .u64 (K 8)] 27)).alloc (.cells #[.int .u64 (E 0), .int .u64 (E 1), .int .u64 (E 2), .int .u32 (E 3)] 29) := ⟨_, rfl⟩
  rw [← hW0] at hf0 he0 hb0
  have HW0 := Lib.hid hW0
  have HF0 := Lib.hid hf0
  have HE0 := Lib.hid he0
  have HB0 := Lib.hid hb0
  have HT0 := Lib.hid (ht.on hb0)
  clear hW0 hf0 he0 hb0 ht
  go_enter Tryd.func5, Tryd.ntmps5
  go_wp2_with fail
  rw [← HW0.out]
  refine (HFIND.out W0 HT0.out).mono ?_
  rintro e w1 ⟨rfl, hb1⟩
  obtain ⟨hr, hb2⟩ := box_reg w1 s x y f
  obtain ⟨U, hU⟩ : ∃ U, U = w1.alloc (.cells #[.string s, .int .u32 x, .int .u32 y, .bool f] 51) := ⟨_, rfl⟩
  rw [← hU] at hr hb2
  have hb3 := hb1.trans (hb2.mono hb1.size)
  have HF1 := Lib.hid (heap_on HF0.out hb3)
  have HE1 := Lib.hid (heap_on HE0.out hb3)
  have HB1 := Lib.hid (HB0.out.trans (hb3.mono HB0.out.size))
  have HR1 := Lib.hid hr
  have HU := Lib.hid hU
  obtain ⟨r0, r1, r2, r3⟩ := reg_cells hr
  clear hb1 hb2 hb3 hr hU
  go_wp2_with fail
  rw [← HU.out]
  go_wp2_with fail
  refine (HPL.out w.heap.size _).mono ?_
  rintro e w' ⟨rfl, hw⟩
  have hw := hw.symm
  subst hw
  obtain ⟨⟨-, -, -, -, -, -, -, q7, q8⟩, -⟩ := nine_cells HF1.out
  obtain ⟨⟨e0, e1, e2, e3⟩, -⟩ := env_cells HE1.out
  go_wp2_with fail
  refine (HH.out _).mono ?_
  rintro e w' ⟨rfl, hw⟩
  have hw := hw.symm
  subst hw
  go_wp2
  go_ret2
  exact ⟨rfl, HB1.out⟩

end Go.Proofs.YtibhlbggnkobeaaDoor
