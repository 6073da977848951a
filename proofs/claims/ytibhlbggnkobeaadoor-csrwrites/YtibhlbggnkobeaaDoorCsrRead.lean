/- Layer 16: Read, of the registers that are kept; of those that have one word always; of what there is not. -/
import Derived.Test.YtibhlbggnkobeaaDoorCsrPlace
namespace Go.Proofs.YtibhlbggnkobeaaDoor
open Go.RowKit
set_option linter.unusedVariables false
set_option linter.unusedSimpArgs false

theorem box_fe (w : World) (K E : Nat → Int) :
    IsFile ((w.alloc (.cells #[.int .u32 (K 0), .int .u32 (K 1), .int .u32 (K 2), .int .u32 (K 3), .int .u32 (K 4), .int .u32 (K 5), .int .u32 (K 6), .int .u64 (K 7), .int .u64 (K 8)] 27)).alloc (.cells #[.int .u64 (E 0), .int .u64 (E 1), .int .u64 (E 2), .int .u32 (E 3)] 29)) w.heap.size K ∧
    IsEnv ((w.alloc (.cells #[.int .u32 (K 0), .int .u32 (K 1), .int .u32 (K 2), .int .u32 (K 3), .int .u32 (K 4), .int .u32 (K 5), .int .u32 (K 6), .int .u64 (K 7), .int .u64 (K 8)] 27)).alloc (.cells #[.int .u64 (E 0), .int .u64 (E 1), .int .u64 (E 2), .int .u32 (E 3)] 29)) (w.heap.size + 1) E ∧
    Below w.heap.size w ((w.alloc (.cells #[.int .u32 (K 0), .int .u32 (K 1), .int .u32 (K 2), .int .u32 (K 3), .int .u32 (K 4), .int .u32 (K 5), .int .u32 (K 6), .int .u64 (K 7), .int .u64 (K 8)] 27)).alloc (.cells #[.int .u64 (E 0), .int .u64 (E 1), .int .u64 (E 2), .int .u32 (E 3)] 29)) := by
  refine ⟨?_, ?_, ((Below.refl _ _).alloc (Nat.le_refl _) _).alloc (by simp) _⟩
  · unfold IsFile
    rw [heap_alloc_old _ _ (by simp)]
    exact heap_alloc_new _ _
  · have h := heap_alloc_new (w.alloc (.cells #[.int .u32 (K 0), .int .u32 (K 1), .int .u32 (K 2), .int .u32 (K 3), .int .u32 (K 4), .int .u32 (K 5), .int .u32 (K 6), .int .u64 (K 7), .int .u64 (K 8)] 27)) (.cells #[.int .u64 (E 0), .int .u64 (E 1), .int .u64 (E 2), .int .u32 (E 3)] 29)
    rw [World.size_alloc] at h
    exact h
theorem box_reg (w : World) (s : ByteArray) (x y : Int) (f : Bool) :
    IsReg (w.alloc (.cells #[.string s, .int .u32 x, .int .u32 y, .bool f] 51)) w.heap.size s x y f ∧ Below w.heap.size w (w.alloc (.cells #[.string s, .int .u32 x, .int .u32 y, .bool f] 51)) :=
  ⟨heap_alloc_new _ _, (Below.refl _ _).alloc (Nat.le_refl _) _⟩

set_option maxHeartbeats 1600000 in
set_option maxRecDepth 100000 in
theorem cread_kept (K E : Nat → Int) (k j : Nat) (w : World) (hk : k < 23) (hp : keptP k = some j) (ht : RegTab w) :
    Calls Tryd.prog 5 #[.agg #[.int .u32 (K 0), .int .u32 (K 1), .int .u32 (K 2), .int .u32 (K 3), .int .u32 (K 4), .int .u32 (K 5), .int .u32 (K 6), .int .u64 (K 7), .int .u64 (K 8)], .int .i64 (mnum k), .agg #[.int .u64 (E 0), .int .u64 (E 1), .int .u64 (E 2), .int .u32 (E 3)]] w fun e w' => e = .returned (.tuple #[.int .u32 (K j), .int .i64 0]) ∧ Below w.heap.size w w' := by
  have HFIND : Hid (∀ W : World, RegTab W → Calls Tryd.prog 16 #[.int .i64 (mnum k)] W fun e w' => e = .returned (.tuple #[.agg #[.string (mname k), .int .u32 (mkept k), .int .u32 (mfix k), .bool (mfast k)], .int .i64 0]) ∧ Below W.heap.size W w') := fun W ht => find_yes k W hk ht
  have HPL : Hid (∀ (B : Nat) (W : World), Calls Tryd.prog 17 #[.pointer (some ⟨B, 0, none⟩), .string (mname k)] W fun e w' => e = .returned (.pointer (some ⟨B, j, none⟩)) ∧ w' = W) := fun B W => place_yes B k j W hp
  have HJ : Hid (j < 7) := (keptP_lt hp).1
  clear hp
  generalize mnum k = c at *
  generalize mname k = s at *
  generalize mkept k = x at *
  generalize mfix k = y at *
  generalize mfast k = f at *
  obtain ⟨hf0, he0, hb0⟩ := box_fe w K E
  obtain ⟨W0, hW0⟩ : ∃ W0, W0 = (w.alloc (.cells #[.int .u32 (K 0), .int .u32 (K 1), .int .u32 (K 2), .int .u32 (K 3), .int .u32 (K 4), .int .u32 (K 5), .int .u32 (K 6), .int .u64 (K 7), .int .u64 (K 8)] 27)).alloc (.cells #[.int .u64 (E 0), .int .u64 (E 1), .int .u64 (E 2), .int .u32 (E 3)] 29) := ⟨_, rfl⟩
  rw [← hW0] at hf0 he0 hb0
  have HW0 := Lib.hid hW0
  have HF0 := Lib.hid hf0
  have HE0 := Lib.hid he0
  have HB0 := Lib.hid hb0
  have HT0 := Lib.hid (ht.on hb0)
  clear hW0 hf0 he0 hb0 ht
  go_enter Tryd.func5, Tryd.ntmps5
  go_wp2_with fail
  rw [← HW0.out]
  refine (HFIND.out W0 HT0.out).mono ?_
  rintro e w1 ⟨rfl, hb1⟩
  obtain ⟨hr, hb2⟩ := box_reg w1 s x y f
  obtain ⟨U, hU⟩ : ∃ U, U = w1.alloc (.cells #[.string s, .int .u32 x, .int .u32 y, .bool f] 51) := ⟨_, rfl⟩
  rw [← hU] at hr hb2
  have hb3 := hb1.trans (hb2.mono hb1.size)
  have HF1 := Lib.hid (heap_on HF0.out hb3)
  have HE1 := Lib.hid (heap_on HE0.out hb3)
  have HB1 := Lib.hid (HB0.out.trans (hb3.mono HB0.out.size))
  have HR1 := Lib.hid hr
  have HU := Lib.hid hU
  obtain ⟨r0, r1, r2, r3⟩ := reg_cells hr
  clear hb1 hb2 hb3 hr hU
  go_wp2_with fail
  rw [← HU.out]
  go_wp2_with fail
  refine (HPL.out w.heap.size _).mono ?_
  rintro e w' ⟨rfl, hw⟩
  have hw := hw.symm
  subst hw
  have hj := kept_cell HF1.out HJ.out
  go_wp2
  go_ret2
  exact ⟨rfl, HB1.out⟩

set_option maxHeartbeats 1600000 in
set_option maxRecDepth 100000 in
theorem cread_fixed (K E : Nat → Int) (k : Nat) (w : World) (hk : k < 23) (hp : keptP k = none) (hs : ∀ j, (8 ≤ j ∧ j < 19) → k ≠ j) (ht : RegTab w) :
    Calls Tryd.prog 5 #[.agg #[.int .u32 (K 0), .int .u32 (K 1), .int .u32 (K 2), .int .u32 (K 3), .int .u32 (K 4), .int .u32 (K 5), .int .u32 (K 6), .int .u64 (K 7), .int .u64 (K 8)], .int .i64 (mnum k), .agg #[.int .u64 (E 0), .int .u64 (E 1), .int .u64 (E 2), .int .u32 (E 3)]] w fun e w' => e = .returned (.tuple #[.int .u32 (mfix k), .int .i64 0]) ∧ Below w.heap.size w w' := by
  have HFIND : Hid (∀ W : World, RegTab W → Calls Tryd.prog 16 #[.int .i64 (mnum k)] W fun e w' => e = .returned (.tuple #[.agg #[.string (mname k), .int .u32 (mkept k), .int .u32 (mfix k), .bool (mfast k)], .int .i64 0]) ∧ Below W.heap.size W w') := fun W ht => find_yes k W hk ht
  have HPL : Hid (∀ (B : Nat) (W : World), Calls Tryd.prog 17 #[.pointer (some ⟨B, 0, none⟩), .string (mname k)] W fun e w' => e = .returned (.pointer none) ∧ w' = W) := fun B W => place_no B k W hk hp
  have n8 := name_ne_of (k := k) (j := 8) hk (by decide) (hs 8 (by decide)) (c := [109, 105, 112]) rfl
  have n9 := name_ne_of (k := k) (j := 9) hk (by decide) (hs 9 (by decide)) (c := [109, 99, 121, 99, 108, 101]) rfl
  have n13 := name_ne_of (k := k) (j := 13) hk (by decide) (hs 13 (by decide)) (c := [99, 121, 99, 108, 101]) rfl
  have n11 := name_ne_of (k := k) (j := 11) hk (by decide) (hs 11 (by decide)) (c := [109, 99, 121, 99, 108, 101, 104]) rfl
  have n16 := name_ne_of (k := k) (j := 16) hk (by decide) (hs 16 (by decide)) (c := [99, 121, 99, 108, 101, 104]) rfl
  have n10 := name_ne_of (k := k) (j := 10) hk (by decide) (hs 10 (by decide)) (c := [109, 105, 110, 115, 116, 114, 101, 116]) rfl
  have n15 := name_ne_of (k := k) (j := 15) hk (by decide) (hs 15 (by decide)) (c := [105, 110, 115, 116, 114, 101, 116]) rfl
  have n12 := name_ne_of (k := k) (j := 12) hk (by decide) (hs 12 (by decide)) (c := [109, 105, 110, 115, 116, 114, 101, 116, 104]) rfl
  have n18 := name_ne_of (k := k) (j := 18) hk (by decide) (hs 18 (by decide)) (c := [105, 110, 115, 116, 114, 101, 116, 104]) rfl
  have n14 := name_ne_of (k := k) (j := 14) hk (by decide) (hs 14 (by decide)) (c := [116, 105, 109, 101]) rfl
  have n17 := name_ne_of (k := k) (j := 17) hk (by decide) (hs 17 (by decide)) (c := [116, 105, 109, 101, 104]) rfl
  clear hp hs
  generalize mnum k = c at *
  generalize mname k = s at *
  generalize mkept k = x at *
  generalize mfix k = y at *
  generalize mfast k = f at *
  obtain ⟨hf0, he0, hb0⟩ := box_fe w K E
  obtain ⟨W0, hW0⟩ : ∃ W0, W0 = (w.alloc (.cells #[.int .u32 (K 0), .int .u32 (K 1), .int .u32 (K 2), .int .u32 (K 3), .int .u32 (K 4), .int .u32 (K 5), .int .u32 (K 6), .int .u64 (K 7), .int .u64 (K 8)] 27)).alloc (.cells #[.int .u64 (E 0), .int .u64 (E 1), .int .u64 (E 2), .int .u32 (E 3)] 29) := ⟨_, rfl⟩
  rw [← hW0] at hf0 he0 hb0
  have HW0 := Lib.hid hW0
  have HF0 := Lib.hid hf0
  have HE0 := Lib.hid he0
  have HB0 := Lib.hid hb0
  have HT0 := Lib.hid (ht.on hb0)
  clear hW0 hf0 he0 hb0 ht
  go_enter Tryd.func5, Tryd.ntmps5
  go_wp2_with fail
  rw [← HW0.out]
  refine (HFIND.out W0 HT0.out).mono ?_
  rintro e w1 ⟨rfl, hb1⟩
  obtain ⟨hr, hb2⟩ := box_reg w1 s x y f
  obtain ⟨U, hU⟩ : ∃ U, U = w1.alloc (.cells #[.string s, .int .u32 x, .int .u32 y, .bool f] 51) := ⟨_, rfl⟩
  rw [← hU] at hr hb2
  have hb3 := hb1.trans (hb2.mono hb1.size)
  have HF1 := Lib.hid (heap_on HF0.out hb3)
  have HE1 := Lib.hid (heap_on HE0.out hb3)
  have HB1 := Lib.hid (HB0.out.trans (hb3.mono HB0.out.size))
  have HR1 := Lib.hid hr
  have HU := Lib.hid hU
  obtain ⟨r0, r1, r2, r3⟩ := reg_cells hr
  clear hb1 hb2 hb3 hr hU
  go_wp2_with fail
  rw [← HU.out]
  go_wp2_with fail
  refine (HPL.out w.heap.size _).mono ?_
  rintro e w' ⟨rfl, hw⟩
  have hw := hw.symm
  subst hw
  go_wp2
  go_ret2
  exact ⟨rfl, HB1.out⟩

set_option maxHeartbeats 1600000 in
theorem cread_no (K E : Nat → Int) (c : Int) (w : World) (h : ∀ k, k < 23 → mnum k ≠ c) (ht : RegTab w) :
    Calls Tryd.prog 5 #[.agg #[.int .u32 (K 0), .int .u32 (K 1), .int .u32 (K 2), .int .u32 (K 3), .int .u32 (K 4), .int .u32 (K 5), .int .u32 (K 6), .int .u64 (K 7), .int .u64 (K 8)], .int .i64 c, .agg #[.int .u64 (E 0), .int .u64 (E 1), .int .u64 (E 2), .int .u32 (E 3)]] w fun e w' => e = .returned (.tuple #[.int .u32 0, .int .i64 8]) ∧ Below w.heap.size w w' := by
  have HFIND : Hid (∀ W : World, RegTab W → Calls Tryd.prog 16 #[.int .i64 c] W fun e w' => e = .returned (.tuple #[.agg #[.string ⟨#[]⟩, .int .u32 0, .int .u32 0, .bool false], .int .i64 8]) ∧ Below W.heap.size W w') := fun W ht => find_no c W h ht
  clear h
  obtain ⟨hf0, he0, hb0⟩ := box_fe w K E
  obtain ⟨W0, hW0⟩ : ∃ W0, W0 = (w.alloc (.cells #[.int .u32 (K 0), .int .u32 (K 1), .int .u32 (K 2), .int .u32 (K 3), .int .u32 (K 4), .int .u32 (K 5), .int .u32 (K 6), .int .u64 (K 7), .int .u64 (K 8)] 27)).alloc (.cells #[.int .u64 (E 0), .int .u64 (E 1), .int .u64 (E 2), .int .u32 (E 3)] 29) := ⟨_, rfl⟩
  rw [← hW0] at hf0 he0 hb0
  have HW0 := Lib.hid hW0
  have HB0 := Lib.hid hb0
  have HT0 := Lib.hid (ht.on hb0)
  clear hW0 hf0 he0 hb0 ht
  go_enter Tryd.func5, Tryd.ntmps5
  go_wp2_with fail
  rw [← HW0.out]
  refine (HFIND.out W0 HT0.out).mono ?_
  rintro e w1 ⟨rfl, hb1⟩
  have HB1 := Lib.hid (HB0.out.trans (hb1.mono HB0.out.size))
  clear hb1
  go_wp2
  go_ret2
  exact ⟨rfl, HB1.out.alloc HB1.out.size _⟩
end Go.Proofs.YtibhlbggnkobeaaDoor
