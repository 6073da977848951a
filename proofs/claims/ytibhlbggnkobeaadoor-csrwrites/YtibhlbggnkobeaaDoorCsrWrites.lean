/- Layer 16: the walk of CsrWrites. -/
import Derived.Test.YtibhlbggnkobeaaDoorCsrWAll
import Derived.Test.YtibhlbggnkobeaaDoorFrame
namespace Go.Proofs.YtibhlbggnkobeaaDoor
open Go.RowKit
set_option linter.unusedVariables false
set_option linter.unusedSimpArgs false

/-- The statement's boxes on their way: the file, the register with its word, what it is asked in. -/
def Cx (w W : World) (K E : Nat → Int) (c x : Int) : Prop :=
  IsFile W w.heap.size K ∧ W.heap[w.heap.size + 1]? = some (.cells #[.int .i64 c, .int .u32 x] 44 (0, 0)) ∧ IsEnv W (w.heap.size + 1 + 1) E ∧ Below w.heap.size w W
theorem Cx.on {w W W' : World} {K E : Nat → Int} {c x : Int} (h : Cx w W K E c x) (hb : Below W.heap.size W W') : Cx w W' K E c x :=
  ⟨heap_on h.1 hb, heap_on h.2.1 hb, heap_on h.2.2.1 hb, h.2.2.2.trans (hb.mono h.2.2.2.size)⟩
theorem Cx.drew {w W : World} {K E : Nat → Int} {c x : Int} (h : Cx w W K E c x) : Cx w W.drew K E c x := h.on ((Below.refl _ _).drew)
theorem two_cells16 {w : World} {A : Nat} {u v : Value} {t : TypeId} (h : w.heap[A]? = some (.cells #[u, v] t (0, 0))) : w.cell? ⟨A, 0, none⟩ = some u ∧ w.cell? ⟨A, 1, none⟩ = some v := by
  simp [World.cell?, h]
theorem cbox (w : World) (K E : Nat → Int) (c x : Int) : Cx w (((w.alloc (.cells #[.int .u32 (K 0), .int .u32 (K 1), .int .u32 (K 2), .int .u32 (K 3), .int .u32 (K 4), .int .u32 (K 5), .int .u32 (K 6), .int .u64 (K 7), .int .u64 (K 8)] 27)).alloc (.cells #[.int .i64 c, .int .u32 x] 44)).alloc (.cells #[.int .u64 (E 0), .int .u64 (E 1), .int .u64 (E 2), .int .u32 (E 3)] 29)) K E c x := by
  have e1 : (w.alloc (.cells #[.int .u32 (K 0), .int .u32 (K 1), .int .u32 (K 2), .int .u32 (K 3), .int .u32 (K 4), .int .u32 (K 5), .int .u32 (K 6), .int .u64 (K 7), .int .u64 (K 8)] 27)).heap.size = w.heap.size + 1 := by simp
  have e2 : ((w.alloc (.cells #[.int .u32 (K 0), .int .u32 (K 1), .int .u32 (K 2), .int .u32 (K 3), .int .u32 (K 4), .int .u32 (K 5), .int .u32 (K 6), .int .u64 (K 7), .int .u64 (K 8)] 27)).alloc (.cells #[.int .i64 c, .int .u32 x] 44)).heap.size = w.heap.size + 1 + 1 := by simp
  refine ⟨?_, ?_, ?_, ((((Below.refl _ _).alloc (Nat.le_refl _) _).alloc (by simp) _)).alloc (by simp; omega) _⟩
  · unfold IsFile
    rw [heap_alloc_old _ _ (by omega), heap_alloc_old _ _ (by omega)]
    exact heap_alloc_new _ _
  · rw [heap_alloc_old _ _ (by omega)]
    have h := heap_alloc_new (w.alloc (.cells #[.int .u32 (K 0), .int .u32 (K 1), .int .u32 (K 2), .int .u32 (K 3), .int .u32 (K 4), .int .u32 (K 5), .int .u32 (K 6), .int .u64 (K 7), .int .u64 (K 8)] 27)) (.cells #[.int .i64 c, .int .u32 x] 44)
    rw [e1] at h; exact h
  · unfold IsEnv
    have h := heap_alloc_new ((w.alloc (.cells #[.int .u32 (K 0), .int .u32 (K 1), .int .u32 (K 2), .int .u32 (K 3), .int .u32 (K 4), .int .u32 (K 5), .int .u32 (K 6), .int .u64 (K 7), .int .u64 (K 8)] 27)).alloc (.cells #[.int .i64 c, .int .u32 x] 44)) (.cells #[.int .u64 (E 0), .int .u64 (E 1), .int .u64 (E 2), .int .u32 (E 3)] 29)
    rw [e2] at h; exact h

namespace csrWrites
set_option maxHeartbeats 2000000 in
theorem no (K E : Nat → Int) (c x : Int) (w : World) (h : ∀ k, k < 23 → mnum k ≠ c) (ht : RegTab w) :
    Calls Tryd.prog 4 #[.agg #[.int .u32 (K 0), .int .u32 (K 1), .int .u32 (K 2), .int .u32 (K 3), .int .u32 (K 4), .int .u32 (K 5), .int .u32 (K 6), .int .u64 (K 7), .int .u64 (K 8)], .agg #[.int .i64 c, .int .u32 x], .agg #[.int .u64 (E 0), .int .u64 (E 1), .int .u64 (E 2), .int .u32 (E 3)]] w fun e w' => e = .returned (.bool true) ∧ Below w.heap.size w w' := by
  have HWR : Hid (∀ W : World, RegTab W → Calls Tryd.prog 13 #[.agg #[.int .u32 (K 0), .int .u32 (K 1), .int .u32 (K 2), .int .u32 (K 3), .int .u32 (K 4), .int .u32 (K 5), .int .u32 (K 6), .int .u64 (K 7), .int .u64 (K 8)], .int .i64 c, .int .u32 x, .agg #[.int .u64 (E 0), .int .u64 (E 1), .int .u64 (E 2), .int .u32 (E 3)]] W fun e w' => e = .returned (.tuple #[.agg #[.int .u32 0, .int .u32 0, .int .u32 0, .int .u32 0, .int .u32 0, .int .u32 0, .int .u32 0, .int .u64 0, .int .u64 0], .int .i64 8]) ∧ Below W.heap.size W w') := fun W hT => cwrite_no K E c x W h hT
  have HP : Hid (∀ W : World, Calls Tryd.prog 6 #[.int .i64 c] W fun e w' => e = .returned (.int .i64 (-1)) ∧ Below W.heap.size W w') := fun W => rplace_no c W h
  have HT := Lib.hid ht
  clear h ht
  obtain ⟨W0, hW0⟩ : ∃ W0, W0 = ((w.alloc (.cells #[.int .u32 (K 0), .int .u32 (K 1), .int .u32 (K 2), .int .u32 (K 3), .int .u32 (K 4), .int .u32 (K 5), .int .u32 (K 6), .int .u64 (K 7), .int .u64 (K 8)] 27)).alloc (.cells #[.int .i64 c, .int .u32 x] 44)).alloc (.cells #[.int .u64 (E 0), .int .u64 (E 1), .int .u64 (E 2), .int .u32 (E 3)] 29) := ⟨_, rfl⟩
  have hx0 : Cx w W0 K E c x := by rw [hW0]; exact cbox w K E c x
  have HW0 := Lib.hid hW0
  have HX0 := Lib.hid hx0
  clear hW0 hx0
  go_enter Tryd.func4, Tryd.ntmps4
  go_wp2_with fail
  rw [← HW0.out]
  refine (HWR.out W0 (HT.out.on HX0.out.2.2.2)).mono ?_
  rintro e w1 ⟨rfl, hb1⟩
  have hx1 := HX0.out.on hb1
  obtain ⟨U, hU⟩ : ∃ U, U = w1.alloc (.cells #[.int .u32 0, .int .u32 0, .int .u32 0, .int .u32 0, .int .u32 0, .int .u32 0, .int .u32 0, .int .u64 0, .int .u64 0] 27) := ⟨_, rfl⟩
  have hg : IsFile U w1.heap.size zeroK := by rw [hU]; exact heap_alloc_new _ _
  have HX1 : Hid (Cx w U K E c x) := by
    show Cx w U K E c x
    rw [hU]; exact hx1.on ((Below.refl _ _).alloc (Nat.le_refl _) _)
  have HG1 := Lib.hid hg
  have HU := Lib.hid hU
  obtain ⟨y0, y1⟩ := two_cells16 HX1.out.2.1
  rw [hU] at y0 y1
  clear hb1 hx1 hU hg
  go_wp2_with fail
  rw [← HU.out]
  refine (HP.out _).mono ?_
  rintro e w2 ⟨rfl, hb2⟩
  have HX2 := Lib.hid (HX1.out.on hb2)
  obtain ⟨⟨g0, g1, g2, g3, g4, g5, g6, g7, g8⟩, -⟩ := nine_cells (heap_on HG1.out hb2)
  simp only [zeroK] at g0 g1 g2 g3 g4 g5 g6 g7 g8
  clear hb2 y0 y1
  go_wp2_with fail
  refine (awake16_any _ (HT.out.on HX2.out.2.2.2)).mono ?_
  rintro e w3 ⟨rfl, hb3⟩
  have HX3 := Lib.hid (HX2.out.on hb3)
  clear hb3
  go_wp2
  go_ret
  exact ⟨rfl, HX3.out.2.2.2⟩

set_option maxHeartbeats 2000000 in
theorem fast (K E : Nat → Int) (k : Nat) (x : Int) (w : World) (hk : k < 23) (hf : mfast k = true) (ht : RegTab w) :
    Calls Tryd.prog 4 #[.agg #[.int .u32 (K 0), .int .u32 (K 1), .int .u32 (K 2), .int .u32 (K 3), .int .u32 (K 4), .int .u32 (K 5), .int .u32 (K 6), .int .u64 (K 7), .int .u64 (K 8)], .agg #[.int .i64 (mnum k), .int .u32 x], .agg #[.int .u64 (E 0), .int .u64 (E 1), .int .u64 (E 2), .int .u32 (E 3)]] w fun e w' => e = .returned (.bool true) ∧ Below w.heap.size w w' := by
  have HWR : Hid (∀ W : World, RegTab W → Calls Tryd.prog 13 #[.agg #[.int .u32 (K 0), .int .u32 (K 1), .int .u32 (K 2), .int .u32 (K 3), .int .u32 (K 4), .int .u32 (K 5), .int .u32 (K 6), .int .u64 (K 7), .int .u64 (K 8)], .int .i64 (mnum k), .int .u32 x, .agg #[.int .u64 (E 0), .int .u64 (E 1), .int .u64 (E 2), .int .u32 (E 3)]] W fun e w' => e = .returned (.tuple #[.agg #[.int .u32 0, .int .u32 0, .int .u32 0, .int .u32 0, .int .u32 0, .int .u32 0, .int .u32 0, .int .u64 0, .int .u64 0], .int .i64 9]) ∧ Below W.heap.size W w') := fun W hT => cwrite_fast K E k x W hk hf hT
  have HP : Hid (∀ W : World, Calls Tryd.prog 6 #[.int .i64 (mnum k)] W fun e w' => e = .returned (.int .i64 k) ∧ Below W.heap.size W w') := fun W => rplace_yes k W hk
  have HFA : Hid (∀ W : World, Calls Tryd.prog 14 #[.int .i64 (mnum k)] W fun e w' => e = .returned (.bool true) ∧ w' = W) := fun W => by have h := rfast_any k hk W; rwa [hf] at h
  have i0 : (0 : Int) ≤ (k : Int) := by omega
  have hlt : ((k : Int) < 0) = False := by simp
  have HT := Lib.hid ht
  clear hk hf ht
  generalize mnum k = c at *
  obtain ⟨W0, hW0⟩ : ∃ W0, W0 = ((w.alloc (.cells #[.int .u32 (K 0), .int .u32 (K 1), .int .u32 (K 2), .int .u32 (K 3), .int .u32 (K 4), .int .u32 (K 5), .int .u32 (K 6), .int .u64 (K 7), .int .u64 (K 8)] 27)).alloc (.cells #[.int .i64 c, .int .u32 x] 44)).alloc (.cells #[.int .u64 (E 0), .int .u64 (E 1), .int .u64 (E 2), .int .u32 (E 3)] 29) := ⟨_, rfl⟩
  have hx0 : Cx w W0 K E c x := by rw [hW0]; exact cbox w K E c x
  have HW0 := Lib.hid hW0
  have HX0 := Lib.hid hx0
  clear hW0 hx0
  go_enter Tryd.func4, Tryd.ntmps4
  go_wp2_with fail
  rw [← HW0.out]
  refine (HWR.out W0 (HT.out.on HX0.out.2.2.2)).mono ?_
  rintro e w1 ⟨rfl, hb1⟩
  have hx1 := HX0.out.on hb1
  obtain ⟨U, hU⟩ : ∃ U, U = w1.alloc (.cells #[.int .u32 0, .int .u32 0, .int .u32 0, .int .u32 0, .int .u32 0, .int .u32 0, .int .u32 0, .int .u64 0, .int .u64 0] 27) := ⟨_, rfl⟩
  have hg : IsFile U w1.heap.size zeroK := by rw [hU]; exact heap_alloc_new _ _
  have HX1 : Hid (Cx w U K E c x) := by
    show Cx w U K E c x
    rw [hU]; exact hx1.on ((Below.refl _ _).alloc (Nat.le_refl _) _)
  have HG1 := Lib.hid hg
  have HU := Lib.hid hU
  obtain ⟨y0, y1⟩ := two_cells16 HX1.out.2.1
  rw [hU] at y0 y1
  clear hb1 hx1 hU hg
  go_wp2_with fail
  rw [← HU.out]
  refine (HP.out _).mono ?_
  rintro e w2 ⟨rfl, hb2⟩
  have HX2 := Lib.hid (HX1.out.on hb2)
  obtain ⟨⟨g0, g1, g2, g3, g4, g5, g6, g7, g8⟩, -⟩ := nine_cells (heap_on HG1.out hb2)
  simp only [zeroK] at g0 g1 g2 g3 g4 g5 g6 g7 g8
  clear hb2 y0 y1
  obtain ⟨y0, y1⟩ := two_cells16 HX2.out.2.1
  go_wp2_with fail
  refine (HFA.out _).mono ?_
  rintro e w' ⟨rfl, hw⟩
  have hw := hw.symm
  subst hw
  go_wp2_with fail
  refine (awake16_any _ (HT.out.on HX2.out.2.2.2)).mono ?_
  rintro e w3 ⟨rfl, hb3⟩
  have HX3 := Lib.hid (HX2.out.on hb3)
  clear hb3
  go_wp2
  go_ret
  exact ⟨rfl, HX3.out.2.2.2⟩
end csrWrites
end Go.Proofs.YtibhlbggnkobeaaDoor
