/- Layer 16: Write: what there is not, what can't be written. -/
import Derived.Test.YtibhlbggnkobeaaDoorCsrAll
namespace Go.Proofs.YtibhlbggnkobeaaDoor
open Go.RowKit
set_option linter.unusedVariables false
set_option linter.unusedSimpArgs false

/-- The four boxes of Write on their way: the file, the word, what it is asked in, the result. -/
def Wx (w W : World) (K E : Nat → Int) (x : Int) : Prop :=
  IsFile W w.heap.size K ∧ W.heap[w.heap.size + 1]? = some (.cells #[.int .u32 x] 22 (0, 0)) ∧ IsEnv W (w.heap.size + 1 + 1) E ∧ IsFile W (w.heap.size + 1 + 1 + 1) zeroK ∧ Below w.heap.size w W
theorem Wx.on {w W W' : World} {K E : Nat → Int} {x : Int} (h : Wx w W K E x) (hb : Below W.heap.size W W') : Wx w W' K E x :=
  ⟨heap_on h.1 hb, heap_on h.2.1 hb, heap_on h.2.2.1 hb, heap_on h.2.2.2.1 hb, h.2.2.2.2.trans (hb.mono h.2.2.2.2.size)⟩
theorem Wx.set1 {w W : World} {K E : Nat → Int} {x : Int} (h : Wx w W K E x) (y : Int) : Wx w (W.setCell ⟨w.heap.size + 1, 0, none⟩ (.int .u32 y)) K E y := by
  obtain ⟨h1, h2, h3, h4, h5⟩ := h
  have b := Bar.setCell (w.heap.size + 1) 0 W (.int .u32 y)
  refine ⟨?_, heap_setCell_at h2, ?_, ?_, h5.trans (b.below (by omega) h5.size)⟩
  · unfold IsFile; rw [b.2.2.2.2 _ (heap_lt h1) (by omega)]; exact h1
  · unfold IsEnv; rw [b.2.2.2.2 _ (heap_lt h3) (by omega)]; exact h3
  · unfold IsFile; rw [b.2.2.2.2 _ (heap_lt h4) (by omega)]; exact h4
theorem one_cell {w : World} {A : Nat} {v : Value} {t : TypeId} (h : w.heap[A]? = some (.cells #[v] t (0, 0))) : w.cell? ⟨A, 0, none⟩ = some v ∧ w.frozen? ⟨A, 0, none⟩ = false := by
  simp [World.cell?, World.frozen?, h]
theorem wbox (w : World) (K E : Nat → Int) (x : Int) : Wx w ((((w.alloc (.cells #[.int .u32 (K 0), .int .u32 (K 1), .int .u32 (K 2), .int .u32 (K 3), .int .u32 (K 4), .int .u32 (K 5), .int .u32 (K 6), .int .u64 (K 7), .int .u64 (K 8)] 27)).alloc (.cells #[.int .u32 (x)] 22)).alloc (.cells #[.int .u64 (E 0), .int .u64 (E 1), .int .u64 (E 2), .int .u32 (E 3)] 29)).alloc (.cells #[.int .u32 0, .int .u32 0, .int .u32 0, .int .u32 0, .int .u32 0, .int .u32 0, .int .u32 0, .int .u64 0, .int .u64 0] 27)) K E x := by
  have e1 : (w.alloc (.cells #[.int .u32 (K 0), .int .u32 (K 1), .int .u32 (K 2), .int .u32 (K 3), .int .u32 (K 4), .int .u32 (K 5), .int .u32 (K 6), .int .u64 (K 7), .int .u64 (K 8)] 27)).heap.size = w.heap.size + 1 := by simp
  have e2 : ((w.alloc (.cells #[.int .u32 (K 0), .int .u32 (K 1), .int .u32 (K 2), .int .u32 (K 3), .int .u32 (K 4), .int .u32 (K 5), .int .u32 (K 6), .int .u64 (K 7), .int .u64 (K 8)] 27)).alloc (.cells #[.int .u32 (x)] 22)).heap.size = w.heap.size + 1 + 1 := by simp
  have e3 : (((w.alloc (.cells #[.int .u32 (K 0), .int .u32 (K 1), .int .u32 (K 2), .int .u32 (K 3), .int .u32 (K 4), .int .u32 (K 5), .int .u32 (K 6), .int .u64 (K 7), .int .u64 (K 8)] 27)).alloc (.cells #[.int .u32 (x)] 22)).alloc (.cells #[.int .u64 (E 0), .int .u64 (E 1), .int .u64 (E 2), .int .u32 (E 3)] 29)).heap.size = w.heap.size + 1 + 1 + 1 := by simp
  refine ⟨?_, ?_, ?_, ?_, (((((Below.refl _ _).alloc (Nat.le_refl _) _).alloc (by simp) _).alloc (by simp; omega) _)).alloc (by simp; omega) _⟩
  · unfold IsFile
    rw [heap_alloc_old _ _ (by omega), heap_alloc_old _ _ (by omega), heap_alloc_old _ _ (by omega)]
    exact heap_alloc_new _ _
  · rw [heap_alloc_old _ _ (by omega), heap_alloc_old _ _ (by omega)]
    have h := heap_alloc_new (w.alloc (.cells #[.int .u32 (K 0), .int .u32 (K 1), .int .u32 (K 2), .int .u32 (K 3), .int .u32 (K 4), .int .u32 (K 5), .int .u32 (K 6), .int .u64 (K 7), .int .u64 (K 8)] 27)) (.cells #[.int .u32 (x)] 22)
    rw [e1] at h; exact h
  · unfold IsEnv
    rw [heap_alloc_old _ _ (by omega)]
    have h := heap_alloc_new ((w.alloc (.cells #[.int .u32 (K 0), .int .u32 (K 1), .int .u32 (K 2), .int .u32 (K 3), .int .u32 (K 4), .int .u32 (K 5), .int .u32 (K 6), .int .u64 (K 7), .int .u64 (K 8)] 27)).alloc (.cells #[.int .u32 (x)] 22)) (.cells #[.int .u64 (E 0), .int .u64 (E 1), .int .u64 (E 2), .int .u32 (E 3)] 29)
    rw [e2] at h; exact h
  · have h := heap_alloc_new (((w.alloc (.cells #[.int .u32 (K 0), .int .u32 (K 1), .int .u32 (K 2), .int .u32 (K 3), .int .u32 (K 4), .int .u32 (K 5), .int .u32 (K 6), .int .u64 (K 7), .int .u64 (K 8)] 27)).alloc (.cells #[.int .u32 (x)] 22)).alloc (.cells #[.int .u64 (E 0), .int .u64 (E 1), .int .u64 (E 2), .int .u32 (E 3)] 29)) (.cells #[.int .u32 0, .int .u32 0, .int .u32 0, .int .u32 0, .int .u32 0, .int .u32 0, .int .u32 0, .int .u64 0, .int .u64 0] 27)
    rw [e3] at h; exact h

theorem bar9 (C : Nat) (w : World) (a b c d e f g h i : Value) : Bar C w (((((((((w.setCell ⟨C, 0, none⟩ a).setCell ⟨C, 1, none⟩ b).setCell ⟨C, 2, none⟩ c).setCell ⟨C, 3, none⟩ d).setCell ⟨C, 4, none⟩ e).setCell ⟨C, 5, none⟩ f).setCell ⟨C, 6, none⟩ g).setCell ⟨C, 7, none⟩ h).setCell ⟨C, 8, none⟩ i) :=
  ((((((((Bar.setCell _ _ _ _).trans (Bar.setCell _ _ _ _)).trans (Bar.setCell _ _ _ _)).trans (Bar.setCell _ _ _ _)).trans (Bar.setCell _ _ _ _)).trans (Bar.setCell _ _ _ _)).trans (Bar.setCell _ _ _ _)).trans (Bar.setCell _ _ _ _)).trans (Bar.setCell _ _ _ _)
/-- The result's nine cells, ahead of them one of the file's. -/
theorem end9 {w W : World} {C : Nat} (hC : w.heap.size ≤ C) (a b c d e f g h i : Value) (hb : Below w.heap.size w W) : Below w.heap.size w (((((((((W.setCell ⟨C, 0, none⟩ a).setCell ⟨C, 1, none⟩ b).setCell ⟨C, 2, none⟩ c).setCell ⟨C, 3, none⟩ d).setCell ⟨C, 4, none⟩ e).setCell ⟨C, 5, none⟩ f).setCell ⟨C, 6, none⟩ g).setCell ⟨C, 7, none⟩ h).setCell ⟨C, 8, none⟩ i) :=
  hb.trans ((bar9 C _ a b c d e f g h i).below hC hb.size)
theorem end1 {w W : World} (o : Nat) (u : Value) (hb : Below w.heap.size w W) : Below w.heap.size w (W.setCell ⟨w.heap.size, o, none⟩ u) := hb.trans ((Bar.setCell w.heap.size o W u).below (Nat.le_refl _) hb.size)

set_option maxHeartbeats 3000000 in
set_option maxRecDepth 100000 in
theorem cwrite_no (K E : Nat → Int) (c : Int) (x : Int) (w : World) (h : ∀ k, k < 23 → mnum k ≠ c) (ht : RegTab w) :
    Calls Tryd.prog 13 #[.agg #[.int .u32 (K 0), .int .u32 (K 1), .int .u32 (K 2), .int .u32 (K 3), .int .u32 (K 4), .int .u32 (K 5), .int .u32 (K 6), .int .u64 (K 7), .int .u64 (K 8)], .int .i64 (c), .int .u32 x, .agg #[.int .u64 (E 0), .int .u64 (E 1), .int .u64 (E 2), .int .u32 (E 3)]] w fun e w' => e = .returned (.tuple #[.agg #[.int .u32 0, .int .u32 0, .int .u32 0, .int .u32 0, .int .u32 0, .int .u32 0, .int .u32 0, .int .u64 0, .int .u64 0], .int .i64 8]) ∧ Below w.heap.size w w' := by
  have HFIND : Hid (∀ W : World, RegTab W → Calls Tryd.prog 16 #[.int .i64 c] W fun e w' => e = .returned (.tuple #[.agg #[.string ⟨#[]⟩, .int .u32 0, .int .u32 0, .bool false], .int .i64 8]) ∧ Below W.heap.size W w') := fun W ht => find_no c W h ht
  have HT := Lib.hid ht
  clear h ht
  obtain ⟨W0, hW0⟩ : ∃ W0, W0 = (((w.alloc (.cells #[.int .u32 (K 0), .int .u32 (K 1), .int .u32 (K 2), .int .u32 (K 3), .int .u32 (K 4), .int .u32 (K 5), .int .u32 (K 6), .int .u64 (K 7), .int .u64 (K 8)] 27)).alloc (.cells #[.int .u32 (x)] 22)).alloc (.cells #[.int .u64 (E 0), .int .u64 (E 1), .int .u64 (E 2), .int .u32 (E 3)] 29)).alloc (.cells #[.int .u32 0, .int .u32 0, .int .u32 0, .int .u32 0, .int .u32 0, .int .u32 0, .int .u32 0, .int .u64 0, .int .u64 0] 27) := ⟨_, rfl⟩
  have hx0 : Wx w W0 K E x := by rw [hW0]; exact wbox w K E x
  have HW0 := Lib.hid hW0
  have HX0 := Lib.hid hx0
  clear hW0 hx0
  go_enter Tryd.func13, Tryd.ntmps13
  go_wp2_with fail
  rw [← HW0.out]
  refine (HFIND.out W0 (HT.out.on HX0.out.2.2.2.2)).mono ?_
  rintro e w1 ⟨rfl, hb1⟩
  have hx1 := HX0.out.on hb1
  have hlt : w.heap.size + 1 + 1 + 1 < w1.heap.size := heap_lt hx1.2.2.2.1
  have HX2 : Hid (Wx w (w1.alloc (.cells #[.string ⟨#[]⟩, .int .u32 0, .int .u32 0, .bool false] 51)) K E x) := hx1.on ((Below.refl _ _).alloc (Nat.le_refl _) _)
  obtain ⟨⟨t0, t1, t2, t3, t4, t5, t6, t7, t8⟩, -⟩ := nine_cells hx1.2.2.2.1
  obtain ⟨⟨u0, u1, u2, u3, u4, u5, u6, u7, u8⟩, hz⟩ := nine_cells HX2.out.2.2.2.1
  have o0 := hz 0; have o1 := hz 1; have o2 := hz 2; have o3 := hz 3; have o4 := hz 4; have o5 := hz 5; have o6 := hz 6; have o7 := hz 7; have o8 := hz 8
  have hne : w1.heap.size ≠ w.heap.size + 1 + 1 + 1 := by omega
  have hne' : w.heap.size + 1 + 1 + 1 ≠ w1.heap.size := by omega
  clear hz hb1 hlt hx1
  go_wp2
  refine bodyPost_ret (v := .tuple #[.agg #[.int .u32 0, .int .u32 0, .int .u32 0, .int .u32 0, .int .u32 0, .int .u32 0, .int .u32 0, .int .u64 0, .int .u64 0], .int .i64 8]) (by simp [results, Tryd.results13, go_sem, t0, t1, t2, t3, t4, t5, t6, t7, t8, u0, u1, u2, u3, u4, u5, u6, u7, u8, hne, hne']) rfl ?_
  exact ⟨rfl, end9 (by omega) _ _ _ _ _ _ _ _ _ HX2.out.2.2.2.2⟩

end Go.Proofs.YtibhlbggnkobeaaDoor
