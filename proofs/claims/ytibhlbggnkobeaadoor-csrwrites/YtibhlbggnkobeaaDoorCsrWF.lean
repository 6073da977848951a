/- Layer 16: Write, of what can't be written. -/
import Derived.Test.YtibhlbggnkobeaaDoorCsrW
namespace Go.Proofs.YtibhlbggnkobeaaDoor
open Go.RowKit
set_option linter.unusedVariables false
set_option linter.unusedSimpArgs false

set_option maxHeartbeats 3000000 in
set_option maxRecDepth 100000 in
theorem cwrite_fast (K E : Nat → Int) (k : Nat) (x : Int) (w : World) (hk : k < 23) (hf : mfast k = true) (ht : RegTab w) :
    Calls Tryd.prog 13 #[.agg #[.int .u32 (K 0), .int .u32 (K 1), .int .u32 (K 2), .int .u32 (K 3), .int .u32 (K 4), .int .u32 (K 5), .int .u32 (K 6), .int .u64 (K 7), .int .u64 (K 8)], .int .i64 (mnum k), .int .u32 x, .agg #[.int .u64 (E 0), .int .u64 (E 1), .int .u64 (E 2), .int .u32 (E 3)]] w fun e w' => e = .returned (.tuple #[.agg #[.int .u32 0, .int .u32 0, .int .u32 0, .int .u32 0, .int .u32 0, .int .u32 0, .int .u32 0, .int .u64 0, .int .u64 0], .int .i64 9]) ∧ Below w.heap.size w w' := by
  have HFIND : Hid (∀ W : World, RegTab W → Calls Tryd.prog 16 #[.int .i64 (mnum k)] W fun e w' => e = .returned (.tuple #[.agg #[.string (mname k), .int .u32 (mkept k), .int .u32 (mfix k), .bool (true)], .int .i64 0]) ∧ Below W.heap.size W w') := fun W ht => by have h := find_yes k W hk ht; rwa [hf] at h
  have HT := Lib.hid ht
  clear hf ht
  generalize mnum k = c at *
  generalize mname k = s at *
  generalize mkept k = p at *
  generalize mfix k = q at *
  obtain ⟨W0, hW0⟩ : ∃ W0, W0 = (((w.alloc (.cells #[.int .u32 (K 0), .int .u32 (K 1), .int .u32 (K 2), .int .u32 (K 3), .int .u32 (K 4), .int .u32 (K 5), .int .u32 (K 6), .int .u64 (K 7), .int .u64 (K 8)] 27)).alloc (.cells #[.int .u32 (x)] 22)).alloc (.cells #[.int .u64 (E 0), .int .u64 (E 1), .int .u64 (E 2), .int .u32 (E 3)] 29)).alloc (.cells #[.int .u32 0, .int .u32 0, .int .u32 0, .int .u32 0, .int .u32 0, .int .u32 0, .int .u32 0, .int .u64 0, .int .u64 0] 27) := ⟨_, rfl⟩
  have hx0 : Wx w W0 K E x := by rw [hW0]; exact wbox w K E x
  have HW0 := Lib.hid hW0
  have HX0 := Lib.hid hx0
  clear hW0 hx0
  go_enter Tryd.func13, Tryd.ntmps13
  go_wp2_with fail
  rw [← HW0.out]
  refine (HFIND.out W0 (HT.out.on HX0.out.2.2.2.2)).mono ?_
  rintro e w1 ⟨rfl, hb1⟩
  have hx1 := HX0.out.on hb1
  have hlt : w.heap.size + 1 + 1 + 1 < w1.heap.size := heap_lt hx1.2.2.2.1
  have HX2 : Hid (Wx w (w1.alloc (.cells #[.string s, .int .u32 p, .int .u32 q, .bool true] 51)) K E x) := hx1.on ((Below.refl _ _).alloc (Nat.le_refl _) _)
  obtain ⟨⟨t0, t1, t2, t3, t4, t5, t6, t7, t8⟩, -⟩ := nine_cells hx1.2.2.2.1
  obtain ⟨⟨u0, u1, u2, u3, u4, u5, u6, u7, u8⟩, hz⟩ := nine_cells HX2.out.2.2.2.1
  have o0 := hz 0; have o1 := hz 1; have o2 := hz 2; have o3 := hz 3; have o4 := hz 4; have o5 := hz 5; have o6 := hz 6; have o7 := hz 7; have o8 := hz 8
  have hne : w1.heap.size ≠ w.heap.size + 1 + 1 + 1 := by omega
  have hne' : w.heap.size + 1 + 1 + 1 ≠ w1.heap.size := by omega
  clear hz hb1 hlt hx1
  go_wp2
  refine bodyPost_ret (v := .tuple #[.agg #[.int .u32 0, .int .u32 0, .int .u32 0, .int .u32 0, .int .u32 0, .int .u32 0, .int .u32 0, .int .u64 0, .int .u64 0], .int .i64 9]) (by simp [results, Tryd.results13, go_sem, t0, t1, t2, t3, t4, t5, t6, t7, t8, u0, u1, u2, u3, u4, u5, u6, u7, u8, hne, hne']) rfl ?_
  exact ⟨rfl, end9 (by omega) _ _ _ _ _ _ _ _ _ HX2.out.2.2.2.2⟩
end Go.Proofs.YtibhlbggnkobeaaDoor
