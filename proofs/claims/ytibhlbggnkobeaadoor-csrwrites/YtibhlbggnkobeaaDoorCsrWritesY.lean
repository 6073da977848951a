/- Layer 16: the walk of CsrWrites, of a register that can be written. -/
import Derived.Test.YtibhlbggnkobeaaDoorCsrWrites
import Derived.Test.YtibhlbggnkobeaaDoorCsrOpen
namespace Go.Proofs.YtibhlbggnkobeaaDoor
open Go.RowKit
set_option linter.unusedVariables false
set_option linter.unusedSimpArgs false

/-- The boxes, and the answer's in block G. -/
def Dx (w W : World) (K E J : Nat → Int) (c x : Int) (G : Nat) : Prop := Cx w W K E c x ∧ IsFile W G J
theorem Dx.on {w W W' : World} {K E J : Nat → Int} {c x : Int} {G : Nat} (h : Dx w W K E J c x G) (hb : Below W.heap.size W W') : Dx w W' K E J c x G := ⟨h.1.on hb, heap_on h.2 hb⟩
theorem Dx.drew {w W : World} {K E J : Nat → Int} {c x : Int} {G : Nat} (h : Dx w W K E J c x G) : Dx w W.drew K E J c x G := h.on ((Below.refl _ _).drew)
abbrev Cells24 (W : World) (A G : Nat) (K E J : Nat → Int) (c x : Int) : Prop :=
  W.cell? ⟨G, 0, none⟩ = some (.int .u32 (J 0)) ∧ W.cell? ⟨G, 1, none⟩ = some (.int .u32 (J 1)) ∧ W.cell? ⟨G, 2, none⟩ = some (.int .u32 (J 2)) ∧ W.cell? ⟨G, 3, none⟩ = some (.int .u32 (J 3)) ∧ W.cell? ⟨G, 4, none⟩ = some (.int .u32 (J 4)) ∧ W.cell? ⟨G, 5, none⟩ = some (.int .u32 (J 5)) ∧ W.cell? ⟨G, 6, none⟩ = some (.int .u32 (J 6)) ∧ W.cell? ⟨G, 7, none⟩ = some (.int .u64 (J 7)) ∧ W.cell? ⟨G, 8, none⟩ = some (.int .u64 (J 8)) ∧
  W.cell? ⟨A, 0, none⟩ = some (.int .u32 (K 0)) ∧ W.cell? ⟨A, 1, none⟩ = some (.int .u32 (K 1)) ∧ W.cell? ⟨A, 2, none⟩ = some (.int .u32 (K 2)) ∧ W.cell? ⟨A, 3, none⟩ = some (.int .u32 (K 3)) ∧ W.cell? ⟨A, 4, none⟩ = some (.int .u32 (K 4)) ∧ W.cell? ⟨A, 5, none⟩ = some (.int .u32 (K 5)) ∧ W.cell? ⟨A, 6, none⟩ = some (.int .u32 (K 6)) ∧ W.cell? ⟨A, 7, none⟩ = some (.int .u64 (K 7)) ∧ W.cell? ⟨A, 8, none⟩ = some (.int .u64 (K 8)) ∧
  W.cell? ⟨A + 1, 0, none⟩ = some (.int .i64 c) ∧ W.cell? ⟨A + 1, 1, none⟩ = some (.int .u32 x) ∧
  W.cell? ⟨A + 1 + 1, 0, none⟩ = some (.int .u64 (E 0)) ∧ W.cell? ⟨A + 1 + 1, 1, none⟩ = some (.int .u64 (E 1)) ∧ W.cell? ⟨A + 1 + 1, 2, none⟩ = some (.int .u64 (E 2)) ∧ W.cell? ⟨A + 1 + 1, 3, none⟩ = some (.int .u32 (E 3))
theorem Dx.cells {w W : World} {K E J : Nat → Int} {c x : Int} {G : Nat} (h : Dx w W K E J c x G) : Cells24 W w.heap.size G K E J c x := by
  obtain ⟨⟨g0, g1, g2, g3, g4, g5, g6, g7, g8⟩, -⟩ := nine_cells h.2
  obtain ⟨⟨q0, q1, q2, q3, q4, q5, q6, q7, q8⟩, -⟩ := nine_cells h.1.1
  obtain ⟨y0, y1⟩ := two_cells16 h.1.2.1
  obtain ⟨⟨e0, e1, e2, e3⟩, -⟩ := env_cells h.1.2.2.1
  exact ⟨g0, g1, g2, g3, g4, g5, g6, g7, g8, q0, q1, q2, q3, q4, q5, q6, q7, q8, y0, y1, e0, e1, e2, e3⟩

theorem mfast_no : ∀ k, k < 13 → mfast k = false := by decide +kernel

namespace csrWrites
set_option maxHeartbeats 8000000 in
set_option maxRecDepth 100000 in
theorem yes (K E : Nat → Int) (k : Nat) (x : Int) (w : World) (hk : k < 13) (x0 : 0 ≤ x) (x1 : x < 4294967296) (ht : RegTab w) :
    Calls Tryd.prog 4 #[.agg #[.int .u32 (K 0), .int .u32 (K 1), .int .u32 (K 2), .int .u32 (K 3), .int .u32 (K 4), .int .u32 (K 5), .int .u32 (K 6), .int .u64 (K 7), .int .u64 (K 8)], .agg #[.int .i64 (mnum k), .int .u32 x], .agg #[.int .u64 (E 0), .int .u64 (E 1), .int .u64 (E 2), .int .u32 (E 3)]] w fun e w' => e = .returned (.bool true) ∧ Below w.heap.size w w' := by
  have HWR : Hid (∀ W : World, RegTab W → Calls Tryd.prog 13 #[.agg #[.int .u32 (K 0), .int .u32 (K 1), .int .u32 (K 2), .int .u32 (K 3), .int .u32 (K 4), .int .u32 (K 5), .int .u32 (K 6), .int .u64 (K 7), .int .u64 (K 8)], .int .i64 (mnum k), .int .u32 x, .agg #[.int .u64 (E 0), .int .u64 (E 1), .int .u64 (E 2), .int .u32 (E 3)]] W fun e w' => e = .returned (.tuple #[.agg #[.int .u32 ((writeC K E x k) 0), .int .u32 ((writeC K E x k) 1), .int .u32 ((writeC K E x k) 2), .int .u32 ((writeC K E x k) 3), .int .u32 ((writeC K E x k) 4), .int .u32 ((writeC K E x k) 5), .int .u32 ((writeC K E x k) 6), .int .u64 ((writeC K E x k) 7), .int .u64 ((writeC K E x k) 8)], .int .i64 0]) ∧ Below W.heap.size W w') := fun W hT => cwrite_any K E k x W hk x0 x1 hT
  have HRW : Hid (∀ W : World, Calls Tryd.prog 15 #[.agg #[.int .u32 (K 0), .int .u32 (K 1), .int .u32 (K 2), .int .u32 (K 3), .int .u32 (K 4), .int .u32 (K 5), .int .u32 (K 6), .int .u64 (K 7), .int .u64 (K 8)], .int .i64 (mnum k), .int .u32 x, .agg #[.int .u64 (E 0), .int .u64 (E 1), .int .u64 (E 2), .int .u32 (E 3)]] W fun e w' => e = .returned (.agg #[.int .u32 ((writeC K E x k) 0), .int .u32 ((writeC K E x k) 1), .int .u32 ((writeC K E x k) 2), .int .u32 ((writeC K E x k) 3), .int .u32 ((writeC K E x k) 4), .int .u32 ((writeC K E x k) 5), .int .u32 ((writeC K E x k) 6), .int .u64 ((writeC K E x k) 7), .int .u64 ((writeC K E x k) 8)]) ∧ Below W.heap.size W w') := fun W => rwrite16_any K E k x W hk x0 x1
  have HP : Hid (∀ W : World, Calls Tryd.prog 6 #[.int .i64 (mnum k)] W fun e w' => e = .returned (.int .i64 k) ∧ Below W.heap.size W w') := fun W => rplace_yes k W (by omega)
  have HFA : Hid (∀ W : World, Calls Tryd.prog 14 #[.int .i64 (mnum k)] W fun e w' => e = .returned (.bool false) ∧ w' = W) := fun W => by have h := rfast_any k (by omega) W; rwa [mfast_no k hk] at h
  have i0 : (0 : Int) ≤ (k : Int) := by omega
  have hlt : ((k : Int) < 0) = False := by simp
  have HT := Lib.hid ht
  clear hk x0 x1 ht
  generalize mnum k = c at *
  generalize writeC K E x k = J at *
  obtain ⟨W0, hW0⟩ : ∃ W0, W0 = ((w.alloc (.cells #[.int .u32 (K 0), .int .u32 (K 1), .int .u32 (K 2), .int .u32 (K 3), .int .u32 (K 4), .int .u32 (K 5), .int .u32 (K 6), .int .u64 (K 7), .int .u64 (K 8)] 27)).alloc (.cells #[.int .i64 c, .int .u32 x] 44)).alloc (.cells #[.int .u64 (E 0), .int .u64 (E 1), .int .u64 (E 2), .int .u32 (E 3)] 29) := ⟨_, rfl⟩
  have hx0 : Cx w W0 K E c x := by rw [hW0]; exact cbox w K E c x
  have HW0 := Lib.hid hW0
  have HX0 := Lib.hid hx0
  clear hW0 hx0
  go_enter Tryd.func4, Tryd.ntmps4
  go_wp2_with fail
  rw [← HW0.out]
  refine (HWR.out W0 (HT.out.on HX0.out.2.2.2)).mono ?_
  rintro e w1 ⟨rfl, hb1⟩
  have hx1 := HX0.out.on hb1
  obtain ⟨U, hU⟩ : ∃ U, U = w1.alloc (.cells #[.int .u32 (J 0), .int .u32 (J 1), .int .u32 (J 2), .int .u32 (J 3), .int .u32 (J 4), .int .u32 (J 5), .int .u32 (J 6), .int .u64 (J 7), .int .u64 (J 8)] 27) := ⟨_, rfl⟩
  have HX1 : Hid (Dx w U K E J c x w1.heap.size) := by
    show Dx w U K E J c x w1.heap.size
    rw [hU]; exact ⟨hx1.on ((Below.refl _ _).alloc (Nat.le_refl _) _), heap_alloc_new _ _⟩
  have HU := Lib.hid hU
  obtain ⟨y0, y1⟩ := two_cells16 HX1.out.1.2.1
  rw [hU] at y0 y1
  clear hb1 hx1 hU
  go_wp2_with fail
  rw [← HU.out]
  clear y0 y1
  have HGB : ∃ G, G = w1.heap.size := ⟨_, rfl⟩
  obtain ⟨G, hG⟩ := HGB
  rw [← hG] at HX1 ⊢
  have HG := Lib.hid hG
  clear hG
  refine (HP.out _).mono ?_
  rintro e w2 ⟨rfl, hb2⟩
  have HX2 := Lib.hid (HX1.out.on hb2)
  clear hb2
  obtain ⟨y0, y1⟩ := two_cells16 HX2.out.1.2.1
  go_wp2_with fail
  refine (HFA.out _).mono ?_
  rintro e w' ⟨rfl, hw⟩
  have hw := hw.symm
  subst hw
  clear y0 y1
  obtain ⟨c0, c1, c2, c3, c4, c5, c6, c7, c8, c9, c10, c11, c12, c13, c14, c15, c16, c17, c18, c19, c20, c21, c22, c23⟩ := HX2.out.cells
  go_wp2_with fail
  go_region_held3 (fun w' => Cells24 w' w.heap.size G K E J c x) (first | (refine ⟨?_, ?_, ?_, ?_, ?_, ?_, ?_, ?_, ?_, ?_, ?_, ?_, ?_, ?_, ?_, ?_, ?_, ?_, ?_, ?_, ?_, ?_, ?_, ?_⟩ <;> assumption) | simp)
    (first
      | (go_at_call 9; refine (of16_any J _).mono ?_; rintro e w3 ⟨rfl, hb3⟩; have HX3 := Lib.hid (HX2.out.drew.on hb3); obtain ⟨d0, d1, d2, d3, d4, d5, d6, d7, d8, d9, d10, d11, d12, d13, d14, d15, d16, d17, d18, d19, d20, d21, d22, d23⟩ := HX3.out.cells; clear hb3)
      | (go_at_call 9; refine (of16_any K _).mono ?_; rintro e w4 ⟨rfl, hb4⟩; have HX4 := Lib.hid (HX3.out.on hb4); obtain ⟨d0, d1, d2, d3, d4, d5, d6, d7, d8, d9, d10, d11, d12, d13, d14, d15, d16, d17, d18, d19, d20, d21, d22, d23⟩ := HX4.out.cells; clear hb4)
      | (go_at_call 10; refine (in16_any E _).mono ?_; rintro e w5 ⟨rfl, hb5⟩; have HX5 := Lib.hid (HX4.out.on hb5); obtain ⟨d0, d1, d2, d3, d4, d5, d6, d7, d8, d9, d10, d11, d12, d13, d14, d15, d16, d17, d18, d19, d20, d21, d22, d23⟩ := HX5.out.cells; clear hb5)
      | (go_at_call 15; refine (HRW.out _).mono ?_; rintro e w6 ⟨rfl, hb6⟩; have HX6 := Lib.hid (HX5.out.on hb6); obtain ⟨d0, d1, d2, d3, d4, d5, d6, d7, d8, d9, d10, d11, d12, d13, d14, d15, d16, d17, d18, d19, d20, d21, d22, d23⟩ := HX6.out.cells; clear hb6)
      | (go_at_call 7; refine (awake16_any _ (HT.out.on HX6.out.1.2.2.2)).mono ?_; rintro e w7 ⟨rfl, hb7⟩; have HX7 := Lib.hid (HX6.out.on hb7); obtain ⟨d0, d1, d2, d3, d4, d5, d6, d7, d8, d9, d10, d11, d12, d13, d14, d15, d16, d17, d18, d19, d20, d21, d22, d23⟩ := HX7.out.cells; clear hb7))
  go_wp2
  go_ret
  exact ⟨rfl, HX7.out.1.2.2.2⟩

theorem walk (K : Nat → Int) (c x : Int) (E : Nat → Int) (w : World) (hK : FileB K) (x0 : 0 ≤ x) (x1 : x < 4294967296) (hE : EnvB E) (ht : RegTab w) :
    Calls Tryd.prog 4 #[.agg #[.int .u32 (K 0), .int .u32 (K 1), .int .u32 (K 2), .int .u32 (K 3), .int .u32 (K 4), .int .u32 (K 5), .int .u32 (K 6), .int .u64 (K 7), .int .u64 (K 8)], .agg #[.int .i64 c, .int .u32 x], .agg #[.int .u64 (E 0), .int .u64 (E 1), .int .u64 (E 2), .int .u32 (E 3)]] w fun e w' => e = .returned (.bool true) ∧ Below w.heap.size w w' := by
  rcases mplace c with ⟨k, hk, rfl⟩ | h
  · cases hf : mfast k
    · exact yes K E k x w (mfast_lt k hk hf) x0 x1 ht
    · exact fast K E k x w hk hf ht
  · exact no K E c x w h ht
end csrWrites
end Go.Proofs.YtibhlbggnkobeaaDoor
