/- Layer 13, the document's side: its timer as a value of three cells. -/
import Derived.Test.YtkbccccjjlkgbaaTimPut
import Derived.Deep.RegionHeld3
namespace Go.Proofs.Ytkbccccjjlkgbaa
open Go.RowKit
set_option linter.unusedVariables false

/-- The document's timer in a block A. -/
def Box3 (w : World) (A : Nat) (o m : Int) (s : Bool) : Prop := w.heap[A]? = some (.cells #[.int .u64 o, .int .u64 m, .bool s] 35 (0, 0))
theorem Box3.lt {w : World} {A : Nat} {o m : Int} {s : Bool} (h : Box3 w A o m s) : A < w.heap.size := (Array.getElem?_eq_some_iff.1 h).1
theorem Box3.on {w w' : World} {A : Nat} {o m : Int} {s : Bool} (h : Box3 w A o m s) (hb : Below w.heap.size w w') : Box3 w' A o m s := by
  unfold Box3; rw [hb.block A h.lt]; exact h
theorem Box3.bar {w w' : World} {A P : Nat} {o m : Int} {s : Bool} (h : Box3 w A o m s) (hb : Bar P w w') (hne : A ≠ P) : Box3 w' A o m s := by
  unfold Box3; rw [hb.2.2.2.2 A h.lt hne]; exact h
theorem box3_new (w : World) (o m : Int) (s : Bool) : Box3 (w.alloc (.cells #[.int .u64 o, .int .u64 m, .bool s] 35)) w.heap.size o m s := heap_alloc_new _ _

set_option maxHeartbeats 400000 in
theorem rhas13_any (a : Int) (w : World) :
    Calls Try.prog 44 #[.int .u32 a] w fun e w' => e = .returned (.bool (hasT a)) ∧ w' = w := by
  cases h : hasT a
  · obtain ⟨⟨h1, h2, h3⟩, h4, h5⟩ := hasT_no h
    clear h
    go_enter Try.func44, Try.ntmps44
    go_wp2
    go_ret
    exact ⟨rfl, rfl⟩
  · rcases hasT_yes h with rfl | rfl | rfl | rfl | rfl
    all_goals
      clear h
      go_enter Try.func44, Try.ntmps44
      go_wp2
      go_ret
      exact ⟨rfl, rfl⟩

set_option maxHeartbeats 400000 in
theorem rnow13_any (o m : Int) (s : Bool) (k : Int) (w : World) :
    Calls Try.prog 74 #[.agg #[.int .u64 o, .int .u64 m, .bool s], .int .u64 k] w fun e w' => e = .returned (.int .u64 (nowZ o k)) ∧ Below w.heap.size w w' := by
  have HB : Hid (Below w.heap.size w (w.alloc (.cells #[.int .u64 o, .int .u64 m, .bool s] 35))) := (Below.refl _ _).alloc (Nat.le_refl _) _
  go_enter Try.func74, Try.ntmps74
  go_wp2
  go_ret
  exact ⟨ret_int rfl, HB.out⟩

set_option maxHeartbeats 800000 in
theorem rup13_any (o m : Int) (s : Bool) (k : Int) (w : World) :
    Calls Try.prog 62 #[.agg #[.int .u64 o, .int .u64 m, .bool s], .int .u64 k] w fun e w' => e = .returned (.bool (upB o m k)) ∧ Below w.heap.size w w' := by
  have hb0 : Below w.heap.size w (w.alloc (.cells #[.int .u64 o, .int .u64 m, .bool s] 35)) := (Below.refl _ _).alloc (Nat.le_refl _) _
  have hx0 := box3_new w o m s
  go_enter Try.func62, Try.ntmps62
  go_wp2_with fail
  generalize w.alloc (.cells #[.int .u64 o, .int .u64 m, .bool s] 35) = W at *
  have HB0 := Lib.hid hb0
  have HX0 := Lib.hid hx0
  obtain ⟨⟨c0, c1, c2⟩, -⟩ := three_cells hx0
  clear hb0 hx0
  go_region_held3 (fun w' => w'.cell? ⟨w.heap.size, 0, none⟩ = some (.int .u64 o) ∧ w'.cell? ⟨w.heap.size, 1, none⟩ = some (.int .u64 m) ∧ w'.cell? ⟨w.heap.size, 2, none⟩ = some (.bool s)) (first | (refine ⟨?_, ?_, ?_⟩ <;> assumption) | simp)
    (first
      | (go_at_call 74; refine (rnow13_any o m s k _).mono ?_; rintro e w2 ⟨rfl, hb2⟩; have HB2 := Lib.hid (HB0.out.drew.trans (hb2.mono HB0.out.drew.size)); obtain ⟨⟨p0, p1, p2⟩, -⟩ := three_cells ((HX0.out.on ((Below.refl W.heap.size W).drew)).on hb2); clear hb2))
  all_goals go_wp2
  all_goals go_ret
  all_goals exact ⟨ret_bool rfl, HB2.out⟩

set_option maxHeartbeats 800000 in
theorem rread13_any (o m : Int) (s : Bool) (a k : Int) (w : World) (ha : hasT a = true) (m0 : 0 ≤ m) (m1 : m < 18446744073709551616) :
    Calls Try.prog 53 #[.agg #[.int .u64 o, .int .u64 m, .bool s], .int .u32 a, .int .u64 k] w fun e w' => e = .returned (.int .u32 (readT o m s a k)) ∧ Below w.heap.size w w' := by
  have HB0 : Hid (Below w.heap.size w (w.alloc (.cells #[.int .u64 o, .int .u64 m, .bool s] 35))) := (Below.refl _ _).alloc (Nat.le_refl _) _
  have HN : Hid _ := nowZ_lt o k
  have HM : Hid (0 ≤ m ∧ m < 18446744073709551616) := ⟨m0, m1⟩
  rcases hasT_yes ha with rfl | rfl | rfl | rfl | rfl
  · clear ha
    cases s
    all_goals
      go_enter Try.func53, Try.ntmps53
      go_wp2
      go_ret
      exact ⟨ret_int rfl, HB0.out⟩
  · clear ha
    go_enter Try.func53, Try.ntmps53
    go_wp2
    go_ret
    exact ⟨ret_int rfl, HB0.out⟩
  · clear ha
    go_enter Try.func53, Try.ntmps53
    go_wp2
    go_ret
    exact ⟨ret_int rfl, HB0.out⟩
  all_goals
    clear ha
    go_enter Try.func53, Try.ntmps53
    go_wp2_with fail
    refine (rnow13_any o m s k _).mono ?_
    rintro e w1 ⟨rfl, hb1⟩
    have HB1 := Lib.hid (HB0.out.trans (hb1.mono HB0.out.size))
    clear hb1
    have hn0 := HN.out.1
    have hn1 := HN.out.2
    go_wp2
    go_ret
    exact ⟨ret_int rfl, HB1.out⟩

/-- The two blocks at the head of the document's functions: the timer that came, and the result. -/
abbrev zero3 : Obj := .cells #[.int .u64 0, .int .u64 0, .bool false] 35

theorem two_box3 (w : World) (o m : Int) (s : Bool) :
    Box3 ((w.alloc (.cells #[.int .u64 o, .int .u64 m, .bool s] 35)).alloc zero3) w.heap.size o m s ∧
    Box3 ((w.alloc (.cells #[.int .u64 o, .int .u64 m, .bool s] 35)).alloc zero3) (w.heap.size + 1) 0 0 false ∧
    Below w.heap.size w ((w.alloc (.cells #[.int .u64 o, .int .u64 m, .bool s] 35)).alloc zero3) := by
  refine ⟨?_, ?_, ((Below.refl _ _).alloc (Nat.le_refl _) _).alloc (by simp) _⟩
  · unfold Box3
    rw [heap_alloc_old _ _ (by simp)]
    exact heap_alloc_new _ _
  · unfold Box3
    have := heap_alloc_new (w.alloc (.cells #[.int .u64 o, .int .u64 m, .bool s] 35)) zero3
    simpa [zero3] using this
theorem bar3 (C : Nat) (w : World) (a b c : Value) : Bar C w (((w.setCell ⟨C, 0, none⟩ a).setCell ⟨C, 1, none⟩ b).setCell ⟨C, 2, none⟩ c) := ((Bar.setCell _ _ _ _).trans (Bar.setCell _ _ _ _)).trans (Bar.setCell _ _ _ _)
theorem end3 {w W : World} (o : Nat) (u a b c : Value) (h : Below w.heap.size w W) : Below w.heap.size w ((((W.setCell ⟨w.heap.size, o, none⟩ u).setCell ⟨w.heap.size + 1, 0, none⟩ a).setCell ⟨w.heap.size + 1, 1, none⟩ b).setCell ⟨w.heap.size + 1, 2, none⟩ c) := by
  have h1 := h.trans ((Bar.setCell w.heap.size o W u).below (Nat.le_refl _) h.size)
  exact h1.trans ((bar3 (w.heap.size + 1) _ a b c).below (by omega) h1.size)
theorem end3' {w W : World} (a b c : Value) (h : Below w.heap.size w W) : Below w.heap.size w (((W.setCell ⟨w.heap.size + 1, 0, none⟩ a).setCell ⟨w.heap.size + 1, 1, none⟩ b).setCell ⟨w.heap.size + 1, 2, none⟩ c) :=
  h.trans ((bar3 (w.heap.size + 1) _ a b c).below (by omega) h.size)

set_option maxHeartbeats 1600000 in
theorem rwrite13_soft (o m : Int) (s : Bool) (x k : Int) (w : World) (m0 : 0 ≤ m) (m1 : m < 18446744073709551616) (x0 : 0 ≤ x) (x1 : x < 4294967296) :
    Calls Try.prog 57 #[.agg #[.int .u64 o, .int .u64 m, .bool s], .int .u32 33554432, .int .u32 x, .int .u64 k] w fun e w' => e = .returned (.agg #[.int .u64 o, .int .u64 m, .bool (x % 2 == 1)]) ∧ Below w.heap.size w w' := by
  obtain ⟨hb1, hb2, hB0⟩ := two_box3 w o m s
  obtain ⟨W0, hW0⟩ : ∃ W0, W0 = (w.alloc (.cells #[.int .u64 o, .int .u64 m, .bool s] 35)).alloc zero3 := ⟨_, rfl⟩
  rw [← hW0] at hb1 hb2 hB0
  have HW0 := Lib.hid hW0
  have HB0 := Lib.hid hB0
  have HB1 := Lib.hid hb1
  have HB2 := Lib.hid hb2
  have HN : Hid _ := nowZ_lt o k
  have HM : Hid (0 ≤ m ∧ m < 18446744073709551616) := ⟨m0, m1⟩
  have HX : Hid (0 ≤ x ∧ x < 4294967296) := ⟨x0, x1⟩
  clear hW0 hB0 hb1 hb2 m0 m1
  obtain ⟨⟨b0, b1, b2⟩, z0, z1, z2⟩ := three_cells HB1.out
  go_enter Try.func57, Try.ntmps57
  go_wp2_with fail
  rw [← HW0.out]
  go_wp2_with fail
  refine (rnow13_any o m s k _).mono ?_
  rintro e w1 ⟨rfl, hb⟩
  have HC1 := Lib.hid (HB1.out.on hb)
  have HC2 := Lib.hid (HB2.out.on hb)
  have HBB := Lib.hid (HB0.out.trans (hb.mono HB0.out.size))
  clear hb b0 b1 b2 z0 z1 z2
  obtain ⟨⟨b0, b1, b2⟩, z0, z1, z2⟩ := three_cells HC1.out
  obtain ⟨⟨r0, r1, r2⟩, y0, y1, y2⟩ := three_cells HC2.out
  have hn0 := HN.out.1
  have hn1 := HN.out.2
  have hm0 := HM.out.1
  have hm1 := HM.out.2
  go_wp2
  refine bodyPost_ret (v := .agg #[.int .u64 o, .int .u64 m, .bool (x % 2 == 1)]) (by simp [results, Try.results57, go_sem, r0, r1, r2]) rfl ?_
  exact ⟨rfl, end3 _ _ _ _ _ HBB.out⟩

set_option maxHeartbeats 1600000 in
theorem rwrite13_cmp0 (o m : Int) (s : Bool) (x k : Int) (w : World) (m0 : 0 ≤ m) (m1 : m < 18446744073709551616) (x0 : 0 ≤ x) (x1 : x < 4294967296) :
    Calls Try.prog 57 #[.agg #[.int .u64 o, .int .u64 m, .bool s], .int .u32 33570816, .int .u32 x, .int .u64 k] w fun e w' => e = .returned (.agg #[.int .u64 o, .int .u64 (lowP m x), .bool s]) ∧ Below w.heap.size w w' := by
  obtain ⟨hb1, hb2, hB0⟩ := two_box3 w o m s
  obtain ⟨W0, hW0⟩ : ∃ W0, W0 = (w.alloc (.cells #[.int .u64 o, .int .u64 m, .bool s] 35)).alloc zero3 := ⟨_, rfl⟩
  rw [← hW0] at hb1 hb2 hB0
  have HW0 := Lib.hid hW0
  have HB0 := Lib.hid hB0
  have HB1 := Lib.hid hb1
  have HB2 := Lib.hid hb2
  have HN : Hid _ := nowZ_lt o k
  have HM : Hid (0 ≤ m ∧ m < 18446744073709551616) := ⟨m0, m1⟩
  have HX : Hid (0 ≤ x ∧ x < 4294967296) := ⟨x0, x1⟩
  clear hW0 hB0 hb1 hb2 m0 m1
  obtain ⟨⟨b0, b1, b2⟩, z0, z1, z2⟩ := three_cells HB1.out
  go_enter Try.func57, Try.ntmps57
  go_wp2_with fail
  rw [← HW0.out]
  go_wp2_with fail
  refine (rnow13_any o m s k _).mono ?_
  rintro e w1 ⟨rfl, hb⟩
  have HC1 := Lib.hid (HB1.out.on hb)
  have HC2 := Lib.hid (HB2.out.on hb)
  have HBB := Lib.hid (HB0.out.trans (hb.mono HB0.out.size))
  clear hb b0 b1 b2 z0 z1 z2
  obtain ⟨⟨b0, b1, b2⟩, z0, z1, z2⟩ := three_cells HC1.out
  obtain ⟨⟨r0, r1, r2⟩, y0, y1, y2⟩ := three_cells HC2.out
  have hn0 := HN.out.1
  have hn1 := HN.out.2
  have hm0 := HM.out.1
  have hm1 := HM.out.2
  go_wp2
  refine bodyPost_ret (v := .agg #[.int .u64 o, .int .u64 (lowP m x), .bool s]) (by simp [results, Try.results57, go_sem, r0, r1, r2, lowP]) rfl ?_
  exact ⟨rfl, end3 _ _ _ _ _ HBB.out⟩

set_option maxHeartbeats 1600000 in
theorem rwrite13_cmp4 (o m : Int) (s : Bool) (x k : Int) (w : World) (m0 : 0 ≤ m) (m1 : m < 18446744073709551616) (x0 : 0 ≤ x) (x1 : x < 4294967296) :
    Calls Try.prog 57 #[.agg #[.int .u64 o, .int .u64 m, .bool s], .int .u32 33570820, .int .u32 x, .int .u64 k] w fun e w' => e = .returned (.agg #[.int .u64 o, .int .u64 (highP m x), .bool s]) ∧ Below w.heap.size w w' := by
  obtain ⟨hb1, hb2, hB0⟩ := two_box3 w o m s
  obtain ⟨W0, hW0⟩ : ∃ W0, W0 = (w.alloc (.cells #[.int .u64 o, .int .u64 m, .bool s] 35)).alloc zero3 := ⟨_, rfl⟩
  rw [← hW0] at hb1 hb2 hB0
  have HW0 := Lib.hid hW0
  have HB0 := Lib.hid hB0
  have HB1 := Lib.hid hb1
  have HB2 := Lib.hid hb2
  have HN : Hid _ := nowZ_lt o k
  have HM : Hid (0 ≤ m ∧ m < 18446744073709551616) := ⟨m0, m1⟩
  have HX : Hid (0 ≤ x ∧ x < 4294967296) := ⟨x0, x1⟩
  clear hW0 hB0 hb1 hb2 m0 m1
  obtain ⟨⟨b0, b1, b2⟩, z0, z1, z2⟩ := three_cells HB1.out
  go_enter Try.func57, Try.ntmps57
  go_wp2_with fail
  rw [← HW0.out]
  go_wp2_with fail
  refine (rnow13_any o m s k _).mono ?_
  rintro e w1 ⟨rfl, hb⟩
  have HC1 := Lib.hid (HB1.out.on hb)
  have HC2 := Lib.hid (HB2.out.on hb)
  have HBB := Lib.hid (HB0.out.trans (hb.mono HB0.out.size))
  clear hb b0 b1 b2 z0 z1 z2
  obtain ⟨⟨b0, b1, b2⟩, z0, z1, z2⟩ := three_cells HC1.out
  obtain ⟨⟨r0, r1, r2⟩, y0, y1, y2⟩ := three_cells HC2.out
  have hn0 := HN.out.1
  have hn1 := HN.out.2
  have hm0 := HM.out.1
  have hm1 := HM.out.2
  go_wp2
  refine bodyPost_ret (v := .agg #[.int .u64 o, .int .u64 (highP m x), .bool s]) (by simp [results, Try.results57, go_sem, r0, r1, r2, highP]) rfl ?_
  exact ⟨rfl, end3 _ _ _ _ _ HBB.out⟩

set_option maxHeartbeats 1600000 in
theorem rwrite13_time0 (o m : Int) (s : Bool) (x k : Int) (w : World) (m0 : 0 ≤ m) (m1 : m < 18446744073709551616) (x0 : 0 ≤ x) (x1 : x < 4294967296) :
    Calls Try.prog 57 #[.agg #[.int .u64 o, .int .u64 m, .bool s], .int .u32 33603576, .int .u32 x, .int .u64 k] w fun e w' => e = .returned (.agg #[.int .u64 (offZ (lowP (nowZ o k) x) k), .int .u64 m, .bool s]) ∧ Below w.heap.size w w' := by
  obtain ⟨hb1, hb2, hB0⟩ := two_box3 w o m s
  obtain ⟨W0, hW0⟩ : ∃ W0, W0 = (w.alloc (.cells #[.int .u64 o, .int .u64 m, .bool s] 35)).alloc zero3 := ⟨_, rfl⟩
  rw [← hW0] at hb1 hb2 hB0
  have HW0 := Lib.hid hW0
  have HB0 := Lib.hid hB0
  have HB1 := Lib.hid hb1
  have HB2 := Lib.hid hb2
  have HN : Hid _ := nowZ_lt o k
  have HM : Hid (0 ≤ m ∧ m < 18446744073709551616) := ⟨m0, m1⟩
  have HX : Hid (0 ≤ x ∧ x < 4294967296) := ⟨x0, x1⟩
  clear hW0 hB0 hb1 hb2 m0 m1
  obtain ⟨⟨b0, b1, b2⟩, z0, z1, z2⟩ := three_cells HB1.out
  go_enter Try.func57, Try.ntmps57
  go_wp2_with fail
  rw [← HW0.out]
  go_wp2_with fail
  refine (rnow13_any o m s k _).mono ?_
  rintro e w1 ⟨rfl, hb⟩
  have HC1 := Lib.hid (HB1.out.on hb)
  have HC2 := Lib.hid (HB2.out.on hb)
  have HBB := Lib.hid (HB0.out.trans (hb.mono HB0.out.size))
  clear hb b0 b1 b2 z0 z1 z2
  obtain ⟨⟨b0, b1, b2⟩, z0, z1, z2⟩ := three_cells HC1.out
  obtain ⟨⟨r0, r1, r2⟩, y0, y1, y2⟩ := three_cells HC2.out
  have hn0 := HN.out.1
  have hn1 := HN.out.2
  have hm0 := HM.out.1
  have hm1 := HM.out.2
  go_wp2
  have e1 : IntKind.u64.wrap (nowZ o k / 4294967296 * 4294967296 + x - k) = offZ (lowP (nowZ o k) x) k := by rw [IntKind.wrap_u64]; rfl
  refine bodyPost_ret (v := .agg #[.int .u64 (offZ (lowP (nowZ o k) x) k), .int .u64 m, .bool s]) (by simp [results, Try.results57, go_sem, r0, r1, r2, e1]) rfl ?_
  exact ⟨rfl, end3 _ _ _ _ _ HBB.out⟩

set_option maxHeartbeats 1600000 in
theorem rwrite13_time4 (o m : Int) (s : Bool) (x k : Int) (w : World) (m0 : 0 ≤ m) (m1 : m < 18446744073709551616) (x0 : 0 ≤ x) (x1 : x < 4294967296) :
    Calls Try.prog 57 #[.agg #[.int .u64 o, .int .u64 m, .bool s], .int .u32 33603580, .int .u32 x, .int .u64 k] w fun e w' => e = .returned (.agg #[.int .u64 (offZ (highP (nowZ o k) x) k), .int .u64 m, .bool s]) ∧ Below w.heap.size w w' := by
  obtain ⟨hb1, hb2, hB0⟩ := two_box3 w o m s
  obtain ⟨W0, hW0⟩ : ∃ W0, W0 = (w.alloc (.cells #[.int .u64 o, .int .u64 m, .bool s] 35)).alloc zero3 := ⟨_, rfl⟩
  rw [← hW0] at hb1 hb2 hB0
  have HW0 := Lib.hid hW0
  have HB0 := Lib.hid hB0
  have HB1 := Lib.hid hb1
  have HB2 := Lib.hid hb2
  have HN : Hid _ := nowZ_lt o k
  have HM : Hid (0 ≤ m ∧ m < 18446744073709551616) := ⟨m0, m1⟩
  have HX : Hid (0 ≤ x ∧ x < 4294967296) := ⟨x0, x1⟩
  clear hW0 hB0 hb1 hb2 m0 m1
  obtain ⟨⟨b0, b1, b2⟩, z0, z1, z2⟩ := three_cells HB1.out
  go_enter Try.func57, Try.ntmps57
  go_wp2_with fail
  rw [← HW0.out]
  go_wp2_with fail
  refine (rnow13_any o m s k _).mono ?_
  rintro e w1 ⟨rfl, hb⟩
  have HC1 := Lib.hid (HB1.out.on hb)
  have HC2 := Lib.hid (HB2.out.on hb)
  have HBB := Lib.hid (HB0.out.trans (hb.mono HB0.out.size))
  clear hb b0 b1 b2 z0 z1 z2
  obtain ⟨⟨b0, b1, b2⟩, z0, z1, z2⟩ := three_cells HC1.out
  obtain ⟨⟨r0, r1, r2⟩, y0, y1, y2⟩ := three_cells HC2.out
  have hn0 := HN.out.1
  have hn1 := HN.out.2
  have hm0 := HM.out.1
  have hm1 := HM.out.2
  go_wp2
  have e1 : IntKind.u64.wrap (x * 4294967296 + nowZ o k % 4294967296 - k) = offZ (highP (nowZ o k) x) k := by rw [IntKind.wrap_u64]; rfl
  refine bodyPost_ret (v := .agg #[.int .u64 (offZ (highP (nowZ o k) x) k), .int .u64 m, .bool s]) (by simp [results, Try.results57, go_sem, r0, r1, r2, e1]) rfl ?_
  exact ⟨rfl, end3 _ _ _ _ _ HBB.out⟩

theorem rwrite13_any (o m : Int) (s : Bool) (a x k : Int) (w : World) (ha : hasT a = true) (m0 : 0 ≤ m) (m1 : m < 18446744073709551616) (x0 : 0 ≤ x) (x1 : x < 4294967296) :
    Calls Try.prog 57 #[.agg #[.int .u64 o, .int .u64 m, .bool s], .int .u32 a, .int .u32 x, .int .u64 k] w fun e w' => e = .returned (.agg #[.int .u64 (wO o a x k), .int .u64 (wM m a x), .bool (wS s a x)]) ∧ Below w.heap.size w w' := by
  rcases hasT_yes ha with rfl | rfl | rfl | rfl | rfl
  · exact rwrite13_soft o m s x k w m0 m1 x0 x1
  · exact rwrite13_cmp0 o m s x k w m0 m1 x0 x1
  · exact rwrite13_cmp4 o m s x k w m0 m1 x0 x1
  · exact rwrite13_time0 o m s x k w m0 m1 x0 x1
  · exact rwrite13_time4 o m s x k w m0 m1 x0 x1

set_option maxHeartbeats 800000 in
theorem rnew13_any (w : World) :
    Calls Try.prog 11 #[] w fun e w' => e = .returned (.agg #[.int .u64 0, .int .u64 18446744073709551615, .bool false]) ∧ Below w.heap.size w w' := by
  have HB0 : Hid (Below w.heap.size w (w.alloc (.cells #[.int .u64 0, .int .u64 18446744073709551615, .bool false] 35))) := (Below.refl _ _).alloc (Nat.le_refl _) _
  go_enter Try.func11, Try.ntmps11
  go_wp2
  refine bodyPost_ret (v := .agg #[.int .u64 0, .int .u64 18446744073709551615, .bool false]) (by simp [results, Try.results11, go_sem]) rfl ?_
  exact ⟨rfl, HB0.out⟩

end Go.Proofs.Ytkbccccjjlkgbaa
