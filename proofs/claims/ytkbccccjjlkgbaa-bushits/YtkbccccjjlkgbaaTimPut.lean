/- Layer 13: timer's functions that change it: the closure that puts a half, set, Write, Skip. -/
import Derived.Test.YtkbccccjjlkgbaaTimGo
import Derived.Test.YtkbccccjjlkgbaaBars
namespace Go.Proofs.Ytkbccccjjlkgbaa
open Go.RowKit
set_option linter.unusedVariables false

theorem IsTim.bar {w w' : World} {A P : Nat} {o m : Int} {s : Bool} (h : IsTim w A o m s) (hb : Bar P w w') (hne : A ≠ P) : IsTim w' A o m s := by
  unfold IsTim; rw [hb.2.2.2.2 A h.lt hne]; exact h
theorem IsTim.set0 {w : World} {A : Nat} {o m : Int} {s : Bool} (h : IsTim w A o m s) (x : Int) : IsTim (w.setCell ⟨A, 0, none⟩ (.int .u64 x)) A x m s := heap_setCell_at h
theorem IsTim.set1 {w : World} {A : Nat} {o m : Int} {s : Bool} (h : IsTim w A o m s) (x : Int) : IsTim (w.setCell ⟨A, 1, none⟩ (.int .u64 x)) A o x s := heap_setCell_at h
theorem IsTim.set2 {w : World} {A : Nat} {o m : Int} {s : Bool} (h : IsTim w A o m s) (x : Bool) : IsTim (w.setCell ⟨A, 2, none⟩ (.bool x)) A o m x := heap_setCell_at h

/-- The offset, the mark and the call behind x's being written. -/
def wO (o a x k : Int) : Int := if a = 33603576 then offZ (lowP (nowZ o k) x) k else if a = 33603580 then offZ (highP (nowZ o k) x) k else o
def wM (m a x : Int) : Int := if a = 33570816 then lowP m x else if a = 33570820 then highP m x else m
def wS (s : Bool) (a x : Int) : Bool := if a = 33554432 then x % 2 == 1 else s

set_option maxHeartbeats 800000 in
theorem tput0_any (B : Nat) (n x : Int) (w : World) (n0 : 0 ≤ n) (n1 : n < 18446744073709551616) (x0 : 0 ≤ x) (x1 : x < 4294967296) (hx : w.cell? ⟨B, 0, none⟩ = some (.int .u32 x)) :
    Calls Try.prog 97 #[.int .u64 n, .int .i64 0, .pointer (some ⟨B, 0, none⟩)] w fun e w' => e = .returned (.int .u64 (lowP n x)) ∧ Q w w' := by
  have HV : Hid (bits .or .u64 (bits .andNot .u64 n 4294967295) x = lowP n x) := put_low n0 n1 x0 x1
  clear n0 n1
  go_enter Try.func97, Try.ntmps97
  go_wp2_with fail
  go_quiet (fail)
  go_wp2
  go_ret
  exact ⟨ret_int HV.out, _, rfl⟩

set_option maxHeartbeats 800000 in
theorem tput32_any (B : Nat) (n x : Int) (w : World) (n0 : 0 ≤ n) (n1 : n < 18446744073709551616) (x0 : 0 ≤ x) (x1 : x < 4294967296) (hx : w.cell? ⟨B, 0, none⟩ = some (.int .u32 x)) :
    Calls Try.prog 97 #[.int .u64 n, .int .i64 32, .pointer (some ⟨B, 0, none⟩)] w fun e w' => e = .returned (.int .u64 (highP n x)) ∧ Q w w' := by
  have HV : Hid (bits .or .u64 (bits .andNot .u64 n 18446744069414584320) (x * 4294967296) = highP n x) := put_high n0 n1 x0 x1
  clear n0 n1
  go_enter Try.func97, Try.ntmps97
  go_wp2_with fail
  go_quiet (fail)
  go_wp2
  go_ret
  exact ⟨ret_int HV.out, _, rfl⟩

set_option maxHeartbeats 800000 in
theorem tset_any {A : Nat} {o m : Int} {s : Bool} (n k : Int) (w : World) (h : IsTim w A o m s) :
    Calls Try.prog 98 #[.pointer (some ⟨A, 0, none⟩), .int .u64 n, .int .u64 k] w fun e w' => e = .returned (.tuple #[]) ∧ IsTim w' A (offZ n k) m s ∧ Bar A w w' := by
  have HE : Hid (IsTim (w.setCell ⟨A, 0, none⟩ (.int .u64 (offZ n k))) A (offZ n k) m s ∧ Bar A w (w.setCell ⟨A, 0, none⟩ (.int .u64 (offZ n k)))) := ⟨h.set0 _, Bar.setCell A 0 _ _⟩
  obtain ⟨⟨q0, q1, q2⟩, f0, f1, f2⟩ := three_cells h
  clear h
  go_enter Try.func98, Try.ntmps98
  go_wp2
  go_end0
  exact ⟨rfl, HE.out.1, HE.out.2⟩
theorem bit0_val (x : Int) (h0 : 0 ≤ x) (h1 : x < 4294967296) : bits .and .u32 x 1 = x % 2 := by
  have h := and_low x 1 h0 h1 (by omega) (by omega)
  rw [show pw 1 = 2 from by decide] at h
  exact h

set_option maxHeartbeats 400000 in
theorem twrite_nil (a x k : Int) (w : World) :
    Calls Try.prog 89 #[.pointer none, .int .u32 a, .int .u32 x, .int .u64 k] w fun e w' => e = .returned (.int .i64 6) ∧ Below w.heap.size w w' := by
  have HB : Hid (Below w.heap.size w (w.alloc (.cells #[.int .u32 x] 37))) := (Below.refl _ _).alloc (Nat.le_refl _) _
  go_enter Try.func89, Try.ntmps89
  go_wp2
  go_ret
  exact ⟨rfl, HB.out⟩

set_option maxHeartbeats 400000 in
theorem twrite_no {A : Nat} (a x k : Int) (w : World) (h : hasT a = false) :
    Calls Try.prog 89 #[.pointer (some ⟨A, 0, none⟩), .int .u32 a, .int .u32 x, .int .u64 k] w fun e w' => e = .returned (.int .i64 6) ∧ Below w.heap.size w w' := by
  have HB : Hid (Below w.heap.size w (w.alloc (.cells #[.int .u32 x] 37))) := (Below.refl _ _).alloc (Nat.le_refl _) _
  obtain ⟨⟨h1, h2, h3⟩, h4, h5⟩ := hasT_no h
  clear h
  go_enter Try.func89, Try.ntmps89
  go_wp2
  go_ret
  exact ⟨rfl, HB.out⟩

set_option maxHeartbeats 1600000 in
theorem twrite_soft {A : Nat} {o m : Int} {s : Bool} (x k : Int) (w : World) (h : IsTim w A o m s) (m0 : 0 ≤ m) (m1 : m < 18446744073709551616) (x0 : 0 ≤ x) (x1 : x < 4294967296) :
    Calls Try.prog 89 #[.pointer (some ⟨A, 0, none⟩), .int .u32 33554432, .int .u32 x, .int .u64 k] w fun e w' => e = .returned (.int .i64 0) ∧ IsTim w' A o m (x % 2 == 1) ∧ Bar A w w' := by
  have hA := h.lt
  have hb0 : Below w.heap.size w (w.alloc (.cells #[.int .u32 x] 37)) := (Below.refl _ _).alloc (Nat.le_refl _) _
  have HB0 : Hid (Bar A w (w.alloc (.cells #[.int .u32 x] 37))) := Bar.of A hb0
  have HT0 : Hid (IsTim (w.alloc (.cells #[.int .u32 x] 37)) A o m s) := h.on hb0
  have HX0 : Hid ((w.alloc (.cells #[.int .u32 x] 37)).cell? ⟨w.heap.size, 0, none⟩ = some (.int .u32 x)) := by show (w.alloc _).cell? _ = _; rw [World.cell?_alloc_at _ _ _ _ rfl]; rfl
  have HNE : Hid (w.heap.size ≠ A) := by show w.heap.size ≠ A; omega
  obtain ⟨⟨q0, q1, q2⟩, f0, f1, f2⟩ := three_cells HT0.out
  have HN : Hid _ := nowZ_lt o k
  have HM : Hid (0 ≤ m ∧ m < 18446744073709551616) := ⟨m0, m1⟩
  have HX : Hid (0 ≤ x ∧ x < 4294967296) := ⟨x0, x1⟩
  clear h hA hb0 m0 m1 x0 x1
  have HBIT : Hid (bits .and .u32 x 1 = x % 2) := bit0_val x HX.out.1 HX.out.2
  go_enter Try.func89, Try.ntmps89
  go_wp2
  go_ret
  rw [HBIT.out]
  exact ⟨rfl, HT0.out.set2 _, HB0.out.trans (Bar.setCell A 2 _ _)⟩

set_option maxHeartbeats 1600000 in
theorem twrite_cmp0 {A : Nat} {o m : Int} {s : Bool} (x k : Int) (w : World) (h : IsTim w A o m s) (m0 : 0 ≤ m) (m1 : m < 18446744073709551616) (x0 : 0 ≤ x) (x1 : x < 4294967296) :
    Calls Try.prog 89 #[.pointer (some ⟨A, 0, none⟩), .int .u32 33570816, .int .u32 x, .int .u64 k] w fun e w' => e = .returned (.int .i64 0) ∧ IsTim w' A o (lowP m x) s ∧ Bar A w w' := by
  have hA := h.lt
  have hb0 : Below w.heap.size w (w.alloc (.cells #[.int .u32 x] 37)) := (Below.refl _ _).alloc (Nat.le_refl _) _
  have HB0 : Hid (Bar A w (w.alloc (.cells #[.int .u32 x] 37))) := Bar.of A hb0
  have HT0 : Hid (IsTim (w.alloc (.cells #[.int .u32 x] 37)) A o m s) := h.on hb0
  have HX0 : Hid ((w.alloc (.cells #[.int .u32 x] 37)).cell? ⟨w.heap.size, 0, none⟩ = some (.int .u32 x)) := by show (w.alloc _).cell? _ = _; rw [World.cell?_alloc_at _ _ _ _ rfl]; rfl
  have HNE : Hid (w.heap.size ≠ A) := by show w.heap.size ≠ A; omega
  obtain ⟨⟨q0, q1, q2⟩, f0, f1, f2⟩ := three_cells HT0.out
  have HN : Hid _ := nowZ_lt o k
  have HM : Hid (0 ≤ m ∧ m < 18446744073709551616) := ⟨m0, m1⟩
  have HX : Hid (0 ≤ x ∧ x < 4294967296) := ⟨x0, x1⟩
  clear h hA hb0 m0 m1 x0 x1
  go_enter Try.func89, Try.ntmps89
  go_wp2_with fail
  refine (tput0_any w.heap.size m x _ HM.out.1 HM.out.2 HX.out.1 HX.out.2 HX0.out).mono ?_
  rintro e w1 ⟨rfl, hq⟩
  have HT1 := Lib.hid (HT0.out.q hq)
  have HB1 : Hid (Bar A w w1) := HB0.out.trans (Bar.of A (hq.below _))
  clear hq q0 q1 q2 f0 f1 f2
  obtain ⟨⟨q0, q1, q2⟩, f0, f1, f2⟩ := three_cells HT1.out
  go_wp2
  go_ret
  exact ⟨rfl, HT1.out.set1 _, HB1.out.trans (Bar.setCell A 1 _ _)⟩

set_option maxHeartbeats 1600000 in
theorem twrite_cmp4 {A : Nat} {o m : Int} {s : Bool} (x k : Int) (w : World) (h : IsTim w A o m s) (m0 : 0 ≤ m) (m1 : m < 18446744073709551616) (x0 : 0 ≤ x) (x1 : x < 4294967296) :
    Calls Try.prog 89 #[.pointer (some ⟨A, 0, none⟩), .int .u32 33570820, .int .u32 x, .int .u64 k] w fun e w' => e = .returned (.int .i64 0) ∧ IsTim w' A o (highP m x) s ∧ Bar A w w' := by
  have hA := h.lt
  have hb0 : Below w.heap.size w (w.alloc (.cells #[.int .u32 x] 37)) := (Below.refl _ _).alloc (Nat.le_refl _) _
  have HB0 : Hid (Bar A w (w.alloc (.cells #[.int .u32 x] 37))) := Bar.of A hb0
  have HT0 : Hid (IsTim (w.alloc (.cells #[.int .u32 x] 37)) A o m s) := h.on hb0
  have HX0 : Hid ((w.alloc (.cells #[.int .u32 x] 37)).cell? ⟨w.heap.size, 0, none⟩ = some (.int .u32 x)) := by show (w.alloc _).cell? _ = _; rw [World.cell?_alloc_at _ _ _ _ rfl]; rfl
  have HNE : Hid (w.heap.size ≠ A) := by show w.heap.size ≠ A; omega
  obtain ⟨⟨q0, q1, q2⟩, f0, f1, f2⟩ := three_cells HT0.out
  have HN : Hid _ := nowZ_lt o k
  have HM : Hid (0 ≤ m ∧ m < 18446744073709551616) := ⟨m0, m1⟩
  have HX : Hid (0 ≤ x ∧ x < 4294967296) := ⟨x0, x1⟩
  clear h hA hb0 m0 m1 x0 x1
  go_enter Try.func89, Try.ntmps89
  go_wp2_with fail
  refine (tput32_any w.heap.size m x _ HM.out.1 HM.out.2 HX.out.1 HX.out.2 HX0.out).mono ?_
  rintro e w1 ⟨rfl, hq⟩
  have HT1 := Lib.hid (HT0.out.q hq)
  have HB1 : Hid (Bar A w w1) := HB0.out.trans (Bar.of A (hq.below _))
  clear hq q0 q1 q2 f0 f1 f2
  obtain ⟨⟨q0, q1, q2⟩, f0, f1, f2⟩ := three_cells HT1.out
  go_wp2
  go_ret
  exact ⟨rfl, HT1.out.set1 _, HB1.out.trans (Bar.setCell A 1 _ _)⟩

set_option maxHeartbeats 1600000 in
theorem twrite_time0 {A : Nat} {o m : Int} {s : Bool} (x k : Int) (w : World) (h : IsTim w A o m s) (m0 : 0 ≤ m) (m1 : m < 18446744073709551616) (x0 : 0 ≤ x) (x1 : x < 4294967296) :
    Calls Try.prog 89 #[.pointer (some ⟨A, 0, none⟩), .int .u32 33603576, .int .u32 x, .int .u64 k] w fun e w' => e = .returned (.int .i64 0) ∧ IsTim w' A (offZ (lowP (nowZ o k) x) k) m s ∧ Bar A w w' := by
  have hA := h.lt
  have hb0 : Below w.heap.size w (w.alloc (.cells #[.int .u32 x] 37)) := (Below.refl _ _).alloc (Nat.le_refl _) _
  have HB0 : Hid (Bar A w (w.alloc (.cells #[.int .u32 x] 37))) := Bar.of A hb0
  have HT0 : Hid (IsTim (w.alloc (.cells #[.int .u32 x] 37)) A o m s) := h.on hb0
  have HX0 : Hid ((w.alloc (.cells #[.int .u32 x] 37)).cell? ⟨w.heap.size, 0, none⟩ = some (.int .u32 x)) := by show (w.alloc _).cell? _ = _; rw [World.cell?_alloc_at _ _ _ _ rfl]; rfl
  have HNE : Hid (w.heap.size ≠ A) := by show w.heap.size ≠ A; omega
  obtain ⟨⟨q0, q1, q2⟩, f0, f1, f2⟩ := three_cells HT0.out
  have HN : Hid _ := nowZ_lt o k
  have HM : Hid (0 ≤ m ∧ m < 18446744073709551616) := ⟨m0, m1⟩
  have HX : Hid (0 ≤ x ∧ x < 4294967296) := ⟨x0, x1⟩
  clear h hA hb0 m0 m1 x0 x1
  go_enter Try.func89, Try.ntmps89
  go_wp2_with fail
  refine (tnow_any k _ HT0.out).mono ?_
  rintro e w' ⟨rfl, hw⟩
  have hw := hw.symm
  subst hw
  go_wp2_with fail
  refine (tput0_any w.heap.size (nowZ o k) x _ HN.out.1 HN.out.2 HX.out.1 HX.out.2 HX0.out).mono ?_
  rintro e w1 ⟨rfl, hq⟩
  have HT1 := Lib.hid (HT0.out.q hq)
  have HB1 : Hid (Bar A w w1) := HB0.out.trans (Bar.of A (hq.below _))
  clear hq q0 q1 q2 f0 f1 f2
  go_wp2_with fail
  refine (tset_any (lowP (nowZ o k) x) k w1 HT1.out).mono ?_
  rintro e w2 ⟨rfl, ht2, hb2⟩
  have HT2 := Lib.hid ht2
  have HB2 : Hid (Bar A w w2) := HB1.out.trans hb2
  clear ht2 hb2
  go_wp2
  go_ret
  exact ⟨rfl, HT2.out, HB2.out⟩

set_option maxHeartbeats 1600000 in
theorem twrite_time4 {A : Nat} {o m : Int} {s : Bool} (x k : Int) (w : World) (h : IsTim w A o m s) (m0 : 0 ≤ m) (m1 : m < 18446744073709551616) (x0 : 0 ≤ x) (x1 : x < 4294967296) :
    Calls Try.prog 89 #[.pointer (some ⟨A, 0, none⟩), .int .u32 33603580, .int .u32 x, .int .u64 k] w fun e w' => e = .returned (.int .i64 0) ∧ IsTim w' A (offZ (highP (nowZ o k) x) k) m s ∧ Bar A w w' := by
  have hA := h.lt
  have hb0 : Below w.heap.size w (w.alloc (.cells #[.int .u32 x] 37)) := (Below.refl _ _).alloc (Nat.le_refl _) _
  have HB0 : Hid (Bar A w (w.alloc (.cells #[.int .u32 x] 37))) := Bar.of A hb0
  have HT0 : Hid (IsTim (w.alloc (.cells #[.int .u32 x] 37)) A o m s) := h.on hb0
  have HX0 : Hid ((w.alloc (.cells #[.int .u32 x] 37)).cell? ⟨w.heap.size, 0, none⟩ = some (.int .u32 x)) := by show (w.alloc _).cell? _ = _; rw [World.cell?_alloc_at _ _ _ _ rfl]; rfl
  have HNE : Hid (w.heap.size ≠ A) := by show w.heap.size ≠ A; omega
  obtain ⟨⟨q0, q1, q2⟩, f0, f1, f2⟩ := three_cells HT0.out
  have HN : Hid _ := nowZ_lt o k
  have HM : Hid (0 ≤ m ∧ m < 18446744073709551616) := ⟨m0, m1⟩
  have HX : Hid (0 ≤ x ∧ x < 4294967296) := ⟨x0, x1⟩
  clear h hA hb0 m0 m1 x0 x1
  go_enter Try.func89, Try.ntmps89
  go_wp2_with fail
  refine (tnow_any k _ HT0.out).mono ?_
  rintro e w' ⟨rfl, hw⟩
  have hw := hw.symm
  subst hw
  go_wp2_with fail
  refine (tput32_any w.heap.size (nowZ o k) x _ HN.out.1 HN.out.2 HX.out.1 HX.out.2 HX0.out).mono ?_
  rintro e w1 ⟨rfl, hq⟩
  have HT1 := Lib.hid (HT0.out.q hq)
  have HB1 : Hid (Bar A w w1) := HB0.out.trans (Bar.of A (hq.below _))
  clear hq q0 q1 q2 f0 f1 f2
  go_wp2_with fail
  refine (tset_any (highP (nowZ o k) x) k w1 HT1.out).mono ?_
  rintro e w2 ⟨rfl, ht2, hb2⟩
  have HT2 := Lib.hid ht2
  have HB2 : Hid (Bar A w w2) := HB1.out.trans hb2
  clear ht2 hb2
  go_wp2
  go_ret
  exact ⟨rfl, HT2.out, HB2.out⟩

theorem twrite_yes {A : Nat} {o m : Int} {s : Bool} (a x k : Int) (w : World) (ha : hasT a = true) (h : IsTim w A o m s) (m0 : 0 ≤ m) (m1 : m < 18446744073709551616) (x0 : 0 ≤ x) (x1 : x < 4294967296) :
    Calls Try.prog 89 #[.pointer (some ⟨A, 0, none⟩), .int .u32 a, .int .u32 x, .int .u64 k] w fun e w' => e = .returned (.int .i64 0) ∧ IsTim w' A (wO o a x k) (wM m a x) (wS s a x) ∧ Bar A w w' := by
  rcases hasT_yes ha with rfl | rfl | rfl | rfl | rfl
  · exact twrite_soft x k w h m0 m1 x0 x1
  · exact twrite_cmp0 x k w h m0 m1 x0 x1
  · exact twrite_cmp4 x k w h m0 m1 x0 x1
  · exact twrite_time0 x k w h m0 m1 x0 x1
  · exact twrite_time4 x k w h m0 m1 x0 x1

end Go.Proofs.Ytkbccccjjlkgbaa
