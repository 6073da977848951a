/- Layer 13: the walk of TimerWrites. -/
import Derived.Test.YtkdofmdiblpajaaTimEnd
namespace Go.Proofs.Ytkdofmdiblpajaa
open Go.RowKit
set_option linter.unusedVariables false

/-- The pair that came, in block C. -/
def Box2 (w : World) (C : Nat) (a x : Int) : Prop := w.heap[C]? = some (.cells #[.int .u32 a, .int .u32 x] 40 (0, 0))
theorem Box2.lt {w : World} {C : Nat} {a x : Int} (h : Box2 w C a x) : C < w.heap.size := (Array.getElem?_eq_some_iff.1 h).1
theorem Box2.on {w w' : World} {C : Nat} {a x : Int} (h : Box2 w C a x) (hb : Below w.heap.size w w') : Box2 w' C a x := by
  unfold Box2; rw [hb.block C h.lt]; exact h
theorem Box2.bar {w w' : World} {C P : Nat} {a x : Int} (h : Box2 w C a x) (hb : Bar P w w') (hne : C ≠ P) : Box2 w' C a x := by
  unfold Box2; rw [hb.2.2.2.2 C h.lt hne]; exact h
theorem Box2.cells {w : World} {C : Nat} {a x : Int} (h : Box2 w C a x) : w.cell? ⟨C, 0, none⟩ = some (.int .u32 a) ∧ w.cell? ⟨C, 1, none⟩ = some (.int .u32 x) := by
  unfold Box2 at h
  simp [World.cell?, h]
def Tri (w W : World) (A B C : Nat) (a x : Int) (o m : Int) (s : Bool) (o' m' : Int) (s' : Bool) : Prop := Two w W A B o m s o' m' s' ∧ Box2 W C a x
theorem Tri.on {w W W' : World} {A B C : Nat} {a x : Int} {o m : Int} {s : Bool} {o' m' : Int} {s' : Bool} (h : Tri w W A B C a x o m s o' m' s') (hb : Below W.heap.size W W') : Tri w W' A B C a x o m s o' m' s' := ⟨h.1.on hb, h.2.on hb⟩
theorem Tri.drew {w W : World} {A B C : Nat} {a x : Int} {o m : Int} {s : Bool} {o' m' : Int} {s' : Bool} (h : Tri w W A B C a x o m s o' m' s') : Tri w W.drew A B C a x o m s o' m' s' := h.on ((Below.refl _ _).drew)

theorem two_in (w : World) (o m : Int) (s : Bool) (a x : Int) :
    IsTim ((w.alloc (.cells #[.int .u64 o, .int .u64 m, .bool s] 24)).alloc (.cells #[.int .u32 a, .int .u32 x] 40)) w.heap.size o m s ∧
    Box2 ((w.alloc (.cells #[.int .u64 o, .int .u64 m, .bool s] 24)).alloc (.cells #[.int .u32 a, .int .u32 x] 40)) (w.heap.size + 1) a x ∧
    Below w.heap.size w ((w.alloc (.cells #[.int .u64 o, .int .u64 m, .bool s] 24)).alloc (.cells #[.int .u32 a, .int .u32 x] 40)) := by
  refine ⟨?_, ?_, ((Below.refl _ _).alloc (Nat.le_refl _) _).alloc (by simp) _⟩
  · unfold IsTim
    rw [heap_alloc_old _ _ (by simp)]
    exact heap_alloc_new _ _
  · unfold Box2
    have := heap_alloc_new (w.alloc (.cells #[.int .u64 o, .int .u64 m, .bool s] 24)) (.cells #[.int .u32 a, .int .u32 x] 40)
    simpa using this

namespace timerWrites
set_option maxHeartbeats 4000000 in
theorem walk (o m : Int) (s : Bool) (a x k : Int) (w : World) (w0 : (Lit.int .u64 o).wf = true) (w1 : (Lit.int .u64 m).wf = true) (w2 : (Lit.int .u32 a).wf = true) (w3 : (Lit.int .u32 x).wf = true) (w4 : (Lit.int .u64 k).wf = true) :
    Calls Try.prog 4 #[.agg #[.int .u64 o, .int .u64 m, .bool s], .agg #[.int .u32 a, .int .u32 x], .int .u64 k] w fun e w' => e = .returned (.bool true) ∧ Below w.heap.size w w' := by
  have hm := bounds_u64 w1
  have hm0 := hm.1
  have hm1 : m < 18446744073709551616 := by omega
  have HM : Hid (0 ≤ m ∧ m < 18446744073709551616) := ⟨hm0, hm1⟩
  have hx := bounds_u32 w3
  have HX : Hid (0 ≤ x ∧ x < 4294967296) := ⟨hx.1, by omega⟩
  clear w0 w1 w2 w3 w4 hm hm0 hm1 hx
  obtain ⟨ht0, hc0, hb0⟩ := two_in w o m s a x
  go_enter Try.func4, Try.ntmps4
  go_wp2_with fail
  generalize (w.alloc (.cells #[.int .u64 o, .int .u64 m, .bool s] 24)).alloc (.cells #[.int .u32 a, .int .u32 x] 40) = W0 at *
  obtain ⟨A, hA⟩ : ∃ A, A = w.heap.size := ⟨_, rfl⟩
  have HA := Lib.hid hA
  rw [← hA] at ht0 hc0 ⊢
  clear hA
  have HCA : Hid (A + 1 ≠ A) := by show A + 1 ≠ A; omega
  generalize A + 1 = C at *
  refine (of13_any W0 ht0).mono ?_
  rintro e w1 ⟨rfl, hb1⟩
  have hb01 := hb0.trans (hb1.mono hb0.size)
  have ht1 := ht0.on hb1
  have hc1 := hc0.on hb1
  have HNEW : Hid (A < w1.heap.size) := ht1.lt
  have hx1 := box3_new w1 o m s
  have hbx : Below w1.heap.size w1 (w1.alloc (.cells #[.int .u64 o, .int .u64 m, .bool s] 26)) := (Below.refl _ _).alloc (Nat.le_refl _) _
  have HT1 : Hid (Tri w (w1.alloc (.cells #[.int .u64 o, .int .u64 m, .bool s] 26)) A w1.heap.size C a x o m s o m s) := ⟨⟨ht1.on hbx, hx1, hb01.trans (hbx.mono hb01.size)⟩, hc1.on hbx⟩
  clear hb0 ht0 hc0 hb1 hb01 ht1 hc1 hx1 hbx
  obtain ⟨d0, d1⟩ := HT1.out.2.cells
  go_wp2_with fail
  generalize w1.alloc (.cells #[.int .u64 o, .int .u64 m, .bool s] 26) = W1 at *
  generalize w1.heap.size = B at *
  clear d0 d1
  cases hh : hasT a
  · have HRHAS : Hid (∀ W : World, Calls Try.prog 10 #[.int .u32 a] W fun e w' => e = .returned (.bool false) ∧ w' = W) := fun W => by have h := rhas13_any a W; rwa [hh] at h
    refine (twrite_no a x k W1 hh).mono ?_
    rintro e w2 ⟨rfl, hb2⟩
    have HT2 := Lib.hid (HT1.out.on hb2)
    clear hb2 hh
    obtain ⟨c0, c1, c2⟩ := HT2.out.1.cells
    go_wp2_with fail
    refine (HRHAS.out _).mono ?_
    rintro e w' ⟨rfl, hw⟩
    have hw := hw.symm
    subst hw
    go_wp2_with fail
    go_region_held3 (fun w' => w'.cell? ⟨B, 0, none⟩ = some (.int .u64 o) ∧ w'.cell? ⟨B, 1, none⟩ = some (.int .u64 m) ∧ w'.cell? ⟨B, 2, none⟩ = some (.bool s)) (first | (refine ⟨?_, ?_, ?_⟩ <;> assumption) | simp)
      (first
        | (go_at_call 7; refine (of13_any _ HT2.out.drew.1.1).mono ?_; rintro e w3 ⟨rfl, hb3⟩; have HT3 := Lib.hid (HT2.out.drew.on hb3); obtain ⟨h0, h1, h2⟩ := HT3.out.1.cells; clear hb3)
        | (go_at_call 15; refine (awake13_any _).mono ?_; rintro e w4 ⟨rfl, hb4⟩; have HT4 := Lib.hid (HT3.out.on hb4); obtain ⟨i0, i1, i2⟩ := HT4.out.1.cells; clear hb4))
    go_wp2
    go_ret
    exact ⟨rfl, HT4.out.1.2.2⟩
  · have HRHAS : Hid (∀ W : World, Calls Try.prog 10 #[.int .u32 a] W fun e w' => e = .returned (.bool true) ∧ w' = W) := fun W => by have h := rhas13_any a W; rwa [hh] at h
    have HRW : Hid (∀ W : World, Calls Try.prog 18 #[.agg #[.int .u64 o, .int .u64 m, .bool s], .int .u32 a, .int .u32 x, .int .u64 k] W fun e w' => e = .returned (.agg #[.int .u64 (wO o a x k), .int .u64 (wM m a x), .bool (wS s a x)]) ∧ Below W.heap.size W w') := fun W => rwrite13_any o m s a x k W hh HM.out.1 HM.out.2 HX.out.1 HX.out.2
    refine (twrite_yes a x k W1 hh HT1.out.1.1 HM.out.1 HM.out.2 HX.out.1 HX.out.2).mono ?_
    rintro e w2 ⟨rfl, ht2, hb2⟩
    have HT2 : Hid (Tri w w2 A B C a x (wO o a x k) (wM m a x) (wS s a x) o m s) := ⟨⟨ht2, HT1.out.1.2.1.bar hb2 (by have := HNEW.out; omega), HT1.out.1.2.2.trans (hb2.below (by rw [HA.out]; exact Nat.le_refl _) HT1.out.1.2.2.size)⟩, HT1.out.2.bar hb2 HCA.out⟩
    clear ht2 hb2
    have hwm := wM_lt (a := a) HM.out.1 HM.out.2 HX.out.1 HX.out.2
    have HRD : Hid (Calls Try.prog 8 #[.pointer (some ⟨A, 0, none⟩), .int .u32 a, .int .u64 k] w2 fun e w' => e = .returned (.tuple #[.int .u32 (if a = 33554432 then x % 2 else x), .int .i64 0]) ∧ w' = w2) := by
      have h := tread_yes a k w2 hh HT2.out.1.1 hwm.1 hwm.2
      by_cases hs : a = 33554432
      · rw [if_pos hs]; subst hs; rwa [read_write_soft] at h
      · rw [if_neg hs]; rwa [read_write hh hs HM.out.1 HM.out.2 HX.out.1 HX.out.2] at h
    clear hwm hh
    generalize wO o a x k = o2 at *
    generalize wM m a x = m2 at *
    generalize wS s a x = s2 at *
    by_cases hs : a = 33554432
    · subst hs
      rw [if_pos rfl] at HRD
      have hx0 := HX.out.1
      have hx1 := HX.out.2
      go_wp2_with fail
      refine (HRHAS.out _).mono ?_
      rintro e w' ⟨rfl, hw⟩
      have hw := hw.symm
      subst hw
      go_wp2_with fail
      refine HRD.out.mono ?_
      rintro e w' ⟨rfl, hw⟩
      have hw := hw.symm
      subst hw
      obtain ⟨c0, c1, c2⟩ := HT2.out.1.cells
      obtain ⟨d0, d1⟩ := HT2.out.2.cells
      go_wp2_with fail
      go_region_held3 (fun w' => w'.cell? ⟨B, 0, none⟩ = some (.int .u64 o) ∧ w'.cell? ⟨B, 1, none⟩ = some (.int .u64 m) ∧ w'.cell? ⟨B, 2, none⟩ = some (.bool s) ∧ w'.cell? ⟨C, 1, none⟩ = some (.int .u32 x)) (first | (refine ⟨?_, ?_, ?_, ?_⟩ <;> assumption) | simp)
        (first
          | (go_at_call 7; refine (of13_any _ HT2.out.drew.1.1).mono ?_; rintro e w3 ⟨rfl, hb3⟩; have HT3 := Lib.hid (HT2.out.drew.on hb3); obtain ⟨h0, h1, h2⟩ := HT3.out.1.cells; obtain ⟨h3, h4⟩ := HT3.out.2.cells; clear hb3)
          | (go_at_call 18; refine (HRW.out _).mono ?_; rintro e w4 ⟨rfl, hb4⟩; have HT4 := Lib.hid (HT3.out.on hb4); obtain ⟨i0, i1, i2⟩ := HT4.out.1.cells; obtain ⟨i3, i4⟩ := HT4.out.2.cells; clear hb4)
          | (go_at_call 15; refine (awake13_any _).mono ?_; rintro e w5 ⟨rfl, hb5⟩; have HT5 := Lib.hid (HT4.out.on hb5); obtain ⟨j0, j1, j2⟩ := HT5.out.1.cells; obtain ⟨j3, j4⟩ := HT5.out.2.cells; clear hb5))
      go_wp2
      go_ret
      exact ⟨rfl, HT5.out.1.2.2⟩
    · rw [if_neg hs] at HRD
      have hs0 : (a == 33554432) = false := by simpa using hs
      clear hs
      go_wp2_with fail
      refine (HRHAS.out _).mono ?_
      rintro e w' ⟨rfl, hw⟩
      have hw := hw.symm
      subst hw
      go_wp2_with fail
      refine HRD.out.mono ?_
      rintro e w' ⟨rfl, hw⟩
      have hw := hw.symm
      subst hw
      obtain ⟨c0, c1, c2⟩ := HT2.out.1.cells
      obtain ⟨d0, d1⟩ := HT2.out.2.cells
      go_wp2_with fail
      go_region_held3 (fun w' => w'.cell? ⟨B, 0, none⟩ = some (.int .u64 o) ∧ w'.cell? ⟨B, 1, none⟩ = some (.int .u64 m) ∧ w'.cell? ⟨B, 2, none⟩ = some (.bool s) ∧ w'.cell? ⟨C, 1, none⟩ = some (.int .u32 x)) (first | (refine ⟨?_, ?_, ?_, ?_⟩ <;> assumption) | simp)
        (first
          | (go_at_call 7; refine (of13_any _ HT2.out.drew.1.1).mono ?_; rintro e w3 ⟨rfl, hb3⟩; have HT3 := Lib.hid (HT2.out.drew.on hb3); obtain ⟨h0, h1, h2⟩ := HT3.out.1.cells; obtain ⟨h3, h4⟩ := HT3.out.2.cells; clear hb3)
          | (go_at_call 18; refine (HRW.out _).mono ?_; rintro e w4 ⟨rfl, hb4⟩; have HT4 := Lib.hid (HT3.out.on hb4); obtain ⟨i0, i1, i2⟩ := HT4.out.1.cells; obtain ⟨i3, i4⟩ := HT4.out.2.cells; clear hb4)
          | (go_at_call 15; refine (awake13_any _).mono ?_; rintro e w5 ⟨rfl, hb5⟩; have HT5 := Lib.hid (HT4.out.on hb5); obtain ⟨j0, j1, j2⟩ := HT5.out.1.cells; obtain ⟨j3, j4⟩ := HT5.out.2.cells; clear hb5))
      go_wp2
      go_ret
      exact ⟨rfl, HT5.out.1.2.2⟩
end timerWrites
end Go.Proofs.Ytkdofmdiblpajaa
