/- Layer 13: the walks of TimerReads, TimerWrites, TimerSkips. -/
import Derived.Test.YtkdofmdiblpajaaTimOpen
import Derived.Test.YtkdofmdiblpajaaTimAwake
namespace Go.Proofs.Ytkdofmdiblpajaa
open Go.RowKit
set_option linter.unusedVariables false

theorem three_eq {w w' : World} {B : Nat} {o m : Int} {s : Bool} (h : Box3 w B o m s) (hb : Below w.heap.size w w') : w'.cell? ⟨B, 0, none⟩ = some (.int .u64 o) ∧ w'.cell? ⟨B, 1, none⟩ = some (.int .u64 m) ∧ w'.cell? ⟨B, 2, none⟩ = some (.bool s) := (three_cells (h.on hb)).1

/-- A timer in block w.heap.size, the document's in block B: what the statements hold on their way. -/
def Two (w W : World) (A B : Nat) (o m : Int) (s : Bool) (o' m' : Int) (s' : Bool) : Prop := IsTim W A o m s ∧ Box3 W B o' m' s' ∧ Below w.heap.size w W
theorem Two.on {w W W' : World} {A B : Nat} {o m : Int} {s : Bool} {o' m' : Int} {s' : Bool} (h : Two w W A B o m s o' m' s') (hb : Below W.heap.size W W') : Two w W' A B o m s o' m' s' :=
  ⟨h.1.on hb, h.2.1.on hb, h.2.2.trans (hb.mono h.2.2.size)⟩
theorem Two.q {w W W' : World} {A B : Nat} {o m : Int} {s : Bool} {o' m' : Int} {s' : Bool} (h : Two w W A B o m s o' m' s') (hb : Q W W') : Two w W' A B o m s o' m' s' := h.on (hb.below _)
theorem Two.drew {w W : World} {A B : Nat} {o m : Int} {s : Bool} {o' m' : Int} {s' : Bool} (h : Two w W A B o m s o' m' s') : Two w W.drew A B o m s o' m' s' := h.on ((Below.refl _ _).drew)
theorem Two.cells {w W : World} {A B : Nat} {o m : Int} {s : Bool} {o' m' : Int} {s' : Bool} (h : Two w W A B o m s o' m' s') : W.cell? ⟨B, 0, none⟩ = some (.int .u64 o') ∧ W.cell? ⟨B, 1, none⟩ = some (.int .u64 m') ∧ W.cell? ⟨B, 2, none⟩ = some (.bool s') := (three_cells h.2.1).1

namespace timerReads
set_option maxHeartbeats 4000000 in
theorem walk (o m : Int) (s : Bool) (a k : Int) (w : World) (w0 : (Lit.int .u64 o).wf = true) (w1 : (Lit.int .u64 m).wf = true) (w2 : (Lit.int .u32 a).wf = true) (w3 : (Lit.int .u64 k).wf = true) :
    Calls Try.prog 3 #[.agg #[.int .u64 o, .int .u64 m, .bool s], .int .u32 a, .int .u64 k] w fun e w' => e = .returned (.bool true) ∧ Below w.heap.size w w' := by
  have hm := bounds_u64 w1
  have hm0 := hm.1
  have hm1 : m < 18446744073709551616 := by omega
  have HM : Hid (0 ≤ m ∧ m < 18446744073709551616) := ⟨hm0, hm1⟩
  clear w0 w1 w2 w3 hm hm0 hm1
  have hb0 : Below w.heap.size w (w.alloc (.cells #[.int .u64 o, .int .u64 m, .bool s] 24)) := (Below.refl _ _).alloc (Nat.le_refl _) _
  have ht0 : IsTim (w.alloc (.cells #[.int .u64 o, .int .u64 m, .bool s] 24)) w.heap.size o m s := heap_alloc_new _ _
  go_enter Try.func3, Try.ntmps3
  go_wp2_with fail
  generalize w.alloc (.cells #[.int .u64 o, .int .u64 m, .bool s] 24) = W0 at *
  obtain ⟨A, hA⟩ : ∃ A, A = w.heap.size := ⟨_, rfl⟩
  have HA := Lib.hid hA
  rw [← hA] at ht0 ⊢
  clear hA
  refine (of13_any W0 ht0).mono ?_
  rintro e w1 ⟨rfl, hb1⟩
  have hb01 := hb0.trans (hb1.mono hb0.size)
  have ht1 := ht0.on hb1
  have hx1 := box3_new w1 o m s
  have hbx : Below w1.heap.size w1 (w1.alloc (.cells #[.int .u64 o, .int .u64 m, .bool s] 26)) := (Below.refl _ _).alloc (Nat.le_refl _) _
  have HT1 : Hid (Two w (w1.alloc (.cells #[.int .u64 o, .int .u64 m, .bool s] 26)) A w1.heap.size o m s o m s) := ⟨ht1.on hbx, hx1, hb01.trans (hbx.mono hb01.size)⟩
  clear hb0 ht0 hb1 hb01 ht1 hx1 hbx
  go_wp2_with fail
  generalize w1.alloc (.cells #[.int .u64 o, .int .u64 m, .bool s] 26) = W1 at *
  generalize w1.heap.size = B at *
  obtain ⟨c0, c1, c2⟩ := HT1.out.cells
  cases hh : hasT a
  · have HR : Hid (Calls Try.prog 8 #[.pointer (some ⟨A, 0, none⟩), .int .u32 a, .int .u64 k] W1 fun e w' => e = .returned (.tuple #[.int .u32 0, .int .i64 6]) ∧ w' = W1) := tread_no a k W1 hh
    have HHAS : Hid (∀ W : World, Calls Try.prog 9 #[.int .u32 a] W fun e w' => e = .returned (.bool false) ∧ w' = W) := fun W => by have h := thas_any a W; rwa [hh] at h
    have HRHAS : Hid (∀ W : World, Calls Try.prog 10 #[.int .u32 a] W fun e w' => e = .returned (.bool false) ∧ w' = W) := fun W => by have h := rhas13_any a W; rwa [hh] at h
    clear hh
    refine HR.out.mono ?_
    rintro e w' ⟨rfl, hw⟩
    have hw := hw.symm
    subst hw
    go_wp2_with fail
    go_region_held3 (fun w' => w'.cell? ⟨B, 0, none⟩ = some (.int .u64 o) ∧ w'.cell? ⟨B, 1, none⟩ = some (.int .u64 m) ∧ w'.cell? ⟨B, 2, none⟩ = some (.bool s)) (first | (refine ⟨?_, ?_, ?_⟩ <;> assumption) | simp)
      (first
        | (go_at_call 9; refine (HHAS.out _).mono ?_; rintro e w' ⟨rfl, hw⟩; have hw := hw.symm; subst hw)
        | (go_at_call 10; refine (HRHAS.out _).mono ?_; rintro e w' ⟨rfl, hw⟩; have hw := hw.symm; subst hw)
        | (go_at_call 11; refine (tnow_any k _ HT1.out.drew.1).mono ?_; rintro e w' ⟨rfl, hw⟩; have hw := hw.symm; subst hw)
        | (go_at_call 12; refine (rnow13_any o m s k _).mono ?_; rintro e w2 ⟨rfl, hb2⟩; have HT2 := Lib.hid (HT1.out.drew.on hb2); obtain ⟨d0, d1, d2⟩ := HT2.out.cells; clear hb2)
        | (go_at_call 13; refine (tup_any k _ HT2.out.1).mono ?_; rintro e w3 ⟨rfl, hq3⟩; have HT3 := Lib.hid (HT2.out.q hq3); obtain ⟨e0, e1, e2⟩ := HT3.out.cells; clear hq3)
        | (go_at_call 14; refine (rup13_any o m s k _).mono ?_; rintro e w4 ⟨rfl, hb4⟩; have HT4 := Lib.hid (HT3.out.on hb4); obtain ⟨f0, f1, f2⟩ := HT4.out.cells; clear hb4))
    go_wp2_with fail
    refine (HRHAS.out _).mono ?_
    rintro e w' ⟨rfl, hw⟩
    have hw := hw.symm
    subst hw
    go_wp2_with fail
    refine (awake13_any _).mono ?_
    rintro e w5 ⟨rfl, hb5⟩
    have HT5 := Lib.hid (HT4.out.on hb5)
    clear hb5
    go_wp2
    go_ret
    exact ⟨rfl, HT5.out.2.2⟩
  · have HR : Hid (Calls Try.prog 8 #[.pointer (some ⟨A, 0, none⟩), .int .u32 a, .int .u64 k] W1 fun e w' => e = .returned (.tuple #[.int .u32 (readT o m s a k), .int .i64 0]) ∧ w' = W1) := tread_yes a k W1 hh HT1.out.1 HM.out.1 HM.out.2
    have HRR : Hid (∀ W : World, Calls Try.prog 16 #[.agg #[.int .u64 o, .int .u64 m, .bool s], .int .u32 a, .int .u64 k] W fun e w' => e = .returned (.int .u32 (readT o m s a k)) ∧ Below W.heap.size W w') := fun W => rread13_any o m s a k W hh HM.out.1 HM.out.2
    have HHAS : Hid (∀ W : World, Calls Try.prog 9 #[.int .u32 a] W fun e w' => e = .returned (.bool true) ∧ w' = W) := fun W => by have h := thas_any a W; rwa [hh] at h
    have HRHAS : Hid (∀ W : World, Calls Try.prog 10 #[.int .u32 a] W fun e w' => e = .returned (.bool true) ∧ w' = W) := fun W => by have h := rhas13_any a W; rwa [hh] at h
    clear hh
    generalize readT o m s a k = z at HR HRR
    refine HR.out.mono ?_
    rintro e w' ⟨rfl, hw⟩
    have hw := hw.symm
    subst hw
    go_wp2_with fail
    go_region_held3 (fun w' => w'.cell? ⟨B, 0, none⟩ = some (.int .u64 o) ∧ w'.cell? ⟨B, 1, none⟩ = some (.int .u64 m) ∧ w'.cell? ⟨B, 2, none⟩ = some (.bool s)) (first | (refine ⟨?_, ?_, ?_⟩ <;> assumption) | simp)
      (first
        | (go_at_call 9; refine (HHAS.out _).mono ?_; rintro e w' ⟨rfl, hw⟩; have hw := hw.symm; subst hw)
        | (go_at_call 10; refine (HRHAS.out _).mono ?_; rintro e w' ⟨rfl, hw⟩; have hw := hw.symm; subst hw)
        | (go_at_call 11; refine (tnow_any k _ HT1.out.drew.1).mono ?_; rintro e w' ⟨rfl, hw⟩; have hw := hw.symm; subst hw)
        | (go_at_call 12; refine (rnow13_any o m s k _).mono ?_; rintro e w2 ⟨rfl, hb2⟩; have HT2 := Lib.hid (HT1.out.drew.on hb2); obtain ⟨d0, d1, d2⟩ := HT2.out.cells; clear hb2)
        | (go_at_call 13; refine (tup_any k _ HT2.out.1).mono ?_; rintro e w3 ⟨rfl, hq3⟩; have HT3 := Lib.hid (HT2.out.q hq3); obtain ⟨e0, e1, e2⟩ := HT3.out.cells; clear hq3)
        | (go_at_call 14; refine (rup13_any o m s k _).mono ?_; rintro e w4 ⟨rfl, hb4⟩; have HT4 := Lib.hid (HT3.out.on hb4); obtain ⟨f0, f1, f2⟩ := HT4.out.cells; clear hb4))
    go_wp2_with fail
    refine (HRHAS.out _).mono ?_
    rintro e w' ⟨rfl, hw⟩
    have hw := hw.symm
    subst hw
    go_wp2_with fail
    go_region_held3 (fun w' => w'.cell? ⟨B, 0, none⟩ = some (.int .u64 o) ∧ w'.cell? ⟨B, 1, none⟩ = some (.int .u64 m) ∧ w'.cell? ⟨B, 2, none⟩ = some (.bool s)) (first | (refine ⟨?_, ?_, ?_⟩ <;> assumption) | simp)
      (first
        | (go_at_call 16; refine (HRR.out _).mono ?_; rintro e w5 ⟨rfl, hb5⟩; have HT5 := Lib.hid (HT4.out.drew.on hb5); obtain ⟨g0, g1, g2⟩ := HT5.out.cells; clear hb5)
        | (go_at_call 7; refine (of13_any _ HT5.out.1).mono ?_; rintro e w6 ⟨rfl, hb6⟩; have HT6 := Lib.hid (HT5.out.on hb6); obtain ⟨h0, h1, h2⟩ := HT6.out.cells; clear hb6)
        | (go_at_call 15; refine (awake13_any _).mono ?_; rintro e w7 ⟨rfl, hb7⟩; have HT7 := Lib.hid (HT6.out.on hb7); obtain ⟨i0, i1, i2⟩ := HT7.out.cells; clear hb7))
    go_wp2
    go_ret
    exact ⟨rfl, HT7.out.2.2⟩
end timerReads
end Go.Proofs.Ytkdofmdiblpajaa
