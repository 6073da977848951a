/- Layer 13: timer's functions that only look: of a nil timer, of any. -/
import Derived.Test.YtkbccccjjlkgbaaTimMem
import Derived.Lib.Hide
namespace Go.Proofs.Ytkbccccjjlkgbaa
open Go.RowKit
set_option linter.unusedVariables false

/-- Is an address that of a register? -/
def hasT (a : Int) : Bool := decide (a = 33554432 ∨ a = 33570816 ∨ a = 33570820 ∨ a = 33603576 ∨ a = 33603580)
theorem hasT_yes {a : Int} (h : hasT a = true) : a = 33554432 ∨ a = 33570816 ∨ a = 33570820 ∨ a = 33603576 ∨ a = 33603580 := by simpa [hasT] using h
theorem hasT_no {a : Int} (h : hasT a = false) : ((a == 33554432) = false ∧ (a == 33570816) = false ∧ (a == 33570820) = false) ∧ (a == 33603576) = false ∧ (a == 33603580) = false := by
  unfold hasT at h
  have h := of_decide_eq_false h
  simp only [beq_eq_false_iff_ne, ne_eq]
  omega
/-- What is read of a register. -/
def readT (o m : Int) (s : Bool) (a k : Int) : Int :=
  if a = 33570816 then m % 4294967296 else if a = 33570820 then m / 4294967296 else if a = 33603576 then nowZ o k % 4294967296 else if a = 33603580 then nowZ o k / 4294967296 else if s = true then 1 else 0

set_option maxHeartbeats 400000 in
theorem tnow_nil (k : Int) (w : World) :
    Calls Try.prog 71 #[.pointer none, .int .u64 k] w fun e w' => e = .returned (.int .u64 0) ∧ w' = w := by
  go_enter Try.func71, Try.ntmps71
  go_wp2
  go_ret
  exact ⟨rfl, rfl⟩

set_option maxHeartbeats 400000 in
theorem tup_nil (k : Int) (w : World) :
    Calls Try.prog 50 #[.pointer none, .int .u64 k] w fun e w' => e = .returned (.bool false) ∧ Q w w' := by
  go_enter Try.func50, Try.ntmps50
  go_wp2_with fail
  go_quiet (fail)
  go_wp2
  go_ret
  exact ⟨rfl, _, rfl⟩

set_option maxHeartbeats 400000 in
theorem tup_any {A : Nat} {o m : Int} {s : Bool} (k : Int) (w : World) (h : IsTim w A o m s) :
    Calls Try.prog 50 #[.pointer (some ⟨A, 0, none⟩), .int .u64 k] w fun e w' => e = .returned (.bool (upB o m k)) ∧ Q w w' := by
  have HT := Lib.hid h
  obtain ⟨⟨q0, q1, q2⟩, -⟩ := three_cells h
  clear h
  go_enter Try.func50, Try.ntmps50
  go_wp2_with fail
  go_quiet ((go_at_call 71; exact Calls.quiet_of_same (tnow_any k _ (HT.out.drewN _))))
  go_wp2
  go_ret
  exact ⟨ret_bool rfl, _, rfl⟩

set_option maxHeartbeats 400000 in
theorem thas_any (a : Int) (w : World) :
    Calls Try.prog 87 #[.int .u32 a] w fun e w' => e = .returned (.bool (hasT a)) ∧ w' = w := by
  cases h : hasT a
  · obtain ⟨⟨h1, h2, h3⟩, h4, h5⟩ := hasT_no h
    clear h
    go_enter Try.func87, Try.ntmps87
    go_wp2
    go_ret
    exact ⟨rfl, rfl⟩
  · rcases hasT_yes h with rfl | rfl | rfl | rfl | rfl
    all_goals
      clear h
      go_enter Try.func87, Try.ntmps87
      go_wp2
      go_ret
      exact ⟨rfl, rfl⟩

set_option maxHeartbeats 400000 in
theorem tcall_any {A : Nat} {o m : Int} {s : Bool} (w : World) (h : IsTim w A o m s) :
    Calls Try.prog 94 #[.pointer (some ⟨A, 0, none⟩)] w fun e w' => e = .returned (.int .u32 (if s = true then 1 else 0)) ∧ w' = w := by
  obtain ⟨⟨q0, q1, q2⟩, -⟩ := three_cells h
  clear h
  cases s
  all_goals
    go_enter Try.func94, Try.ntmps94
    go_wp2
    go_ret
    exact ⟨rfl, rfl⟩

set_option maxHeartbeats 400000 in
theorem tlow_any (n : Int) (w : World) :
    Calls Try.prog 95 #[.int .u64 n] w fun e w' => e = .returned (.int .u32 (n % 4294967296)) ∧ w' = w := by
  go_enter Try.func95, Try.ntmps95
  go_wp2
  go_ret
  exact ⟨ret_int rfl, rfl⟩

set_option maxHeartbeats 400000 in
theorem thigh_any (n : Int) (w : World) (h0 : 0 ≤ n) (h1 : n < 18446744073709551616) :
    Calls Try.prog 96 #[.int .u64 n] w fun e w' => e = .returned (.int .u32 (n / 4294967296)) ∧ w' = w := by
  go_enter Try.func96, Try.ntmps96
  go_wp2
  go_ret
  exact ⟨ret_int (by first | rfl | omega | (simp; omega)), rfl⟩

set_option maxHeartbeats 400000 in
theorem tread_nil (a k : Int) (w : World) :
    Calls Try.prog 88 #[.pointer none, .int .u32 a, .int .u64 k] w fun e w' => e = .returned (.tuple #[.int .u32 0, .int .i64 6]) ∧ w' = w := by
  go_enter Try.func88, Try.ntmps88
  go_wp2
  go_ret2
  exact ⟨rfl, rfl⟩

set_option maxHeartbeats 400000 in
theorem tread_no {A : Nat} (a k : Int) (w : World) (h : hasT a = false) :
    Calls Try.prog 88 #[.pointer (some ⟨A, 0, none⟩), .int .u32 a, .int .u64 k] w fun e w' => e = .returned (.tuple #[.int .u32 0, .int .i64 6]) ∧ w' = w := by
  obtain ⟨⟨h1, h2, h3⟩, h4, h5⟩ := hasT_no h
  clear h
  go_enter Try.func88, Try.ntmps88
  go_wp2
  go_ret2
  exact ⟨rfl, rfl⟩

set_option maxHeartbeats 800000 in
theorem tread_yes {A : Nat} {o m : Int} {s : Bool} (a k : Int) (w : World) (ha : hasT a = true) (h : IsTim w A o m s) (m0 : 0 ≤ m) (m1 : m < 18446744073709551616) :
    Calls Try.prog 88 #[.pointer (some ⟨A, 0, none⟩), .int .u32 a, .int .u64 k] w fun e w' => e = .returned (.tuple #[.int .u32 (readT o m s a k), .int .i64 0]) ∧ w' = w := by
  have HT := Lib.hid h
  have HM : Hid (0 ≤ m ∧ m < 18446744073709551616) := ⟨m0, m1⟩
  have HN : Hid _ := nowZ_lt o k
  obtain ⟨⟨q0, q1, q2⟩, -⟩ := three_cells h
  clear h m0 m1
  rcases hasT_yes ha with rfl | rfl | rfl | rfl | rfl
  all_goals
    clear ha
    cases s
  all_goals
    go_enter Try.func88, Try.ntmps88
    go_wp2_with (first
      | (go_at_call 71; refine (tnow_any _ _ HT.out).mono ?_; rintro e w' ⟨rfl, hw⟩; have hw := hw.symm; subst hw)
      | (go_at_call 94; refine (tcall_any _ HT.out).mono ?_; rintro e w' ⟨rfl, hw⟩; have hw := hw.symm; subst hw)
      | (go_at_call 95; refine (tlow_any _ _).mono ?_; rintro e w' ⟨rfl, hw⟩; have hw := hw.symm; subst hw)
      | (go_at_call 96; refine (thigh_any _ _ (by first | exact HM.out.1 | exact HN.out.1) (by first | exact HM.out.2 | exact HN.out.2)).mono ?_; rintro e w' ⟨rfl, hw⟩; have hw := hw.symm; subst hw))
    go_ret2
    exact ⟨rfl, rfl⟩

set_option maxHeartbeats 400000 in
theorem tnew_any (w : World) :
    Calls Try.prog 26 #[] w fun e w' => e = .returned (.pointer (some ⟨w.heap.size, 0, none⟩)) ∧ IsTim w' w.heap.size 0 18446744073709551615 false ∧ Below w.heap.size w w' := by
  go_enter Try.func26, Try.ntmps26
  go_wp2
  go_ret
  exact ⟨rfl, heap_alloc_new _ _, (Below.refl _ _).alloc (Nat.le_refl _) _⟩
end Go.Proofs.Ytkbccccjjlkgbaa
