/- Layer 8: what divideSigned answers. -/
import Derived.Test.YtfkghgdlenfcaaaMulPut
namespace Go.Proofs.Ytfkghgdlenfcaaa
open Go.RowKit
set_option linter.unusedVariables false

/-- The world at the door: the two boxes, quotient and rest. -/
abbrev doorW (w : World) (a b q r : Int) (k : Nat) : World :=
  (((((((w.alloc (.cells #[.int .u32 a] 22)).alloc (.cells #[.int .u32 b] 22)).alloc (.cells #[.int .u32 0] 22)).alloc (.cells #[.int .u32 0] 22)).drewN k).setCell ⟨w.heap.size + 1 + 1, 0, none⟩ (.int .u32 q)).setCell ⟨w.heap.size + 1 + 1 + 1, 0, none⟩ (.int .u32 r))

theorem doorW_is (w : World) (a b q r : Int) (k : Nat) :
    (doorW w a b q r k).cell? ⟨w.heap.size, 0, none⟩ = some (.int .u32 a) ∧ (doorW w a b q r k).cell? ⟨w.heap.size + 1, 0, none⟩ = some (.int .u32 b) ∧ (doorW w a b q r k).cell? ⟨w.heap.size + 2, 0, none⟩ = some (.int .u32 q) ∧ (doorW w a b q r k).cell? ⟨w.heap.size + 3, 0, none⟩ = some (.int .u32 r) ∧
      (doorW w a b q r k).frozen? ⟨w.heap.size + 2, 0, none⟩ = false ∧ (doorW w a b q r k).frozen? ⟨w.heap.size + 3, 0, none⟩ = false ∧ Below w.heap.size w (doorW w a b q r k) := by
  refine ⟨?_, ?_, ?_, ?_, ?_, ?_, ?_⟩
  · simp [go_sem]
  · simp [go_sem]
  · simp [go_sem]
  · simp [go_sem]
  · simp [go_sem]
  · simp [go_sem]
  · have h1 : Below w.heap.size w ((((w.alloc (.cells #[.int .u32 a] 22)).alloc (.cells #[.int .u32 b] 22)).alloc (.cells #[.int .u32 0] 22)).alloc (.cells #[.int .u32 0] 22)) :=
      ((((Below.refl _ _).alloc (Nat.le_refl _) _).alloc (by simp) _).alloc (by simp; omega) _).alloc (by simp; omega) _
    exact ((h1.trans (((Q.refl _).drewN k).below _)).setCell (by simp; omega) _).setCell (by simp; omega) _

set_option maxRecDepth 100000 in
set_option maxHeartbeats 4000000 in
theorem divs8_no (a : Int) (w : World) (a0 : 0 ≤ a) (a1 : a < 4294967296) :
    Calls Try.prog 15 #[.int .u32 a, .int .u32 0] w fun e w' => e = .returned (.tuple #[.int .u32 4294967295, .int .u32 a]) ∧ Below w.heap.size w w' := by
  go_enter_defers Try.func15, Try.ntmps15
  go_wp2_with fail
  refine (divide8_no a _).mono ?_; rintro e w1 ⟨rfl, hw⟩; have hw := hw.symm; subst hw
  go_wp2_with fail
  refine ⟨.tuple #[.int .u32 4294967295, .int .u32 a], by simp [results, Try.results15, go_sem], rfl, ?_⟩
  exact ((((Below.refl _ _).alloc (Nat.le_refl _) _).alloc (by simp) _).alloc (by simp; omega) _).alloc (by simp; omega) _

set_option maxRecDepth 100000 in
set_option maxHeartbeats 4000000 in
theorem divs8_yes (a b : Int) (w : World) (a0 : 0 ≤ a) (a1 : a < 4294967296) (b0 : 0 ≤ b) (b1 : b < 4294967296) (hb : b ≠ 0) :
    Calls Try.prog 15 #[.int .u32 a, .int .u32 b] w fun e w' => e = .returned (.tuple #[.int .u32 ((signedOf a).tdiv (signedOf b) % 4294967296), .int .u32 ((signedOf a).tmod (signedOf b) % 4294967296)]) ∧ Below w.heap.size w w' := by
  have hmf : ∀ (fn : Fn) (first cap : Array Value) (w : World), (Instr.makeFunc fn first cap).run Try.prog w = .ok (.func fn first cap) w := fun _ _ _ _ => rfl
  have hb' : (b == 0) = false := by rw [beq_eq_false_iff_ne]; omega
  have HA := Lib.hid (And.intro a0 a1)
  have HB := Lib.hid (And.intro b0 b1)
  have HM := Lib.hid (size_lo a a0 a1)
  have HN := Lib.hid (size_lo b b0 b1)
  have HP := Lib.hid (size_ne b b0 b1 hb)
  have HQ := Lib.hid (quo_put a b a0 a1 b0 b1 hb)
  have HR := Lib.hid (rem_put a b a0 a1 b0 b1 hb)
  have HD := Lib.hid (div_bd (sizeW a) (sizeW b) (size_lo a a0 a1).1 (by have := (size_lo a a0 a1).2; omega) (size_ne b b0 b1 hb) (by have := (size_lo b b0 b1).2; omega))
  clear a0 a1 b0 b1 hb
  go_enter_defers Try.func15, Try.ntmps15
  go_wp2_with fail
  refine wp_region_noPanic ?_
  go_region_with (first
    | (go_at_call 23; refine (size8_any _ _ (by first | exact HA.out.1 | exact HB.out.1) (by first | exact HA.out.2 | exact HB.out.2)).mono ?_; rintro e w' ⟨rfl, hw⟩; have hw := hw.symm; subst hw)
    | (go_at_call 16; refine (divide8_yes _ _ _ HM.out.1 (by have := HM.out.2; omega) HP.out (by have := HN.out.2; omega)).mono ?_; rintro e w' ⟨rfl, k, hw⟩; subst hw))
  all_goals
    refine NoPanic.normal ?_
    go_wp2_with fail
    obtain ⟨c0, c1, c2, c3, f2, f3, hbl⟩ := doorW_is w a b (sizeW a / sizeW b) (sizeW a % sizeW b) (1 + k)
    refine leaves_cons (f := 20) (args := #[.pointer (some ⟨w.heap.size, 0, none⟩), .pointer (some ⟨w.heap.size + 1, 0, none⟩), .pointer (some ⟨w.heap.size + 2, 0, none⟩), .pointer (some ⟨w.heap.size + 3, 0, none⟩)]) (by simp) (by simp [go_sem]) ?_
    obtain ⟨⟨q0, q1⟩, r0, r1⟩ := HD.out
    refine (put8_any w.heap.size a b (sizeW a / sizeW b) (sizeW a % sizeW b) .returning _ HA.out.1 HA.out.2 HB.out.1 HB.out.2 q0 q1 r0 r1 c0 c1 c2 c3 f2 f3).mono ?_
    rintro e u' w'' ⟨rfl, rfl, d2, d3, hb2⟩
    rw [HQ.out] at d2
    rw [HR.out] at d3
    refine ⟨.tuple #[.int .u32 ((signedOf a).tdiv (signedOf b) % 4294967296), .int .u32 ((signedOf a).tmod (signedOf b) % 4294967296)], ?_, rfl, hbl.trans hb2⟩
    simp [results, Try.results15, go_sem, d2, d3]
end Go.Proofs.Ytfkghgdlenfcaaa
