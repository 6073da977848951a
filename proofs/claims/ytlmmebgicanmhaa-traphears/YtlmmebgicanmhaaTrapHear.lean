/- Layer 17: Heard and Wakes, the program's and the document's Wakes. -/
import Derived.Test.YtlmmebgicanmhaaTrapGo
import Derived.Test.YtlmmebgicanmhaaTrapAsk
namespace Go.Proofs.Ytlmmebgicanmhaa
open Go.RowKit
set_option linter.unusedVariables false
set_option linter.unusedSimpArgs false

theorem one_alloc (w : World) (a : Obj) : Below w.heap.size w (w.alloc a) := (Below.refl _ _).alloc (Nat.le_refl _) _

theorem gwakes_any (K : Nat → Int) (c : Int) (w : World) (hk : KsB K) (hc : W32 c) :
    Calls Try.prog 16 #[.agg #[.int .u32 (K 0), .int .u32 (K 1), .int .u32 (K 2), .int .u32 (K 3), .int .u32 (K 4), .int .u32 (K 5), .int .u32 (K 6)], .int .u32 c] w fun e w' => e = .returned (.bool (wakesB (K 1) c)) ∧ Below w.heap.size w w' := by
  have h := wake_bits (hk 1 (by omega)).1 (hk 1 (by omega)).2 hc.1 hc.2
  have HB : Hid (∀ a : Obj, Below w.heap.size w (w.alloc a)) := one_alloc w
  clear hk hc
  generalize wakesB (K 1) c = b at *
  go_enter Try.func16, Try.ntmps16
  go_wp2
  go_ret
  exact ⟨rfl, HB.out _⟩

set_option maxHeartbeats 1600000 in
theorem gheard_any (K : Nat → Int) (c : Int) (w : World) (hk : KsB K) (hc : W32 c) :
    Calls Try.prog 14 #[.agg #[.int .u32 (K 0), .int .u32 (K 1), .int .u32 (K 2), .int .u32 (K 3), .int .u32 (K 4), .int .u32 (K 5), .int .u32 (K 6)], .int .u32 c] w fun e w' => e = .returned (.tuple #[.int .u32 (heardZ (K 0) (K 1) c), .bool (heardB (K 0) (K 1) c)]) ∧ Below w.heap.size w w' := by
  have h0 := deaf_is (hk 0 (by omega)).1 (hk 0 (by omega)).2
  have h11 := ask_bit 11 (by omega) (hk 1 (by omega)).1 (hk 1 (by omega)).2 hc.1 hc.2
  have h3 := ask_bit 3 (by omega) (hk 1 (by omega)).1 (hk 1 (by omega)).2 hc.1 hc.2
  have h7 := ask_bit 7 (by omega) (hk 1 (by omega)).1 (hk 1 (by omega)).2 hc.1 hc.2
  simp only [Nat.reducePow, Int.cast_ofNat_Int] at h11 h3 h7
  have HB : Hid (∀ a : Obj, Below w.heap.size w (w.alloc a)) := one_alloc w
  clear hk hc
  by_cases g : bitsOf (K 0) 3 1 = 0
  · obtain ⟨e1, e2⟩ := heard_deaf (i := K 1) (c := c) g
    rw [decide_eq_true g] at h0
    clear g
    go_enter Try.func14, Try.ntmps14
    go_wp2
    go_ret2
    exact ⟨by rw [e1, e2]; rfl, HB.out _⟩
  · have e1 : heardZ (K 0) (K 1) c = if askB (K 1) c 11 then 2147483659 else if askB (K 1) c 3 then 2147483651 else if askB (K 1) c 7 then 2147483655 else 0 := by unfold heardZ; rw [if_neg g]
    have e2 : heardB (K 0) (K 1) c = (askB (K 1) c 3 || askB (K 1) c 7 || askB (K 1) c 11) := by unfold heardB wakesB; rw [decide_eq_true g]; rfl
    have HE := Lib.hid (And.intro e1 e2)
    rw [decide_eq_false g] at h0
    clear g e1 e2
    generalize askB (K 1) c 11 = b11 at *
    generalize askB (K 1) c 3 = b3 at *
    generalize askB (K 1) c 7 = b7 at *
    have h : b11 = true ∨ (b11 = false ∧ b3 = true) ∨ (b11 = false ∧ b3 = false ∧ b7 = true) ∨ (b11 = false ∧ b3 = false ∧ b7 = false) := by
      cases b11 <;> cases b3 <;> cases b7 <;> simp
    rcases h with rfl | ⟨rfl, rfl⟩ | ⟨rfl, rfl, rfl⟩ | ⟨rfl, rfl, rfl⟩
    · clear h3 h7
      go_enter Try.func14, Try.ntmps14
      go_wp2
      go_ret2
      exact ⟨by rw [HE.out.1, HE.out.2]; simp, HB.out _⟩
    · clear h7
      go_enter Try.func14, Try.ntmps14
      go_wp2
      go_ret2
      exact ⟨by rw [HE.out.1, HE.out.2]; simp, HB.out _⟩
    · go_enter Try.func14, Try.ntmps14
      go_wp2
      go_ret2
      exact ⟨by rw [HE.out.1, HE.out.2]; simp, HB.out _⟩
    · go_enter Try.func14, Try.ntmps14
      go_wp2
      go_ret2
      exact ⟨by rw [HE.out.1, HE.out.2]; simp, HB.out _⟩

set_option maxHeartbeats 3000000 in
set_option maxRecDepth 100000 in
theorem rwakes17_any (K : Nat → Int) (c : Int) (w : World) (hk : KsB K) (hc : W32 c) :
    Calls Try.prog 17 #[.agg #[.int .u32 (K 0), .int .u32 (K 1), .int .u32 (K 2), .int .u32 (K 3), .int .u32 (K 4), .int .u32 (K 5), .int .u32 (K 6)], .int .u32 c] w fun e w' => e = .returned (.bool (wakesB (K 1) c)) ∧ Below w.heap.size w w' := by
  have h3 := ask_sum (K 1) c 3
  have h7 := ask_sum (K 1) c 7
  have h11 := ask_sum (K 1) c 11
  have HI : Hid (W32 (K 1)) := hk 1 (by omega)
  have HC := Lib.hid hc
  have HB : Hid (∀ a : Obj, Below w.heap.size w (w.alloc a)) := one_alloc w
  have HE : Hid (wakesB (K 1) c = (askB (K 1) c 3 || askB (K 1) c 7 || askB (K 1) c 11)) := rfl
  clear hk hc
  generalize askB (K 1) c 11 = b11 at *
  generalize askB (K 1) c 3 = b3 at *
  generalize askB (K 1) c 7 = b7 at *
  have h : b3 = true ∨ (b3 = false ∧ b7 = true) ∨ (b3 = false ∧ b7 = false) := by
    cases b3 <;> cases b7 <;> simp
  rcases h with rfl | ⟨rfl, rfl⟩ | ⟨rfl, rfl⟩
  all_goals
    go_enter Try.func17, Try.ntmps17
    go_wp2_with fail
    go_quiet ((go_at_call 20; exact Calls.quiet_of (rbit_gen _ _ _ (by first | with_reducible exact HI.out | with_reducible exact HC.out) (by omega))))
    go_wp2
    go_ret
    exact ⟨by rw [HE.out]; simp, (HB.out _).trans (Q.below ⟨_, rfl⟩ _)⟩
end Go.Proofs.Ytlmmebgicanmhaa
