/- Layer 14, the document's side: Class, Asked. -/
import Derived.Test.YtkbccccjjlkgbaaBusMath
import Derived.Test.YtkbccccjjlkgbaaRamRef
import Derived.Test.YtkbccccjjlkgbaaTimRef
namespace Go.Proofs.Ytkbccccjjlkgbaa
open Go.RowKit
set_option linter.unusedVariables false
set_option linter.unusedSimpArgs false
set_option maxRecDepth 100000

set_option maxHeartbeats 1600000 in
theorem rclass14_any (K : Nat) (v : Option Addr) (cap : Nat) (a n : Int) (w : World) (hK : K ≤ 1024) (a0 : 0 ≤ a) (a1 : a < 4294967296) :
    Calls Try.prog 15 #[.slice v (64 * K) cap, .int .u32 a, .int .i64 n] w fun e w' => e = .returned (.int .i64 (classZ K a n)) ∧ w' = w := by
  have HW : Hid (∀ W : World, Calls Try.prog 42 #[.int .i64 n] W fun e w' => e = .returned (.bool (sizeB n)) ∧ w' = W) := fun W => width_any n W
  have HH : Hid (∀ W : World, Calls Try.prog 43 #[.slice v (64 * K) cap, .int .u32 a, .int .i64 n] W fun e w' => e = .returned (.bool (hasB K a n)) ∧ w' = W) := fun W => rhas10_any K v cap a n W hK a0 a1
  have HT : Hid (∀ W : World, Calls Try.prog 44 #[.int .u32 a] W fun e w' => e = .returned (.bool (hasT a)) ∧ w' = W) := fun W => rhas13_any a W
  rcases askZ_cases K a n with ⟨h1, hz⟩ | ⟨h1, h2, hz⟩ | ⟨h1, h2, h3, hz⟩ | ⟨h1, h2, h3, hz⟩
  · have HC : Hid (classZ K a n = 0) := classZ_none (by omega) (by simp [isDev, hz])
    rw [h1] at HW
    clear h1 hz HH HT
    go_enter Try.func15, Try.ntmps15
    go_wp2_with (go_at_call 42; refine (HW.out _).mono ?_; rintro e w' ⟨rfl, hw⟩; have hw := hw.symm; subst hw)
    go_ret
    exact ⟨ret_int HC.out.symm, rfl⟩
  · have HC : Hid (classZ K a n = 0) := classZ_none (by omega) (by simp [isDev, hz])
    rw [h1] at HW
    have hn := sizeB_yes h1
    clear h1 hz HH HT
    rcases hn with rfl | rfl | rfl
    · omega
    all_goals
      have h2' : (a % _ != 0) = true := bne_iff_ne.2 h2
      clear h2
      go_enter Try.func15, Try.ntmps15
      go_wp2_with (go_at_call 42; refine (HW.out _).mono ?_; rintro e w' ⟨rfl, hw⟩; have hw := hw.symm; subst hw)
      go_ret
      exact ⟨ret_int HC.out.symm, rfl⟩
  · have hn := sizeB_yes h1
    rw [h1] at HW
    rw [h3] at HH
    by_cases h4 : n = 4
    · subst h4
      cases hd : devB a
      · have HC : Hid (classZ K a 4 = 0) := classZ_none (by omega) (by simp [isDev, hd])
        obtain ⟨⟨d1, d2, d3⟩, d4⟩ := devB_no hd
        rw [d4] at HT
        clear h1 h3 hz hd hn d4
        go_enter Try.func15, Try.ntmps15
        go_wp2_with (first | (go_at_call 42; refine (HW.out _).mono ?_; rintro e w' ⟨rfl, hw⟩; have hw := hw.symm; subst hw) | (go_at_call 43; refine (HH.out _).mono ?_; rintro e w' ⟨rfl, hw⟩; have hw := hw.symm; subst hw) | (go_at_call 44; refine (HT.out _).mono ?_; rintro e w' ⟨rfl, hw⟩; have hw := hw.symm; subst hw))
        go_ret
        exact ⟨ret_int HC.out.symm, rfl⟩
      · have HC : Hid (classZ K a 4 = 2) := classZ_dev (isDev_t hd)
        rcases devB_yes hd with rfl | (rfl | rfl) | ht
        · clear h1 h3 hz hd hn
          go_enter Try.func15, Try.ntmps15
          go_wp2_with (first | (go_at_call 42; refine (HW.out _).mono ?_; rintro e w' ⟨rfl, hw⟩; have hw := hw.symm; subst hw) | (go_at_call 43; refine (HH.out _).mono ?_; rintro e w' ⟨rfl, hw⟩; have hw := hw.symm; subst hw) | (go_at_call 44; refine (HT.out _).mono ?_; rintro e w' ⟨rfl, hw⟩; have hw := hw.symm; subst hw))
          go_ret
          exact ⟨ret_int HC.out.symm, rfl⟩
        · clear h1 h3 hz hd hn
          go_enter Try.func15, Try.ntmps15
          go_wp2_with (first | (go_at_call 42; refine (HW.out _).mono ?_; rintro e w' ⟨rfl, hw⟩; have hw := hw.symm; subst hw) | (go_at_call 43; refine (HH.out _).mono ?_; rintro e w' ⟨rfl, hw⟩; have hw := hw.symm; subst hw) | (go_at_call 44; refine (HT.out _).mono ?_; rintro e w' ⟨rfl, hw⟩; have hw := hw.symm; subst hw))
          go_ret
          exact ⟨ret_int HC.out.symm, rfl⟩
        · clear h1 h3 hz hd hn
          go_enter Try.func15, Try.ntmps15
          go_wp2_with (first | (go_at_call 42; refine (HW.out _).mono ?_; rintro e w' ⟨rfl, hw⟩; have hw := hw.symm; subst hw) | (go_at_call 43; refine (HH.out _).mono ?_; rintro e w' ⟨rfl, hw⟩; have hw := hw.symm; subst hw) | (go_at_call 44; refine (HT.out _).mono ?_; rintro e w' ⟨rfl, hw⟩; have hw := hw.symm; subst hw))
          go_ret
          exact ⟨ret_int HC.out.symm, rfl⟩
        · rw [ht] at HT
          rcases hasT_yes ht with rfl | rfl | rfl | rfl | rfl
          all_goals
            clear h1 h3 hz hd hn ht
            go_enter Try.func15, Try.ntmps15
            go_wp2_with (first | (go_at_call 42; refine (HW.out _).mono ?_; rintro e w' ⟨rfl, hw⟩; have hw := hw.symm; subst hw) | (go_at_call 43; refine (HH.out _).mono ?_; rintro e w' ⟨rfl, hw⟩; have hw := hw.symm; subst hw) | (go_at_call 44; refine (HT.out _).mono ?_; rintro e w' ⟨rfl, hw⟩; have hw := hw.symm; subst hw))
            go_ret
            exact ⟨ret_int HC.out.symm, rfl⟩
    · have HC : Hid (classZ K a n = 0) := classZ_none (by omega) (by simp [isDev, h4])
      clear h1 h3 hz HT
      rcases hn with rfl | rfl | rfl
      · have hm : a % 1 = 0 := Int.emod_one a
        clear h2 hm
        go_enter Try.func15, Try.ntmps15
        go_wp2_with (first | (go_at_call 42; refine (HW.out _).mono ?_; rintro e w' ⟨rfl, hw⟩; have hw := hw.symm; subst hw) | (go_at_call 43; refine (HH.out _).mono ?_; rintro e w' ⟨rfl, hw⟩; have hw := hw.symm; subst hw))
        go_ret
        exact ⟨ret_int HC.out.symm, rfl⟩
      · go_enter Try.func15, Try.ntmps15
        go_wp2_with (first | (go_at_call 42; refine (HW.out _).mono ?_; rintro e w' ⟨rfl, hw⟩; have hw := hw.symm; subst hw) | (go_at_call 43; refine (HH.out _).mono ?_; rintro e w' ⟨rfl, hw⟩; have hw := hw.symm; subst hw))
        go_ret
        exact ⟨ret_int HC.out.symm, rfl⟩
      · exact absurd rfl h4
  · have HC : Hid (classZ K a n = 1) := classZ_mem hz
    have hn := sizeB_yes h1
    rw [h1] at HW
    rw [h3] at HH
    clear h1 h3 hz HT
    rcases hn with rfl | rfl | rfl
    · clear h2
      go_enter Try.func15, Try.ntmps15
      go_wp2_with (first | (go_at_call 42; refine (HW.out _).mono ?_; rintro e w' ⟨rfl, hw⟩; have hw := hw.symm; subst hw) | (go_at_call 43; refine (HH.out _).mono ?_; rintro e w' ⟨rfl, hw⟩; have hw := hw.symm; subst hw))
      go_ret
      exact ⟨ret_int HC.out.symm, rfl⟩
    all_goals
      go_enter Try.func15, Try.ntmps15
      go_wp2_with (first | (go_at_call 42; refine (HW.out _).mono ?_; rintro e w' ⟨rfl, hw⟩; have hw := hw.symm; subst hw) | (go_at_call 43; refine (HH.out _).mono ?_; rintro e w' ⟨rfl, hw⟩; have hw := hw.symm; subst hw))
      go_ret
      exact ⟨ret_int HC.out.symm, rfl⟩

set_option maxHeartbeats 1600000 in
theorem rask14_any (K : Nat) (v : Option Addr) (cap : Nat) (a n : Int) (w : World) (hK : K ≤ 1024) (a0 : 0 ≤ a) (a1 : a < 4294967296) :
    Calls Try.prog 31 #[.slice v (64 * K) cap, .int .u32 a, .int .i64 n] w fun e w' => e = .returned (.int .i64 (ask14 K a n)) ∧ w' = w := by
  have HW : Hid (∀ W : World, Calls Try.prog 42 #[.int .i64 n] W fun e w' => e = .returned (.bool (sizeB n)) ∧ w' = W) := fun W => width_any n W
  have HL : Hid (∀ W : World, Calls Try.prog 15 #[.slice v (64 * K) cap, .int .u32 a, .int .i64 n] W fun e w' => e = .returned (.int .i64 (classZ K a n)) ∧ w' = W) := fun W => rclass14_any K v cap a n W hK a0 a1
  rcases askZ_cases K a n with ⟨h1, hz⟩ | ⟨h1, h2, hz⟩ | ⟨h1, h2, h3, hz⟩ | ⟨h1, h2, h3, hz⟩
  · have HC : Hid (ask14 K a n = 2) := by
      show ask14 K a n = 2
      unfold ask14; rw [if_neg (by simp [isDev, hz])]; exact hz
    rw [h1] at HW
    clear h1 hz HL
    go_enter Try.func31, Try.ntmps31
    go_wp2_with (go_at_call 42; refine (HW.out _).mono ?_; rintro e w' ⟨rfl, hw⟩; have hw := hw.symm; subst hw)
    go_ret
    exact ⟨ret_int HC.out.symm, rfl⟩
  · have HC : Hid (ask14 K a n = 5) := by
      show ask14 K a n = 5
      unfold ask14; rw [if_neg (by simp [isDev, hz])]; exact hz
    rw [h1] at HW
    have hn := sizeB_yes h1
    clear h1 hz HL
    rcases hn with rfl | rfl | rfl
    · omega
    all_goals
      have h2' : (a % _ != 0) = true := bne_iff_ne.2 h2
      clear h2
      go_enter Try.func31, Try.ntmps31
      go_wp2_with (go_at_call 42; refine (HW.out _).mono ?_; rintro e w' ⟨rfl, hw⟩; have hw := hw.symm; subst hw)
      go_ret
      exact ⟨ret_int HC.out.symm, rfl⟩
  all_goals
    have hcl : ∃ c z : Int, classZ K a n = c ∧ ask14 K a n = z ∧ ((c = 0 ∧ z = 6) ∨ (c = 1 ∧ z = 0) ∨ (c = 2 ∧ z = 0)) := by
      refine ⟨_, _, rfl, rfl, ?_⟩
      unfold classZ ask14
      rw [hz]
      cases isDev K a n <;> simp
    obtain ⟨c, z, e1, e2, hcz⟩ := hcl
    rw [e1] at HL
    rw [e2]
    have hn := sizeB_yes h1
    rw [h1] at HW
    clear h1 h3 hz e1 e2
    rcases hcz with ⟨rfl, rfl⟩ | ⟨rfl, rfl⟩ | ⟨rfl, rfl⟩ <;> rcases hn with rfl | rfl | rfl
    all_goals
      try (have hm : a % 1 = 0 := h2; clear hm h2)
      go_enter Try.func31, Try.ntmps31
      go_wp2_with (first | (go_at_call 42; refine (HW.out _).mono ?_; rintro e w' ⟨rfl, hw⟩; have hw := hw.symm; subst hw) | (go_at_call 15; refine (HL.out _).mono ?_; rintro e w' ⟨rfl, hw⟩; have hw := hw.symm; subst hw))
      go_ret
      exact ⟨rfl, rfl⟩
end Go.Proofs.Ytkbccccjjlkgbaa
