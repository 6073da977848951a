/- Layer 10: the landed functions that only look: place, Size, Has, Page, hasPage, isWidth, access, Watched, Gen. -/
import Derived.Test.YtcigceaadkjenaaDoorRamMem
import Derived.Test.YtcigceaadkjenaaDoorNumbers
import Derived.Lib.Hide
namespace Go.Proofs.YtcigceaadkjenaaDoor
open Go.RowKit
set_option linter.unusedVariables false

set_option maxHeartbeats 400000 in
theorem place_any (addr : Int) (w : World) (h0 : 2147483648 ≤ addr) (h1 : addr < 4294967296) :
    Calls Tryd.prog 59 #[.int .u32 addr] w fun e w' => e = .returned (.int .i64 (addr - 2147483648)) ∧ w' = w := by
  go_enter Tryd.func59, Tryd.ntmps59
  go_wp2
  go_ret
  exact ⟨rfl, rfl⟩

set_option maxHeartbeats 400000 in
theorem size_nil (w : World) :
    Calls Tryd.prog 29 #[.pointer none] w fun e w' => e = .returned (.int .i64 0) ∧ w' = w := by
  go_enter Tryd.func29, Tryd.ntmps29
  go_wp2
  go_ret
  exact ⟨rfl, rfl⟩

set_option maxHeartbeats 400000 in
theorem size_any (R P K : Nat) (w : World) (hK : K ≤ 1024) (hc : w.cell? ⟨R, 0, none⟩ = some (.slice (some ⟨P, 0, none⟩) K K)) :
    Calls Tryd.prog 29 #[.pointer (some ⟨R, 0, none⟩)] w fun e w' => e = .returned (.int .i64 (64 * (K : Int))) ∧ w' = w := by
  go_enter Tryd.func29, Tryd.ntmps29
  go_wp2
  go_ret
  exact ⟨ret_int (by omega), rfl⟩

set_option maxHeartbeats 400000 in
theorem has_any (R P K : Nat) (addr n : Int) (w : World) (hK : K ≤ 1024) (hc : w.cell? ⟨R, 0, none⟩ = some (.slice (some ⟨P, 0, none⟩) K K)) (h0 : 0 ≤ addr) (h1 : addr < 4294967296) :
    Calls Tryd.prog 47 #[.pointer (some ⟨R, 0, none⟩), .int .u32 addr, .int .i64 n] w fun e w' => e = .returned (.bool (hasB K addr n)) ∧ w' = w := by
  by_cases c1 : n < 1
  · go_enter Tryd.func47, Tryd.ntmps47
    go_wp2
    go_ret
    exact ⟨ret_bool (by rw [hasB_f]; omega), rfl⟩
  · by_cases c2 : addr < 2147483648
    · go_enter Tryd.func47, Tryd.ntmps47
      go_wp2
      go_ret
      exact ⟨ret_bool (by rw [hasB_f]; omega), rfl⟩
    · have c3 : 2147483648 ≤ addr := by omega
      go_enter Tryd.func47, Tryd.ntmps47
      go_wp2_with (first | (go_at_call 29; refine (size_any _ _ _ _ hK hc).mono ?_; rintro e w' ⟨rfl, hw⟩; have hw := hw.symm; subst hw) | (go_at_call 59; refine (place_any _ _ c3 h1).mono ?_; rintro e w' ⟨rfl, hw⟩; have hw := hw.symm; subst hw))
      all_goals
        go_ret
        refine ⟨ret_bool ?_, rfl⟩
        unfold hasB
        first | rfl | (simp only [decide_eq_decide]; omega) | (simp; omega)

set_option maxHeartbeats 400000 in
theorem has_nil (addr n : Int) (w : World) (h0 : 0 ≤ addr) (h1 : addr < 4294967296) :
    Calls Tryd.prog 47 #[.pointer none, .int .u32 addr, .int .i64 n] w fun e w' => e = .returned (.bool false) ∧ w' = w := by
  by_cases c1 : n < 1
  · go_enter Tryd.func47, Tryd.ntmps47
    go_wp2
    go_ret
    exact ⟨rfl, rfl⟩
  · by_cases c2 : addr < 2147483648
    · go_enter Tryd.func47, Tryd.ntmps47
      go_wp2
      go_ret
      exact ⟨rfl, rfl⟩
    · have c3 : 2147483648 ≤ addr := by omega
      go_enter Tryd.func47, Tryd.ntmps47
      go_wp2_with (first | (go_at_call 29; refine (size_nil _).mono ?_; rintro e w' ⟨rfl, hw⟩; have hw := hw.symm; subst hw) | (go_at_call 59; refine (place_any _ _ c3 h1).mono ?_; rintro e w' ⟨rfl, hw⟩; have hw := hw.symm; subst hw))
      all_goals
        go_ret
        refine ⟨ret_bool ?_, rfl⟩
        first | rfl | (simp; omega)

set_option maxHeartbeats 400000 in
theorem page_any (R P K : Nat) (addr : Int) (w : World) (hK : K ≤ 1024) (hc : w.cell? ⟨R, 0, none⟩ = some (.slice (some ⟨P, 0, none⟩) K K)) (h0 : 0 ≤ addr) (h1 : addr < 4294967296) :
    Calls Tryd.prog 60 #[.pointer (some ⟨R, 0, none⟩), .int .u32 addr] w fun e w' => e = .returned (.int .i64 (pageZ K addr)) ∧ w' = w := by
  have HH : Hid (∀ W : World, W.cell? ⟨R, 0, none⟩ = some (.slice (some ⟨P, 0, none⟩) K K) → Calls Tryd.prog 47 #[.pointer (some ⟨R, 0, none⟩), .int .u32 addr, .int .i64 1] W fun e w' => e = .returned (.bool (hasB K addr 1)) ∧ w' = W) := fun W hW => has_any R P K addr 1 W hK hW h0 h1
  cases hb : hasB K addr 1
  · have HP : Hid _ := pageZ_no hb
    rw [hb] at HH
    clear hb
    go_enter Tryd.func60, Tryd.ntmps60
    go_wp2_with (go_at_call 47; refine (HH.out _ hc).mono ?_; rintro e w' ⟨rfl, hw⟩; have hw := hw.symm; subst hw)
    go_ret
    exact ⟨ret_int HP.out.symm, rfl⟩
  · have HP : Hid _ := pageZ_yes hb
    obtain ⟨_, c3, _⟩ := hasB_yes hb
    rw [hb] at HH
    clear hb
    go_enter Tryd.func60, Tryd.ntmps60
    go_wp2_with (first | (go_at_call 47; refine (HH.out _ hc).mono ?_; rintro e w' ⟨rfl, hw⟩; have hw := hw.symm; subst hw) | (go_at_call 59; refine (place_any _ _ c3 h1).mono ?_; rintro e w' ⟨rfl, hw⟩; have hw := hw.symm; subst hw))
    go_ret
    exact ⟨ret_int HP.out.symm, rfl⟩

set_option maxHeartbeats 400000 in
theorem page_nil (addr : Int) (w : World) (h0 : 0 ≤ addr) (h1 : addr < 4294967296) :
    Calls Tryd.prog 60 #[.pointer none, .int .u32 addr] w fun e w' => e = .returned (.int .i64 (-1)) ∧ w' = w := by
  go_enter Tryd.func60, Tryd.ntmps60
  go_wp2_with (go_at_call 47; refine (has_nil _ _ _ h0 h1).mono ?_; rintro e w' ⟨rfl, hw⟩; have hw := hw.symm; subst hw)
  go_ret
  exact ⟨rfl, rfl⟩

/-- Is there such a page? -/
def pgB (K : Nat) (p : Int) : Bool := decide (0 ≤ p ∧ p < K)
theorem pgB_yes {K : Nat} {p : Int} (h : pgB K p = true) : 0 ≤ p ∧ p < K := by simpa [pgB] using h
theorem pgB_no {K : Nat} {p : Int} (h : pgB K p = false) : ¬ (0 ≤ p ∧ p < K) := by simpa only [pgB, decide_eq_false_iff_not] using h
theorem pgB_t {K : Nat} {p : Int} (h : 0 ≤ p ∧ p < K) : pgB K p = true := by simpa [pgB] using h
theorem pgB_f {K : Nat} {p : Int} (h : ¬ (0 ≤ p ∧ p < K)) : pgB K p = false := by simpa only [pgB, decide_eq_false_iff_not] using h

end Go.Proofs.YtcigceaadkjenaaDoor
