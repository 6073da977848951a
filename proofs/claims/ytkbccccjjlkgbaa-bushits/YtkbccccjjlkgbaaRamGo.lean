/- Layer 10: the landed functions that only look: place, Size, Has, Page, hasPage, isWidth, access, Watched, Gen. -/
import Derived.Test.YtkbccccjjlkgbaaRamMem
import Derived.Test.YtkbccccjjlkgbaaNumbers
import Derived.Lib.Hide
namespace Go.Proofs.Ytkbccccjjlkgbaa
open Go.RowKit
set_option linter.unusedVariables false

set_option maxHeartbeats 400000 in
theorem place_any (addr : Int) (w : World) (h0 : 2147483648 ≤ addr) (h1 : addr < 4294967296) :
    Calls Try.prog 48 #[.int .u32 addr] w fun e w' => e = .returned (.int .i64 (addr - 2147483648)) ∧ w' = w := by
  go_enter Try.func48, Try.ntmps48
  go_wp2
  go_ret
  exact ⟨rfl, rfl⟩

set_option maxHeartbeats 400000 in
theorem size_nil (w : World) :
    Calls Try.prog 63 #[.pointer none] w fun e w' => e = .returned (.int .i64 0) ∧ w' = w := by
  go_enter Try.func63, Try.ntmps63
  go_wp2
  go_ret
  exact ⟨rfl, rfl⟩

set_option maxHeartbeats 400000 in
theorem size_any (R P K : Nat) (w : World) (hK : K ≤ 1024) (hc : w.cell? ⟨R, 0, none⟩ = some (.slice (some ⟨P, 0, none⟩) K K)) :
    Calls Try.prog 63 #[.pointer (some ⟨R, 0, none⟩)] w fun e w' => e = .returned (.int .i64 (64 * (K : Int))) ∧ w' = w := by
  go_enter Try.func63, Try.ntmps63
  go_wp2
  go_ret
  exact ⟨ret_int (by omega), rfl⟩

set_option maxHeartbeats 400000 in
theorem has_any (R P K : Nat) (addr n : Int) (w : World) (hK : K ≤ 1024) (hc : w.cell? ⟨R, 0, none⟩ = some (.slice (some ⟨P, 0, none⟩) K K)) (h0 : 0 ≤ addr) (h1 : addr < 4294967296) :
    Calls Try.prog 47 #[.pointer (some ⟨R, 0, none⟩), .int .u32 addr, .int .i64 n] w fun e w' => e = .returned (.bool (hasB K addr n)) ∧ w' = w := by
  by_cases c1 : n < 1
  · go_enter Try.func47, Try.ntmps47
    go_wp2
    go_ret
    exact ⟨ret_bool (by rw [hasB_f]; omega), rfl⟩
  · by_cases c2 : addr < 2147483648
    · go_enter Try.func47, Try.ntmps47
      go_wp2
      go_ret
      exact ⟨ret_bool (by rw [hasB_f]; omega), rfl⟩
    · have c3 : 2147483648 ≤ addr := by omega
      go_enter Try.func47, Try.ntmps47
      go_wp2_with (first | (go_at_call 63; refine (size_any _ _ _ _ hK hc).mono ?_; rintro e w' ⟨rfl, hw⟩; have hw := hw.symm; subst hw) | (go_at_call 48; refine (place_any _ _ c3 h1).mono ?_; rintro e w' ⟨rfl, hw⟩; have hw := hw.symm; subst hw))
      all_goals
        go_ret
        refine ⟨ret_bool ?_, rfl⟩
        unfold hasB
        first | rfl | (simp only [decide_eq_decide]; omega) | (simp; omega)

set_option maxHeartbeats 400000 in
theorem has_nil (addr n : Int) (w : World) (h0 : 0 ≤ addr) (h1 : addr < 4294967296) :
    Calls Try.prog 47 #[.pointer none, .int .u32 addr, .int .i64 n] w fun e w' => e = .returned (.bool false) ∧ w' = w := by
  by_cases c1 : n < 1
  · go_enter Try.func47, Try.ntmps47
    go_wp2
    go_ret
    exact ⟨rfl, rfl⟩
  · by_cases c2 : addr < 2147483648
    · go_enter Try.func47, Try.ntmps47
      go_wp2
      go_ret
      exact ⟨rfl, rfl⟩
    · have c3 : 2147483648 ≤ addr := by omega
      go_enter Try.func47, Try.ntmps47
      go_wp2_with (first | (go_at_call 63; refine (size_nil _).mono ?_; rintro e w' ⟨rfl, hw⟩; have hw := hw.symm; subst hw) | (go_at_call 48; refine (place_any _ _ c3 h1).mono ?_; rintro e w' ⟨rfl, hw⟩; have hw := hw.symm; subst hw))
      all_goals
        go_ret
        refine ⟨ret_bool ?_, rfl⟩
        first | rfl | (simp; omega)

set_option maxHeartbeats 400000 in
theorem page_any (R P K : Nat) (addr : Int) (w : World) (hK : K ≤ 1024) (hc : w.cell? ⟨R, 0, none⟩ = some (.slice (some ⟨P, 0, none⟩) K K)) (h0 : 0 ≤ addr) (h1 : addr < 4294967296) :
    Calls Try.prog 19 #[.pointer (some ⟨R, 0, none⟩), .int .u32 addr] w fun e w' => e = .returned (.int .i64 (pageZ K addr)) ∧ w' = w := by
  have HH : Hid (∀ W : World, W.cell? ⟨R, 0, none⟩ = some (.slice (some ⟨P, 0, none⟩) K K) → Calls Try.prog 47 #[.pointer (some ⟨R, 0, none⟩), .int .u32 addr, .int .i64 1] W fun e w' => e = .returned (.bool (hasB K addr 1)) ∧ w' = W) := fun W hW => has_any R P K addr 1 W hK hW h0 h1
  cases hb : hasB K addr 1
  · have HP : Hid _ := pageZ_no hb
    rw [hb] at HH
    clear hb
    go_enter Try.func19, Try.ntmps19
    go_wp2_with (go_at_call 47; refine (HH.out _ hc).mono ?_; rintro e w' ⟨rfl, hw⟩; have hw := hw.symm; subst hw)
    go_ret
    exact ⟨ret_int HP.out.symm, rfl⟩
  · have HP : Hid _ := pageZ_yes hb
    obtain ⟨_, c3, _⟩ := hasB_yes hb
    rw [hb] at HH
    clear hb
    go_enter Try.func19, Try.ntmps19
    go_wp2_with (first | (go_at_call 47; refine (HH.out _ hc).mono ?_; rintro e w' ⟨rfl, hw⟩; have hw := hw.symm; subst hw) | (go_at_call 48; refine (place_any _ _ c3 h1).mono ?_; rintro e w' ⟨rfl, hw⟩; have hw := hw.symm; subst hw))
    go_ret
    exact ⟨ret_int HP.out.symm, rfl⟩

set_option maxHeartbeats 400000 in
theorem page_nil (addr : Int) (w : World) (h0 : 0 ≤ addr) (h1 : addr < 4294967296) :
    Calls Try.prog 19 #[.pointer none, .int .u32 addr] w fun e w' => e = .returned (.int .i64 (-1)) ∧ w' = w := by
  go_enter Try.func19, Try.ntmps19
  go_wp2_with (go_at_call 47; refine (has_nil _ _ _ h0 h1).mono ?_; rintro e w' ⟨rfl, hw⟩; have hw := hw.symm; subst hw)
  go_ret
  exact ⟨rfl, rfl⟩

/-- Is there such a page? -/
def pgB (K : Nat) (p : Int) : Bool := decide (0 ≤ p ∧ p < K)
theorem pgB_yes {K : Nat} {p : Int} (h : pgB K p = true) : 0 ≤ p ∧ p < K := by simpa [pgB] using h
theorem pgB_no {K : Nat} {p : Int} (h : pgB K p = false) : ¬ (0 ≤ p ∧ p < K) := by simpa only [pgB, decide_eq_false_iff_not] using h
theorem pgB_t {K : Nat} {p : Int} (h : 0 ≤ p ∧ p < K) : pgB K p = true := by simpa [pgB] using h
theorem pgB_f {K : Nat} {p : Int} (h : ¬ (0 ≤ p ∧ p < K)) : pgB K p = false := by simpa only [pgB, decide_eq_false_iff_not] using h

set_option maxHeartbeats 400000 in
theorem hasPage_any (R P K : Nat) (p : Int) (w : World) (hK : K ≤ 1024) (hc : w.cell? ⟨R, 0, none⟩ = some (.slice (some ⟨P, 0, none⟩) K K)) :
    Calls Try.prog 45 #[.pointer (some ⟨R, 0, none⟩), .int .i64 p] w fun e w' => e = .returned (.bool (pgB K p)) ∧ w' = w := by
  by_cases c1 : 0 ≤ p
  · by_cases c2 : p < K
    all_goals
      go_enter Try.func45, Try.ntmps45
      go_wp2
      go_ret
      refine ⟨ret_bool ?_, rfl⟩
      first | (rw [pgB_t (by omega)]; try simp [c1, c2]) | (rw [pgB_f (by omega)]; try simp [c1, c2])
  · go_enter Try.func45, Try.ntmps45
    go_wp2
    go_ret
    exact ⟨ret_bool (by rw [pgB_f (by omega)]), rfl⟩

set_option maxHeartbeats 400000 in
theorem hasPage_nil (p : Int) (w : World) :
    Calls Try.prog 45 #[.pointer none, .int .i64 p] w fun e w' => e = .returned (.bool false) ∧ w' = w := by
  go_enter Try.func45, Try.ntmps45
  go_wp2
  go_ret
  exact ⟨rfl, rfl⟩

set_option maxHeartbeats 400000 in
theorem isWidth_any (n : Int) (w : World) :
    Calls Try.prog 79 #[.int .i64 n] w fun e w' => e = .returned (.bool (sizeB n)) ∧ w' = w := by
  by_cases h1 : n = 1
  · subst h1
    go_enter Try.func79, Try.ntmps79
    go_wp2
    go_ret
    exact ⟨rfl, rfl⟩
  · by_cases h2 : n = 2
    · subst h2
      go_enter Try.func79, Try.ntmps79
      go_wp2
      go_ret
      exact ⟨rfl, rfl⟩
    · by_cases h3 : n = 4
      · subst h3
        go_enter Try.func79, Try.ntmps79
        go_wp2
        go_ret
        exact ⟨rfl, rfl⟩
      · go_enter Try.func79, Try.ntmps79
        go_wp2
        go_ret
        exact ⟨ret_bool (by rw [sizeB_f (by omega)]; simp [h1, h2, h3]), rfl⟩

set_option maxHeartbeats 400000 in
theorem access_nil (addr n : Int) (w : World) :
    Calls Try.prog 65 #[.pointer none, .int .u32 addr, .int .i64 n] w fun e w' => e = .returned (.int .i64 2) ∧ w' = w := by
  go_enter Try.func65, Try.ntmps65
  go_wp2
  go_ret
  exact ⟨rfl, rfl⟩

set_option maxHeartbeats 800000 in
theorem access_any (R P K : Nat) (addr n : Int) (w : World) (hK : K ≤ 1024) (hc : w.cell? ⟨R, 0, none⟩ = some (.slice (some ⟨P, 0, none⟩) K K)) (h0 : 0 ≤ addr) (h1 : addr < 4294967296) :
    Calls Try.prog 65 #[.pointer (some ⟨R, 0, none⟩), .int .u32 addr, .int .i64 n] w fun e w' => e = .returned (.int .i64 (askZ K addr n)) ∧ w' = w := by
  have HW : Hid (∀ W : World, Calls Try.prog 79 #[.int .i64 n] W fun e w' => e = .returned (.bool (sizeB n)) ∧ w' = W) := isWidth_any n
  cases hs : sizeB n
  · have HA : Hid (askZ K addr n = 2) := askZ_shape hs
    rw [hs] at HW
    go_enter Try.func65, Try.ntmps65
    go_wp2_with (go_at_call 79; refine (HW.out _).mono ?_; rintro e w' ⟨rfl, hw⟩; have hw := hw.symm; subst hw)
    go_ret
    exact ⟨ret_int HA.out.symm, rfl⟩
  · have HH : Hid (∀ W : World, W.cell? ⟨R, 0, none⟩ = some (.slice (some ⟨P, 0, none⟩) K K) → Calls Try.prog 47 #[.pointer (some ⟨R, 0, none⟩), .int .u32 addr, .int .i64 n] W fun e w' => e = .returned (.bool (hasB K addr n)) ∧ w' = W) := fun W hW => has_any R P K addr n W hK hW h0 h1
    have HF : Hid (addr % n ≠ 0 → askZ K addr n = 5) := askZ_odd hs
    have HG : Hid (addr % n = 0 → hasB K addr n = false → askZ K addr n = 6) := askZ_fault hs
    have HO : Hid (addr % n = 0 → hasB K addr n = true → askZ K addr n = 0) := askZ_ok hs
    rw [hs] at HW
    have hn := sizeB_yes hs
    clear hs
    generalize askZ K addr n = z at *
    generalize hasB K addr n = y at *
    rcases hn with rfl | rfl | rfl
    · have hm : addr % 1 = 0 := Int.emod_one addr
      have HM := Lib.hid hm
      clear hm
      cases y
      · have HZ : Hid (z = 6) := HG.out HM.out rfl
        clear HG HO HF
        go_enter Try.func65, Try.ntmps65
        go_wp2_with (first | (go_at_call 79; refine (HW.out _).mono ?_; rintro e w' ⟨rfl, hw⟩; have hw := hw.symm; subst hw) | (go_at_call 47; refine (HH.out _ hc).mono ?_; rintro e w' ⟨rfl, hw⟩; have hw := hw.symm; subst hw))
        go_ret
        exact ⟨ret_int HZ.out.symm, rfl⟩
      · have HZ : Hid (z = 0) := HO.out HM.out rfl
        clear HG HO HF
        go_enter Try.func65, Try.ntmps65
        go_wp2_with (first | (go_at_call 79; refine (HW.out _).mono ?_; rintro e w' ⟨rfl, hw⟩; have hw := hw.symm; subst hw) | (go_at_call 47; refine (HH.out _ hc).mono ?_; rintro e w' ⟨rfl, hw⟩; have hw := hw.symm; subst hw))
        go_ret
        exact ⟨ret_int HZ.out.symm, rfl⟩
    · by_cases hm : addr % 2 = 0
      · have HM := Lib.hid hm
        cases y
        · have HZ : Hid (z = 6) := HG.out HM.out rfl
          clear HG HO HF
          go_enter Try.func65, Try.ntmps65
          go_wp2_with (first | (go_at_call 79; refine (HW.out _).mono ?_; rintro e w' ⟨rfl, hw⟩; have hw := hw.symm; subst hw) | (go_at_call 47; refine (HH.out _ hc).mono ?_; rintro e w' ⟨rfl, hw⟩; have hw := hw.symm; subst hw))
          go_ret
          exact ⟨ret_int HZ.out.symm, rfl⟩
        · have HZ : Hid (z = 0) := HO.out HM.out rfl
          clear HG HO HF
          go_enter Try.func65, Try.ntmps65
          go_wp2_with (first | (go_at_call 79; refine (HW.out _).mono ?_; rintro e w' ⟨rfl, hw⟩; have hw := hw.symm; subst hw) | (go_at_call 47; refine (HH.out _ hc).mono ?_; rintro e w' ⟨rfl, hw⟩; have hw := hw.symm; subst hw))
          go_ret
          exact ⟨ret_int HZ.out.symm, rfl⟩
      · have HZ : Hid (z = 5) := HF.out hm
        have hm' : (addr % 2 != 0) = true := bne_iff_ne.2 hm
        clear hm HG HO HF
        go_enter Try.func65, Try.ntmps65
        go_wp2_with (first | (go_at_call 79; refine (HW.out _).mono ?_; rintro e w' ⟨rfl, hw⟩; have hw := hw.symm; subst hw) | (go_at_call 47; refine (HH.out _ hc).mono ?_; rintro e w' ⟨rfl, hw⟩; have hw := hw.symm; subst hw))
        go_ret
        exact ⟨ret_int HZ.out.symm, rfl⟩
    · by_cases hm : addr % 4 = 0
      · have HM := Lib.hid hm
        cases y
        · have HZ : Hid (z = 6) := HG.out HM.out rfl
          clear HG HO HF
          go_enter Try.func65, Try.ntmps65
          go_wp2_with (first | (go_at_call 79; refine (HW.out _).mono ?_; rintro e w' ⟨rfl, hw⟩; have hw := hw.symm; subst hw) | (go_at_call 47; refine (HH.out _ hc).mono ?_; rintro e w' ⟨rfl, hw⟩; have hw := hw.symm; subst hw))
          go_ret
          exact ⟨ret_int HZ.out.symm, rfl⟩
        · have HZ : Hid (z = 0) := HO.out HM.out rfl
          clear HG HO HF
          go_enter Try.func65, Try.ntmps65
          go_wp2_with (first | (go_at_call 79; refine (HW.out _).mono ?_; rintro e w' ⟨rfl, hw⟩; have hw := hw.symm; subst hw) | (go_at_call 47; refine (HH.out _ hc).mono ?_; rintro e w' ⟨rfl, hw⟩; have hw := hw.symm; subst hw))
          go_ret
          exact ⟨ret_int HZ.out.symm, rfl⟩
      · have HZ : Hid (z = 5) := HF.out hm
        have hm' : (addr % 4 != 0) = true := bne_iff_ne.2 hm
        clear hm HG HO HF
        go_enter Try.func65, Try.ntmps65
        go_wp2_with (first | (go_at_call 79; refine (HW.out _).mono ?_; rintro e w' ⟨rfl, hw⟩; have hw := hw.symm; subst hw) | (go_at_call 47; refine (HH.out _ hc).mono ?_; rintro e w' ⟨rfl, hw⟩; have hw := hw.symm; subst hw))
        go_ret
        exact ⟨ret_int HZ.out.symm, rfl⟩

set_option maxHeartbeats 400000 in
theorem watched_any (R P K : Nat) (b : Nat → Int) (wa : Nat → Bool) (g : Nat → Int) (p : Nat) (w : World) (hK : K ≤ 1024) (h : IsRam w R P K b wa g) (hp : p < K) :
    Calls Try.prog 20 #[.pointer (some ⟨R, 0, none⟩), .int .i64 p] w fun e w' => e = .returned (.bool (wa p)) ∧ w' = w := by
  have hc := h.ptr
  have hw := h.watch hp
  have HH : Hid (∀ W : World, W.cell? ⟨R, 0, none⟩ = some (.slice (some ⟨P, 0, none⟩) K K) → Calls Try.prog 45 #[.pointer (some ⟨R, 0, none⟩), .int .i64 p] W fun e w' => e = .returned (.bool true) ∧ w' = W) := fun W hW => by
    have := hasPage_any R P K p W hK hW
    rwa [pgB_t (by omega)] at this
  clear h
  generalize wa p = y at *
  go_enter Try.func20, Try.ntmps20
  go_wp2_with (go_at_call 45; refine (HH.out _ hc).mono ?_; rintro e w' ⟨rfl, hw⟩; have hw := hw.symm; subst hw)
  go_ret
  exact ⟨rfl, rfl⟩

set_option maxHeartbeats 400000 in
theorem watched_no (R P K : Nat) (p : Int) (w : World) (hK : K ≤ 1024) (hc : w.cell? ⟨R, 0, none⟩ = some (.slice (some ⟨P, 0, none⟩) K K)) (hp : pgB K p = false) :
    Calls Try.prog 20 #[.pointer (some ⟨R, 0, none⟩), .int .i64 p] w fun e w' => e = .returned (.bool false) ∧ w' = w := by
  have HH : Hid (∀ W : World, W.cell? ⟨R, 0, none⟩ = some (.slice (some ⟨P, 0, none⟩) K K) → Calls Try.prog 45 #[.pointer (some ⟨R, 0, none⟩), .int .i64 p] W fun e w' => e = .returned (.bool false) ∧ w' = W) := fun W hW => by
    have := hasPage_any R P K p W hK hW
    rwa [hp] at this
  clear hp
  go_enter Try.func20, Try.ntmps20
  go_wp2_with (go_at_call 45; refine (HH.out _ hc).mono ?_; rintro e w' ⟨rfl, hw⟩; have hw := hw.symm; subst hw)
  go_ret
  exact ⟨rfl, rfl⟩

set_option maxHeartbeats 400000 in
theorem watched_nil (p : Int) (w : World) :
    Calls Try.prog 20 #[.pointer none, .int .i64 p] w fun e w' => e = .returned (.bool false) ∧ w' = w := by
  go_enter Try.func20, Try.ntmps20
  go_wp2_with (go_at_call 45; refine (hasPage_nil _ _).mono ?_; rintro e w' ⟨rfl, hw⟩; have hw := hw.symm; subst hw)
  go_ret
  exact ⟨rfl, rfl⟩

end Go.Proofs.Ytkbccccjjlkgbaa
