/- Layer 7: the laws' walks: each answers true and turns nothing that was there. -/
import Derived.Test.YtlagnhfbfmipoaaAluGoT
import Derived.OpenShut
namespace Go.Proofs.Ytlagnhfbfmipoaa
open Go.RowKit
set_option linter.unusedVariables false

namespace aluDoes
set_option maxHeartbeats 1000000 in
theorem walk (op a1 b1 : Int) (w : World) (w0 : (Lit.int .i64 op).wf = true) (w1 : (Lit.int .u32 a1).wf = true) (w2 : (Lit.int .u32 b1).wf = true) :
    Calls Try.prog 3 #[.int .i64 op, .int .u32 a1, .int .u32 b1] w fun e w' => e = .returned (.bool true) ∧ Below w.heap.size w w' := by
  have x1 := bounds_u32 w1
  have x2 := bounds_u32 w2
  obtain ⟨a, rfl⟩ := Int.eq_ofNat_of_zero_le x1.1
  obtain ⟨b, rfl⟩ := Int.eq_ofNat_of_zero_le x2.1
  have ha : a < 4294967296 := by omega
  have hb : b < 4294967296 := by omega
  clear x1 x2 w0 w1 w2
  by_cases h : 19 ≤ op ∧ op ≤ 37
  · obtain ⟨h0, h1⟩ := h
    have CD : Hid (∀ W : World, Calls Try.prog 7 #[.int .i64 op, .int .u32 (a : Int), .int .u32 (b : Int)] W fun e w' => e = .returned (.tuple #[.int .u32 (aluOf (plainOf op) a b), .int .i64 0]) ∧ w' = W) := fun W => do7_yes op a b W h0 h1 ha hb
    have CR : Hid (∀ W : World, Calls Try.prog 11 #[.int .i64 op, .int .u32 (a : Int), .int .u32 (b : Int)] W fun e w' => e = .returned (.int .u32 (aluOf (plainOf op) a b)) ∧ Below W.heap.size W w') := fun W => rdo7_any op a b W h0 h1 ha hb
    generalize aluOf (plainOf op) a b = v at CD CR
    have CH : Hid (∀ W : World, Calls Try.prog 8 #[.int .i64 op] W fun e w' => e = .returned (.bool true) ∧ w' = W) := fun W => by have g := has7_any op W; rw [hasB_t h0 h1] at g; exact g
    have CS : Hid (∀ W : World, Calls Try.prog 9 #[.int .i64 op] W fun e w' => e = .returned (.bool true) ∧ w' = W) := fun W => by have g := rhas7_any op W; rw [hasB_t h0 h1] at g; exact g
    clear h0 h1
    go_enter Try.func3, Try.ntmps3
    go_wp2_with fail
    refine Calls.mono (CD.out _) ?_; rintro e w1 ⟨rfl, hw⟩; have hw := hw.symm; subst hw
    go_wp2_with fail
    refine Calls.mono (CH.out _) ?_; rintro e w1 ⟨rfl, hw⟩; have hw := hw.symm; subst hw
    go_wp2_with fail
    refine Calls.mono (CS.out _) ?_; rintro e w1 ⟨rfl, hw⟩; have hw := hw.symm; subst hw
    go_wp2_with fail
    refine Calls.mono (CS.out _) ?_; rintro e w1 ⟨rfl, hw⟩; have hw := hw.symm; subst hw
    go_wp2_with fail
    refine Calls.mono (CR.out _) ?_; rintro e w1 ⟨rfl, hbl⟩
    go_wp2_with fail
    refine (awake7_any _).mono ?_; rintro e w2 ⟨rfl, hw⟩; have hw := hw.symm; subst hw
    go_wp2
    go_ret
    exact ⟨rfl, hbl⟩
  · have CD : Hid (∀ W : World, Calls Try.prog 7 #[.int .i64 op, .int .u32 (a : Int), .int .u32 (b : Int)] W fun e w' => e = .returned (.tuple #[.int .u32 0, .int .i64 9]) ∧ w' = W) := fun W => do7_no op a b W h ha hb
    have CH : Hid (∀ W : World, Calls Try.prog 8 #[.int .i64 op] W fun e w' => e = .returned (.bool false) ∧ w' = W) := fun W => by have g := has7_any op W; rw [hasB_f h] at g; exact g
    have CS : Hid (∀ W : World, Calls Try.prog 9 #[.int .i64 op] W fun e w' => e = .returned (.bool false) ∧ w' = W) := fun W => by have g := rhas7_any op W; rw [hasB_f h] at g; exact g
    clear h
    go_enter Try.func3, Try.ntmps3
    go_wp2_with fail
    refine Calls.mono (CD.out _) ?_; rintro e w1 ⟨rfl, hw⟩; have hw := hw.symm; subst hw
    go_wp2_with fail
    refine Calls.mono (CH.out _) ?_; rintro e w1 ⟨rfl, hw⟩; have hw := hw.symm; subst hw
    go_wp2_with fail
    refine Calls.mono (CS.out _) ?_; rintro e w1 ⟨rfl, hw⟩; have hw := hw.symm; subst hw
    go_wp2_with fail
    refine Calls.mono (CS.out _) ?_; rintro e w1 ⟨rfl, hw⟩; have hw := hw.symm; subst hw
    go_wp2_with fail
    refine (awake7_any _).mono ?_; rintro e w2 ⟨rfl, hw⟩; have hw := hw.symm; subst hw
    go_wp2
    go_ret
    exact ⟨rfl, Below.refl _ _⟩
end aluDoes

namespace aluPlain
theorem same (op : Int) (a b : Nat) (ha : a < 4294967296) (hb : b < 4294967296) :
    ∃ x c : Int, (∀ W : World, Calls Try.prog 7 #[.int .i64 op, .int .u32 (a : Int), .int .u32 (b : Int)] W fun e w' => e = .returned (.tuple #[.int .u32 x, .int .i64 c]) ∧ w' = W) ∧
      (∀ W : World, Calls Try.prog 7 #[.int .i64 (plainOf op), .int .u32 (a : Int), .int .u32 (b : Int)] W fun e w' => e = .returned (.tuple #[.int .u32 x, .int .i64 c]) ∧ w' = W) := by
  by_cases h : 19 ≤ op ∧ op ≤ 37
  · obtain ⟨h0, h1⟩ := h
    obtain ⟨t0, t1⟩ := plain_ten h0 h1
    refine ⟨_, _, fun W => do7_yes op a b W h0 h1 ha hb, fun W => ?_⟩
    have g := do7_yes (plainOf op) a b W (by omega) t1 ha hb
    rw [plain_twice h0 h1] at g
    exact g
  · refine ⟨_, _, fun W => do7_no op a b W h ha hb, fun W => ?_⟩
    rw [plain_no h]
    exact do7_no 0 a b W (by omega) ha hb

theorem rplain (op : Int) (w : World) :
    Calls Try.prog 15 #[.int .i64 op] w fun e w' => e = .returned (.int .i64 (plainOf op)) ∧ Below w.heap.size w w' := by
  by_cases h : 19 ≤ op ∧ op ≤ 37
  · exact rplain7_yes op w h.1 h.2
  · refine (rplain7_no op w h).mono ?_
    rintro e w' ⟨rfl, rfl⟩
    exact ⟨rfl, Below.refl _ _⟩

set_option maxHeartbeats 1000000 in
theorem walk (op a1 b1 : Int) (w : World) (w0 : (Lit.int .i64 op).wf = true) (w1 : (Lit.int .u32 a1).wf = true) (w2 : (Lit.int .u32 b1).wf = true) :
    Calls Try.prog 5 #[.int .i64 op, .int .u32 a1, .int .u32 b1] w fun e w' => e = .returned (.bool true) ∧ Below w.heap.size w w' := by
  have x1 := bounds_u32 w1
  have x2 := bounds_u32 w2
  obtain ⟨a, rfl⟩ := Int.eq_ofNat_of_zero_le x1.1
  obtain ⟨b, rfl⟩ := Int.eq_ofNat_of_zero_le x2.1
  have ha : a < 4294967296 := by omega
  have hb : b < 4294967296 := by omega
  clear x1 x2 w0 w1 w2
  obtain ⟨x, c, d1, d2⟩ := same op a b ha hb
  have CD : Hid (∀ W : World, Calls Try.prog 7 #[.int .i64 op, .int .u32 (a : Int), .int .u32 (b : Int)] W fun e w' => e = .returned (.tuple #[.int .u32 x, .int .i64 c]) ∧ w' = W) := d1
  have CE : Hid (∀ W : World, Calls Try.prog 7 #[.int .i64 (plainOf op), .int .u32 (a : Int), .int .u32 (b : Int)] W fun e w' => e = .returned (.tuple #[.int .u32 x, .int .i64 c]) ∧ w' = W) := d2
  have CP : Hid (∀ W : World, Calls Try.prog 14 #[.int .i64 op] W fun e w' => e = .returned (.int .i64 (plainOf op)) ∧ w' = W) := fun W => plain7_any op W
  have CR : Hid (∀ W : World, Calls Try.prog 15 #[.int .i64 op] W fun e w' => e = .returned (.int .i64 (plainOf op)) ∧ Below W.heap.size W w') := fun W => rplain op W
  clear d1 d2
  generalize plainOf op = p at *
  go_enter Try.func5, Try.ntmps5
  go_wp2_with fail
  refine Calls.mono (CP.out _) ?_; rintro e w1 ⟨rfl, hw⟩; have hw := hw.symm; subst hw
  go_wp2_with fail
  refine Calls.mono (CR.out _) ?_; rintro e w1 ⟨rfl, hbl⟩
  go_wp2_with fail
  refine Calls.mono (CD.out _) ?_; rintro e w2 ⟨rfl, hw⟩; have hw := hw.symm; subst hw
  go_wp2_with fail
  refine Calls.mono (CE.out _) ?_; rintro e w2 ⟨rfl, hw⟩; have hw := hw.symm; subst hw
  go_wp2_with fail
  refine (awake7_any _).mono ?_; rintro e w2 ⟨rfl, hw⟩; have hw := hw.symm; subst hw
  go_wp2
  go_ret
  exact ⟨rfl, hbl⟩
end aluPlain

namespace aluTakes
theorem other (op : Int) (h0 : 5 ≤ op) (h1 : op ≤ 10) : ∃ o : Int, 5 ≤ o ∧ o ≤ 10 ∧ (op = 5 ∧ o = 6 ∨ op = 6 ∧ o = 5 ∨ op = 7 ∧ o = 8 ∨ op = 8 ∧ o = 7 ∨ op = 9 ∧ o = 10 ∨ op = 10 ∧ o = 9) := by
  rcases six h0 h1 with rfl | rfl | rfl | rfl | rfl | rfl
  · exact ⟨6, by omega, by omega, by omega⟩
  · exact ⟨5, by omega, by omega, by omega⟩
  · exact ⟨8, by omega, by omega, by omega⟩
  · exact ⟨7, by omega, by omega, by omega⟩
  · exact ⟨10, by omega, by omega, by omega⟩
  · exact ⟨9, by omega, by omega, by omega⟩

set_option maxHeartbeats 1000000 in
theorem part (op o : Int) (a b : Nat) (w : World) (ha : a < 4294967296) (hb : b < 4294967296) (h0 : 5 ≤ op) (h1 : op ≤ 10) (g0 : 5 ≤ o) (g1 : o ≤ 10) (ho : op = 5 ∧ o = 6 ∨ op = 6 ∧ o = 5 ∨ op = 7 ∧ o = 8 ∨ op = 8 ∧ o = 7 ∨ op = 9 ∧ o = 10 ∨ op = 10 ∧ o = 9) :
    Calls Try.prog 4 #[.int .i64 op, .int .u32 (a : Int), .int .u32 (b : Int)] w fun e w' => e = .returned (.bool true) ∧ w' = w := by
  have hn : takenB o a b = !takenB op a b := by
    rcases ho with ⟨rfl, rfl⟩ | ⟨rfl, rfl⟩ | ⟨rfl, rfl⟩ | ⟨rfl, rfl⟩ | ⟨rfl, rfl⟩ | ⟨rfl, rfl⟩
    · exact tk6 a b
    · rw [tk6]; simp
    · exact tk8 a b
    · rw [tk8]; simp
    · exact tk10 a b
    · rw [tk10]; simp
  have CD : Hid (∀ W : World, Calls Try.prog 12 #[.int .i64 op, .int .u32 (a : Int), .int .u32 (b : Int)] W fun e w' => e = .returned (.tuple #[.bool (takenB op a b), .int .i64 0]) ∧ w' = W) := fun W => taken7_yes op a b W h0 h1 ha hb
  have CE : Hid (∀ W : World, Calls Try.prog 12 #[.int .i64 o, .int .u32 (a : Int), .int .u32 (b : Int)] W fun e w' => e = .returned (.tuple #[.bool (!takenB op a b), .int .i64 0]) ∧ w' = W) := fun W => by rw [← hn]; exact taken7_yes o a b W g0 g1 ha hb
  have CR : Hid (∀ W : World, Calls Try.prog 13 #[.int .i64 op, .int .u32 (a : Int), .int .u32 (b : Int)] W fun e w' => e = .returned (.bool (takenB op a b)) ∧ w' = W) := fun W => rtaken7_any op a b W h0 h1 ha hb
  generalize takenB op a b = t at CD CE CR
  clear hn h0 h1 g0 g1
  rcases ho with ⟨rfl, rfl⟩ | ⟨rfl, rfl⟩ | ⟨rfl, rfl⟩ | ⟨rfl, rfl⟩ | ⟨rfl, rfl⟩ | ⟨rfl, rfl⟩
  all_goals
    cases t
    all_goals
      go_enter Try.func4, Try.ntmps4
      go_wp2_with fail
      refine Calls.mono (CD.out _) ?_; rintro e w1 ⟨rfl, hw⟩; have hw := hw.symm; subst hw
      go_wp2_with fail
      refine Calls.mono (CE.out _) ?_; rintro e w1 ⟨rfl, hw⟩; have hw := hw.symm; subst hw
      go_wp2_with fail
      refine Calls.mono (CR.out _) ?_; rintro e w1 ⟨rfl, hw⟩; have hw := hw.symm; subst hw
      go_wp2_with fail
      refine (awake7_any _).mono ?_; rintro e w2 ⟨rfl, hw⟩; have hw := hw.symm; subst hw
      go_wp2
      go_ret
      exact ⟨rfl, rfl⟩

set_option maxHeartbeats 1000000 in
theorem none (op : Int) (a b : Nat) (w : World) (ha : a < 4294967296) (hb : b < 4294967296) (h : ¬ (5 ≤ op ∧ op ≤ 10)) :
    Calls Try.prog 4 #[.int .i64 op, .int .u32 (a : Int), .int .u32 (b : Int)] w fun e w' => e = .returned (.bool true) ∧ w' = w := by
  have CD : Hid (∀ W : World, Calls Try.prog 12 #[.int .i64 op, .int .u32 (a : Int), .int .u32 (b : Int)] W fun e w' => e = .returned (.tuple #[.bool false, .int .i64 9]) ∧ w' = W) := fun W => taken7_no op a b W h ha hb
  by_cases h0 : op < 5
  · go_enter Try.func4, Try.ntmps4
    go_wp2_with fail
    refine Calls.mono (CD.out _) ?_; rintro e w1 ⟨rfl, hw⟩; have hw := hw.symm; subst hw
    go_wp2_with fail
    refine (awake7_any _).mono ?_; rintro e w2 ⟨rfl, hw⟩; have hw := hw.symm; subst hw
    go_wp2
    go_ret
    exact ⟨rfl, rfl⟩
  · have h1 : 10 < op := by omega
    go_enter Try.func4, Try.ntmps4
    go_wp2_with fail
    refine Calls.mono (CD.out _) ?_; rintro e w1 ⟨rfl, hw⟩; have hw := hw.symm; subst hw
    go_wp2_with fail
    refine (awake7_any _).mono ?_; rintro e w2 ⟨rfl, hw⟩; have hw := hw.symm; subst hw
    go_wp2
    go_ret
    exact ⟨rfl, rfl⟩

theorem walk (op a1 b1 : Int) (w : World) (w0 : (Lit.int .i64 op).wf = true) (w1 : (Lit.int .u32 a1).wf = true) (w2 : (Lit.int .u32 b1).wf = true) :
    Calls Try.prog 4 #[.int .i64 op, .int .u32 a1, .int .u32 b1] w fun e w' => e = .returned (.bool true) ∧ Below w.heap.size w w' := by
  have x1 := bounds_u32 w1
  have x2 := bounds_u32 w2
  obtain ⟨a, rfl⟩ := Int.eq_ofNat_of_zero_le x1.1
  obtain ⟨b, rfl⟩ := Int.eq_ofNat_of_zero_le x2.1
  have ha : a < 4294967296 := by omega
  have hb : b < 4294967296 := by omega
  by_cases h : 5 ≤ op ∧ op ≤ 10
  · obtain ⟨o, g0, g1, ho⟩ := other op h.1 h.2
    refine (part op o a b w ha hb h.1 h.2 g0 g1 ho).mono ?_
    rintro e w' ⟨rfl, rfl⟩
    exact ⟨rfl, Below.refl _ _⟩
  · refine (none op a b w ha hb h).mono ?_
    rintro e w' ⟨rfl, rfl⟩
    exact ⟨rfl, Below.refl _ _⟩
end aluTakes

namespace aluUndoes
theorem word_nat (x : Int) (h0 : 0 ≤ x) (h1 : x < 4294967296) : ∃ n : Nat, x = (n : Int) ∧ n < 4294967296 := by
  obtain ⟨n, rfl⟩ := Int.eq_ofNat_of_zero_le h0
  exact ⟨n, rfl, by omega⟩

theorem xor_back (a b : Nat) : (a ^^^ b) ^^^ b = a := by rw [Nat.xor_assoc, Nat.xor_self, Nat.xor_zero]

set_option maxHeartbeats 1000000 in
theorem walk (a1 b1 : Int) (w : World) (w1 : (Lit.int .u32 a1).wf = true) (w2 : (Lit.int .u32 b1).wf = true) :
    Calls Try.prog 6 #[.int .u32 a1, .int .u32 b1] w fun e w' => e = .returned (.bool true) ∧ Below w.heap.size w w' := by
  have x1 := bounds_u32 w1
  have x2 := bounds_u32 w2
  obtain ⟨a, rfl⟩ := Int.eq_ofNat_of_zero_le x1.1
  obtain ⟨b, rfl⟩ := Int.eq_ofNat_of_zero_le x2.1
  have ha : a < 4294967296 := by omega
  have hb : b < 4294967296 := by omega
  clear x1 x2 w1 w2
  obtain ⟨s, hs, ls⟩ := word_nat (((a : Int) + b) % 4294967296) (by omega) (by omega)
  obtain ⟨m, hm, lm⟩ := word_nat (((a : Int) + a) % 4294967296) (by omega) (by omega)
  have lx : a ^^^ b < 4294967296 := bitW_xor.lt a b ha hb
  have lo : a ||| b < 4294967296 := bitW_or.lt a b ha hb
  have la : a &&& b < 4294967296 := bitW_and.lt a b ha hb
  have C1 : Hid (∀ W : World, Calls Try.prog 7 #[.int .i64 28, .int .u32 (a : Int), .int .u32 (b : Int)] W fun e w' => e = .returned (.tuple #[.int .u32 (s : Int), .int .i64 0]) ∧ w' = W) := fun W => by
    have g := do7_28 a b W ha hb; rw [al28, hs] at g; exact g
  have C2 : Hid (∀ W : World, Calls Try.prog 7 #[.int .i64 29, .int .u32 (s : Int), .int .u32 (b : Int)] W fun e w' => e = .returned (.tuple #[.int .u32 (a : Int), .int .i64 0]) ∧ w' = W) := fun W => by
    have g := do7_29 s b W ls hb; rw [al29, show ((s : Int) - b) % 4294967296 = a from by omega] at g; exact g
  have C3 : Hid (∀ W : World, Calls Try.prog 7 #[.int .i64 33, .int .u32 (a : Int), .int .u32 (b : Int)] W fun e w' => e = .returned (.tuple #[.int .u32 ((a ^^^ b : Nat) : Int), .int .i64 0]) ∧ w' = W) := fun W => by
    have g := do7_33 a b W ha hb; rw [al33] at g; exact g
  have C4 : Hid (∀ W : World, Calls Try.prog 7 #[.int .i64 33, .int .u32 ((a ^^^ b : Nat) : Int), .int .u32 (b : Int)] W fun e w' => e = .returned (.tuple #[.int .u32 (a : Int), .int .i64 0]) ∧ w' = W) := fun W => by
    have g := do7_33 (a ^^^ b) b W lx hb; rw [al33, xor_back] at g; exact g
  have C5 : Hid (∀ W : World, Calls Try.prog 7 #[.int .i64 30, .int .u32 (a : Int), .int .u32 1] W fun e w' => e = .returned (.tuple #[.int .u32 (m : Int), .int .i64 0]) ∧ w' = W) := fun W => by
    have g := do7_30 a 1 W ha (by omega); rw [al30, show pw (((1 : Nat) : Int) % 32) = 2 from by decide, show (a : Int) * 2 % 4294967296 = m from by omega] at g; exact g
  have C6 : Hid (∀ W : World, Calls Try.prog 7 #[.int .i64 28, .int .u32 (a : Int), .int .u32 (a : Int)] W fun e w' => e = .returned (.tuple #[.int .u32 (m : Int), .int .i64 0]) ∧ w' = W) := fun W => by
    have g := do7_28 a a W ha ha; rw [al28, hm] at g; exact g
  have C7 : Hid (∀ W : World, Calls Try.prog 7 #[.int .i64 37, .int .u32 (a : Int), .int .u32 (b : Int)] W fun e w' => e = .returned (.tuple #[.int .u32 ((a &&& b : Nat) : Int), .int .i64 0]) ∧ w' = W) := fun W => by
    have g := do7_37 a b W ha hb; rw [al37] at g; exact g
  have C8 : Hid (∀ W : World, Calls Try.prog 7 #[.int .i64 36, .int .u32 (a : Int), .int .u32 (b : Int)] W fun e w' => e = .returned (.tuple #[.int .u32 ((a ||| b : Nat) : Int), .int .i64 0]) ∧ w' = W) := fun W => by
    have g := do7_36 a b W ha hb; rw [al36] at g; exact g
  have C9 : Hid (∀ W : World, Calls Try.prog 7 #[.int .i64 28, .int .u32 ((a &&& b : Nat) : Int), .int .u32 ((a ||| b : Nat) : Int)] W fun e w' => e = .returned (.tuple #[.int .u32 (s : Int), .int .i64 0]) ∧ w' = W) := fun W => by
    have g := do7_28 (a &&& b) (a ||| b) W la lo
    have t := and_add_or 32 a b ha hb
    rw [al28, show ((a &&& b : Nat) : Int) + ((a ||| b : Nat) : Int) = (a : Int) + b from by omega, hs] at g; exact g
  generalize a ^^^ b = x at *
  generalize a &&& b = y at *
  generalize a ||| b = z at *
  clear hs hm ls lm lx lo la
  go_enter Try.func6, Try.ntmps6
  go_wp2_with fail
  refine Calls.mono (C1.out _) ?_; rintro e w1 ⟨rfl, hw⟩; have hw := hw.symm; subst hw
  go_wp2_with fail
  refine Calls.mono (C2.out _) ?_; rintro e w1 ⟨rfl, hw⟩; have hw := hw.symm; subst hw
  go_wp2_with fail
  refine Calls.mono (C3.out _) ?_; rintro e w1 ⟨rfl, hw⟩; have hw := hw.symm; subst hw
  go_wp2_with fail
  refine Calls.mono (C4.out _) ?_; rintro e w1 ⟨rfl, hw⟩; have hw := hw.symm; subst hw
  go_wp2_with fail
  refine Calls.mono (C5.out _) ?_; rintro e w1 ⟨rfl, hw⟩; have hw := hw.symm; subst hw
  go_wp2_with fail
  refine Calls.mono (C6.out _) ?_; rintro e w1 ⟨rfl, hw⟩; have hw := hw.symm; subst hw
  go_wp2_with fail
  refine Calls.mono (C7.out _) ?_; rintro e w1 ⟨rfl, hw⟩; have hw := hw.symm; subst hw
  go_wp2_with fail
  refine Calls.mono (C8.out _) ?_; rintro e w1 ⟨rfl, hw⟩; have hw := hw.symm; subst hw
  go_wp2_with fail
  refine Calls.mono (C9.out _) ?_; rintro e w1 ⟨rfl, hw⟩; have hw := hw.symm; subst hw
  go_wp2_with fail
  refine (awake7_any _).mono ?_; rintro e w2 ⟨rfl, hw⟩; have hw := hw.symm; subst hw
  go_wp2
  go_ret
  exact ⟨rfl, Below.refl _ _⟩
end aluUndoes
end Go.Proofs.Ytlagnhfbfmipoaa
