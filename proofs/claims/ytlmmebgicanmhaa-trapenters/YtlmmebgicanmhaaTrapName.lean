/- Layer 17: Name, the program's and the document's. -/
import Derived.Test.YtlmmebgicanmhaaTrapNam
namespace Go.Proofs.Ytlmmebgicanmhaa
open Go.RowKit
set_option linter.unusedVariables false
set_option linter.unusedSimpArgs false

theorem first_of (p : Nat → Bool) : ∀ n, ∃ m, m ≤ n ∧ (∀ j, j < m → p j = false) ∧ (m < n → p m = true)
  | 0 => ⟨0, Nat.le_refl _, fun j h => by omega, fun h => by omega⟩
  | n + 1 => by
    obtain ⟨m, hm, hn, hy⟩ := first_of p n
    by_cases h : m < n
    · exact ⟨m, by omega, hn, fun _ => hy h⟩
    · obtain rfl : m = n := by omega
      cases hp : p m with
      | true => exact ⟨m, by omega, hn, fun _ => hp⟩
      | false => exact ⟨m + 1, Nat.le_refl _, fun j hj => by
          by_cases g : j < m
          · exact hn j g
          · obtain rfl : j = m := by omega
            exact hp, fun h => by omega⟩

set_option maxHeartbeats 1600000 in
set_option maxRecDepth 100000 in
theorem gname_any (c : Int) (m : Nat) (w : World) (hm : m ≤ 12) (hn : ∀ j, j < m → (causeT j == c) = false) (hy : m < 12 → (causeT m == c) = true) :
    Calls Try.prog 9 #[.int .u32 c] w fun e w' => e = .returned (.string (nameT m)) ∧ Below w.heap.size w w' := by
  have HN := Lib.hid hn
  have HY := Lib.hid hy
  clear hn hy
  go_enter Try.func9, Try.ntmps9
  go_wp2_with fail
  refine (names_any w).mono ?_
  rintro e w1 ⟨rfl, hl, hb⟩
  have HL := Lib.hid hl
  have HW := Lib.hid hb
  clear hl hb
  go_wp2_with fail
  go_loopw [8] (fun i wr => ∃ j : Nat, j ≤ m ∧ i = .int .i64 j ∧ wr = w1) (fun i _ => m - (intOf i).toNat)
  case atStart => exact ⟨0, Nat.zero_le _, rfl, rfl⟩
  case round =>
    obtain ⟨j, hj, rfl, rfl⟩ := hrel
    by_cases hlt : j < m
    · obtain ⟨c0, c1⟩ := HL.out j (by omega)
      have hp := HN.out j hlt
      go_wp2
      go_roundw
      case rel => exact ⟨j + 1, by omega, by go_num, by first | rfl | trivial⟩
      case measure => simp [intOf]; omega
    · obtain rfl : j = m := by omega
      by_cases h12 : j < 12
      · obtain ⟨c0, c1⟩ := HL.out j h12
        have hp := HY.out h12
        go_wp2
        go_ret
        exact ⟨rfl, HW.out⟩
      · obtain rfl : j = 12 := by omega
        go_wp2
        go_ret
        exact ⟨rfl, HW.out⟩

set_option maxHeartbeats 1600000 in
set_option maxRecDepth 100000 in
theorem rname17_low (m : Nat) (w : World) (hm : m < 8) :
    Calls Try.prog 10 #[.int .u32 (m : Int)] w fun e w' => e = .returned (.string (nameT m)) ∧ Below w.heap.size w w' := by
  have HB : Hid (∀ a : Obj, Below w.heap.size w (w.alloc a)) := fun a => (Below.refl _ _).alloc (Nat.le_refl _) _
  have : m = 0 ∨ m = 1 ∨ m = 2 ∨ m = 3 ∨ m = 4 ∨ m = 5 ∨ m = 6 ∨ m = 7 := by omega
  rcases this with rfl | rfl | rfl | rfl | rfl | rfl | rfl | rfl
  all_goals
    simp only [Int.cast_ofNat_Int, Int.natCast_zero, nameT]
    go_enter Try.func10, Try.ntmps10
    go_wp2
    go_ret
    exact ⟨rfl, HB.out _⟩

set_option maxHeartbeats 1600000 in
set_option maxRecDepth 100000 in
theorem rname17_high (m : Nat) (w : World) (hm : m < 12) (h8 : 8 ≤ m) :
    Calls Try.prog 10 #[.int .u32 (causeT m)] w fun e w' => e = .returned (.string (nameT m)) ∧ Below w.heap.size w w' := by
  have : m = 8 ∨ m = 9 ∨ m = 10 ∨ m = 11 := by omega
  rcases this with rfl | rfl | rfl | rfl
  all_goals
    simp only [causeT]
    go_enter Try.func10, Try.ntmps10
    go_wp2
    go_ret
    exact ⟨rfl, Below.refl _ _⟩

set_option maxHeartbeats 1600000 in
set_option maxRecDepth 100000 in
theorem rname17_no (c : Int) (w : World) (c8 : ¬ c < 8) (e0 : (c == 11) = false) (e1 : (c == 2147483651) = false) (e2 : (c == 2147483655) = false) (e3 : (c == 2147483659) = false) :
    Calls Try.prog 10 #[.int .u32 c] w fun e w' => e = .returned (.string (nameT 12)) ∧ Below w.heap.size w w' := by
  go_enter Try.func10, Try.ntmps10
  go_wp2
  go_ret
  exact ⟨rfl, Below.refl _ _⟩

theorem rname17_any (c : Int) (m : Nat) (w : World) (c0 : 0 ≤ c) (hm : m ≤ 12) (hn : ∀ j, j < m → (causeT j == c) = false) (hy : m < 12 → (causeT m == c) = true) :
    Calls Try.prog 10 #[.int .u32 c] w fun e w' => e = .returned (.string (nameT m)) ∧ Below w.heap.size w w' := by
  by_cases h : m < 12
  · have e := hy h
    rw [beq_iff_eq] at e
    subst e
    by_cases h8 : m < 8
    · have q : causeT m = (m : Int) := by
        match m, h8 with
        | 0, _ => rfl | 1, _ => rfl | 2, _ => rfl | 3, _ => rfl | 4, _ => rfl | 5, _ => rfl | 6, _ => rfl | 7, _ => rfl
      rw [q]
      exact rname17_low m w h8
    · exact rname17_high m w h (by omega)
  · obtain rfl : m = 12 := by omega
    have ne : ∀ j, j < 12 → causeT j ≠ c := fun j hj => by have := hn j hj; rwa [beq_eq_false_iff_ne] at this
    have d : ∀ j, j < 12 → (c == causeT j) = false := fun j hj => by rw [beq_eq_false_iff_ne]; exact fun q => ne j hj q.symm
    refine rname17_no c w ?_ (d 8 (by omega)) (d 9 (by omega)) (d 10 (by omega)) (d 11 (by omega))
    intro h8
    have n0 : (0 : Int) ≠ c := ne 0 (by omega)
    have n1 : (1 : Int) ≠ c := ne 1 (by omega)
    have n2 : (2 : Int) ≠ c := ne 2 (by omega)
    have n3 : (3 : Int) ≠ c := ne 3 (by omega)
    have n4 : (4 : Int) ≠ c := ne 4 (by omega)
    have n5 : (5 : Int) ≠ c := ne 5 (by omega)
    have n6 : (6 : Int) ≠ c := ne 6 (by omega)
    have n7 : (7 : Int) ≠ c := ne 7 (by omega)
    omega
end Go.Proofs.Ytlmmebgicanmhaa
