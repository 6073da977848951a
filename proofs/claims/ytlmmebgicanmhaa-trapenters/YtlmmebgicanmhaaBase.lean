/- What the small functions of layer 1 do, call by call: isField, lowest, Power, Right. -/
import Derived.Test.YtlmmebgicanmhaaRows
import Derived.Test.YtlmmebgicanmhaaMath
import Derived.WalkKit
import Derived.WalkSpells
import Derived.WalkLawsBesides
import Derived.BigQuiet
import Derived.Deep.QuietTactic
import Derived.Laws.IdiomStrings
import Derived.Laws.BytesArg
namespace Go.Proofs.Ytlmmebgicanmhaa
open Go.RowKit
set_option linter.unusedVariables false

theorem ret_int {k : IntKind} {a b : Int} (h : a = b) : Ending.returned (.int k a) = .returned (.int k b) := by rw [h]

theorem ret_bool {a b : Bool} (h : b = a) : Ending.returned (.bool a) = .returned (.bool b) := by rw [h]

theorem ret_pair {k j : IntKind} {a b c : Int} (h : a = b) : Ending.returned (.tuple #[.int k a, .int j c]) = .returned (.tuple #[.int k b, .int j c]) := by rw [h]

/-- The world is as it was but for a count of draws. -/
def Q (w w' : World) : Prop := ∃ k, w' = w.drewN k
theorem Q.refl (w : World) : Q w w := ⟨0, rfl⟩
theorem Q.drewN {w w' : World} (h : Q w w') (n : Nat) : Q w (w'.drewN n) := by
  obtain ⟨k, rfl⟩ := h
  exact ⟨k + n, by simp⟩
theorem Q.trans {a b c : World} (h : Q a b) (g : Q b c) : Q a c := by
  obtain ⟨k, rfl⟩ := g; exact h.drewN k
theorem Q.below {w w' : World} (h : Q w w') (B : Nat) : Below B w w' := by
  obtain ⟨k, rfl⟩ := h
  exact ⟨rfl, rfl, rfl, Nat.le_refl _, fun _ _ => rfl⟩

/-- Whoever owns something is no nil. -/
theorem owned_some {w : World} {B s n : Nat} {e : TypeId} {v : Value} {xs : List Value} (h : w.ownsRow B e s v n xs) (hn : 0 < n) : ∃ g c, v = .slice (some ⟨g, 0, none⟩) n c := by
  obtain ⟨_, h | h⟩ := h
  · omega
  · obtain ⟨g, c, _, hv, _⟩ := h
    exact ⟨g, c, hv⟩

def fieldB (a n : Int) : Bool := decide (0 ≤ a ∧ a ≤ 31 ∧ 1 ≤ n ∧ n ≤ 32 - a)
theorem fieldB_yes {a n : Int} (h : fieldB a n = true) : 0 ≤ a ∧ a ≤ 31 ∧ 1 ≤ n ∧ n ≤ 32 - a := by simpa [fieldB] using h
theorem fieldB_no {a n : Int} (h : fieldB a n = false) : ¬ (0 ≤ a ∧ a ≤ 31 ∧ 1 ≤ n ∧ n ≤ 32 - a) := by simpa [fieldB] using h

theorem fieldB_t {a n : Int} (h : 0 ≤ a ∧ a ≤ 31 ∧ 1 ≤ n ∧ n ≤ 32 - a) : fieldB a n = true := by simpa [fieldB] using h
theorem fieldB_f {a n : Int} (h : ¬ (0 ≤ a ∧ a ≤ 31 ∧ 1 ≤ n ∧ n ≤ 32 - a)) : fieldB a n = false := by simpa [fieldB] using h

theorem pw_succ (k : Nat) : pw (k : Int) * 2 = pw ((k : Int) + 1) := by
  unfold pw; rw [show ((k : Int) + 1).toNat = k + 1 from by omega, Int.pow_succ]; simp

set_option maxHeartbeats 400000 in
theorem power_any (n : Int) (w : World) (h2 : 0 ≤ n) (h3 : n ≤ 32) :
    Calls Try.prog 23 #[.int .i64 n] w fun e w' => e = .returned (.int .u64 (pw n)) ∧ w' = w := by
  obtain ⟨m, rfl⟩ := Int.eq_ofNat_of_zero_le h2
  have hm : m ≤ 32 := by omega
  clear h2 h3
  go_enter Try.func23, Try.ntmps23
  go_wp2
  go_loop [3, 4] (fun t i => ∃ k : Nat, k ≤ m ∧ i = .int .i64 k ∧ t = .int .u64 (pw k)) (fun _ i => m - (intOf i).toNat)
  case atStart => exact ⟨0, Nat.zero_le _, rfl, rfl⟩
  case round =>
    obtain ⟨k, hk, rfl, rfl⟩ := hrel
    have hp := pw_pos (k : Int)
    have hq := pw_le (k : Int) 32 (by omega)
    rw [pw_32] at hq
    have HS : Hid (pw (k : Int) * 2 = pw ((k : Int) + 1)) := pw_succ k
    by_cases hlt : k < m
    · go_wp2
      go_round
      case rel => exact ⟨k + 1, by omega, by go_num, by rw [HS.out]; go_num⟩
      case measure => simp [intOf]; omega
    · go_wp2
      go_ret
      exact ⟨ret_int (by rw [show k = m from by omega]), rfl⟩

theorem sh_nat (w a : Int) : w / 2 ^ a.toNat = w / pw a := rfl

set_option maxHeartbeats 400000 in
theorem rbits_any (x a n : Int) (w : World) (hx0 : 0 ≤ x) (hx1 : x < 4294967296) (h0 : 0 ≤ a) (h1 : a ≤ 32) (h2 : 0 ≤ n) (h3 : n ≤ 32) :
    Calls Try.prog 22 #[.int .u32 x, .int .i64 a, .int .i64 n] w fun e w' => e = .returned (.int .u32 (bitsOf x a n)) ∧ Q w w' := by
  have p1 := pw_pos a
  have p2 := pw_pos n
  have q1 := pw_le a 32 (by omega)
  have q2 := pw_le n 32 (by omega)
  rw [pw_32] at q1 q2
  obtain ⟨d1, d2⟩ := div_pw x a hx0 hx1
  have e1 := bitsOf_nn x a n
  have e2 := bitsOf_lt x a n
  go_enter Try.func22, Try.ntmps22
  go_wp2_with fail
  go_quiet ((go_at_call 23; exact Calls.quiet_of_same (power_any _ _ (by omega) (by omega))))
  go_wp2
  go_ret
  refine ⟨ret_int ?_, _, rfl⟩
  exact Int.emod_eq_of_lt e1 (Int.lt_of_lt_of_le e2 q2)

set_option maxHeartbeats 400000 in
theorem rput_any (x a n y : Int) (w : World) (hx0 : 0 ≤ x) (hx1 : x < 4294967296) (hy0 : 0 ≤ y) (hy1 : y < 4294967296) (h0 : 0 ≤ a) (h1 : a ≤ 31) (h2 : 1 ≤ n) (h3 : n ≤ 32 - a) :
    Calls Try.prog 19 #[.int .u32 x, .int .i64 a, .int .i64 n, .int .u32 y] w fun e w' => e = .returned (.int .u32 (putOf x a n y)) ∧ Q w w' := by
  have p1 := pw_pos a
  have p2 := pw_pos n
  have q1 := pw_le a 32 (by omega)
  have q2 := pw_le n 32 (by omega)
  rw [pw_32] at q1 q2
  have e1 := bitsOf_nn x a n
  have e2 := bitsOf_lt x a n
  obtain ⟨s, s0, s1, s2, s3, s4, s5⟩ := put_both x a n y hx0 hx1 hy0 hy1 h0 h2 h3
  have S0 : Hid (0 ≤ putOf x a n y ∧ putOf x a n y < 4294967296) := ⟨s0, s1⟩
  clear s s0 s1
  go_enter Try.func19, Try.ntmps19
  go_wp2_with (first | (go_at_call 23; refine (power_any _ _ ?_ ?_).mono ?_; omega; omega; rintro e w' ⟨rfl, rfl⟩) | (go_at_call 22; refine (rbits_any _ _ _ _ hx0 hx1 h0 ?_ ?_ ?_).mono ?_; omega; omega; omega; rintro e w' ⟨rfl, hq⟩))
  go_quiet ((go_at_call 23; exact Calls.quiet_of_same (power_any _ _ (by omega) (by omega))))
  go_wp2
  go_ret
  refine ⟨ret_int ?_, hq.drewN _⟩
  exact Int.emod_eq_of_lt S0.out.1 S0.out.2

end Go.Proofs.Ytlmmebgicanmhaa
