/- Layer 7: the document's bits. -/
import Derived.Test.YtlagnhfbfmipoaaAluRef
namespace Go.Proofs.Ytlagnhfbfmipoaa
open Go.RowKit
set_option linter.unusedVariables false

/-- A row of three numbers, what pairs of bits give. -/
def ThreeAt (w : World) (g : Nat) (o : Nat → Nat) : Prop :=
  w.cell? ⟨g, 0, none⟩ = some (.int .u64 (o 0 : Nat)) ∧ w.cell? ⟨g, 1, none⟩ = some (.int .u64 (o 1 : Nat)) ∧ w.cell? ⟨g, 2, none⟩ = some (.int .u64 (o 2 : Nat))

theorem bitsOf_nat (a k : Nat) : bitsOf (a : Int) (k : Int) 1 = ((a / 2 ^ k % 2 : Nat) : Int) := by
  unfold bitsOf
  rw [show pw (1 : Int) = 2 from by decide, pw_nat]
  simp

theorem bitW_int {F : Nat → Nat → Nat} {o : Nat → Nat} (h : BitW F o) (a b k : Nat) :
    ((F a b % 2 ^ k : Nat) : Int) + ((o (a / 2 ^ k % 2 + b / 2 ^ k % 2) : Nat) : Int) * pw (k : Int) = ((F a b % 2 ^ (k + 1) : Nat) : Int) := by
  rw [← bitW_step h a b k, pw_nat]
  simp

theorem three_at {w : World} {g : Nat} {o : Nat → Nat} (h : ThreeAt w g o) (n : Nat) (hn : n < 3) : w.cell? ⟨g, n, none⟩ = some (.int .u64 (o n : Nat)) := by
  obtain ⟨h0, h1, h2⟩ := h
  have : n = 0 ∨ n = 1 ∨ n = 2 := by omega
  rcases this with rfl | rfl | rfl
  · exact h0
  · exact h1
  · exact h2

theorem ThreeAt.on {w w' : World} {g : Nat} {o : Nat → Nat} (h : ThreeAt w g o) (hq : Q w w') : ThreeAt w' g o := by
  obtain ⟨k, rfl⟩ := hq
  simpa [ThreeAt] using h

set_option maxHeartbeats 2000000 in
theorem bits7_any {F : Nat → Nat → Nat} {o : Nat → Nat} (hF : BitW F o) (ho : ∀ n, o n ≤ 1) (a b g : Nat) (w : World) (ha : a < 4294967296) (hb : b < 4294967296) (hg : ThreeAt w g o) :
    Calls Try.prog 21 #[.int .u32 (a : Int), .int .u32 (b : Int), .slice (some ⟨g, 0, none⟩) 3 3] w fun e w' => e = .returned (.int .u32 ((F a b : Nat) : Int)) ∧ Q w w' := by
  have HE : Hid (F a b % 2 ^ 32 = F a b) := bitW_end hF a b (by omega) (by omega)
  have HL : Hid (∀ k, k ≤ 32 → F a b % 2 ^ k < 4294967296) := fun k hk => Nat.lt_of_lt_of_le (Nat.mod_lt _ (Nat.pow_pos (by omega))) (Nat.pow_le_pow_right (by omega) hk)
  have HG : Hid (ThreeAt w g o) := hg
  have HO : Hid (∀ n, o n ≤ 1) := ho
  clear hg ho
  go_enter Try.func21, Try.ntmps21
  go_wp2
  go_loopw [7, 8, 9] (fun t i _ wr => ∃ k : Nat, k ≤ 32 ∧ i = .int .i64 k ∧ t = .int .u64 ((F a b % 2 ^ k : Nat) : Int) ∧ Q w wr) (fun _ i _ _ => 32 - (intOf i).toNat)
  case atStart => exact ⟨0, by omega, rfl, by simp [Nat.mod_one], Q.refl _⟩
  case round =>
    obtain ⟨k, hk, rfl, rfl, hq⟩ := hrel
    by_cases hlt : k < 32
    · have e1 := HL.out k hk
      have e2 := HL.out (k + 1) (by omega)
      have ES := bitW_int hF a b k
      have eo := HO.out (a / 2 ^ k % 2 + b / 2 ^ k % 2)
      have l1 : a / 2 ^ k % 2 < 2 := Nat.mod_lt _ (by omega)
      have l2 : b / 2 ^ k % 2 < 2 := Nat.mod_lt _ (by omega)
      have ba := bitsOf_nat a k
      have bb := bitsOf_nat b k
      have p0 := (pw_31 (s := (k : Int)) (by omega) (by omega)).1
      have p1 := (pw_31 (s := (k : Int)) (by omega) (by omega)).2
      generalize hx : a / 2 ^ k % 2 = x at ES eo l1 ba
      generalize hy : b / 2 ^ k % 2 = y at ES eo l2 bb
      generalize hP : F a b % 2 ^ k = P at ES e1 ⊢
      generalize hN : F a b % 2 ^ (k + 1) = N at ES e2
      have HN : Hid (F a b % 2 ^ (k + 1) = N) := hN
      clear hx hy hN
      have HC : Hid (∀ W : World, Q w W → W.cell? ⟨g, x + y, none⟩ = some (.int .u64 (o (x + y) : Nat))) := fun W hW => three_at (HG.out.on hW) (x + y) (by omega)
      have ca := fun W => rbits_any (a : Int) (k : Int) 1 W (by omega) (by omega) (by omega) (by omega) (by omega) (by omega)
      have cb := fun W => rbits_any (b : Int) (k : Int) 1 W (by omega) (by omega) (by omega) (by omega) (by omega) (by omega)
      have cp : Hid (∀ W : World, Calls Try.prog 22 #[.int .i64 (k : Int)] W fun e w' => e = .returned (.int .u64 (pw (k : Int))) ∧ w' = W) := fun W => power_any (k : Int) W (by omega) (by omega)
      rw [ba] at ca; rw [bb] at cb
      clear ba bb
      generalize o (x + y) = v at ES eo HC
      have hv : v = 0 ∨ v = 1 := by omega
      have hx : x = 0 ∨ x = 1 := by omega
      have hy : y = 0 ∨ y = 1 := by omega
      rcases hv with rfl | rfl <;> rcases hx with rfl | rfl <;> rcases hy with rfl | rfl
      all_goals
        clear eo l1 l2
        simp only [Nat.zero_add, Nat.add_zero, Nat.reduceAdd, Int.natCast_zero, Int.natCast_one, Int.zero_mul, Int.one_mul, Int.add_zero] at ES HC
        have CA : Hid _ := ca
        have CB : Hid _ := cb
        clear ca cb
        go_wp2_with fail
        refine (CA.out _).mono ?_; rintro e w1 ⟨rfl, q1⟩
        go_wp2_with fail
        refine (CB.out _).mono ?_; rintro e w2 ⟨rfl, q2⟩
        have hq2 : Q w w2 := (hq.trans q1).trans q2
        have hc := HC.out w2 hq2
        clear hq q1 q2
        go_wp2_with fail
        go_quiet ((go_at_call 22; exact Calls.quiet_of_same (cp.out _)))
        go_wp2
        go_round
        case rel => exact ⟨k + 1, by omega, by go_num, by rw [HN.out], hq2.drewN _⟩
        case measure => simp [intOf]; omega
    · have hk32 : k = 32 := by omega
      subst hk32
      have HB := HL.out 32 (by omega)
      go_wp2
      go_ret
      refine ⟨ret_int ?_, hq⟩
      have := HE.out; omega

end Go.Proofs.Ytlagnhfbfmipoaa
