/- What layer 1's Number, the document's own, and SameBytes do. -/
import Derived.Test.YtcigceaadkjenaaDoorBytes
namespace Go.Proofs.YtcigceaadkjenaaDoor
open Go.RowKit
set_option linter.unusedVariables false

/-- The number whose k lowest bytes are f 0, f 1, .. -/
def numTo (f : Nat → Int) : Nat → Int
  | 0 => 0
  | k + 1 => numTo f k + f k * pw (8 * k)

theorem pw8 (k : Nat) : pw (8 * ((k + 1 : Nat) : Int)) = 256 * pw (8 * k) := by
  rw [show (8 * ((k + 1 : Nat) : Int)) = 8 + 8 * (k : Int) from by omega, pw_add _ _ (by omega) (by omega)]; rfl

theorem numTo_bd (f : Nat → Int) : ∀ k : Nat, (∀ i, i < k → 0 ≤ f i ∧ f i < 256) → 0 ≤ numTo f k ∧ numTo f k < pw (8 * k)
  | 0, _ => by simp [numTo, pw]
  | k + 1, h => by
    have ih := numTo_bd f k (fun i hi => h i (by omega))
    have hk := h k (by omega)
    have hp := pw_pos (8 * (k : Int))
    rw [pw8]
    have m0 : 0 ≤ f k * pw (8 * k) := Int.mul_nonneg hk.1 (by omega)
    have m1 : f k * pw (8 * k) ≤ 255 * pw (8 * k) := Int.mul_le_mul_of_nonneg_right (by omega) (by omega)
    unfold numTo
    omega

theorem or_join (acc z : Int) (k : Nat) (hk : k < 4) (a0 : 0 ≤ acc) (a1 : acc < pw (8 * k)) (z0 : 0 ≤ z) (z1 : z < 256) :
    bits .or .u32 acc (z * 2 ^ (8 * k) % 4294967296) = acc + z * pw (8 * k) := by
  obtain ⟨A, rfl⟩ := Int.eq_ofNat_of_zero_le a0
  obtain ⟨Z, rfl⟩ := Int.eq_ofNat_of_zero_le z0
  have e : pw (8 * (k : Int)) = ((2 ^ (8 * k) : Nat) : Int) := by rw [pw_nat, show (8 * (k : Int)).toNat = 8 * k from by omega]
  rw [e] at a1
  have a2 : A < 2 ^ (8 * k) := by omega
  have p1 : 2 ^ (8 * k) ≤ 16777216 := by
    exact Nat.pow_le_pow_right (i := 8 * k) (j := 24) (n := 2) (by omega) (by omega)
  have zp : Z * 2 ^ (8 * k) < 4294967296 := by
    have h1 : Z * 2 ^ (8 * k) ≤ 255 * 2 ^ (8 * k) := Nat.mul_le_mul_right _ (by omega)
    omega
  rw [show ((Z : Int) * 2 ^ (8 * k)) = ((Z * 2 ^ (8 * k) : Nat) : Int) from by simp]
  rw [Int.emod_eq_of_lt (by omega) (by omega), u32_or_nat A _ (by omega) zp, Nat.or_comm, nat_join (8 * k) _ _ (Nat.mul_mod_left _ _) a2, e]
  simp; omega

set_option maxHeartbeats 400000 in
theorem same_yes (f : Nat → Int) (b off b' off' len cap cap' : Nat) (w : World) (hn4 : len ≤ maxLen)
    (hc : ∀ i, i < len → w.cell? ⟨b, off + i, none⟩ = some (.int .u8 (f i))) (hc' : ∀ i, i < len → w.cell? ⟨b', off' + i, none⟩ = some (.int .u8 (f i))) :
    Calls Tryd.prog 16 #[.slice (some ⟨b, off, none⟩) len cap, .slice (some ⟨b', off', none⟩) len cap'] w fun e w' => e = .returned (.bool true) ∧ Q w w' := by
  unfold maxLen at hn4
  have HC : Hid (∀ i, i < len → w.cell? ⟨b, off + i, none⟩ = some (.int .u8 (f i))) := hc
  have HD : Hid (∀ i, i < len → w.cell? ⟨b', off' + i, none⟩ = some (.int .u8 (f i))) := hc'
  clear hc hc'
  go_enter Tryd.func16, Tryd.ntmps16
  go_wp2
  go_loopw [5] (fun i wr => ∃ k : Nat, k ≤ len ∧ i = .int .i64 k ∧ Q w wr) (fun i _ => len - (intOf i).toNat)
  case atStart => exact ⟨0, Nat.zero_le _, rfl, Q.refl _⟩
  case round =>
    obtain ⟨k, hk, rfl, hq⟩ := hrel
    by_cases hlt : k < len
    · have hcx : wr.cell? ⟨b, off + k, none⟩ = some (.int .u8 (f k)) := by
        obtain ⟨q, rfl⟩ := hq; exact HC.out k hlt
      have hdx : wr.cell? ⟨b', off' + k, none⟩ = some (.int .u8 (f k)) := by
        obtain ⟨q, rfl⟩ := hq; exact HD.out k hlt
      go_wp2
      go_quiet (fail)
      go_wp2
      go_roundw
      case rel => exact ⟨k + 1, by omega, by go_num, hq.drewN _⟩
      case measure => simp [intOf]; omega
    · go_wp2
      go_ret
      exact ⟨rfl, hq⟩
end Go.Proofs.YtcigceaadkjenaaDoor
