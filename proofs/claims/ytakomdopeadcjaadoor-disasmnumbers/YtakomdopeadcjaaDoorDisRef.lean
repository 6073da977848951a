/- Layer 5: the document's own texts of numbers and registers. -/
import Derived.Test.YtakomdopeadcjaaDoorDisMath
import Derived.Test.YtakomdopeadcjaaDoorBase
namespace Go.Proofs.YtakomdopeadcjaaDoor
open Go.RowKit
set_option linter.unusedVariables false

theorem decCut (D : Int) (h0 : 0 ≤ D) (h1 : D < 10) : (ByteArray.mk #[48, 49, 50, 51, 52, 53, 54, 55, 56, 57]).extract D.toNat (D + 1).toNat = bs [dch D.toNat] := by
  have hn : D = 0 ∨ D = 1 ∨ D = 2 ∨ D = 3 ∨ D = 4 ∨ D = 5 ∨ D = 6 ∨ D = 7 ∨ D = 8 ∨ D = 9 := by omega
  rcases hn with rfl | rfl | rfl | rfl | rfl | rfl | rfl | rfl | rfl | rfl <;> decide

/-- How far Digits has come behind k rounds: m is still to be told, l has been. -/
def DigInv (N k m : Nat) (l : List UInt8) : Prop := m < 10 ^ (20 - k) ∧ l.length ≤ k ∧ (((0 < m ∨ k = 0) ∧ dig10 N = dig10 m ++ l) ∨ (m = 0 ∧ 0 < k ∧ l = dig10 N))
theorem digInv_start (N : Nat) (h : N < 10 ^ 20) : DigInv N 0 N [] := ⟨h, Nat.le_refl _, .inl ⟨.inr rfl, by simp⟩⟩
theorem digInv_put (N k m : Nat) (l : List UInt8) (hk : k < 20) (hN : N < 10 ^ 20) (h : DigInv N k m l) (hm : 0 < m ∨ k = 0) : DigInv N (k + 1) (m / 10) (dch (m % 10) :: l) := by
  obtain ⟨h1, h2, h3⟩ := h
  have e : 10 ^ (20 - k) = 10 ^ (20 - (k + 1)) * 10 := by
    rw [← Nat.pow_succ]; congr 1; omega
  refine ⟨by omega, by simp; omega, ?_⟩
  have h4 : dig10 N = dig10 m ++ l := by
    rcases h3 with ⟨_, h⟩ | ⟨h, h', _⟩
    · exact h
    · omega
  have hb : m < 10 ^ 20 := Nat.lt_of_lt_of_le h1 (Nat.pow_le_pow_right (by decide) (by omega))
  by_cases hs : m < 10
  · refine .inr ⟨by omega, by omega, ?_⟩
    rw [h4, dig10_small m hs, show m % 10 = m from by omega]; rfl
  · refine .inl ⟨.inl (by omega), ?_⟩
    rw [h4, dig10_step m hs hb]; simp
theorem digInv_skip (N k : Nat) (l : List UInt8) (h : DigInv N k 0 l) (hk : 0 < k) : DigInv N (k + 1) 0 l := by
  obtain ⟨h1, h2, h3⟩ := h
  refine ⟨Nat.pow_pos (by decide), by omega, .inr ⟨rfl, by omega, ?_⟩⟩
  rcases h3 with ⟨h, _⟩ | ⟨_, _, h⟩
  · omega
  · exact h
theorem digInv_end (N m : Nat) (l : List UInt8) (h : DigInv N 20 m l) : l = dig10 N := by
  obtain ⟨h1, _, h3⟩ := h
  rcases h3 with ⟨h, _⟩ | ⟨_, _, h⟩
  · simp at h1; omega
  · exact h

set_option maxHeartbeats 1000000 in
theorem rdigits_any (N : Nat) (w : World) (hN : N < 18446744073709551616) :
    Calls Tryd.prog 18 #[.int .u64 N] w fun e w' => e = .returned (.string (bs (dig10 N))) ∧ w' = w := by
  have HN : Hid (N < 10 ^ 20) := Nat.lt_trans hN (by decide)
  go_enter Tryd.func18, Tryd.ntmps18
  go_wp2
  go_loop [0, 3, 4] (fun n s i => ∃ (k m : Nat) (l : List UInt8), k ≤ 20 ∧ m < 18446744073709551616 ∧ i = .int .i64 k ∧ n = .int .u64 m ∧ s = .string (bs l) ∧ DigInv N k m l) (fun _ _ i => 20 - (intOf i).toNat)
  case atStart => exact ⟨0, N, [], by omega, hN, rfl, rfl, rfl, digInv_start N HN.out⟩
  case round =>
    obtain ⟨k, m, l, hk, hmb, rfl, rfl, rfl, hI⟩ := hrel
    have HI : Hid (DigInv N k m l) := hI
    have hl : l.length ≤ k := hI.2.1
    clear hI
    have hs1 : (bs l).size = l.length := bs_size l
    by_cases hlt : k < 20
    · by_cases hm : 0 < m
      · obtain ⟨D, hD⟩ : ∃ D : Int, (m : Int) % 10 = D := ⟨_, rfl⟩
        obtain ⟨m', hm'⟩ : ∃ m' : Nat, m' = m / 10 := ⟨_, rfl⟩
        have hq : (m : Int) / 10 = (m' : Int) := by omega
        have hD0 : 0 ≤ D := by omega
        have hD1 : D < 10 := by omega
        have hdt : D.toNat = m % 10 := by omega
        have HFIN : Hid (DigInv N (k + 1) m' (dch D.toNat :: l)) := by
          rw [hdt, hm']; exact digInv_put N k m l hlt HN.out HI.out (.inl hm)
        have hc := decCut D hD0 hD1
        have hs2 : (bs [dch D.toNat]).size = 1 := bs_size _
        have hm'b : m' < 18446744073709551616 := by omega
        clear hdt hm'
        go_wp2
        go_round
        case rel => exact ⟨k + 1, m', _, by omega, hm'b, by go_num, rfl, by rw [bs_app]; rfl, HFIN.out⟩
        case measure => simp [intOf]; omega
      · have h0 : m = 0 := by omega
        subst h0
        by_cases hk0 : k = 0
        · subst hk0
          have HFIN : Hid (DigInv N 1 0 (dch 0 :: l)) := digInv_put N 0 0 l hlt HN.out HI.out (.inr rfl)
          go_wp2
          go_round
          case rel => exact ⟨1, 0, dch 0 :: l, by omega, by omega, by go_num, by go_num, by rw [show dch 0 :: l = [dch 0] ++ l from rfl, ← bs_app]; rfl, HFIN.out⟩
          case measure => simp [intOf]
        · have hk1 : ((k : Int) == 0) = false := by simp; omega
          go_wp2
          go_round
          case rel => exact ⟨k + 1, 0, l, by omega, by omega, by go_num, by go_num, rfl, digInv_skip N k l HI.out (by omega)⟩
          case measure => simp [intOf]; omega
    · obtain rfl : k = 20 := by omega
      have := digInv_end N m l HI.out
      subst this
      go_wp2
      go_ret
      exact ⟨rfl, rfl⟩

set_option maxHeartbeats 1000000 in
theorem rnum_any (n : Int) (w : World) (h0 : -9223372036854775808 ≤ n) (h1 : n < 9223372036854775808) :
    Calls Tryd.prog 8 #[.int .i64 n] w fun e w' => e = .returned (.string (bs (numL n))) ∧ w' = w := by
  by_cases hn : n < 0
  · obtain ⟨N, hN⟩ : ∃ N : Nat, N = (0 - n).toNat := ⟨_, rfl⟩
    have hb : N < 18446744073709551616 := by omega
    have HE : Hid (bs (numL n) = bs [45] ++ bs (dig10 N)) := by
      show bs (numL n) = _
      unfold numL
      rw [if_pos hn, bs_app, ← hN]; rfl
    have hs : (bs (dig10 N)).size ≤ 20 := by rw [bs_size]; exact digF_len 19 N
    have HN : Hid (N = (0 - n).toNat) := hN
    clear hN
    go_enter Tryd.func8, Tryd.ntmps8
    go_wp2_with fail
    rw [show -(n + 1) + 1 = (N : Int) from by have := HN.out; omega]
    refine (rdigits_any N _ hb).mono ?_
    rintro e w1 ⟨rfl, hw⟩
    subst hw
    go_wp2
    go_ret
    rw [HE.out]
    exact ⟨rfl, rfl⟩
  · obtain ⟨N, rfl⟩ := Int.eq_ofNat_of_zero_le (show 0 ≤ n by omega)
    have hb : N < 18446744073709551616 := by omega
    have HE : Hid (bs (numL N) = bs (dig10 N)) := by
      show bs (numL N) = _
      unfold numL
      rw [if_neg hn, Int.toNat_natCast]
    go_enter Tryd.func8, Tryd.ntmps8
    go_wp2_with fail
    refine (rdigits_any N _ hb).mono ?_
    rintro e w1 ⟨rfl, hw⟩
    subst hw
    go_wp2
    go_ret
    rw [HE.out]
    exact ⟨rfl, rfl⟩

theorem numS_size (n : Int) : (bs (numL n)).size ≤ 21 := by rw [bs_size]; exact numL_len n

set_option maxHeartbeats 1000000 in
theorem rreg_any (n : Int) (w : World) (h0 : -9223372036854775808 ≤ n) (h1 : n < 9223372036854775808) :
    Calls Tryd.prog 10 #[.int .i64 n] w fun e w' => e = .returned (.string (bs (120 :: numL n))) ∧ w' = w := by
  have hs := numS_size n
  have HE : Hid (bs (120 :: numL n) = bs [120] ++ bs (numL n)) := by
    show bs (120 :: numL n) = _
    rw [bs_app]; rfl
  go_enter Tryd.func10, Tryd.ntmps10
  go_wp2_with fail
  refine (rnum_any n _ h0 h1).mono ?_
  rintro e w1 ⟨rfl, hw⟩
  subst hw
  go_wp2
  go_ret
  rw [HE.out]
  exact ⟨rfl, rfl⟩
end Go.Proofs.YtakomdopeadcjaaDoor
