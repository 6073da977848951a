/- What layer 1's functions on digits do: digit, Unhex, and the document's own Digit, Unhex, Hex. -/
import Derived.Test.YtcigceaadkjenaaDoorHex
namespace Go.Proofs.YtcigceaadkjenaaDoor
open Go.RowKit
set_option linter.unusedVariables false

/-- A sign's number as a digit; -1: it is none. -/
def digVal (c : Int) : Int := if 48 ≤ c ∧ c ≤ 57 then c - 48 else if 97 ≤ c ∧ c ≤ 102 then c - 87 else if 65 ≤ c ∧ c ≤ 70 then c - 55 else -1

theorem ret_ib {k : IntKind} {a b : Int} {c : Bool} (h : a = b) : Ending.returned (.tuple #[.int k a, .bool c]) = .returned (.tuple #[.int k b, .bool c]) := by rw [h]

set_option maxHeartbeats 400000 in
theorem digit_yes (c : Int) (w : World) (h0 : 0 ≤ c) (h1 : c < 256) (h : 0 ≤ digVal c) :
    Calls Tryd.prog 66 #[.int .u8 c] w fun e w' => e = .returned (.tuple #[.int .u32 (digVal c), .bool true]) ∧ w' = w := by
  have H : Hid (0 ≤ digVal c) := h
  clear h
  by_cases a : 48 ≤ c ∧ c ≤ 57
  · have e : Hid (digVal c = c - 48) := by unfold digVal; rw [if_pos a]; rfl
    obtain ⟨a1, a2⟩ := a
    go_enter Tryd.func66, Tryd.ntmps66
    go_wp2
    go_ret2
    exact ⟨ret_ib e.out.symm, rfl⟩
  · by_cases b : 97 ≤ c ∧ c ≤ 102
    · have e : Hid (digVal c = c - 97 + 10) := by unfold digVal; rw [if_neg a, if_pos b]; show c - 87 = c - 97 + 10; omega
      obtain ⟨b1, b2⟩ := b
      have a1 : 48 ≤ c := by omega
      have a2 : ¬ c ≤ 57 := by omega
      clear a
      go_enter Tryd.func66, Tryd.ntmps66
      go_wp2
      go_ret2
      exact ⟨ret_ib e.out.symm, rfl⟩
    · by_cases d : 65 ≤ c ∧ c ≤ 70
      · have e : Hid (digVal c = c - 65 + 10) := by unfold digVal; rw [if_neg a, if_neg b, if_pos d]; show c - 55 = c - 65 + 10; omega
        obtain ⟨d1, d2⟩ := d
        have a1 : 48 ≤ c := by omega
        have a2 : ¬ c ≤ 57 := by omega
        have b1 : ¬ 97 ≤ c := by omega
        clear a b
        go_enter Tryd.func66, Tryd.ntmps66
        go_wp2
        go_ret2
        exact ⟨ret_ib e.out.symm, rfl⟩
      · exfalso
        have := H.out
        unfold digVal at this
        rw [if_neg a, if_neg b, if_neg d] at this
        omega

set_option maxHeartbeats 400000 in
theorem digit_no (c : Int) (w : World) (h0 : 0 ≤ c) (h1 : c < 256) (h : digVal c < 0) :
    Calls Tryd.prog 66 #[.int .u8 c] w fun e w' => e = .returned (.tuple #[.int .u32 0, .bool false]) ∧ w' = w := by
  have a : ¬ (48 ≤ c ∧ c ≤ 57) := fun a => by unfold digVal at h; rw [if_pos a] at h; omega
  have b : ¬ (97 ≤ c ∧ c ≤ 102) := fun b => by unfold digVal at h; rw [if_neg a, if_pos b] at h; omega
  have d : ¬ (65 ≤ c ∧ c ≤ 70) := fun d => by unfold digVal at h; rw [if_neg a, if_neg b, if_pos d] at h; omega
  clear h
  rcases (show c < 48 ∨ (57 < c ∧ c < 65) ∨ (70 < c ∧ c < 97) ∨ 102 < c by omega) with g | ⟨g, g'⟩ | ⟨g, g'⟩ | g
  all_goals
    clear a b d
    go_enter Tryd.func66, Tryd.ntmps66
    go_wp2
    go_ret2
    exact ⟨rfl, rfl⟩

set_option maxHeartbeats 400000 in
theorem rdigit_any (c : Int) (w : World) (h0 : 0 ≤ c) (h1 : c < 256) :
    Calls Tryd.prog 55 #[.int .u8 c] w fun e w' => e = .returned (.int .i64 (digVal c)) ∧ w' = w := by
  rcases (show c < 48 ∨ (48 ≤ c ∧ c ≤ 57) ∨ (57 < c ∧ c < 65) ∨ (65 ≤ c ∧ c ≤ 70) ∨ (70 < c ∧ c < 97) ∨ (97 ≤ c ∧ c ≤ 102) ∨ 102 < c by omega) with g | ⟨g, g'⟩ | ⟨g, g'⟩ | ⟨g, g'⟩ | ⟨g, g'⟩ | ⟨g, g'⟩ | g
  all_goals
    go_enter Tryd.func55, Tryd.ntmps55
    go_wp2
    go_ret
    refine ⟨ret_int ?_, rfl⟩
    unfold digVal
    (repeat' split) <;> omega

/-- The sign at place i of a text. -/
def signAt (s : ByteArray) (i : Nat) : Int := ((s.data[i]?.getD 0).toNat : Int)
theorem signAt_bd (s : ByteArray) (i : Nat) : 0 ≤ signAt s i ∧ signAt s i < 256 := by
  unfold signAt; have := (s.data[i]?.getD 0).toNat_lt; omega
theorem sign_form (s : ByteArray) (k : Nat) : ∀ h : k < s.size, (((s[k]'h).toNat : Nat) : Int) = signAt s k := by
  intro h
  have h' : k < s.data.size := h
  unfold signAt
  rw [Array.getElem?_eq_getElem h']
  rfl

/-- The number of the first k digits. -/
def valTo (f : Nat → Int) : Nat → Int
  | 0 => 0
  | k + 1 => valTo f k * 16 + digVal (f k)

theorem digVal_lt (c : Int) : digVal c < 16 := by unfold digVal; (repeat' split) <;> omega

theorem valTo_bd (f : Nat → Int) : ∀ k : Nat, (∀ i, i < k → 0 ≤ digVal (f i)) → 0 ≤ valTo f k ∧ valTo f k < pw (4 * k)
  | 0, _ => by simp [valTo, pw]
  | k + 1, h => by
    have ih := valTo_bd f k (fun i hi => h i (by omega))
    have hk := h k (by omega)
    have hl := digVal_lt (f k)
    have e : pw (4 * ((k + 1 : Nat) : Int)) = 16 * pw (4 * k) := by
      rw [show (4 * ((k + 1 : Nat) : Int)) = 4 + 4 * (k : Int) from by omega, pw_add _ _ (by omega) (by omega)]; rfl
    rw [e]
    unfold valTo
    omega

theorem val_join (acc d : Int) (a0 : 0 ≤ acc) (a1 : acc < 268435456) (d0 : 0 ≤ d) (d1 : d < 16) : bits .or .u32 (acc * 16) d = acc * 16 + d := by
  obtain ⟨A, rfl⟩ := Int.eq_ofNat_of_zero_le a0
  obtain ⟨D, rfl⟩ := Int.eq_ofNat_of_zero_le d0
  rw [show ((A : Int) * 16) = ((A * 16 : Nat) : Int) from by simp]
  rw [u32_or_nat (A * 16) D (by omega) (by omega), nat_join 4 (A * 16) D (by omega) (by omega)]
  simp

set_option maxHeartbeats 400000 in
theorem unhex_short (s : ByteArray) (w : World) (hs : s.size ≤ maxLen) (h : s.size < 1 ∨ 8 < s.size) :
    Calls Tryd.prog 54 #[.string s] w fun e w' => e = .returned (.tuple #[.int .u32 0, .int .i64 1]) ∧ w' = w := by
  unfold maxLen at hs
  rcases h with h | h
  all_goals
    go_enter Tryd.func54, Tryd.ntmps54
    go_wp2
    go_ret2
    exact ⟨rfl, rfl⟩

set_option maxHeartbeats 400000 in
theorem unhex_yes (s : ByteArray) (w : World) (h0 : 1 ≤ s.size) (h8 : s.size ≤ 8) (hd : ∀ i, i < s.size → 0 ≤ digVal (signAt s i)) :
    Calls Tryd.prog 54 #[.string s] w fun e w' => e = .returned (.tuple #[.int .u32 (valTo (signAt s) s.size), .int .i64 0]) ∧ w' = w := by
  have HD : Hid (∀ i, i < s.size → 0 ≤ digVal (signAt s i)) := hd
  clear hd
  go_enter Tryd.func54, Tryd.ntmps54
  go_wp2
  go_loop [4, 18] (fun t i => ∃ k : Nat, k ≤ s.size ∧ i = .int .i64 k ∧ t = .int .u32 (valTo (signAt s) k)) (fun _ i => s.size - (intOf i).toNat)
  case atStart => exact ⟨0, Nat.zero_le _, rfl, rfl⟩
  case round =>
    obtain ⟨k, hk, rfl, rfl⟩ := hrel
    by_cases hlt : k < s.size
    · have hsf := sign_form s k
      obtain ⟨n0, n1⟩ := valTo_bd (signAt s) k (fun i hi => HD.out i (by omega))
      have n2 := pw_le (4 * k) 28 (by omega)
      rw [show pw 28 = 268435456 from by decide] at n2
      have d0 := HD.out k hlt
      have d1 := digVal_lt (signAt s k)
      obtain ⟨b0, b1⟩ := signAt_bd s k
      have hj : Hid (bits .or .u32 (valTo (signAt s) k * 16) (digVal (signAt s k)) = valTo (signAt s) k * 16 + digVal (signAt s k)) := val_join _ _ n0 (by omega) d0 d1
      go_wp2_with (go_at_call 66; refine (digit_yes _ _ b0 b1 d0).mono ?_; rintro e w' ⟨rfl, hw⟩; have hw := hw.symm; subst hw)
      go_round
      case rel => exact ⟨k + 1, by omega, by go_num, by rw [hj.out]; rfl⟩
      case measure => simp [intOf]; omega
    · obtain rfl : k = s.size := by omega
      go_wp2
      go_ret2
      exact ⟨rfl, rfl⟩
set_option maxHeartbeats 400000 in
theorem unhex_bad (s : ByteArray) (w : World) (h0 : 1 ≤ s.size) (h8 : s.size ≤ 8) (j : Nat) (hjs : j < s.size) (hd : digVal (signAt s j) < 0) :
    Calls Tryd.prog 54 #[.string s] w fun e w' => e = .returned (.tuple #[.int .u32 0, .int .i64 1]) ∧ w' = w := by
  have HD : Hid (digVal (signAt s j) < 0) := hd
  clear hd
  go_enter Tryd.func54, Tryd.ntmps54
  go_wp2
  go_loop [2, 3, 4, 18] (fun _ _ t i => ∃ k : Nat, k ≤ s.size ∧ i = .int .i64 k ∧ t = .int .u32 (valTo (signAt s) k) ∧ Hid (∀ i, i < k → 0 ≤ digVal (signAt s i))) (fun _ _ _ i => s.size - (intOf i).toNat)
  case atStart => exact ⟨0, Nat.zero_le _, rfl, rfl, fun i hi => absurd hi (Nat.not_lt_zero i)⟩
  case round =>
    obtain ⟨k, hk, rfl, rfl, HG⟩ := hrel
    by_cases hlt : k < s.size
    · have hsf := sign_form s k
      obtain ⟨n0, n1⟩ := valTo_bd (signAt s) k (fun i hi => HG.out i hi)
      have n2 := pw_le (4 * k) 28 (by omega)
      rw [show pw 28 = 268435456 from by decide] at n2
      have d1 := digVal_lt (signAt s k)
      obtain ⟨b0, b1⟩ := signAt_bd s k
      by_cases d0 : 0 ≤ digVal (signAt s k)
      · have hj : Hid (bits .or .u32 (valTo (signAt s) k * 16) (digVal (signAt s k)) = valTo (signAt s) k * 16 + digVal (signAt s k)) := val_join _ _ n0 (by omega) d0 d1
        go_wp2_with (go_at_call 66; refine (digit_yes _ _ b0 b1 d0).mono ?_; rintro e w' ⟨rfl, hw⟩; have hw := hw.symm; subst hw)
        go_round
        case rel => exact ⟨k + 1, by omega, by go_num, by rw [hj.out]; rfl, fun i hi => by
          by_cases hik : i = k
          · rw [hik]; exact d0
          · exact HG.out i (by omega)⟩
        case measure => simp [intOf]; omega
      · have d0' : digVal (signAt s k) < 0 := by omega
        go_wp2_with (go_at_call 66; refine (digit_no _ _ b0 b1 d0').mono ?_; rintro e w' ⟨rfl, hw⟩; have hw := hw.symm; subst hw)
        go_ret2
        exact ⟨rfl, rfl⟩
    · exfalso
      have := HG.out j (by omega)
      have := HD.out
      omega

set_option maxHeartbeats 400000 in
theorem runhex_short (s : ByteArray) (w : World) (hs : s.size ≤ maxLen) (h : s.size < 1 ∨ 8 < s.size) :
    Calls Tryd.prog 38 #[.string s] w fun e w' => e = .returned (.tuple #[.int .u32 0, .bool false]) ∧ w' = w := by
  unfold maxLen at hs
  rcases h with h | h
  all_goals
    go_enter Tryd.func38, Tryd.ntmps38
    go_wp2
    go_ret2
    exact ⟨rfl, rfl⟩

set_option maxHeartbeats 400000 in
set_option maxRecDepth 100000 in
theorem runhex_yes (s : ByteArray) (w : World) (h0 : 1 ≤ s.size) (h8 : s.size ≤ 8) (hd : ∀ i, i < s.size → 0 ≤ digVal (signAt s i)) :
    Calls Tryd.prog 38 #[.string s] w fun e w' => e = .returned (.tuple #[.int .u32 (valTo (signAt s) s.size), .bool true]) ∧ w' = w := by
  have HD : Hid (∀ i, i < s.size → 0 ≤ digVal (signAt s i)) := hd
  clear hd
  go_enter Tryd.func38, Tryd.ntmps38
  go_wp2
  go_loop [4, 5] (fun t i => ∃ k : Nat, k ≤ s.size ∧ i = .int .i64 k ∧ t = .int .u64 (valTo (signAt s) k)) (fun _ i => s.size - (intOf i).toNat)
  case atStart => exact ⟨0, Nat.zero_le _, rfl, rfl⟩
  case round =>
    obtain ⟨k, hk, rfl, rfl⟩ := hrel
    obtain ⟨n0, n1⟩ := valTo_bd (signAt s) k (fun i hi => HD.out i (by omega))
    have n2 := pw_le (4 * k) 32 (by omega)
    rw [pw_32] at n2
    by_cases hlt : k < s.size
    · have hsf := sign_form s k
      have d0 := HD.out k hlt
      have d1 := digVal_lt (signAt s k)
      obtain ⟨b0, b1⟩ := signAt_bd s k
      go_wp2_with (go_at_call 55; refine (rdigit_any _ _ b0 b1).mono ?_; rintro e w' ⟨rfl, hw⟩; have hw := hw.symm; subst hw)
      go_round
      case rel => exact ⟨k + 1, by omega, by go_num, rfl⟩
      case measure => simp [intOf]; omega
    · obtain rfl : k = s.size := by omega
      go_wp2
      go_ret2
      exact ⟨rfl, rfl⟩

set_option maxHeartbeats 400000 in
set_option maxRecDepth 100000 in
theorem runhex_bad (s : ByteArray) (w : World) (h0 : 1 ≤ s.size) (h8 : s.size ≤ 8) (j : Nat) (hjs : j < s.size) (hd : digVal (signAt s j) < 0) :
    Calls Tryd.prog 38 #[.string s] w fun e w' => e = .returned (.tuple #[.int .u32 0, .bool false]) ∧ w' = w := by
  have HD : Hid (digVal (signAt s j) < 0) := hd
  clear hd
  go_enter Tryd.func38, Tryd.ntmps38
  go_wp2
  go_loop [2, 3, 4, 5] (fun _ _ t i => ∃ k : Nat, k ≤ s.size ∧ i = .int .i64 k ∧ t = .int .u64 (valTo (signAt s) k) ∧ Hid (∀ i, i < k → 0 ≤ digVal (signAt s i))) (fun _ _ _ i => s.size - (intOf i).toNat)
  case atStart => exact ⟨0, Nat.zero_le _, rfl, rfl, fun i hi => absurd hi (Nat.not_lt_zero i)⟩
  case round =>
    obtain ⟨k, hk, rfl, rfl, HG⟩ := hrel
    by_cases hlt : k < s.size
    · have hsf := sign_form s k
      obtain ⟨n0, n1⟩ := valTo_bd (signAt s) k (fun i hi => HG.out i hi)
      have n2 := pw_le (4 * k) 28 (by omega)
      rw [show pw 28 = 268435456 from by decide] at n2
      have d1 := digVal_lt (signAt s k)
      obtain ⟨b0, b1⟩ := signAt_bd s k
      by_cases d0 : 0 ≤ digVal (signAt s k)
      · go_wp2_with (go_at_call 55; refine (rdigit_any _ _ b0 b1).mono ?_; rintro e w' ⟨rfl, hw⟩; have hw := hw.symm; subst hw)
        go_round
        case rel => exact ⟨k + 1, by omega, by go_num, rfl, fun i hi => by
          by_cases hik : i = k
          · rw [hik]; exact d0
          · exact HG.out i (by omega)⟩
        case measure => simp [intOf]; omega
      · go_wp2_with (go_at_call 55; refine (rdigit_any _ _ b0 b1).mono ?_; rintro e w' ⟨rfl, hw⟩; have hw := hw.symm; subst hw)
        go_ret2
        exact ⟨rfl, rfl⟩
    · exfalso
      have := HG.out j (by omega)
      have := HD.out
      omega

theorem strOfNums_app (a b : List Int) : strOfNums (a ++ b) = strOfNums a ++ strOfNums b := by
  apply ByteArray.ext
  simp [strOfNums]
theorem digCut (D : Int) (h0 : 0 ≤ D) (h1 : D < 16) : (ByteArray.mk #[48, 49, 50, 51, 52, 53, 54, 55, 56, 57, 97, 98, 99, 100, 101, 102]).extract D.toNat (D + 1).toNat = strOfNums [hexDig D] := by
  have hn : D = 0 ∨ D = 1 ∨ D = 2 ∨ D = 3 ∨ D = 4 ∨ D = 5 ∨ D = 6 ∨ D = 7 ∨ D = 8 ∨ D = 9 ∨ D = 10 ∨ D = 11 ∨ D = 12 ∨ D = 13 ∨ D = 14 ∨ D = 15 := by omega
  rcases hn with rfl | rfl | rfl | rfl | rfl | rfl | rfl | rfl | rfl | rfl | rfl | rfl | rfl | rfl | rfl | rfl <;> decide

set_option maxHeartbeats 400000 in
theorem rhex_any (x : Int) (w : World) (hx0 : 0 ≤ x) (hx1 : x < 4294967296) :
    Calls Tryd.prog 44 #[.int .u32 x] w fun e w' => e = .returned (.string (strOfNums (hexTo x 8))) ∧ Q w w' := by
  go_enter Tryd.func44, Tryd.ntmps44
  go_wp2
  go_loopw [3, 4] (fun t i wr => ∃ k : Nat, k ≤ 8 ∧ i = .int .i64 (7 - k) ∧ t = .string (strOfNums (hexTo x k)) ∧ Q w wr) (fun _ i _ => (intOf i + 1).toNat)
  case atStart => exact ⟨0, Nat.zero_le _, rfl, rfl, Q.refl _⟩
  case round =>
    obtain ⟨k, hk, rfl, rfl, hq⟩ := hrel
    by_cases hlt : k < 8
    · obtain ⟨D, hD, HD, e1, e2⟩ : ∃ D, bitsOf x (4 * (7 - k)) 4 = D ∧ Hid (hexDig D = hexAt x k) ∧ 0 ≤ D ∧ D < 16 := by
        refine ⟨_, rfl, ?_, bitsOf_nn _ _ _, bitsOf_lt x (4 * (7 - k)) 4⟩
        unfold hexAt
        rw [show (28 - 4 * (k : Int)) = 4 * (7 - k) from by omega]
        rfl
      have hs1 : (strOfNums (hexTo x k)).size = k := by rw [strOfNums_size, hexTo_len]
      have hs2 := digCut D e1 e2
      have hs3 : (strOfNums [hexDig D]).size = 1 := strOfNums_size _
      go_wp2_with (go_at_call 57; refine (rbits_any _ _ _ _ hx0 hx1 ?_ ?_ ?_ ?_).mono ?_; omega; omega; omega; omega; rintro e w' ⟨rfl, hq'⟩)
      go_roundw
      case rel => exact ⟨k + 1, by omega, by go_num, by rw [hexTo_succ, ← HD.out, strOfNums_app], hq.trans hq'⟩
      case measure => simp [intOf]; omega
    · obtain rfl : k = 8 := by omega
      go_wp2
      go_ret
      exact ⟨rfl, hq⟩
end Go.Proofs.YtcigceaadkjenaaDoor
