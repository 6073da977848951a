/- Layer 16: the place of a register in a file: placeOf. -/
import Derived.Test.YtibhlbggnkobeaaDoorCsrMem
namespace Go.Proofs.YtibhlbggnkobeaaDoor
open Go.RowKit
set_option linter.unusedVariables false

/-- The place of a register among those that are kept. -/
def keptP : Nat → Option Nat
  | 0 => some 0 | 2 => some 1 | 3 => some 2 | 4 => some 3 | 5 => some 4 | 6 => some 5 | 7 => some 6 | _ => none

theorem name_list (j : Nat) : (mname j).toList = mnameL.getD j [] := by rw [ByteArray.toList_eq]; rfl
theorem name_ne_of {k j : Nat} (hk : k < 23) (hj : j < 23) (h : k ≠ j) {c : List UInt8} (hc : mnameL.getD j [] = c) : ((mname k).toList == c) = false := by
  rw [← hc, ← name_list, name_is hk hj]; exact decide_eq_false h
theorem name_eq_of {k : Nat} (hk : k < 23) {c : List UInt8} (hc : mnameL.getD k [] = c) : ((mname k).toList == c) = true := by
  rw [← hc, ← name_list, name_is hk hk]; exact decide_eq_true rfl

set_option maxHeartbeats 800000 in
theorem place_0 (B : Nat) (w : World) :
    Calls Tryd.prog 17 #[.pointer (some ⟨B, 0, none⟩), .string (mname 0)] w fun e w' => e = .returned (.pointer (some ⟨B, 0, none⟩)) ∧ w' = w := by
  have n0 := name_eq_of (k := 0) (by decide) (c := [109, 115, 116, 97, 116, 117, 115]) rfl
  generalize mname 0 = s at *
  go_enter Tryd.func17, Tryd.ntmps17
  go_wp2
  go_ret
  exact ⟨rfl, rfl⟩

set_option maxHeartbeats 800000 in
theorem place_2 (B : Nat) (w : World) :
    Calls Tryd.prog 17 #[.pointer (some ⟨B, 0, none⟩), .string (mname 2)] w fun e w' => e = .returned (.pointer (some ⟨B, 1, none⟩)) ∧ w' = w := by
  have n0 := name_ne_of (k := 2) (j := 0) (by decide) (by decide) (by decide) (c := [109, 115, 116, 97, 116, 117, 115]) rfl
  have n2 := name_eq_of (k := 2) (by decide) (c := [109, 105, 101]) rfl
  generalize mname 2 = s at *
  go_enter Tryd.func17, Tryd.ntmps17
  go_wp2
  go_ret
  exact ⟨rfl, rfl⟩

set_option maxHeartbeats 800000 in
theorem place_3 (B : Nat) (w : World) :
    Calls Tryd.prog 17 #[.pointer (some ⟨B, 0, none⟩), .string (mname 3)] w fun e w' => e = .returned (.pointer (some ⟨B, 2, none⟩)) ∧ w' = w := by
  have n0 := name_ne_of (k := 3) (j := 0) (by decide) (by decide) (by decide) (c := [109, 115, 116, 97, 116, 117, 115]) rfl
  have n2 := name_ne_of (k := 3) (j := 2) (by decide) (by decide) (by decide) (c := [109, 105, 101]) rfl
  have n3 := name_eq_of (k := 3) (by decide) (c := [109, 116, 118, 101, 99]) rfl
  generalize mname 3 = s at *
  go_enter Tryd.func17, Tryd.ntmps17
  go_wp2
  go_ret
  exact ⟨rfl, rfl⟩

set_option maxHeartbeats 800000 in
theorem place_4 (B : Nat) (w : World) :
    Calls Tryd.prog 17 #[.pointer (some ⟨B, 0, none⟩), .string (mname 4)] w fun e w' => e = .returned (.pointer (some ⟨B, 3, none⟩)) ∧ w' = w := by
  have n0 := name_ne_of (k := 4) (j := 0) (by decide) (by decide) (by decide) (c := [109, 115, 116, 97, 116, 117, 115]) rfl
  have n2 := name_ne_of (k := 4) (j := 2) (by decide) (by decide) (by decide) (c := [109, 105, 101]) rfl
  have n3 := name_ne_of (k := 4) (j := 3) (by decide) (by decide) (by decide) (c := [109, 116, 118, 101, 99]) rfl
  have n4 := name_eq_of (k := 4) (by decide) (c := [109, 115, 99, 114, 97, 116, 99, 104]) rfl
  generalize mname 4 = s at *
  go_enter Tryd.func17, Tryd.ntmps17
  go_wp2
  go_ret
  exact ⟨rfl, rfl⟩

set_option maxHeartbeats 800000 in
theorem place_5 (B : Nat) (w : World) :
    Calls Tryd.prog 17 #[.pointer (some ⟨B, 0, none⟩), .string (mname 5)] w fun e w' => e = .returned (.pointer (some ⟨B, 4, none⟩)) ∧ w' = w := by
  have n0 := name_ne_of (k := 5) (j := 0) (by decide) (by decide) (by decide) (c := [109, 115, 116, 97, 116, 117, 115]) rfl
  have n2 := name_ne_of (k := 5) (j := 2) (by decide) (by decide) (by decide) (c := [109, 105, 101]) rfl
  have n3 := name_ne_of (k := 5) (j := 3) (by decide) (by decide) (by decide) (c := [109, 116, 118, 101, 99]) rfl
  have n4 := name_ne_of (k := 5) (j := 4) (by decide) (by decide) (by decide) (c := [109, 115, 99, 114, 97, 116, 99, 104]) rfl
  have n5 := name_eq_of (k := 5) (by decide) (c := [109, 101, 112, 99]) rfl
  generalize mname 5 = s at *
  go_enter Tryd.func17, Tryd.ntmps17
  go_wp2
  go_ret
  exact ⟨rfl, rfl⟩

set_option maxHeartbeats 800000 in
theorem place_6 (B : Nat) (w : World) :
    Calls Tryd.prog 17 #[.pointer (some ⟨B, 0, none⟩), .string (mname 6)] w fun e w' => e = .returned (.pointer (some ⟨B, 5, none⟩)) ∧ w' = w := by
  have n0 := name_ne_of (k := 6) (j := 0) (by decide) (by decide) (by decide) (c := [109, 115, 116, 97, 116, 117, 115]) rfl
  have n2 := name_ne_of (k := 6) (j := 2) (by decide) (by decide) (by decide) (c := [109, 105, 101]) rfl
  have n3 := name_ne_of (k := 6) (j := 3) (by decide) (by decide) (by decide) (c := [109, 116, 118, 101, 99]) rfl
  have n4 := name_ne_of (k := 6) (j := 4) (by decide) (by decide) (by decide) (c := [109, 115, 99, 114, 97, 116, 99, 104]) rfl
  have n5 := name_ne_of (k := 6) (j := 5) (by decide) (by decide) (by decide) (c := [109, 101, 112, 99]) rfl
  have n6 := name_eq_of (k := 6) (by decide) (c := [109, 99, 97, 117, 115, 101]) rfl
  generalize mname 6 = s at *
  go_enter Tryd.func17, Tryd.ntmps17
  go_wp2
  go_ret
  exact ⟨rfl, rfl⟩

set_option maxHeartbeats 800000 in
theorem place_7 (B : Nat) (w : World) :
    Calls Tryd.prog 17 #[.pointer (some ⟨B, 0, none⟩), .string (mname 7)] w fun e w' => e = .returned (.pointer (some ⟨B, 6, none⟩)) ∧ w' = w := by
  have n0 := name_ne_of (k := 7) (j := 0) (by decide) (by decide) (by decide) (c := [109, 115, 116, 97, 116, 117, 115]) rfl
  have n2 := name_ne_of (k := 7) (j := 2) (by decide) (by decide) (by decide) (c := [109, 105, 101]) rfl
  have n3 := name_ne_of (k := 7) (j := 3) (by decide) (by decide) (by decide) (c := [109, 116, 118, 101, 99]) rfl
  have n4 := name_ne_of (k := 7) (j := 4) (by decide) (by decide) (by decide) (c := [109, 115, 99, 114, 97, 116, 99, 104]) rfl
  have n5 := name_ne_of (k := 7) (j := 5) (by decide) (by decide) (by decide) (c := [109, 101, 112, 99]) rfl
  have n6 := name_ne_of (k := 7) (j := 6) (by decide) (by decide) (by decide) (c := [109, 99, 97, 117, 115, 101]) rfl
  have n7 := name_eq_of (k := 7) (by decide) (c := [109, 116, 118, 97, 108]) rfl
  generalize mname 7 = s at *
  go_enter Tryd.func17, Tryd.ntmps17
  go_wp2
  go_ret
  exact ⟨rfl, rfl⟩

set_option maxHeartbeats 800000 in
theorem place_no (B k : Nat) (w : World) (hk : k < 23) (hn : keptP k = none) :
    Calls Tryd.prog 17 #[.pointer (some ⟨B, 0, none⟩), .string (mname k)] w fun e w' => e = .returned (.pointer none) ∧ w' = w := by
  have n0 := name_ne_of (k := k) (j := 0) hk (by decide) (by rintro rfl; cases hn) (c := [109, 115, 116, 97, 116, 117, 115]) rfl
  have n2 := name_ne_of (k := k) (j := 2) hk (by decide) (by rintro rfl; cases hn) (c := [109, 105, 101]) rfl
  have n3 := name_ne_of (k := k) (j := 3) hk (by decide) (by rintro rfl; cases hn) (c := [109, 116, 118, 101, 99]) rfl
  have n4 := name_ne_of (k := k) (j := 4) hk (by decide) (by rintro rfl; cases hn) (c := [109, 115, 99, 114, 97, 116, 99, 104]) rfl
  have n5 := name_ne_of (k := k) (j := 5) hk (by decide) (by rintro rfl; cases hn) (c := [109, 101, 112, 99]) rfl
  have n6 := name_ne_of (k := k) (j := 6) hk (by decide) (by rintro rfl; cases hn) (c := [109, 99, 97, 117, 115, 101]) rfl
  have n7 := name_ne_of (k := k) (j := 7) hk (by decide) (by rintro rfl; cases hn) (c := [109, 116, 118, 97, 108]) rfl
  clear hn
  generalize mname k = s at *
  go_enter Tryd.func17, Tryd.ntmps17
  go_wp2
  go_ret
  exact ⟨rfl, rfl⟩

theorem place_yes (B k j : Nat) (w : World) (h : keptP k = some j) :
    Calls Tryd.prog 17 #[.pointer (some ⟨B, 0, none⟩), .string (mname k)] w fun e w' => e = .returned (.pointer (some ⟨B, j, none⟩)) ∧ w' = w := by
  have hk : k < 8 := by
    refine Nat.lt_of_not_le fun hn => ?_
    obtain ⟨m, rfl⟩ : ∃ m, k = m + 8 := ⟨k - 8, by omega⟩
    cases h
  match k, hk with
  | 0, _ => cases h; exact place_0 B w
  | 2, _ => cases h; exact place_2 B w
  | 3, _ => cases h; exact place_3 B w
  | 4, _ => cases h; exact place_4 B w
  | 5, _ => cases h; exact place_5 B w
  | 6, _ => cases h; exact place_6 B w
  | 7, _ => cases h; exact place_7 B w
  | 1, _ => cases h
theorem keptP_lt {k j : Nat} (h : keptP k = some j) : j < 7 ∧ k < 8 := by
  have hk : k < 8 := by
    refine Nat.lt_of_not_le fun hn => ?_
    obtain ⟨m, rfl⟩ : ∃ m, k = m + 8 := ⟨k - 8, by omega⟩
    cases h
  refine ⟨?_, hk⟩
  match k, hk with
  | 0, _ => cases h; decide
  | 2, _ => cases h; decide
  | 3, _ => cases h; decide
  | 4, _ => cases h; decide
  | 5, _ => cases h; decide
  | 6, _ => cases h; decide
  | 7, _ => cases h; decide
  | 1, _ => cases h
end Go.Proofs.YtibhlbggnkobeaaDoor
