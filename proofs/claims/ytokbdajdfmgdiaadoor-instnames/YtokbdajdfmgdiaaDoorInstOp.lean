/- Layer 2: what Op answers of any text. -/
import Derived.Test.YtokbdajdfmgdiaaDoorInstTabs
import Derived.Laws.Strings
namespace Go.Proofs.YtokbdajdfmgdiaaDoor
open Go.RowKit
set_option linter.unusedVariables false

set_option maxHeartbeats 400000 in
theorem op_yes (k : Nat) (hk : k < 58) (s : ByteArray) (hs : nameS k = s) (hn : ∀ j, j < k → ((nameS j).toList == s.toList) = false) (w : World) (ht : NameTab w) :
    Calls Tryd.prog 11 #[.string s] w fun e w' => e = .returned (.tuple #[.int .i64 k, .int .i64 0]) ∧ w' = w := by
  have HN : Hid (∀ j, j < k → ((nameS j).toList == s.toList) = false) := hn
  have HT : Hid (NameTab w) := ht
  clear hn ht
  have hself : ((nameS k).toList == s.toList) = true := by rw [hs]; exact beq_self_eq_true _
  clear hs
  go_enter Tryd.func11, Tryd.ntmps11
  go_wp2
  go_loop [5] (fun i => ∃ j : Nat, j ≤ k ∧ i = .int .i64 j) (fun i => k - (intOf i).toNat)
  case atStart => exact ⟨0, Nat.zero_le _, rfl⟩
  case round =>
    obtain ⟨j, hj, rfl⟩ := hrel
    have hc := HT.out j (by omega)
    by_cases hlt : j < k
    · have hne := HN.out j hlt
      go_wp2
      go_round
      case rel => exact ⟨j + 1, by omega, by go_num⟩
      case measure => simp [intOf]; omega
    · obtain rfl : j = k := by omega
      go_wp2
      go_ret2
      exact ⟨rfl, rfl⟩

set_option maxHeartbeats 400000 in
theorem op_no (s : ByteArray) (hn : ∀ j, j < 58 → ((nameS j).toList == s.toList) = false) (w : World) (ht : NameTab w) :
    Calls Tryd.prog 11 #[.string s] w fun e w' => e = .returned (.tuple #[.int .i64 0, .int .i64 8]) ∧ w' = w := by
  have HN : Hid (∀ j, j < 58 → ((nameS j).toList == s.toList) = false) := hn
  have HT : Hid (NameTab w) := ht
  clear hn ht
  go_enter Tryd.func11, Tryd.ntmps11
  go_wp2
  go_loop [5] (fun i => ∃ j : Nat, j ≤ 58 ∧ i = .int .i64 j) (fun i => 58 - (intOf i).toNat)
  case atStart => exact ⟨0, Nat.zero_le _, rfl⟩
  case round =>
    obtain ⟨j, hj, rfl⟩ := hrel
    by_cases hlt : j < 58
    · have hc := HT.out j (by omega)
      have hne := HN.out j hlt
      go_wp2
      go_round
      case rel => exact ⟨j + 1, by omega, by go_num⟩
      case measure => simp [intOf]; omega
    · obtain rfl : j = 58 := by omega
      go_wp2
      go_ret2
      exact ⟨rfl, rfl⟩

theorem str_ne {a b : ByteArray} (h : a ≠ b) : (a.toList == b.toList) = false := by
  rw [beq_eq_false_iff_ne, ByteArray.toList_eq, ByteArray.toList_eq]
  intro e
  apply h
  obtain ⟨⟨x⟩⟩ := a
  obtain ⟨⟨y⟩⟩ := b
  simp at e
  rw [e]

theorem names_apart : ∀ i, i < 58 → ∀ j, j < i → nameL.getD j [] ≠ nameL.getD i [] := by decide +kernel
theorem nameS_apart (i j : Nat) (hi : i < 58) (hj : j < i) : nameS j ≠ nameS i := by
  intro h
  apply names_apart i hi j hj
  have : (nameL.getD j []).toArray = (nameL.getD i []).toArray := congrArg ByteArray.data h
  simpa using this

theorem op_own (k : Nat) (hk : k < 58) (w : World) (ht : NameTab w) :
    Calls Tryd.prog 11 #[.string (nameS k)] w fun e w' => e = .returned (.tuple #[.int .i64 k, .int .i64 0]) ∧ w' = w :=
  op_yes k hk _ rfl (fun j hj => str_ne (nameS_apart k j hk hj)) w ht
end Go.Proofs.YtokbdajdfmgdiaaDoor
