/- The walk of mimesislaw02.InstOps: it answers true and turns nothing that was there. -/
import Derived.Test.YtokbdajdfmgdiaaDoorInstAwake
namespace Go.Proofs.YtokbdajdfmgdiaaDoor
open Go.RowKit
set_option linter.unusedVariables false

namespace instOps
set_option maxHeartbeats 1000000 in
theorem walk (s : ByteArray) (w : World) (w0 : s.size ≤ maxLen) (tf : FormTab w) (tn : NameTab w) :
    Calls Tryd.prog 4 #[.string s] w fun e w' => e = .returned (.bool true) ∧ Below w.heap.size w w' := by
  have TF : Hid (FormTab w) := tf
  have TN : Hid (NameTab w) := tn
  clear tf tn
  by_cases hx : ∃ k, k < 58 ∧ nameS k = s
  · obtain ⟨k, hk, rfl⟩ := hx
    have hself : ((nameS k).toList == (nameS k).toList) = true := beq_self_eq_true _
    go_enter Tryd.func4, Tryd.ntmps4
    go_wp2_with fail
    refine (op_own k hk _ TN.out).mono ?_
    rintro e w1 ⟨rfl, hw⟩
    have hw := hw.symm
    subst hw
    go_wp2_with fail
    refine (rnames_any _).mono ?_
    rintro e w1 ⟨g, rfl, hg, hc, hb⟩
    have HC : Hid (∀ k, k < 58 → w1.cell? ⟨g, k, none⟩ = some (.string (nameS k))) := hc
    have HB : Hid (Below w.heap.size w w1) := hb
    clear hb hc
    go_wp2
    go_loop [6] (fun i => ∃ j : Nat, j ≤ k ∧ i = .int .i64 j) (fun i => k - (intOf i).toNat)
    case atStart => exact ⟨0, Nat.zero_le _, rfl⟩
    case round =>
      obtain ⟨j, hj, rfl⟩ := hrel
      have hc := HC.out j (by omega)
      by_cases hlt : j < k
      · have hne := str_ne (nameS_apart k j hk hlt)
        go_wp2
        go_round
        case rel => exact ⟨j + 1, by omega, by go_num⟩
        case measure => simp [intOf]; omega
      · obtain rfl : j = k := by omega
        go_wp2_with fail
        refine (iawake_any _ (TF.out.below HB.out) (TN.out.below HB.out)).mono ?_
        rintro e w3 ⟨rfl, hb⟩
        go_wp2
        go_ret
        exact ⟨rfl, HB.out.trans (hb.mono HB.out.size)⟩
  · have hn : ∀ j, j < 58 → ((nameS j).toList == s.toList) = false := fun j hj => str_ne fun e => hx ⟨j, hj, e⟩
    have HN : Hid (∀ j, j < 58 → ((nameS j).toList == s.toList) = false) := hn
    clear hn hx
    go_enter Tryd.func4, Tryd.ntmps4
    go_wp2_with fail
    refine (op_no s HN.out _ TN.out).mono ?_
    rintro e w1 ⟨rfl, hw⟩
    have hw := hw.symm
    subst hw
    go_wp2_with fail
    refine (rnames_any _).mono ?_
    rintro e w1 ⟨g, rfl, hg, hc, hb⟩
    have HC : Hid (∀ k, k < 58 → w1.cell? ⟨g, k, none⟩ = some (.string (nameS k))) := hc
    have HB : Hid (Below w.heap.size w w1) := hb
    clear hb hc
    go_wp2
    go_loop [6] (fun i => ∃ j : Nat, j ≤ 58 ∧ i = .int .i64 j) (fun i => 58 - (intOf i).toNat)
    case atStart => exact ⟨0, Nat.zero_le _, rfl⟩
    case round =>
      obtain ⟨j, hj, rfl⟩ := hrel
      by_cases hlt : j < 58
      · have hc := HC.out j hlt
        have hne := HN.out j hlt
        go_wp2
        go_round
        case rel => exact ⟨j + 1, by omega, by go_num⟩
        case measure => simp [intOf]; omega
      · obtain rfl : j = 58 := by omega
        go_wp2_with fail
        refine (iawake_any _ (TF.out.below HB.out) (TN.out.below HB.out)).mono ?_
        rintro e w3 ⟨rfl, hb⟩
        go_wp2
        go_ret
        exact ⟨rfl, HB.out.trans (hb.mono HB.out.size)⟩
end instOps
end Go.Proofs.YtokbdajdfmgdiaaDoor
