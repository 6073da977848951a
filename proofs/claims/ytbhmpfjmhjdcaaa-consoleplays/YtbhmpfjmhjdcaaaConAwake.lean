/- Layer 12: awake; the walk of ConsoleNils. -/
import Derived.Test.YtbhmpfjmhjdcaaaFrame
import Derived.Test.YtbhmpfjmhjdcaaaConUp
import Derived.Test.YtbhmpfjmhjdcaaaConIO
import Derived.Test.YtbhmpfjmhjdcaaaConNew
namespace Go.Proofs.Ytbhmpfjmhjdcaaa
open Go.RowKit
set_option linter.unusedVariables false

/-- The state of awake's console behind its byte. -/
def awakeS : CS := ⟨1, 1, snoc 0 (fun _ => 0) 97, false, 0, fun _ => 0⟩
theorem awake_up2 : CS.up 1 (fun _ => 3) (fun _ => 97) 2 CS.new = CS.new := CS.up_end (.inr (by show (2 : Int) < 3; decide))
theorem awake_up3 : CS.up 1 (fun _ => 3) (fun _ => 97) 3 CS.new = awakeS := by
  rw [CS.up_go (by decide) (by show (3 : Int) ≤ 3; decide)]
  have : CS.come (fun _ => 97) CS.new = awakeS := by unfold CS.come CS.new awakeS; rw [if_pos (by decide)]
  rw [this]
  exact CS.up_end (.inl (by decide))
theorem awake_val : awakeS.val 0 = 97 := by
  unfold CS.val awakeS
  rw [if_pos rfl, if_neg (by decide)]
  show IntKind.u32.wrap (snoc 0 (fun _ => 0) 97 0) = 97
  rw [snoc_at]
  rfl

set_option maxRecDepth 100000 in
set_option maxHeartbeats 1600000 in
theorem awake12_any (w : World) :
    Calls Try.prog 7 #[] w fun e w' => e = .returned (.bool true) ∧ Below w.heap.size w w' := by
  have HNEW : Hid (Calls Try.prog 8 #[.slice (some ⟨w.heap.size, 0, none⟩) 1 1] (w.alloc (.cells #[.int .u64 3, .int .u8 97] 47)) fun e w' => ∃ R S, e = .returned (.tuple #[.pointer (some ⟨R, 0, none⟩), .int .i64 0]) ∧ Hid (IsCon w' R S 1 (fun _ => 3) (fun _ => 97) CS.new ∧ (∀ k, S k → w.heap.size ≤ k) ∧ Below w.heap.size w w')) := by
    have hb : Below w.heap.size w (w.alloc (.cells #[.int .u64 3, .int .u8 97] 47)) := (Below.refl _ _).alloc (Nat.le_refl _) _
    have harr : IsArr (w.alloc (.cells #[.int .u64 3, .int .u8 97] 47)) (some ⟨w.heap.size, 0, none⟩) 1 1 (fun _ => 3) (fun _ => 97) := by
      refine ⟨by unfold maxLen; omega, .inr (.inr ⟨w.heap.size, 0, rfl, fun i hi => ?_⟩)⟩
      obtain rfl : i = 0 := by omega
      have hn := heap_alloc_new w (.cells #[.int .u64 3, .int .u8 97] 47)
      clear hb
      generalize w.alloc (.cells #[.int .u64 3, .int .u8 97] 47) = W1 at hn ⊢
      constructor
      · simp [World.cell?, hn]
      · simp [World.cell?, hn]
    refine (cnew_yes _ (by decide) harr (fun i hi => Int.le_refl _)).mono ?_
    rintro e w' ⟨R, S, rfl, h1, h2, h3⟩
    exact ⟨R, S, rfl, h1, fun k hk => by have := h2 k hk; simp at this; omega, hb.trans (h3.mono hb.size)⟩
  go_enter Try.func7, Try.ntmps7
  go_wp2_with fail
  refine HNEW.out.mono ?_
  rintro e w1 ⟨R, S, rfl, H1⟩
  go_wp2_with fail
  refine (cup_any 2 w1 H1.out.1).mono ?_
  rintro e w2 ⟨rfl, hc2, hf2⟩
  rw [awake_up2] at hc2
  have HC2 := Lib.hid hc2
  have HB2 : Hid (Below w.heap.size w w2) := H1.out.2.2.trans (hf2.below H1.out.2.1 H1.out.2.2.size)
  have HR2 : Hid (Calls Try.prog 17 #[.pointer (some ⟨R, 0, none⟩)] w2 fun e w' => e = .returned (.bool false) ∧ w' = w2) := cready_any w2 hc2
  clear hc2 hf2
  go_wp2_with fail
  refine HR2.out.mono ?_
  rintro e w' ⟨rfl, hw⟩
  have hw := hw.symm
  subst hw
  go_wp2_with fail
  refine (cup_any 3 w2 HC2.out).mono ?_
  rintro e w3 ⟨rfl, hc3, hf3⟩
  rw [awake_up3] at hc3
  have HC3 := Lib.hid hc3
  have HB3 : Hid (Below w.heap.size w w3) := HB2.out.trans (hf3.below H1.out.2.1 HB2.out.size)
  have HR3 : Hid (Calls Try.prog 17 #[.pointer (some ⟨R, 0, none⟩)] w3 fun e w' => e = .returned (.bool true) ∧ w' = w3) := cready_any w3 hc3
  clear hc3 hf3
  go_wp2_with fail
  refine HR3.out.mono ?_
  rintro e w' ⟨rfl, hw⟩
  have hw := hw.symm
  subst hw
  go_wp2_with fail
  refine (cread_yes 0 w3 (.inl rfl) HC3.out).mono ?_
  rintro e w4 ⟨rfl, hc4, hf4⟩
  have HB4 : Hid (Below w.heap.size w w4) := HB3.out.trans (hf4.below H1.out.2.1 HB3.out.size)
  clear hc4 hf4
  rw [awake_val]
  go_wp2
  go_ret
  exact ⟨rfl, HB4.out⟩

namespace consoleNils
set_option maxRecDepth 100000 in
set_option maxHeartbeats 1600000 in
theorem walk (tick reg x : Int) (w : World) (w0 : (Lit.int .u64 tick).wf = true) (w1 : (Lit.int .i64 reg).wf = true) (w2 : (Lit.int .u32 x).wf = true) :
    Calls Try.prog 6 #[.int .u64 tick, .int .i64 reg, .int .u32 x] w fun e w' => e = .returned (.bool true) ∧ Below w.heap.size w w' := by
  clear w0 w1 w2
  go_enter Try.func6, Try.ntmps6
  go_wp2_with fail
  refine (cup_nil tick w).mono ?_
  rintro e w1 ⟨rfl, hq⟩
  have HB1 := Lib.hid (hq.below w.heap.size)
  clear hq
  go_wp2_with fail
  refine (cread_nil reg w1).mono ?_
  rintro e w' ⟨rfl, hw⟩
  have hw := hw.symm
  subst hw
  go_wp2_with fail
  refine (cnext_nil w1).mono ?_
  rintro e w2 ⟨rfl, hq⟩
  have HB2 : Hid (Below w.heap.size w w2) := HB1.out.trans (hq.below _)
  clear hq
  go_wp2_with (first
    | (go_at_call 20; refine (cwrite_nil _ _ _).mono ?_; rintro e w' ⟨rfl, hw⟩; have hw := hw.symm; subst hw)
    | (go_at_call 17; refine (cready_nil _).mono ?_; rintro e w' ⟨rfl, hw⟩; have hw := hw.symm; subst hw)
    | (go_at_call 21; refine (cout_nil _).mono ?_; rintro e w' ⟨rfl, hw⟩; have hw := hw.symm; subst hw)
    | (go_at_call 14; refine (cwaits_nil _).mono ?_; rintro e w' ⟨rfl, hw⟩; have hw := hw.symm; subst hw)
    | (go_at_call 16; refine (ccame_nil _).mono ?_; rintro e w' ⟨rfl, hw⟩; have hw := hw.symm; subst hw)
    | (go_at_call 15; refine (cover_nil _).mono ?_; rintro e w' ⟨rfl, hw⟩; have hw := hw.symm; subst hw))
  refine (awake12_any _).mono ?_
  rintro e w3 ⟨rfl, hb⟩
  have HB3 : Hid (Below w.heap.size w w3) := HB2.out.trans (hb.mono HB2.out.size)
  clear hb
  go_wp2
  go_ret
  exact ⟨rfl, HB3.out⟩
end consoleNils
end Go.Proofs.Ytbhmpfjmhjdcaaa
