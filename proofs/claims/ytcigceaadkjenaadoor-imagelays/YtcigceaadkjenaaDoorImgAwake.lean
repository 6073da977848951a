/- Layer 15: awake. -/
import Derived.Test.YtcigceaadkjenaaDoorImgParse
import Derived.Test.YtcigceaadkjenaaDoorImgPrint
namespace Go.Proofs.YtcigceaadkjenaaDoor
open Go.RowKit Go.Shelf
set_option linter.unusedVariables false
set_option maxRecDepth 100000

def awT : List UInt8 := [64, 56, 48, 48, 48, 48, 48, 48, 48, 32, 57, 51, 32, 48, 48, 10, 97, 48, 32, 48, 48]
def awP : List Prt := [(2147483648, [147, 0, 160, 0])]
theorem aw_parse : parseL hexN awT = (awP, 0) := by decide +kernel
theorem aw_print : bs (printL awP) = ⟨#[64, 56, 48, 48, 48, 48, 48, 48, 48, 32, 57, 51, 32, 48, 48, 32, 97, 48, 32, 48, 48, 10]⟩ := by
  have : printL awP = [64, 56, 48, 48, 48, 48, 48, 48, 48, 32, 57, 51, 32, 48, 48, 32, 97, 48, 32, 48, 48, 10] := by decide +kernel
  rw [this]
  rfl
theorem aw_fine : Fine awP := by
  intro p hp
  simp [awP] at hp
  subst hp
  refine ⟨by decide, by decide, fun b hb => ?_⟩
  simp at hb
  rcases hb with rfl | rfl | rfl | rfl <;> decide

set_option maxHeartbeats 1000000 in
theorem awake15_any (w : World) (hT : U8Tab w) :
    Calls Tryd.prog 9 #[] w fun e w' => e = .returned (.bool true) ∧ Below w.heap.size w w' := by
  have HP : Hid (Calls Tryd.prog 18 #[.string ⟨#[64, 56, 48, 48, 48, 48, 48, 48, 48, 32, 57, 51, 32, 48, 48, 10, 97, 48, 32, 48, 48]⟩] w fun e w' => ∃ b o c a1 c1, e = .returned (.tuple #[.slice (some ⟨b, o, none⟩) 1 c, .int .i64 0]) ∧ w'.cell? ⟨b, o + 1, none⟩ = some (.slice a1 4 c1) ∧ Hid (RdPs w' (.slice (some ⟨b, o, none⟩) 1 c) awP) ∧ Below w.heap.size w w') := by
    have h := parse_any awT w (by decide) hT
    rw [aw_parse] at h
    refine h.mono ?_
    rintro e w' ⟨v, rfl, hps, hb⟩
    have hr := hps.rd
    obtain ⟨a, c, rfl, h | ⟨b, o, rfl, hi⟩⟩ := id hr
    · cases h
    · obtain ⟨_, a1, c1, h1, _⟩ := hi 0 (2147483648, [147, 0, 160, 0]) rfl
      rw [Nat.zero_mul, Nat.add_zero] at h1
      exact ⟨b, o, c, a1, c1, rfl, h1, hr, hb⟩
  go_enter Tryd.func9, Tryd.ntmps9
  go_wp2_with (first
    | (go_at_call 18; refine HP.out.mono ?_; rintro e w1 ⟨b, o, c, a1, c1, rfl, hc1, HR, hb1⟩; have HPR := Lib.hid (print_any _ awP w1 HR.out aw_fine (by decide +kernel) (by decide)); rw [aw_print] at HPR)
    | (go_at_call 21; refine HPR.out.mono ?_; rintro e w2 ⟨rfl, hb2⟩))
  go_ret
  exact ⟨rfl, hb1.trans (hb2.mono hb1.size)⟩
end Go.Proofs.YtcigceaadkjenaaDoor
