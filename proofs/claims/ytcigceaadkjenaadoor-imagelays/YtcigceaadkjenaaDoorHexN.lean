/- Digits as a number: what word.Unhex and the document's Unhex answer (taken out of layer 6's text, for the layers that want no more of it). -/
import Derived.Test.YtcigceaadkjenaaDoorBs
import Derived.Test.YtcigceaadkjenaaDoorUnhex
namespace Go.Proofs.YtcigceaadkjenaaDoor
open Go.RowKit
set_option linter.unusedVariables false

/-- One to eight hexadecimal digits; -1: they are none. -/
def hexN (l : List UInt8) : Int := if 1 ≤ l.length ∧ l.length ≤ 8 ∧ (∀ i, i < l.length → 0 ≤ digVal (signAt (bs l) i)) then valTo (signAt (bs l)) l.length else -1
theorem hexN_lt (l : List UInt8) : -1 ≤ hexN l ∧ hexN l < 4294967296 := by
  unfold hexN
  split
  · rename_i h
    have a := valTo_bd (signAt (bs l)) l.length h.2.2
    have b := pw_le (4 * l.length) 32 (by omega)
    rw [pw_32] at b
    omega
  · omega

theorem runhex_any (l : List UInt8) (w : World) (hl : l.length ≤ 70000) :
    Calls Tryd.prog 38 #[.string (bs l)] w fun e w' => ∃ (x : Int) (b : Bool), e = .returned (.tuple #[.int .u32 x, .bool b]) ∧ (if b then x else -1) = hexN l ∧ 0 ≤ x ∧ x < 4294967296 ∧ w' = w := by
  have hsz : (bs l).size = l.length := bs_size l
  by_cases h : 1 ≤ l.length ∧ l.length ≤ 8
  · by_cases hd : ∀ i, i < l.length → 0 ≤ digVal (signAt (bs l) i)
    · refine (runhex_yes (bs l) w (by omega) (by omega) (fun i hi => hd i (by omega))).mono ?_
      rintro e w' ⟨rfl, rfl⟩
      have hx := hexN_lt l
      have e : hexN l = valTo (signAt (bs l)) l.length := by
        unfold hexN; rw [if_pos ⟨h.1, h.2, hd⟩]
      have b0 := (valTo_bd (signAt (bs l)) l.length hd).1
      refine ⟨_, true, rfl, ?_, ?_, ?_, rfl⟩
      · rw [hsz, e]; rfl
      · rw [hsz]; exact b0
      · rw [hsz]; omega
    · obtain ⟨j, hj⟩ := Classical.not_forall.1 hd
      have hj1 : j < l.length := Classical.byContradiction fun g => hj fun g' => absurd g' g
      have hj2 : digVal (signAt (bs l) j) < 0 := by
        have := fun g => hj fun _ => g
        omega
      refine (runhex_bad (bs l) w (by omega) (by omega) j (by omega) hj2).mono ?_
      rintro e w' ⟨rfl, rfl⟩
      have e : hexN l = -1 := by
        unfold hexN
        rw [if_neg (fun g => hd g.2.2)]
      exact ⟨0, false, rfl, by rw [e]; rfl, by omega, by omega, rfl⟩
  · refine (runhex_short (bs l) w (by unfold maxLen; omega) (by omega)).mono ?_
    rintro e w' ⟨rfl, rfl⟩
    have e : hexN l = -1 := by
      unfold hexN
      rw [if_neg (fun g => h ⟨g.1, g.2.1⟩)]
    exact ⟨0, false, rfl, by rw [e]; rfl, by omega, by omega, rfl⟩

/-- word.Unhex, of a text that is not too long. -/
theorem unhex_any (l : List UInt8) (w : World) (hl : l.length ≤ 70000) :
    Calls Tryd.prog 54 #[.string (bs l)] w fun e w' => ∃ x c : Int, e = .returned (.tuple #[.int .u32 x, .int .i64 c]) ∧ ((hexN l < 0 ∧ x = 0 ∧ c = 1) ∨ (0 ≤ hexN l ∧ x = hexN l ∧ c = 0)) ∧ w' = w := by
  have hsz : (bs l).size = l.length := bs_size l
  by_cases h : 1 ≤ l.length ∧ l.length ≤ 8
  · by_cases hd : ∀ i, i < l.length → 0 ≤ digVal (signAt (bs l) i)
    · refine (unhex_yes (bs l) w (by omega) (by omega) (fun i hi => hd i (by omega))).mono ?_
      rintro e w' ⟨rfl, rfl⟩
      have e : hexN l = valTo (signAt (bs l)) l.length := by
        unfold hexN; rw [if_pos ⟨h.1, h.2, hd⟩]
      have b0 := (valTo_bd (signAt (bs l)) l.length hd).1
      refine ⟨_, _, rfl, .inr ⟨by omega, ?_, rfl⟩, rfl⟩
      rw [hsz, e]
    · obtain ⟨j, hj⟩ := Classical.not_forall.1 hd
      have hj1 : j < l.length := Classical.byContradiction fun g => hj fun g' => absurd g' g
      have hj2 : digVal (signAt (bs l) j) < 0 := by
        have := fun g => hj fun _ => g
        omega
      refine (unhex_bad (bs l) w (by omega) (by omega) j (by omega) hj2).mono ?_
      rintro e w' ⟨rfl, rfl⟩
      have e : hexN l = -1 := by
        unfold hexN
        rw [if_neg (fun g => hd g.2.2)]
      exact ⟨_, _, rfl, .inl ⟨by omega, rfl, rfl⟩, rfl⟩
  · refine (unhex_short (bs l) w (by unfold maxLen; omega) (by omega)).mono ?_
    rintro e w' ⟨rfl, rfl⟩
    have e : hexN l = -1 := by
      unfold hexN
      rw [if_neg (fun g => h ⟨g.1, g.2.1⟩)]
    exact ⟨_, _, rfl, .inl ⟨by omega, rfl, rfl⟩, rfl⟩
end Go.Proofs.YtcigceaadkjenaaDoor
