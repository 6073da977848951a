/- Layer 15: light. -/
import Derived.Test.YtcigceaadkjenaaDoorB1
namespace Go.Proofs.YtcigceaadkjenaaDoor
open Go.RowKit
set_option linter.unusedVariables false
set_option linter.unusedSimpArgs false
set_option maxRecDepth 100000

def lightB (ps : List Prt) : Bool := decide (ps.length ≤ 30 ∧ ∀ p ∈ ps, p.2.length ≤ 1000)

set_option maxHeartbeats 1000000 in
theorem light15_any (v : Value) (ps : List Prt) (w : World) (h : RdPs w v ps) (hm : ∀ p ∈ ps, p.2.length ≤ maxLen) :
    Calls Tryd.prog 7 #[v] w fun e w' => e = .returned (.bool (lightB ps)) ∧ w' = w := by
  unfold maxLen at hm
  obtain ⟨a, c, rfl, h⟩ := h
  have HL : Hid (∀ b : Bool, (b = true ↔ (ps.length ≤ 30 ∧ ∀ p ∈ ps, p.2.length ≤ 1000)) → lightB ps = b) := fun b hb => by
    unfold lightB
    cases b
    · exact decide_eq_false (fun x => by have := hb.2 x; cases this)
    · exact decide_eq_true (hb.1 rfl)
  go_enter Tryd.func7, Tryd.ntmps7
  by_cases h30 : ps.length ≤ 30
  · go_wp2
    go_loop [3] (fun i => ∃ k : Nat, k ≤ ps.length ∧ i = .int .i64 (k : Int) ∧ Hid (∀ p ∈ ps.take k, p.2.length ≤ 1000)) (fun i => ps.length - (intOf i).toNat)
    case atStart => exact ⟨0, Nat.zero_le _, rfl, fun p hp => by simp at hp⟩
    case round =>
      obtain ⟨k, hk, rfl, HS⟩ := hrel
      by_cases hlt : k < ps.length
      · rcases h with h | ⟨b, o, rfl, hi⟩
        · subst h; simp at hlt
        · obtain ⟨p, hp⟩ : ∃ p, ps[k]? = some p := ⟨_, List.getElem?_eq_getElem hlt⟩
          obtain ⟨c0, a1, cp, c1, _⟩ := hi k p hp
          have hpm := List.mem_of_getElem? hp
          have hmp := hm p hpm
          have HP := Lib.hid hp
          have HPM := Lib.hid hpm
          have HI := Lib.hid hi
          have HM := Lib.hid hm
          clear hi hm hp hpm
          obtain ⟨p1, p2⟩ := p
          replace hmp : p2.length ≤ 9223372036854775807 := hmp
          by_cases h10 : p2.length ≤ 1000
          · go_wp2
            go_round
            case rel =>
              refine ⟨k + 1, by omega, by go_num, fun q hq => ?_⟩
              rw [List.take_add_one, HP.out] at hq
              rcases List.mem_append.1 hq with h | h
              · exact HS.out q h
              · simp at h; subst h; exact h10
            case measure => simp [intOf]; omega
          · have hgt : (1000 : Int) < (p2.length : Int) := by omega
            have HF := Lib.hid (HL.out false ⟨fun h => (by cases h), fun h => absurd (h.2 _ HPM.out) h10⟩)
            go_wp2
            go_ret
            exact ⟨by rw [HF.out]; rfl, rfl⟩
      · obtain rfl : k = ps.length := by omega
        rw [List.take_length] at HS
        have HF := Lib.hid (HL.out true ⟨fun _ => ⟨h30, HS.out⟩, fun _ => rfl⟩)
        go_wp2
        go_ret
        exact ⟨by rw [HF.out]; rfl, rfl⟩
  · have hgt : (30 : Int) < (ps.length : Int) := by omega
    have HF := Lib.hid (HL.out false ⟨fun h => (by cases h), fun h => absurd h.1 h30⟩)
    go_wp2
    go_ret
    exact ⟨by rw [HF.out]; rfl, rfl⟩
end Go.Proofs.YtcigceaadkjenaaDoor
