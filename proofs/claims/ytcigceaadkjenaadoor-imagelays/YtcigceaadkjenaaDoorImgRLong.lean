/- Layer 15: the document's own long. -/
import Derived.Test.YtcigceaadkjenaaDoorImgRd
namespace Go.Proofs.YtcigceaadkjenaaDoor
open Go.RowKit
set_option linter.unusedVariables false
set_option maxRecDepth 100000

set_option maxHeartbeats 2000000 in
theorem rlong_any (v : Value) (ps : List Prt) (w : World) (h : RdPs w v ps) (hn : ps.length ≤ maxLen) (hm : ∀ p ∈ ps, p.2.length ≤ maxLen) :
    Calls Tryd.prog 25 #[v] w fun e w' => e = .returned (.bool (longL ps)) ∧ w' = w := by
  unfold maxLen at hn hm
  obtain ⟨a, c, rfl, h⟩ := h
  have HL : Hid (∀ b : Bool, (b = true ↔ (1024 < ps.length ∨ 65536 < sumL ps)) → longL ps = b) := fun b hb => by
    unfold longL
    cases b
    · exact decide_eq_false (fun x => by have := hb.2 x; cases this)
    · exact decide_eq_true (hb.1 rfl)
  go_enter Tryd.func25, Tryd.ntmps25
  go_wp2
  go_loop [3, 4] (fun n i => ∃ k : Nat, k ≤ ps.length ∧ k ≤ 1024 ∧ i = .int .i64 (k : Int) ∧ n = .int .i64 (sumL (ps.take k) : Int) ∧ sumL (ps.take k) ≤ 65536) (fun _ i => ps.length - (intOf i).toNat)
  case atStart => exact ⟨0, Nat.zero_le _, Nat.zero_le _, rfl, by simp [sumL], by simp [sumL]⟩
  case round =>
    obtain ⟨k, hk, hk2, rfl, rfl, hs⟩ := hrel
    by_cases hlt : k < ps.length
    · rcases h with h | ⟨b, o, rfl, hi⟩
      · subst h; simp at hlt
      · obtain ⟨p, hp⟩ : ∃ p, ps[k]? = some p := ⟨_, List.getElem?_eq_getElem hlt⟩
        obtain ⟨c0, a1, cp, c1, _⟩ := hi k p hp
        have hmp := hm p (List.mem_of_getElem? hp)
        have hst := sumL_take ps k p hp
        have hmo := sumL_mono ps (k + 1)
        have HI := Lib.hid hi
        have HM := Lib.hid hm
        clear hi hm
        generalize sumL (ps.take k) = s at *
        obtain ⟨p1, p2⟩ := p
        replace hst : sumL (ps.take (k + 1)) = s + p2.length := hst
        replace hmp : p2.length ≤ 9223372036854775807 := hmp
        by_cases h10 : p2.length ≤ 100000
        · have hmin : (min (p2.length : Int) 100000) = (p2.length : Int) := by omega
          by_cases h1024 : 1024 ≤ k
          · go_wp2
            go_ret
            have e := HL.out true ⟨fun _ => .inl (by omega), fun _ => rfl⟩
            rw [e]
            exact ⟨rfl, rfl⟩
          · by_cases hov : 65536 < s + p2.length
            · have hov2 : (65536 : Int) < (s : Int) + (p2.length : Int) := by omega
              go_wp2
              go_ret
              have e := HL.out true ⟨fun _ => .inr (by omega), fun _ => rfl⟩
              rw [e]
              exact ⟨rfl, rfl⟩
            · have hov2 : ¬ (65536 : Int) < (s : Int) + (p2.length : Int) := by omega
              go_wp2
              go_round
              case rel => exact ⟨k + 1, by omega, by omega, by go_num, by rw [hst]; go_num, by omega⟩
              case measure => simp [intOf]; omega
        · have e := HL.out true ⟨fun _ => .inr (by omega), fun _ => rfl⟩
          obtain ⟨N, hmin, hN0, hN1⟩ : ∃ N : Int, (min (p2.length : Int) 100000) = N ∧ 65536 < N ∧ N ≤ 100000 := ⟨_, rfl, by omega, by omega⟩
          have hov2 : (65536 : Int) < (s : Int) + N := by omega
          by_cases h1024 : 1024 ≤ k
          · go_wp2
            go_ret
            exact ⟨rfl, rfl⟩
          · go_wp2
            go_ret
            exact ⟨rfl, rfl⟩
    · obtain rfl : k = ps.length := by omega
      rw [List.take_length] at hs
      go_wp2
      go_ret
      have e := HL.out false ⟨fun x => (by cases x), fun x => by omega⟩
      rw [e]
      exact ⟨rfl, rfl⟩
end Go.Proofs.YtcigceaadkjenaaDoor
