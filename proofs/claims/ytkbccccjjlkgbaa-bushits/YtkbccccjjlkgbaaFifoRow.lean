/- Layers 11 and 12: two slices of the same bytes, whoever owns them. -/
import Derived.Test.YtkbccccjjlkgbaaFifoRef
namespace Go.Proofs.Ytkbccccjjlkgbaa
open Go.RowKit
set_option linter.unusedVariables false

/-- Two slices of the same bytes. -/
def IsRowV (w : World) (v : Value) (n : Nat) (f : Nat → Int) : Prop := ∃ a c, v = .slice a n c ∧ (n = 0 ∨ ∃ b o, a = some ⟨b, o, none⟩ ∧ ∀ i, i < n → w.cell? ⟨b, o + i, none⟩ = some (.int .u8 (f i)))
theorem isRowV_of_own {w : World} {base n : Nat} {v : Value} {f : Nat → Int} (h : w.ownsRow base 5 1 v n (rowL n f)) : IsRowV w v n f := by
  by_cases c : n = 0
  · subst c
    obtain ⟨_, h | ⟨g, cap, _, hv, _⟩⟩ := h
    · exact ⟨none, 0, h.1, .inl rfl⟩
    · exact ⟨_, cap, hv, .inl rfl⟩
  · obtain ⟨B, cap, hv, _, _, hr⟩ := row_of_own h (by omega)
    exact ⟨_, cap, hv, .inr ⟨B, 0, rfl, fun i hi => by rw [Nat.zero_add]; exact hr i hi⟩⟩
theorem IsRowV.on {W w1 : World} {v : Value} {n : Nat} {f : Nat → Int} (h : IsRowV W v n f) (hb : Below W.heap.size W w1) : IsRowV w1 v n f := by
  obtain ⟨a, c, hv, h⟩ := h
  refine ⟨a, c, hv, ?_⟩
  rcases h with h | ⟨b, off, ha, hc⟩
  · exact .inl h
  · refine .inr ⟨b, off, ha, fun i hi => ?_⟩
    rw [hb.cell (World.block_lt_of_cell? W _ (hc i hi))]; exact hc i hi

set_option maxHeartbeats 400000 in
theorem same_none (a a' : Option Addr) (c c' : Nat) (w : World) :
    Calls Try.prog 37 #[.slice a 0 c, .slice a' 0 c'] w fun e w' => e = .returned (.bool true) ∧ Q w w' := by
  go_enter Try.func37, Try.ntmps37
  go_wp2
  go_loopw [5] (fun i wr => i = .int .i64 0 ∧ Q w wr) (fun _ _ => 0)
  case atStart => exact ⟨rfl, Q.refl _⟩
  case round =>
    obtain ⟨rfl, hq⟩ := hrel
    go_wp2
    go_ret
    exact ⟨rfl, hq⟩

/-- SameBytes of the same bytes. -/
theorem same11 {v v' : Value} {n : Nat} {f : Nat → Int} {w : World} (hn : n ≤ 500) (h : IsRowV w v n f) (h' : IsRowV w v' n f) :
    Calls Try.prog 37 #[v, v'] w fun e w' => e = .returned (.bool true) ∧ Q w w' := by
  obtain ⟨a, c, rfl, h⟩ := h
  obtain ⟨a', c', rfl, h'⟩ := h'
  rcases h with rfl | ⟨b, o, rfl, hc⟩
  · exact same_none _ _ _ _ w
  · rcases h' with rfl | ⟨b', o', rfl, hc'⟩
    · exact same_none _ _ _ _ w
    · exact same_yes f _ _ _ _ _ _ _ w (by unfold maxLen; omega) hc hc'
end Go.Proofs.Ytkbccccjjlkgbaa
