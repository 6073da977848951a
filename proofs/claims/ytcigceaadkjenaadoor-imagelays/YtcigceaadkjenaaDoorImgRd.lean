/- Layer 15: parts that are only read; whether they are too long. -/
import Derived.Test.YtcigceaadkjenaaDoorImgTake
namespace Go.Proofs.YtcigceaadkjenaaDoor
open Go.RowKit
set_option linter.unusedVariables false
set_option maxRecDepth 100000

/-- A slice that holds these bytes. -/
def RdB (w : World) (v : Value) (l : List Int) : Prop := ∃ a c, v = .slice a l.length c ∧ l.length ≤ c ∧ (l = [] ∨ ∃ b o, a = some ⟨b, o, none⟩ ∧ ∀ i, i < l.length → w.cell? ⟨b, o + i, none⟩ = some (.int .u8 (l.getD i 0)))
/-- The i-th of the parts, in block b from o on. -/
def RdP (w : World) (b o i : Nat) (p : Prt) : Prop := w.cell? ⟨b, o + i * 2, none⟩ = some (.int .u32 p.1) ∧ ∃ a c, w.cell? ⟨b, o + i * 2 + 1, none⟩ = some (.slice a p.2.length c) ∧ RdB w (.slice a p.2.length c) p.2
/-- A slice that holds these parts. -/
def RdPs (w : World) (v : Value) (ps : List Prt) : Prop := ∃ a c, v = .slice a ps.length c ∧ (ps = [] ∨ ∃ b o, a = some ⟨b, o, none⟩ ∧ ∀ i p, ps[i]? = some p → RdP w b o i p)

theorem RdB.on {w w' : World} {v : Value} {l : List Int} (h : RdB w v l) (hb : Below w.heap.size w w') : RdB w' v l := by
  obtain ⟨a, c, hv, hc, h⟩ := h
  refine ⟨a, c, hv, hc, ?_⟩
  rcases h with h | ⟨b, o, ha, hi⟩
  · exact .inl h
  · exact .inr ⟨b, o, ha, fun i hl => by rw [hb.cell (World.block_lt_of_cell? w _ (hi i hl))]; exact hi i hl⟩
theorem RdP.on {w w' : World} {b o i : Nat} {p : Prt} (h : RdP w b o i p) (hb : Below w.heap.size w w') : RdP w' b o i p := by
  obtain ⟨h1, a, c, h2, h3⟩ := h
  exact ⟨by rw [hb.cell (World.block_lt_of_cell? w _ h1)]; exact h1, a, c, by rw [hb.cell (World.block_lt_of_cell? w _ h2)]; exact h2, h3.on hb⟩
theorem RdPs.on {w w' : World} {v : Value} {ps : List Prt} (h : RdPs w v ps) (hb : Below w.heap.size w w') : RdPs w' v ps := by
  obtain ⟨a, c, hv, h⟩ := h
  refine ⟨a, c, hv, ?_⟩
  rcases h with h | ⟨b, o, ha, hi⟩
  · exact .inl h
  · exact .inr ⟨b, o, ha, fun i p hp => (hi i p hp).on hb⟩
theorem rdB_of_own {w : World} {base : Nat} {v : Value} {l : List Int} (h : w.ownsRow base tyB 1 v l.length (bv l)) : RdB w v l := by
  rcases h.2 with ⟨rfl, h0⟩ | ⟨g, cap, cur, hv, _, _, hc, _⟩
  · have : l = [] := List.eq_nil_of_length_eq_zero h0
    subst this
    exact ⟨none, 0, rfl, Nat.le_refl _, .inl rfl⟩
  · refine ⟨some ⟨g, 0, none⟩, cap, hv, hc, .inr ⟨g, 0, rfl, fun i hi => ?_⟩⟩
    subst hv
    rw [Nat.zero_add, h.cellAt i (by omega)]
    simp [bv, List.getD, hi]
theorem IsPs.rd {T : TypeId} {w : World} {base : Nat} {v : Value} {ps : List Prt} (h : IsPs T w base v ps) : RdPs w v ps := by
  obtain ⟨vs, h1, h2, h3⟩ := h
  rcases h1.2 with ⟨rfl, h0⟩ | ⟨g, cap, cur, hv, _⟩
  · have : ps = [] := List.eq_nil_of_length_eq_zero h0
    subst this
    exact ⟨none, 0, rfl, .inl rfl⟩
  · subst hv
    refine ⟨some ⟨g, 0, none⟩, cap, rfl, .inr ⟨g, 0, rfl, fun i p hp => ?_⟩⟩
    have hi : i < ps.length := (List.getElem?_eq_some_iff.1 hp).1
    obtain ⟨u, hu⟩ : ∃ u, vs[i]? = some u := ⟨_, List.getElem?_eq_getElem (by rw [h2.1]; exact hi)⟩
    obtain ⟨e0, e1⟩ := cellsP_at ps vs i p u hp hu
    have hrd := rdB_of_own (h2.2 i p u hp hu)
    obtain ⟨a, c, rfl, hc, h⟩ := hrd
    refine ⟨?_, a, c, ?_, ⟨a, c, rfl, hc, h⟩⟩
    · rw [Nat.zero_add, h1.cellAt _ (by omega)]; exact e0
    · rw [Nat.zero_add, h1.cellAt _ (by omega)]; exact e1

theorem sumL_take (ps : List Prt) (k : Nat) (p : Prt) (h : ps[k]? = some p) : sumL (ps.take (k + 1)) = sumL (ps.take k) + p.2.length := by
  rw [List.take_add_one, h, sumL_app]
  simp [sumL]
theorem sumL_mono (ps : List Prt) (k : Nat) : sumL (ps.take k) ≤ sumL ps := by
  conv => rhs; rw [← List.take_append_drop k ps]
  rw [sumL_app]; omega

set_option maxHeartbeats 2000000 in
theorem long_any (v : Value) (ps : List Prt) (w : World) (h : RdPs w v ps) (hn : ps.length ≤ maxLen) :
    Calls Tryd.prog 27 #[v] w fun e w' => e = .returned (.bool (longL ps)) ∧ Below w.heap.size w w' := by
  unfold maxLen at hn
  obtain ⟨a, c, rfl, h⟩ := h
  by_cases h1 : 1024 < ps.length
  · have e : longL ps = true := decide_eq_true (.inl h1)
    rw [e]
    go_enter Tryd.func27, Tryd.ntmps27
    go_wp2
    go_ret
    exact ⟨rfl, Below.refl _ _⟩
  · have HL : Hid (longL ps = decide (65536 < sumL ps)) := by
      show longL ps = _
      unfold longL
      by_cases c : 65536 < sumL ps
      · rw [decide_eq_true c, decide_eq_true (.inr c)]
      · rw [decide_eq_false c, decide_eq_false (by omega)]
    go_enter Tryd.func27, Tryd.ntmps27
    go_wp2
    go_loopw [3, 11] (fun lf i wr => ∃ k : Nat, k ≤ ps.length ∧ i = .int .i64 (k : Int) ∧ sumL (ps.take k) ≤ 65536 ∧ lf = .int .i64 (65536 - (sumL (ps.take k) : Int)) ∧ Below w.heap.size w wr) (fun _ i _ => ps.length - (intOf i).toNat)
    case atStart => exact ⟨0, Nat.zero_le _, rfl, by simp [sumL], by simp [sumL], Below.refl _ _⟩
    case round =>
      obtain ⟨k, hk, rfl, hs, rfl, hb⟩ := hrel
      by_cases hlt : k < ps.length
      · rcases h with h | ⟨b, o, rfl, hi⟩
        · subst h; simp at hlt
        · obtain ⟨p, hp⟩ : ∃ p, ps[k]? = some p := ⟨_, List.getElem?_eq_getElem hlt⟩
          obtain ⟨c0, a1, cp, c1, _⟩ := (hi k p hp).on (hb.mono (Nat.le_refl _))
          have hst := sumL_take ps k p hp
          have hmo := sumL_mono ps (k + 1)
          have HI := Lib.hid hi
          clear hi
          generalize sumL (ps.take k) = s at *
          obtain ⟨p1, p2⟩ := p
          replace hst : sumL (ps.take (k + 1)) = s + p2.length := hst
          have hB : Below w.heap.size w (wr.alloc (.cells #[.int .u32 p1, .slice a1 p2.length cp] 51)) := hb.alloc hb.size _
          by_cases hov : 65536 - (s : Int) < (p2.length : Int)
          · go_wp2
            go_ret
            have e : longL ps = true := HL.out.trans (decide_eq_true (by omega))
            rw [e]
            exact ⟨rfl, hB⟩
          · go_wp2
            go_roundw
            case rel => exact ⟨k + 1, by omega, by go_num, by omega, by rw [hst]; go_num, hB⟩
            case measure => simp [intOf]; omega
      · obtain rfl : k = ps.length := by omega
        rw [List.take_length] at hs
        go_wp2
        go_ret
        have e : longL ps = false := HL.out.trans (decide_eq_false (by omega))
        rw [e]
        exact ⟨rfl, hb⟩
end Go.Proofs.YtcigceaadkjenaaDoor
