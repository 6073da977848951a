/- Layer 15: the document's parts of the program's. -/
import Derived.Test.YtcigceaadkjenaaDoorImgRd
import Derived.Test.YtcigceaadkjenaaDoorBars
import Derived.BigRegion
import Derived.Deep.RegionLaw
namespace Go.Proofs.YtcigceaadkjenaaDoor
open Go.RowKit
set_option linter.unusedVariables false
set_option maxRecDepth 100000

abbrev tyR : TypeId := 59
theorem tyR_ne : tyR ≠ tyB := by decide
theorem info_rpart : (Tryd.prog.info? 59).map (fun i => (i.zero, i.size, i.bytes)) = some (some (.agg #[.int .u32 0, .slice none 0 0]), 2, 32) := by kernel_rfl

/-- The first k of the parts, as cells: vs holds the slices of their bytes. -/
def SrcV (w : World) (ps : List Prt) (vs : List Value) : Prop := vs.length = ps.length ∧ ∀ (i : Nat) (p : Prt) (u : Value), ps[i]? = some p → vs[i]? = some u → RdB w u p.2

theorem cellsP_step (ps : List Prt) (vs : List Value) (k : Nat) (p : Prt) (u : Value) (h : ps[k]? = some p) (hu : vs[k]? = some u) : cellsP (ps.take (k + 1)) (vs.take (k + 1)) = cellsP (ps.take k) (vs.take k) ++ [.int .u32 p.1, u] := by
  have h1 := (List.getElem?_eq_some_iff.1 h).1
  have h2 := (List.getElem?_eq_some_iff.1 hu).1
  rw [List.take_add_one, List.take_add_one, h, hu]
  simp only [Option.toList_some]
  rw [cellsP_app _ _ _ _ (by simp; omega)]
  rfl

/-- Owned cells of parts, whose bytes lie anywhere. -/
theorem rd_of_own {T : TypeId} {w : World} {base : Nat} {v : Value} {ps : List Prt} {vs : List Value} (h1 : w.ownsRow base T 2 v ps.length (cellsP ps vs)) (h2 : SrcV w ps vs) : RdPs w v ps := by
  rcases h1.2 with ⟨rfl, h0⟩ | ⟨g, cap, cur, hv, _⟩
  · have : ps = [] := List.eq_nil_of_length_eq_zero h0
    subst this
    exact ⟨none, 0, rfl, .inl rfl⟩
  · subst hv
    refine ⟨some ⟨g, 0, none⟩, cap, rfl, .inr ⟨g, 0, rfl, fun i p hp => ?_⟩⟩
    have hi : i < ps.length := (List.getElem?_eq_some_iff.1 hp).1
    obtain ⟨u, hu⟩ : ∃ u, vs[i]? = some u := ⟨_, List.getElem?_eq_getElem (by rw [h2.1]; exact hi)⟩
    obtain ⟨e0, e1⟩ := cellsP_at ps vs i p u hp hu
    obtain ⟨a, c, rfl, hc, h⟩ := h2.2 i p u hp hu
    refine ⟨?_, a, c, ?_, ⟨a, c, rfl, hc, h⟩⟩
    · rw [Nat.zero_add, h1.cellAt _ (by omega)]; exact e0
    · rw [Nat.zero_add, h1.cellAt _ (by omega)]; exact e1

set_option maxHeartbeats 2000000 in
theorem of15_any (v : Value) (ps : List Prt) (w : World) (h : RdPs w v ps) (hn : ps.length ≤ 1000000) :
    Calls Tryd.prog 12 #[v] w fun e w' => ∃ v', e = .returned v' ∧ RdPs w' v' ps ∧ Below w.heap.size w w' := by
  obtain ⟨i0, hi, hz0, hz1, hz2⟩ := info_parts info_rpart
  obtain ⟨a, c, rfl, h⟩ := h
  obtain ⟨vs, hvs⟩ : ∃ vs, SrcV w ps vs ∧ (ps = [] ∨ ∃ b o, a = some ⟨b, o, none⟩ ∧ ∀ i p u, ps[i]? = some p → vs[i]? = some u → w.cell? ⟨b, o + i * 2, none⟩ = some (.int .u32 p.1) ∧ w.cell? ⟨b, o + i * 2 + 1, none⟩ = some u ∧ ∃ a1 n1 c1, u = .slice a1 n1 c1) := by
    rcases h with rfl | ⟨b, o, rfl, hi⟩
    · exact ⟨[], ⟨rfl, fun i p u h => by simp at h⟩, .inl rfl⟩
    · have each : ∀ i, ∃ u, ∀ p, ps[i]? = some p → w.cell? ⟨b, o + i * 2, none⟩ = some (.int .u32 p.1) ∧ w.cell? ⟨b, o + i * 2 + 1, none⟩ = some u ∧ RdB w u p.2 ∧ ∃ a1 n1 c1, u = .slice a1 n1 c1 := fun i => by
        cases hp : ps[i]? with
        | none => exact ⟨.nilFunc, fun p h => by cases h⟩
        | some p =>
          obtain ⟨h1, a1, c1, h2, h3⟩ := hi i p hp
          exact ⟨_, fun q hq => by cases hq; exact ⟨h1, h2, h3, _, _, _, rfl⟩⟩
      obtain ⟨U, hU⟩ := Classical.skolem.1 each
      refine ⟨(List.range ps.length).map U, ⟨by simp, fun i p u hp hu => ?_⟩, .inr ⟨b, o, rfl, fun i p u hp hu => ?_⟩⟩
      · have hlt := (List.getElem?_eq_some_iff.1 hp).1
        rw [List.getElem?_map, List.getElem?_range hlt] at hu
        simp at hu
        subst hu
        exact (hU i p hp).2.2.1
      · have hlt := (List.getElem?_eq_some_iff.1 hp).1
        rw [List.getElem?_map, List.getElem?_range hlt] at hu
        simp at hu
        subst hu
        exact ⟨(hU i p hp).1, (hU i p hp).2.1, (hU i p hp).2.2.2⟩
  obtain ⟨hS, hV⟩ := hvs
  have HS := Lib.hid hS
  have hvl := hS.1
  clear h hS
  go_enter Tryd.func12, Tryd.ntmps12
  go_wp2
  go_loopw [3, 4] (fun o i wr => ∃ k : Nat, k ≤ ps.length ∧ i = .int .i64 (k : Int) ∧ wr.ownsRow w.heap.size 59 2 o k (cellsP (ps.take k) (vs.take k)) ∧ Below w.heap.size w wr) (fun _ i _ => ps.length - (intOf i).toNat)
  case atStart => exact ⟨0, Nat.zero_le _, rfl, World.ownsRow_lit w #[] 0 (Nat.le_refl _) (by decide) rfl, (Below.refl _ _).alloc (Nat.le_refl _) _⟩
  case round =>
    obtain ⟨k, hk, rfl, hown, hb⟩ := hrel
    by_cases hlt : k < ps.length
    · rcases hV with hV | ⟨b, o, rfl, hV⟩
      · subst hV; simp at hlt
      · obtain ⟨p, hp⟩ : ∃ p, ps[k]? = some p := ⟨_, List.getElem?_eq_getElem hlt⟩
        obtain ⟨u, hu⟩ : ∃ u, vs[k]? = some u := ⟨_, List.getElem?_eq_getElem (by rw [hvl]; exact hlt)⟩
        obtain ⟨h0, h1, a1, n1, c1, rfl⟩ := hV k p u hp hu
        have c0 : wr.cell? ⟨b, o + k * 2, none⟩ = some (.int .u32 p.1) := (hb.cell (World.block_lt_of_cell? w _ h0)).trans h0
        have c1' : wr.cell? ⟨b, o + k * 2 + 1, none⟩ = some (.slice a1 n1 c1) := (hb.cell (World.block_lt_of_cell? w _ h1)).trans h1
        have HST := Lib.hid (cellsP_step ps vs k p _ hp hu)
        have HV := Lib.hid hV
        obtain ⟨p1, p2⟩ := p
        clear hV h0 h1 hp hu
        have hx := hown
        obtain ⟨av, cv, rfl⟩ : ∃ av cv, u3 = .slice av k cv := by
          rcases hown.2 with ⟨rfl, h0⟩ | ⟨g, cap, cur, rfl, _⟩
          · subst h0; exact ⟨_, _, rfl⟩
          · exact ⟨_, _, rfl⟩
        go_wp2
        have hdr := ((hown.alloc (.cells #[.int .u32 p1, .slice a1 n1 c1] 59)).kept (w' := (wr.alloc (.cells #[.int .u32 p1, .slice a1 n1 c1] 59)).drew) (row := none) ⟨rfl, rfl, rfl, Nat.le_refl _, fun _ _ _ => rfl⟩ (by cases av with | none => exact .inl rfl | some x => exact .inr (by simp [Value.ownBlock])))
        have hone : ∀ q ∈ [Value.int .u32 p1, Value.slice a1 n1 c1], q.oneCell' = true := by intro q hq; simp at hq; rcases hq with rfl | rfl <;> rfl
        have hbs : w.heap.size ≤ (wr.alloc (.cells #[.int .u32 p1, .slice a1 n1 c1] 59)).drew.heap.size := by
          show w.heap.size ≤ (wr.alloc _).heap.size
          rw [World.size_alloc]; exact Nat.le_succ_of_le hb.size
        have htn : ∀ (j : Nat) (q : Value), [Value.int .u32 p1, Value.slice a1 n1 c1][j]? = some q → (wr.alloc (.cells #[.int .u32 p1, .slice a1 n1 c1] 59)).drew.cell? ((⟨wr.heap.size, 0, none⟩ : Addr).add j) = some q := fun j q e => two_new wr _ _ _ j q e
        have hm1 : k + 1 ≤ maxLen := by unfold maxLen; omega
        have hm2 : (k + 1) * 32 ≤ 140737488355328 := by omega
        go_region_law (refine step_append_own rfl (.tmp 12) (.tmp 24) 32 rfl w.heap.size 59 i0 (.agg #[.int .u32 0, .slice none 0 0]) 2 32 Tryd.underlying32 hi hz0 hz1 hz2 rfl (by decide) (.slice av k cv) k (cellsP (ps.take k) (vs.take k)) rfl hdr ⟨wr.heap.size, 0, none⟩ 1 1 [.int .u32 p1, .slice a1 n1 c1] rfl rfl htn hone hm1 hm2 hbs ?_; intro v' w1 hown' hgrow _)
        all_goals
          go_wp2
          go_roundw
          case rel => exact ⟨k + 1, by omega, by go_num, by rw [HST.out]; exact hown', ((hb.alloc hb.size _).drew).grown hgrow hbs (fun j hj => (hown.lt j hj).1)⟩
          case measure => simp [intOf]; omega
    · obtain rfl : k = ps.length := by omega
      rw [List.take_length, show vs.take ps.length = vs from by rw [← hvl, List.take_length]] at hown
      go_wp2
      go_ret
      have hS2 : SrcV wr ps vs := ⟨hvl, fun i p u hp hu => (HS.out.2 i p u hp hu).on (hb.mono (Nat.le_refl _))⟩
      exact ⟨_, rfl, rd_of_own hown hS2, hb⟩
end Go.Proofs.YtcigceaadkjenaaDoor
