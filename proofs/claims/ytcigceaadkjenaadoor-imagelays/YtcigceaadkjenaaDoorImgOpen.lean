/- Layer 15: a slice of parts as an argument. -/
import Derived.Test.YtcigceaadkjenaaDoorRamSteps
import Derived.Test.YtcigceaadkjenaaDoorImgPrint
namespace Go.Proofs.YtcigceaadkjenaaDoor
open Go.ChangeShapes Go.WideShapes Go.ChangeAt Go.RowKit
set_option linter.unusedVariables false

/-- Parts as they came in. -/
def IsParts (w : World) (a : Option Addr) (len cap : Nat) (ps : List Prt) : Prop := ps.length = len ∧ len ≤ maxLen ∧ RdPs w (.slice a len cap) ps ∧ Fine ps ∧ ∀ p ∈ ps, p.2.length ≤ maxLen

theorem list2 {α : Type} {l : List α} (h : l.length = 2) : ∃ c0 c1, l = [c0, c1] := by
  match l, h with
  | [c0, c1], _ => exact ⟨c0, c1, rfl⟩

section
variable {H : Type} {enc : TypeId × Value → H} {P : Program} {w : World} {base : Nat} {spare : Nat → Bool} {held : Bool}

theorem open_parts {t e e' : TypeId} {f0 f1 : Field} {fuel : Nat} {a : Option Addr} {len cap : Nat} {x : DataW H × List MemPlace} (ht : P.underlying t = some (.slice e)) (hs : P.underlying e = some (.struct #[f0, f1]))
    (ho : #[f0, f1].map (·.offset) = #[0, 1]) (hc : #[f0, f1].map (fun f => P.cellsOf f.type) = #[1, 1]) (hC : P.cellsOf e = 2)
    (u0 : P.underlying f0.type = some (.int .u32)) (u4 : P.underlying f1.type = some (.slice e')) (u5 : P.underlying e' = some (.int .u8)) (u6 : P.cellsOf e' = 1)
    (h : DataW.trod enc P w base spare held fuel t [.slice a len cap] = some x) : ∃ ps, IsParts w a len cap ps := by
  rcases DataW.trod_slice ht h with ⟨h0, _⟩ | ⟨a', len', cap', elems, rest, n, _, h0, _, hb, hl, hm, hlen, hel, _, _⟩
  · simp at h0
    obtain ⟨rfl, rfl, rfl⟩ := h0
    exact ⟨[], rfl, by unfold maxLen; omega, ⟨none, 0, rfl, .inl rfl⟩, fun p hp => by simp at hp, fun p hp => by simp at hp⟩
  · simp at h0
    obtain ⟨rfl, rfl, rfl⟩ := h0
    by_cases hz : len = 0
    · subst hz
      exact ⟨[], rfl, by unfold maxLen; omega, ⟨_, _, rfl, .inl rfl⟩, fun p hp => by simp at hp, fun p hp => by simp at hp⟩
    · obtain ⟨b, off, spot⟩ := a'
      have each : ∀ i, ∃ p : Prt, i < len → w.cell? ((⟨b, off, spot⟩ : Addr).add (i * 2)) = some (.int .u32 p.1) ∧ (∃ sv sc, w.cell? (((⟨b, off, spot⟩ : Addr).add (i * 2)).add 1) = some (.slice sv p.2.length sc) ∧ RdB w (.slice sv p.2.length sc) p.2) ∧ (Lit.int .u32 p.1).wf = true ∧ p.2.length ≤ maxLen ∧ ∀ y ∈ p.2, 0 ≤ y ∧ y < 256 := by
        intro i
        by_cases hi : i < len
        · have hy : elems[i]? = some (elems[i]'(by omega)) := List.getElem?_eq_getElem (by omega)
          have hb' := hel i hi
          rw [hy, hC, Option.bind_eq_some_iff] at hb'
          obtain ⟨cs', hcs, hy'⟩ := hb'
          obtain ⟨_, hl5, hcell⟩ := World.cells?_some hcs
          obtain ⟨c0, c1, rfl⟩ := list2 hl5
          obtain ⟨xs, m, _, _, _, hxl, hg⟩ := DataW.trod_struct hs hy'
          simp at ho hc
          obtain ⟨o0, o1⟩ := ho
          obtain ⟨q0, q1⟩ := hc
          have g0 := hg 0 f0 rfl
          have g1 := hg 1 f1 rfl
          have k0 := hcell 0 (by decide)
          have k1 := hcell 1 (by decide)
          match xs, hxl with
          | [y0, y1], _ =>
            simp [o0, q0] at g0
            simp [o1, q1] at g1
            obtain ⟨x0, e0, _, w1⟩ := DataW.trod_int u0 g0
            obtain ⟨sv, sl, sc, f, e4, s1, s2, s3⟩ := open_bytes u4 u5 u6 g1
            simp at e0
            subst e0 e4
            have hln : ((List.range sl).map f).length = sl := by simp
            refine ⟨(x0, (List.range sl).map f), fun _ => ⟨?_, ⟨sv, sc, ?_, ?_⟩, w1, by rw [hln]; exact s2, ?_⟩⟩
            · rw [show (Addr.add (⟨b, off, spot⟩ : Addr) (i * 2)) = ((⟨b, off, spot⟩ : Addr).add (i * 2)).add 0 from by simp [Addr.add], k0]; rfl
            · rw [k1, hln]; rfl
            · refine ⟨sv, sc, rfl, by rw [hln]; exact s1, ?_⟩
              rcases s3 with rfl | ⟨b', o', rfl, hs3⟩
              · exact .inl rfl
              · refine .inr ⟨b', o', rfl, fun j hj => ?_⟩
                rw [hln] at hj
                rw [(hs3 j hj).1]
                simp [List.getD, hj]
            · intro y hy
              obtain ⟨j, hj, rfl⟩ := List.mem_map.1 hy
              have hj' := List.mem_range.1 hj
              rcases s3 with rfl | ⟨b', o', rfl, hs3⟩
              · omega
              · exact (hs3 j hj').2
        · exact ⟨(0, []), fun h => absurd h hi⟩
      obtain ⟨F, hF⟩ := Classical.skolem.1 each
      have hspot : spot = none := by
        have := World.cell?_spot (hF 0 (by omega)).1
        simpa [Addr.add] using this
      subst hspot
      have hat : ∀ i p, ((List.range len).map F)[i]? = some p → i < len ∧ F i = p := fun i p hp => by
        rcases Nat.lt_or_ge i len with h | h
        · simp [h] at hp; exact ⟨h, hp⟩
        · rw [List.getElem?_eq_none (by simpa using h)] at hp; cases hp
      have hmem : ∀ p ∈ (List.range len).map F, ∃ i, i < len ∧ F i = p := fun p hp => by
        obtain ⟨i, hi, e⟩ := List.mem_map.1 hp
        exact ⟨i, List.mem_range.1 hi, e⟩
      refine ⟨(List.range len).map F, by simp, by omega, ⟨some ⟨b, off, none⟩, cap, by simp, .inr ⟨b, off, rfl, fun i p hp => ?_⟩⟩, fun p hp => ?_, fun p hp => ?_⟩
      · obtain ⟨hi, rfl⟩ := hat i p hp
        obtain ⟨c0, ⟨sv, sc, c1, hr⟩, _⟩ := hF i hi
        simp only [add_plain] at c0 c1
        exact ⟨c0, sv, sc, c1, hr⟩
      · obtain ⟨i, hi, rfl⟩ := hmem p hp
        obtain ⟨_, _, w1, _, hy⟩ := hF i hi
        have := bounds_u32 w1
        exact ⟨by omega, by omega, hy⟩
      · obtain ⟨i, hi, rfl⟩ := hmem p hp
        exact (hF i hi).2.2.2.1
end
end Go.Proofs.YtcigceaadkjenaaDoor
