/- A slice of instructions as an argument: its cells, six by six. -/
import Derived.Test.YtlceglloikamnaaDoorFrame
import Derived.Test.YtlceglloikamnaaDoorLaid
namespace Go.Proofs.YtlceglloikamnaaDoor
open Go.ChangeShapes Go.WideShapes Go.ChangeAt Go.RowKit
set_option linter.unusedVariables false

/-- Six cells of block B from off on: an instruction. -/
def SixL (w : World) (B off : Nat) (a b c d e f : Int) : Prop := w.cell? ⟨B, off, none⟩ = some (.int .i64 a) ∧ w.cell? ⟨B, off + 1, none⟩ = some (.int .i64 b) ∧ w.cell? ⟨B, off + 2, none⟩ = some (.int .i64 c) ∧ w.cell? ⟨B, off + 3, none⟩ = some (.int .i64 d) ∧ w.cell? ⟨B, off + 4, none⟩ = some (.int .u32 e) ∧ w.cell? ⟨B, off + 5, none⟩ = some (.int .i64 f)

/-- A slice of instructions that came in: none, or len of them, F their fields. -/
def IsIns (w : World) (a : Option Addr) (len : Nat) (F : Nat → Nat → Int) : Prop :=
  len ≤ maxLen ∧ (len = 0 ∨ ∃ b off, a = some ⟨b, off, none⟩ ∧ ∀ i, i < len → SixL w b (off + i * 6) (F i 0) (F i 1) (F i 2) (F i 3) (F i 4) (F i 5) ∧ 0 ≤ F i 4 ∧ F i 4 < 4294967296)

theorem list6 {α : Type} {l : List α} (h : l.length = 6) : ∃ c0 c1 c2 c3 c4 c5, l = [c0, c1, c2, c3, c4, c5] := by
  match l, h with
  | [c0, c1, c2, c3, c4, c5], _ => exact ⟨c0, c1, c2, c3, c4, c5, rfl⟩

section
variable {H : Type} {enc : TypeId × Value → H} {P : Program} {w : World} {base : Nat} {spare : Nat → Bool} {held : Bool}

theorem open_sixes {t e : TypeId} {f0 f1 f2 f3 f4 f5 : Field} {fuel : Nat} {a : Option Addr} {len cap : Nat} {x : DataW H × List MemPlace} (ht : P.underlying t = some (.slice e)) (hs : P.underlying e = some (.struct #[f0, f1, f2, f3, f4, f5]))
    (ho : #[f0, f1, f2, f3, f4, f5].map (·.offset) = #[0, 1, 2, 3, 4, 5]) (hc : #[f0, f1, f2, f3, f4, f5].map (fun f => P.cellsOf f.type) = #[1, 1, 1, 1, 1, 1]) (hC : P.cellsOf e = 6)
    (u0 : P.underlying f0.type = some (.int .i64)) (u1 : P.underlying f1.type = some (.int .i64)) (u2 : P.underlying f2.type = some (.int .i64)) (u3 : P.underlying f3.type = some (.int .i64)) (u4 : P.underlying f4.type = some (.int .u32)) (u5 : P.underlying f5.type = some (.int .i64))
    (h : DataW.trod enc P w base spare held fuel t [.slice a len cap] = some x) : ∃ F, IsIns w a len F := by
  rcases DataW.trod_slice ht h with ⟨h0, _⟩ | ⟨a', len', cap', elems, rest, n, _, h0, _, hb, hl, hm, hlen, hel, _, _⟩
  · simp at h0
    exact ⟨fun _ _ => 0, by omega, .inl h0.2.1⟩
  · simp at h0
    obtain ⟨rfl, rfl, rfl⟩ := h0
    by_cases hz : len = 0
    · exact ⟨fun _ _ => 0, by omega, .inl hz⟩
    · obtain ⟨b, off, spot⟩ := a'
      have each : ∀ i, ∃ g : Nat → Int, i < len → w.cell? ((⟨b, off, spot⟩ : Addr).add (i * 6)) = some (.int .i64 (g 0)) ∧ w.cell? (((⟨b, off, spot⟩ : Addr).add (i * 6)).add 1) = some (.int .i64 (g 1)) ∧ w.cell? (((⟨b, off, spot⟩ : Addr).add (i * 6)).add 2) = some (.int .i64 (g 2)) ∧ w.cell? (((⟨b, off, spot⟩ : Addr).add (i * 6)).add 3) = some (.int .i64 (g 3)) ∧ w.cell? (((⟨b, off, spot⟩ : Addr).add (i * 6)).add 4) = some (.int .u32 (g 4)) ∧ w.cell? (((⟨b, off, spot⟩ : Addr).add (i * 6)).add 5) = some (.int .i64 (g 5)) ∧ (Lit.int .u32 (g 4)).wf = true := by
        intro i
        by_cases hi : i < len
        · have hy : elems[i]? = some (elems[i]'(by omega)) := List.getElem?_eq_getElem (by omega)
          have hb' := hel i hi
          rw [hy, hC, Option.bind_eq_some_iff] at hb'
          obtain ⟨cs', hcs, hy'⟩ := hb'
          obtain ⟨_, hl6, hcell⟩ := World.cells?_some hcs
          obtain ⟨c0, c1, c2, c3, c4, c5, rfl⟩ := list6 hl6
          obtain ⟨xs, m, _, _, _, hxl, hg⟩ := DataW.trod_struct hs hy'
          simp at ho hc
          obtain ⟨o0, o1, o2, o3, o4, o5⟩ := ho
          obtain ⟨q0, q1, q2, q3, q4, q5⟩ := hc
          have g0 := hg 0 f0 rfl
          have g1 := hg 1 f1 rfl
          have g2 := hg 2 f2 rfl
          have g3 := hg 3 f3 rfl
          have g4 := hg 4 f4 rfl
          have g5 := hg 5 f5 rfl
          have k0 := hcell 0 (by decide)
          have k1 := hcell 1 (by decide)
          have k2 := hcell 2 (by decide)
          have k3 := hcell 3 (by decide)
          have k4 := hcell 4 (by decide)
          have k5 := hcell 5 (by decide)
          match xs, hxl with
          | [y0, y1, y2, y3, y4, y5], _ =>
            simp [o0, q0] at g0
            simp [o1, q1] at g1
            simp [o2, q2] at g2
            simp [o3, q3] at g3
            simp [o4, q4] at g4
            simp [o5, q5] at g5
            obtain ⟨x0, e0, _, _⟩ := DataW.trod_int u0 g0
            obtain ⟨x1, e1, _, _⟩ := DataW.trod_int u1 g1
            obtain ⟨x2, e2, _, _⟩ := DataW.trod_int u2 g2
            obtain ⟨x3, e3, _, _⟩ := DataW.trod_int u3 g3
            obtain ⟨x4, e4, _, w4⟩ := DataW.trod_int u4 g4
            obtain ⟨x5, e5, _, _⟩ := DataW.trod_int u5 g5
            simp at e0 e1 e2 e3 e4 e5
            subst e0 e1 e2 e3 e4 e5
            refine ⟨fun j => [x0, x1, x2, x3, x4, x5].getD j 0, fun _ => ⟨?_, ?_, ?_, ?_, ?_, ?_, w4⟩⟩
            · rw [show (Addr.add (⟨b, off, spot⟩ : Addr) (i * 6)) = ((⟨b, off, spot⟩ : Addr).add (i * 6)).add 0 from by simp [Addr.add], k0]; rfl
            · rw [k1]; rfl
            · rw [k2]; rfl
            · rw [k3]; rfl
            · rw [k4]; rfl
            · rw [k5]; rfl
        · exact ⟨fun _ => 0, fun h => absurd h hi⟩
      obtain ⟨F, hF⟩ := Classical.skolem.1 each
      have hspot : spot = none := by
        have := World.cell?_spot (hF 0 (by omega)).1
        simpa [Addr.add] using this
      subst hspot
      refine ⟨F, by omega, .inr ⟨b, off, rfl, fun i hi => ?_⟩⟩
      obtain ⟨c0, c1, c2, c3, c4, c5, w4⟩ := hF i hi
      simp only [add_plain] at c0 c1 c2 c3 c4 c5
      have hb := bounds_u32 w4
      exact ⟨⟨c0, c1, c2, c3, c4, c5⟩, by omega, by omega⟩
end
end Go.Proofs.YtlceglloikamnaaDoor
