/- Layer 12: arrivals, and steps, as arguments. -/
import Derived.Test.YtbhmpfjmhjdcaaaFrame
import Derived.Test.YtbhmpfjmhjdcaaaConMem
namespace Go.Proofs.Ytbhmpfjmhjdcaaa
open Go.ChangeShapes Go.WideShapes Go.ChangeAt Go.RowKit
set_option linter.unusedVariables false

/-- A step as it came in. -/
structure Sp where
  kind : Int
  reg : Int
  tick : Int
  x : Int
def Sp4 (w : World) (B o : Nat) (s : Sp) : Prop := w.cell? ⟨B, o, none⟩ = some (.int .i64 s.kind) ∧ w.cell? ⟨B, o + 1, none⟩ = some (.int .i64 s.reg) ∧ w.cell? ⟨B, o + 2, none⟩ = some (.int .u64 s.tick) ∧ w.cell? ⟨B, o + 3, none⟩ = some (.int .u32 s.x)
def IsSps (w : World) (a : Option Addr) (len : Nat) (F : Nat → Sp) : Prop :=
  len ≤ maxLen ∧ (len = 0 ∨ ∃ b off, a = some ⟨b, off, none⟩ ∧ ∀ i, i < len → Sp4 w b (off + i * 4) (F i) ∧ 0 ≤ (F i).x ∧ (F i).x < 4294967296)

theorem list2 {α : Type} {l : List α} (h : l.length = 2) : ∃ c0 c1, l = [c0, c1] := by
  match l, h with
  | [c0, c1], _ => exact ⟨c0, c1, rfl⟩
theorem list4 {α : Type} {l : List α} (h : l.length = 4) : ∃ c0 c1 c2 c3, l = [c0, c1, c2, c3] := by
  match l, h with
  | [c0, c1, c2, c3], _ => exact ⟨c0, c1, c2, c3, rfl⟩

section
variable {H : Type} {enc : TypeId × Value → H} {P : Program} {w : World} {base : Nat} {spare : Nat → Bool} {held : Bool}

theorem open_arrs {t e : TypeId} {f0 f1 : Field} {fuel : Nat} {a : Option Addr} {len cap : Nat} {x : DataW H × List MemPlace} (ht : P.underlying t = some (.slice e)) (hs : P.underlying e = some (.struct #[f0, f1]))
    (ho : #[f0, f1].map (·.offset) = #[0, 1]) (hc : #[f0, f1].map (fun f => P.cellsOf f.type) = #[1, 1]) (hC : P.cellsOf e = 2)
    (u0 : P.underlying f0.type = some (.int .u64)) (u1 : P.underlying f1.type = some (.int .u8))
    (h : DataW.trod enc P w base spare held fuel t [.slice a len cap] = some x) : ∃ T Y, IsArr w a len cap T Y := by
  rcases DataW.trod_slice ht h with ⟨h0, _⟩ | ⟨a', len', cap', elems, rest, n, _, h0, _, hb, hl, hm, hlen, hel, _, _⟩
  · simp at h0
    exact ⟨fun _ => 0, fun _ => 0, by omega, .inl ⟨h0.1, h0.2.1, h0.2.2⟩⟩
  · simp at h0
    obtain ⟨rfl, rfl, rfl⟩ := h0
    by_cases hz : len = 0
    · exact ⟨fun _ => 0, fun _ => 0, by omega, .inr (.inl ⟨hz, _, rfl⟩)⟩
    · obtain ⟨b, off, spot⟩ := a'
      have each : ∀ i, ∃ s : Int × Int, i < len → w.cell? ((⟨b, off, spot⟩ : Addr).add (i * 2)) = some (.int .u64 s.1) ∧ w.cell? (((⟨b, off, spot⟩ : Addr).add (i * 2)).add 1) = some (.int .u8 s.2) := by
        intro i
        by_cases hi : i < len
        · have hy : elems[i]? = some (elems[i]'(by omega)) := List.getElem?_eq_getElem (by omega)
          have hb' := hel i hi
          rw [hy, hC, Option.bind_eq_some_iff] at hb'
          obtain ⟨cs', hcs, hy'⟩ := hb'
          obtain ⟨_, hl5, hcell⟩ := World.cells?_some hcs
          obtain ⟨c0, c1, rfl⟩ := list2 hl5
          obtain ⟨xs, m, _, _, _, hxl, hg⟩ := DataW.trod_struct hs hy'
          simp at ho hc
          obtain ⟨o0, o1⟩ := ho
          obtain ⟨q0, q1⟩ := hc
          have g0 := hg 0 f0 rfl
          have g1 := hg 1 f1 rfl
          have k0 := hcell 0 (by decide)
          have k1 := hcell 1 (by decide)
          match xs, hxl with
          | [y0, y1], _ =>
            simp [o0, q0] at g0
            simp [o1, q1] at g1
            obtain ⟨x0, e0, _, _⟩ := DataW.trod_int u0 g0
            obtain ⟨x1, e1, _, _⟩ := DataW.trod_int u1 g1
            simp at e0 e1
            subst e0 e1
            refine ⟨(x0, x1), fun _ => ⟨?_, ?_⟩⟩
            · rw [show (Addr.add (⟨b, off, spot⟩ : Addr) (i * 2)) = ((⟨b, off, spot⟩ : Addr).add (i * 2)).add 0 from by simp [Addr.add], k0]; rfl
            · rw [k1]; rfl
        · exact ⟨(0, 0), fun h => absurd h hi⟩
      obtain ⟨F, hF⟩ := Classical.skolem.1 each
      have hspot : spot = none := by
        have := World.cell?_spot (hF 0 (by omega)).1
        simpa [Addr.add] using this
      subst hspot
      refine ⟨fun i => (F i).1, fun i => (F i).2, by omega, .inr (.inr ⟨b, off, rfl, fun i hi => ?_⟩)⟩
      obtain ⟨c0, c1⟩ := hF i hi
      simp only [add_plain] at c0 c1
      exact ⟨c0, c1⟩

theorem open_sps {t e : TypeId} {f0 f1 f2 f3 : Field} {fuel : Nat} {a : Option Addr} {len cap : Nat} {x : DataW H × List MemPlace} (ht : P.underlying t = some (.slice e)) (hs : P.underlying e = some (.struct #[f0, f1, f2, f3]))
    (ho : #[f0, f1, f2, f3].map (·.offset) = #[0, 1, 2, 3]) (hc : #[f0, f1, f2, f3].map (fun f => P.cellsOf f.type) = #[1, 1, 1, 1]) (hC : P.cellsOf e = 4)
    (u0 : P.underlying f0.type = some (.int .i64)) (u1 : P.underlying f1.type = some (.int .i64)) (u2 : P.underlying f2.type = some (.int .u64)) (u3 : P.underlying f3.type = some (.int .u32))
    (h : DataW.trod enc P w base spare held fuel t [.slice a len cap] = some x) : ∃ F, IsSps w a len F := by
  rcases DataW.trod_slice ht h with ⟨h0, _⟩ | ⟨a', len', cap', elems, rest, n, _, h0, _, hb, hl, hm, hlen, hel, _, _⟩
  · simp at h0
    exact ⟨fun _ => ⟨0, 0, 0, 0⟩, by omega, .inl h0.2.1⟩
  · simp at h0
    obtain ⟨rfl, rfl, rfl⟩ := h0
    by_cases hz : len = 0
    · exact ⟨fun _ => ⟨0, 0, 0, 0⟩, by omega, .inl hz⟩
    · obtain ⟨b, off, spot⟩ := a'
      have each : ∀ i, ∃ s : Sp, i < len → w.cell? ((⟨b, off, spot⟩ : Addr).add (i * 4)) = some (.int .i64 s.kind) ∧ w.cell? (((⟨b, off, spot⟩ : Addr).add (i * 4)).add 1) = some (.int .i64 s.reg) ∧ w.cell? (((⟨b, off, spot⟩ : Addr).add (i * 4)).add 2) = some (.int .u64 s.tick) ∧ w.cell? (((⟨b, off, spot⟩ : Addr).add (i * 4)).add 3) = some (.int .u32 s.x) ∧ (Lit.int .u32 s.x).wf = true := by
        intro i
        by_cases hi : i < len
        · have hy : elems[i]? = some (elems[i]'(by omega)) := List.getElem?_eq_getElem (by omega)
          have hb' := hel i hi
          rw [hy, hC, Option.bind_eq_some_iff] at hb'
          obtain ⟨cs', hcs, hy'⟩ := hb'
          obtain ⟨_, hl5, hcell⟩ := World.cells?_some hcs
          obtain ⟨c0, c1, c2, c3, rfl⟩ := list4 hl5
          obtain ⟨xs, m, _, _, _, hxl, hg⟩ := DataW.trod_struct hs hy'
          simp at ho hc
          obtain ⟨o0, o1, o2, o3⟩ := ho
          obtain ⟨q0, q1, q2, q3⟩ := hc
          have g0 := hg 0 f0 rfl
          have g1 := hg 1 f1 rfl
          have g2 := hg 2 f2 rfl
          have g3 := hg 3 f3 rfl
          have k0 := hcell 0 (by decide)
          have k1 := hcell 1 (by decide)
          have k2 := hcell 2 (by decide)
          have k3 := hcell 3 (by decide)
          match xs, hxl with
          | [y0, y1, y2, y3], _ =>
            simp [o0, q0] at g0
            simp [o1, q1] at g1
            simp [o2, q2] at g2
            simp [o3, q3] at g3
            obtain ⟨x0, e0, _, _⟩ := DataW.trod_int u0 g0
            obtain ⟨x1, e1, _, _⟩ := DataW.trod_int u1 g1
            obtain ⟨x2, e2, _, _⟩ := DataW.trod_int u2 g2
            obtain ⟨x3, e3, _, w3⟩ := DataW.trod_int u3 g3
            simp at e0 e1 e2 e3
            subst e0 e1 e2 e3
            refine ⟨⟨x0, x1, x2, x3⟩, fun _ => ⟨?_, ?_, ?_, ?_, w3⟩⟩
            · rw [show (Addr.add (⟨b, off, spot⟩ : Addr) (i * 4)) = ((⟨b, off, spot⟩ : Addr).add (i * 4)).add 0 from by simp [Addr.add], k0]; rfl
            · rw [k1]; rfl
            · rw [k2]; rfl
            · rw [k3]; rfl
        · exact ⟨⟨0, 0, 0, 0⟩, fun h => absurd h hi⟩
      obtain ⟨F, hF⟩ := Classical.skolem.1 each
      have hspot : spot = none := by
        have := World.cell?_spot (hF 0 (by omega)).1
        simpa [Addr.add] using this
      subst hspot
      refine ⟨F, by omega, .inr ⟨b, off, rfl, fun i hi => ?_⟩⟩
      obtain ⟨c0, c1, c2, c3, w3⟩ := hF i hi
      simp only [add_plain] at c0 c1 c2 c3
      have hb3 := bounds_u32 w3
      exact ⟨⟨c0, c1, c2, c3⟩, by omega, by omega⟩
end
end Go.Proofs.Ytbhmpfjmhjdcaaa
