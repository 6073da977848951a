/- Layer 10: a slice of steps as an argument: its cells, five by five; the bytes of each. -/
import Derived.Test.YtcigceaadkjenaaDoorB1
import Derived.Test.YtcigceaadkjenaaDoorRamMath
namespace Go.Proofs.YtcigceaadkjenaaDoor
open Go.ChangeShapes Go.WideShapes Go.ChangeAt Go.RowKit
set_option linter.unusedVariables false

/-- A step as it came in. -/
structure St where
  kind : Int
  addr : Int
  n : Int
  x : Int
  sv : Option Addr
  sl : Nat
  sc : Nat
  f : Nat → Int

/-- The bytes of a step. -/
def SrcB (w : World) (s : St) : Prop := s.sl ≤ s.sc ∧ s.sl ≤ maxLen ∧ (s.sl = 0 ∨ ∃ b o, s.sv = some ⟨b, o, none⟩ ∧ ∀ i, i < s.sl → w.cell? ⟨b, o + i, none⟩ = some (.int .u8 (s.f i)) ∧ 0 ≤ s.f i ∧ s.f i < 256)
/-- Five cells of block B from o on: a step. -/
def StepC (w : World) (B o : Nat) (s : St) : Prop := w.cell? ⟨B, o, none⟩ = some (.int .i64 s.kind) ∧ w.cell? ⟨B, o + 1, none⟩ = some (.int .u32 s.addr) ∧ w.cell? ⟨B, o + 2, none⟩ = some (.int .i64 s.n) ∧ w.cell? ⟨B, o + 3, none⟩ = some (.int .u32 s.x) ∧ w.cell? ⟨B, o + 4, none⟩ = some (.slice s.sv s.sl s.sc)
def IsSteps (w : World) (a : Option Addr) (len : Nat) (F : Nat → St) : Prop :=
  len ≤ maxLen ∧ (len = 0 ∨ ∃ b off, a = some ⟨b, off, none⟩ ∧ ∀ i, i < len → StepC w b (off + i * 5) (F i) ∧ (0 ≤ (F i).addr ∧ (F i).addr < 4294967296 ∧ 0 ≤ (F i).x ∧ (F i).x < 4294967296) ∧ SrcB w (F i))

theorem list5 {α : Type} {l : List α} (h : l.length = 5) : ∃ c0 c1 c2 c3 c4, l = [c0, c1, c2, c3, c4] := by
  match l, h with
  | [c0, c1, c2, c3, c4], _ => exact ⟨c0, c1, c2, c3, c4, rfl⟩

section
variable {H : Type} {enc : TypeId × Value → H} {P : Program} {w : World} {base : Nat} {spare : Nat → Bool} {held : Bool}

theorem open_bytes {t e : TypeId} {fuel : Nat} {c : Value} {x : DataW H × List MemPlace} (ht : P.underlying t = some (.slice e)) (he : P.underlying e = some (.int .u8)) (hc : P.cellsOf e = 1)
    (h : DataW.trod enc P w base spare held fuel t [c] = some x) : ∃ (sv : Option Addr) (sl sc : Nat) (f : Nat → Int), c = .slice sv sl sc ∧ sl ≤ sc ∧ sl ≤ maxLen ∧ (sl = 0 ∨ ∃ b o, sv = some ⟨b, o, none⟩ ∧ ∀ i, i < sl → w.cell? ⟨b, o + i, none⟩ = some (.int .u8 (f i)) ∧ 0 ≤ f i ∧ f i < 256) := by
  rcases open_ints ht he hc h with ⟨hcs, _⟩ | ⟨a, l, k, zs, hcs, _, hl, hm, hz, _, hcell, hwz⟩
  · simp at hcs
    exact ⟨none, 0, 0, fun _ => 0, hcs, Nat.le_refl _, by unfold maxLen; omega, .inl rfl⟩
  · simp at hcs
    refine ⟨some a, l, k, fun i => zs.getD i 0, hcs, hl, by omega, ?_⟩
    by_cases h0 : l = 0
    · exact .inl h0
    · right
      have hzl : l ≤ zs.length := by rw [hz]; split <;> omega
      obtain ⟨b, o, spot⟩ := a
      have hspot : spot = none := by
        have := World.cell?_spot (hcell 0 (by omega))
        simpa [Addr.add] using this
      subst hspot
      refine ⟨b, o, rfl, fun i hi => ?_⟩
      have h1 := hcell i (by omega)
      rw [add_plain] at h1
      have h2 := range_u8 hwz i
      simp only [List.getD] at h1 ⊢
      exact ⟨h1, by omega, by omega⟩

theorem open_steps {t e e' : TypeId} {f0 f1 f2 f3 f4 : Field} {fuel : Nat} {a : Option Addr} {len cap : Nat} {x : DataW H × List MemPlace} (ht : P.underlying t = some (.slice e)) (hs : P.underlying e = some (.struct #[f0, f1, f2, f3, f4]))
    (ho : #[f0, f1, f2, f3, f4].map (·.offset) = #[0, 1, 2, 3, 4]) (hc : #[f0, f1, f2, f3, f4].map (fun f => P.cellsOf f.type) = #[1, 1, 1, 1, 1]) (hC : P.cellsOf e = 5)
    (u0 : P.underlying f0.type = some (.int .i64)) (u1 : P.underlying f1.type = some (.int .u32)) (u2 : P.underlying f2.type = some (.int .i64)) (u3 : P.underlying f3.type = some (.int .u32)) (u4 : P.underlying f4.type = some (.slice e')) (u5 : P.underlying e' = some (.int .u8)) (u6 : P.cellsOf e' = 1)
    (h : DataW.trod enc P w base spare held fuel t [.slice a len cap] = some x) : ∃ F, IsSteps w a len F := by
  rcases DataW.trod_slice ht h with ⟨h0, _⟩ | ⟨a', len', cap', elems, rest, n, _, h0, _, hb, hl, hm, hlen, hel, _, _⟩
  · simp at h0
    exact ⟨fun _ => ⟨0, 0, 0, 0, none, 0, 0, fun _ => 0⟩, by omega, .inl h0.2.1⟩
  · simp at h0
    obtain ⟨rfl, rfl, rfl⟩ := h0
    by_cases hz : len = 0
    · exact ⟨fun _ => ⟨0, 0, 0, 0, none, 0, 0, fun _ => 0⟩, by omega, .inl hz⟩
    · obtain ⟨b, off, spot⟩ := a'
      have each : ∀ i, ∃ s : St, i < len → w.cell? ((⟨b, off, spot⟩ : Addr).add (i * 5)) = some (.int .i64 s.kind) ∧ w.cell? (((⟨b, off, spot⟩ : Addr).add (i * 5)).add 1) = some (.int .u32 s.addr) ∧ w.cell? (((⟨b, off, spot⟩ : Addr).add (i * 5)).add 2) = some (.int .i64 s.n) ∧ w.cell? (((⟨b, off, spot⟩ : Addr).add (i * 5)).add 3) = some (.int .u32 s.x) ∧ w.cell? (((⟨b, off, spot⟩ : Addr).add (i * 5)).add 4) = some (.slice s.sv s.sl s.sc) ∧ (Lit.int .u32 s.addr).wf = true ∧ (Lit.int .u32 s.x).wf = true ∧ SrcB w s := by
        intro i
        by_cases hi : i < len
        · have hy : elems[i]? = some (elems[i]'(by omega)) := List.getElem?_eq_getElem (by omega)
          have hb' := hel i hi
          rw [hy, hC, Option.bind_eq_some_iff] at hb'
          obtain ⟨cs', hcs, hy'⟩ := hb'
          obtain ⟨_, hl5, hcell⟩ := World.cells?_some hcs
          obtain ⟨c0, c1, c2, c3, c4, rfl⟩ := list5 hl5
          obtain ⟨xs, m, _, _, _, hxl, hg⟩ := DataW.trod_struct hs hy'
          simp at ho hc
          obtain ⟨o0, o1, o2, o3, o4⟩ := ho
          obtain ⟨q0, q1, q2, q3, q4⟩ := hc
          have g0 := hg 0 f0 rfl
          have g1 := hg 1 f1 rfl
          have g2 := hg 2 f2 rfl
          have g3 := hg 3 f3 rfl
          have g4 := hg 4 f4 rfl
          have k0 := hcell 0 (by decide)
          have k1 := hcell 1 (by decide)
          have k2 := hcell 2 (by decide)
          have k3 := hcell 3 (by decide)
          have k4 := hcell 4 (by decide)
          match xs, hxl with
          | [y0, y1, y2, y3, y4], _ =>
            simp [o0, q0] at g0
            simp [o1, q1] at g1
            simp [o2, q2] at g2
            simp [o3, q3] at g3
            simp [o4, q4] at g4
            obtain ⟨x0, e0, _, _⟩ := DataW.trod_int u0 g0
            obtain ⟨x1, e1, _, w1⟩ := DataW.trod_int u1 g1
            obtain ⟨x2, e2, _, _⟩ := DataW.trod_int u2 g2
            obtain ⟨x3, e3, _, w3⟩ := DataW.trod_int u3 g3
            obtain ⟨sv, sl, sc, f, e4, s1, s2, s3⟩ := open_bytes u4 u5 u6 g4
            simp at e0 e1 e2 e3
            subst e0 e1 e2 e3 e4
            refine ⟨⟨x0, x1, x2, x3, sv, sl, sc, f⟩, fun _ => ⟨?_, ?_, ?_, ?_, ?_, w1, w3, s1, s2, s3⟩⟩
            · rw [show (Addr.add (⟨b, off, spot⟩ : Addr) (i * 5)) = ((⟨b, off, spot⟩ : Addr).add (i * 5)).add 0 from by simp [Addr.add], k0]; rfl
            · rw [k1]; rfl
            · rw [k2]; rfl
            · rw [k3]; rfl
            · rw [k4]; rfl
        · exact ⟨⟨0, 0, 0, 0, none, 0, 0, fun _ => 0⟩, fun h => absurd h hi⟩
      obtain ⟨F, hF⟩ := Classical.skolem.1 each
      have hspot : spot = none := by
        have := World.cell?_spot (hF 0 (by omega)).1
        simpa [Addr.add] using this
      subst hspot
      refine ⟨F, by omega, .inr ⟨b, off, rfl, fun i hi => ?_⟩⟩
      obtain ⟨c0, c1, c2, c3, c4, w1, w3, hsrc⟩ := hF i hi
      simp only [add_plain] at c0 c1 c2 c3 c4
      have hb1 := bounds_u32 w1
      have hb3 := bounds_u32 w3
      exact ⟨⟨c0, c1, c2, c3, c4⟩, ⟨by omega, by omega, by omega, by omega⟩, hsrc⟩
end
end Go.Proofs.YtcigceaadkjenaaDoor
