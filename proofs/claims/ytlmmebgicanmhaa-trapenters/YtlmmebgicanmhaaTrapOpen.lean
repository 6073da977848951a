/- Layer 17: the kept registers, and three words, as arguments by value. -/
import Derived.Test.YtlmmebgicanmhaaStructOpen
import Derived.Test.YtlmmebgicanmhaaTrapGo
namespace Go.Proofs.Ytlmmebgicanmhaa
open Go.ChangeShapes Go.WideShapes Go.ChangeAt Go.RowKit
set_option linter.unusedVariables false

section
variable {H : Type} {enc : TypeId × Value → H} {P : Program} {w : World} {base : Nat} {spare : Nat → Bool} {held : Bool}
theorem list7 {α : Type} {l : List α} (h : l.length = 7) : ∃ a b c d e f g, l = [a, b, c, d, e, f, g] := by
  match l, h with
  | [a, b, c, d, e, f, g], _ => exact ⟨a, b, c, d, e, f, g, rfl⟩

theorem open_csrs {r : Reach} {b0 : Nat} {t : TypeId} {fs : Array Field} {v : Value} {d : DataW H} {p : List MemPlace} (hs : P.underlying t = some (.struct fs))
    (hn : fs.size = 7) (hC : P.cellsOf t = 7)
    (u : ∀ (i : Nat) (f : Field), fs[i]? = some f → f.offset = i ∧ P.cellsOf f.type = 1 ∧ ∃ k, [IntKind.u32, .u32, .u32, .u32, .u32, .u32, .u32][i]? = some k ∧ P.underlying f.type = some (.int k))
    (hv : Value.okWide P w r b0 t v) (h : DataW.Trod enc P w base spare held t v d p) :
    ∃ K : Nat → Int, v = .agg #[.int .u32 (K 0), .int .u32 (K 1), .int .u32 (K 2), .int .u32 (K 3), .int .u32 (K 4), .int .u32 (K 5), .int .u32 (K 6)] ∧ KsB K := by
  obtain ⟨cs, rfl, hl, hc⟩ := open_struct (ks := [.u32, .u32, .u32, .u32, .u32, .u32, .u32]) hs hn hC u hv h
  obtain ⟨a0, a1, a2, a3, a4, a5, a6, rfl⟩ := list7 hl
  obtain ⟨n0, e0, w0⟩ := hc 0 .u32 rfl
  obtain ⟨n1, e1, w1⟩ := hc 1 .u32 rfl
  obtain ⟨n2, e2, w2⟩ := hc 2 .u32 rfl
  obtain ⟨n3, e3, w3⟩ := hc 3 .u32 rfl
  obtain ⟨n4, e4, w4⟩ := hc 4 .u32 rfl
  obtain ⟨n5, e5, w5⟩ := hc 5 .u32 rfl
  obtain ⟨n6, e6, w6⟩ := hc 6 .u32 rfl
  simp at e0 e1 e2 e3 e4 e5 e6
  subst e0 e1 e2 e3 e4 e5 e6
  have b0 := bounds_u32 w0
  have b1 := bounds_u32 w1
  have b2 := bounds_u32 w2
  have b3 := bounds_u32 w3
  have b4 := bounds_u32 w4
  have b5 := bounds_u32 w5
  have b6 := bounds_u32 w6
  refine ⟨fun j => [n0, n1, n2, n3, n4, n5, n6].getD j 0, rfl, fun j hj => ?_⟩
  match j, hj with
  | 0, _ => simp; omega
  | 1, _ => simp; omega
  | 2, _ => simp; omega
  | 3, _ => simp; omega
  | 4, _ => simp; omega
  | 5, _ => simp; omega
  | 6, _ => simp; omega

theorem open_three {r : Reach} {b0 : Nat} {t e : TypeId} {k : IntKind} {v : Value} {d : DataW H} {p : List MemPlace} (ht : P.underlying t = some (.array 3 e)) (he : P.underlying e = some (.int k)) (hc : P.cellsOf t = 3) (hce : P.cellsOf e = 1)
    (hv : Value.okWide P w r b0 t v) (h : DataW.Trod enc P w base spare held t v d p) :
    ∃ a b c : Int, v = .agg #[.int k a, .int k b, .int k c] ∧ (Lit.int k a).wf = true ∧ (Lit.int k b).wf = true ∧ (Lit.int k c).wf = true := by
  obtain ⟨cs, rfl, hsz, _⟩ : ∃ cs, v = .agg cs ∧ cs.size = P.cellsOf t ∧ Row.okWide P w r b0 t cs := by
    simpa [Value.okWide, ht] using hv
  rw [hc] at hsz
  obtain ⟨l⟩ := cs
  obtain ⟨c0, c1, c2, rfl⟩ : ∃ c0 c1 c2, l = [c0, c1, c2] := by
    match l, hsz with
    | [a, b, c], _ => exact ⟨a, b, c, rfl⟩
  obtain ⟨fuel, hf⟩ := h
  obtain ⟨xs, m, _, _, _, hl, hx⟩ := DataW.trod_array ht hf
  have g0 := hx 0 (by omega)
  have g1 := hx 1 (by omega)
  have g2 := hx 2 (by omega)
  match xs, hl with
  | [y0, y1, y2], _ =>
    simp [Value.cells, hce] at g0 g1 g2
    obtain ⟨x0, e0, _, w0⟩ := DataW.trod_int he g0
    obtain ⟨x1, e1, _, w1⟩ := DataW.trod_int he g1
    obtain ⟨x2, e2, _, w2⟩ := DataW.trod_int he g2
    simp at e0 e1 e2
    subst e0 e1 e2
    exact ⟨x0, x1, x2, rfl, w0, w1, w2⟩
end
end Go.Proofs.Ytlmmebgicanmhaa
