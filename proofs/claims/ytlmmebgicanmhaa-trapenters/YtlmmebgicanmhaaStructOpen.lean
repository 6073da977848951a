/- A struct of integers alone, by value, as an argument: its cells are they. -/
import Derived.Test.YtlmmebgicanmhaaFrame
namespace Go.Proofs.Ytlmmebgicanmhaa
open Go.ChangeShapes Go.WideShapes Go.ChangeAt Go.RowKit
set_option linter.unusedVariables false

section
variable {H : Type} {enc : TypeId × Value → H} {P : Program} {w : World} {base : Nat} {spare : Nat → Bool} {held : Bool}

/-- Fields of integers, a cell each. -/
def FieldsAre (P : Program) : Nat → List Field → List IntKind → Prop
  | _, [], [] => True
  | i, f :: fs, k :: ks => f.offset = i ∧ P.cellsOf f.type = 1 ∧ P.underlying f.type = some (.int k) ∧ FieldsAre P (i + 1) fs ks
  | _, _, _ => False
theorem fieldsAre_get : ∀ (fs : List Field) (ks : List IntKind) (j : Nat), FieldsAre P j fs ks → ∀ (i : Nat) (f : Field), fs[i]? = some f → f.offset = j + i ∧ P.cellsOf f.type = 1 ∧ ∃ k, ks[i]? = some k ∧ P.underlying f.type = some (.int k)
  | [], _, _, _, i, f, hf => by simp at hf
  | f0 :: fs, k :: ks, j, h, 0, f, hf => by
    obtain ⟨h1, h2, h3, _⟩ := h
    simp at hf; subst hf
    exact ⟨h1, h2, k, rfl, h3⟩
  | f0 :: fs, k :: ks, j, h, i + 1, f, hf => by
    obtain ⟨_, _, _, h4⟩ := h
    obtain ⟨a, b, k', c, d⟩ := fieldsAre_get fs ks (j + 1) h4 i f (by simpa using hf)
    exact ⟨by omega, b, k', by simpa using c, d⟩
  | _ :: _, [], _, h, _, _, _ => by cases h
theorem fields_of {fs : Array Field} {ks : List IntKind} (h : FieldsAre P 0 fs.toList ks) (i : Nat) (f : Field) (hf : fs[i]? = some f) : f.offset = i ∧ P.cellsOf f.type = 1 ∧ ∃ k, ks[i]? = some k ∧ P.underlying f.type = some (.int k) := by
  have := fieldsAre_get fs.toList ks 0 h i f (by simpa using hf)
  simpa using this

/-- A struct of integers alone: its cells are they. -/
theorem trod_ints {fuel : Nat} {t : TypeId} {fs : Array Field} {ks : List IntKind} {cs : List Value} {x : DataW H × List MemPlace} (hs : P.underlying t = some (.struct fs))
    (hn : fs.size = ks.length) (hC : P.cellsOf t = ks.length)
    (u : ∀ (i : Nat) (f : Field), fs[i]? = some f → f.offset = i ∧ P.cellsOf f.type = 1 ∧ ∃ k, ks[i]? = some k ∧ P.underlying f.type = some (.int k))
    (h : DataW.trod enc P w base spare held fuel t cs = some x) :
    cs.length = ks.length ∧ ∀ (i : Nat) (k : IntKind), ks[i]? = some k → ∃ n, cs[i]? = some (.int k n) ∧ (Lit.int k n).wf = true := by
  obtain ⟨xs, n, _, _, hl, hlen, hg⟩ := DataW.trod_struct hs h
  refine ⟨hl.trans hC, fun i k hk => ?_⟩
  have hi : i < ks.length := (List.getElem?_eq_some_iff.1 hk).1
  have hf : i < fs.size := by omega
  have g := hg i fs[i] (by simp [hf])
  obtain ⟨o, c, k', hk', hu⟩ := u i fs[i] (by simp [hf])
  obtain rfl := Option.some.inj (hk.symm.trans hk')
  rw [o, c] at g
  have hcs : i < cs.length := by omega
  rw [show (cs.drop i).take 1 = [cs[i]] from by rw [List.drop_eq_getElem_cons hcs]; rfl] at g
  have hx : i < xs.length := by omega
  rw [List.getElem?_eq_getElem hx] at g
  obtain ⟨m, e, _, wf⟩ := DataW.trod_int hu g
  simp at e
  exact ⟨m, by rw [List.getElem?_eq_getElem hcs, e], wf⟩

/-- A struct of integers alone, by value. -/
theorem open_struct {r : Reach} {b0 : Nat} {t : TypeId} {fs : Array Field} {ks : List IntKind} {v : Value} {d : DataW H} {p : List MemPlace} (hs : P.underlying t = some (.struct fs))
    (hn : fs.size = ks.length) (hC : P.cellsOf t = ks.length)
    (u : ∀ (i : Nat) (f : Field), fs[i]? = some f → f.offset = i ∧ P.cellsOf f.type = 1 ∧ ∃ k, ks[i]? = some k ∧ P.underlying f.type = some (.int k))
    (hv : Value.okWide P w r b0 t v) (h : DataW.Trod enc P w base spare held t v d p) :
    ∃ cs : List Value, v = .agg cs.toArray ∧ cs.length = ks.length ∧ ∀ (i : Nat) (k : IntKind), ks[i]? = some k → ∃ n, cs[i]? = some (.int k n) ∧ (Lit.int k n).wf = true := by
  obtain ⟨cs, rfl, hsz, _⟩ : ∃ cs, v = .agg cs ∧ cs.size = P.cellsOf t ∧ Row.okWide P w r b0 t cs := by
    simpa [Value.okWide, hs] using hv
  obtain ⟨fuel, hf⟩ := h
  obtain ⟨h1, h2⟩ := trod_ints hs hn hC u hf
  exact ⟨cs.toList, by simp, by simpa [Value.cells] using h1, by simpa [Value.cells] using h2⟩

end
end Go.Proofs.Ytlmmebgicanmhaa
