/- A package-level table of structs of plain fields: what the walks may read of it. -/
import Derived.Test.YtibhlbggnkobeaaDoorLaid
namespace Go.Proofs.YtibhlbggnkobeaaDoor
open Go.ChangeShapes Go.WideShapes Go.ChangeAt Go.RowKit
set_option linter.unusedVariables false

/-- The data of a table: a row a struct. -/
def rowsData {H : Type} (rows : List (List Lit)) : DataW H := .agg (rows.map fun r => .agg (r.map .lit))

/-- A type of one plain cell. -/
def PlainT (P : Program) (t : TypeId) : Prop := P.underlying t = some .bool ∨ P.underlying t = some .string ∨ ∃ k, P.underlying t = some (.int k)

theorem cells_of_lit {H : Type} {enc : TypeId × Value → H} {P : Program} {w : World} {base : Nat} {sp : Nat → Bool} {held : Bool} {fuel : Nat} {t : TypeId} {cs : List Value} {l : Lit} {p : List MemPlace}
    (ht : PlainT P t) (h : DataW.trod enc P w base sp held fuel t cs = some (.lit l, p)) : cs = [l.value] := by
  rcases ht with ht | ht | ⟨k, ht⟩
  · obtain ⟨b, rfl, hx⟩ := DataW.trod_bool ht h
    simp only [Prod.mk.injEq, DataW.lit.injEq] at hx
    obtain ⟨rfl, _⟩ := hx
    rfl
  · obtain ⟨b, rfl, hx, _⟩ := DataW.trod_string ht h
    simp only [Prod.mk.injEq, DataW.lit.injEq] at hx
    obtain ⟨rfl, _⟩ := hx
    rfl
  · obtain ⟨b, rfl, hx, _⟩ := DataW.trod_int ht h
    simp only [Prod.mk.injEq, DataW.lit.injEq] at hx
    obtain ⟨rfl, _⟩ := hx
    rfl

theorem cells_of_rows {H : Type} {enc : TypeId × Value → H} {P : Program} {w : World} {base : Nat} {sp : Nat → Bool} {held : Bool} {fuel : Nat} {t e : TypeId} {n m : Nat} {fs : Array Field} {cs : List Value} {rows : List (List Lit)} {p : List MemPlace}
    (ht : P.underlying t = some (.array n e)) (he : P.underlying e = some (.struct fs)) (hce : P.cellsOf e = m) (hf : ∀ j, j < m → ∃ f, fs[j]? = some f ∧ f.offset = j ∧ P.cellsOf f.type = 1 ∧ PlainT P f.type)
    (h : DataW.trod enc P w base sp held fuel t cs = some (rowsData rows, p)) (i j : Nat) (r : List Lit) (l : Lit) (hr : rows[i]? = some r) (hl : r[j]? = some l) (hi : i < n) (hj : j < m) : cs[i * m + j]? = some l.value := by
  obtain ⟨xs, f1, _, hx, hcl, hxl, hx'⟩ := DataW.trod_array ht h
  have gi := hx' i hi
  have hxi : xs[i]? = some (xs[i]'(by omega)) := List.getElem?_eq_getElem (by omega)
  rw [hxi, hce] at gi
  have hd : (xs.map (·.1)) = rows.map fun r => (DataW.agg (r.map .lit) : DataW H) := by
    have := congrArg Prod.fst hx
    simpa [rowsData] using this.symm
  have hdi : (xs[i]'(by omega)).1 = DataW.agg (r.map .lit) := by
    have := congrArg (·[i]?) hd
    simpa [hxi, hr] using this
  generalize xs[i]'(by omega) = y at *
  obtain ⟨y1, y2⟩ := y
  simp only at hdi
  subst hdi
  obtain ⟨ys, f2, _, hy, hcl2, hyl, hy'⟩ := DataW.trod_struct he gi
  obtain ⟨f, hfj, ho, hc1, hp⟩ := hf j hj
  have gj := hy' j f hfj
  have hjl : j < ys.length := by
    rw [hyl]
    by_cases c : j < fs.size
    · exact c
    · rw [Array.getElem?_eq_none (by omega)] at hfj; cases hfj
  have hyj : ys[j]? = some (ys[j]'hjl) := List.getElem?_eq_getElem hjl
  rw [hyj, hc1, ho] at gj
  have hdj : (ys[j]'hjl).1 = DataW.lit l := by
    have := congrArg Prod.fst hy
    simp only [DataW.agg.injEq] at this
    have := congrArg (·[j]?) this
    simpa [hyj, hl] using this.symm
  generalize ys[j]'hjl = z at *
  obtain ⟨z1, z2⟩ := z
  simp only at hdj
  subst hdj
  have hc := cells_of_lit hp gj
  have := congrArg (·[0]?) hc
  simp only [List.getElem?_take, List.getElem?_drop] at this
  simpa [hj] using this
end Go.Proofs.YtibhlbggnkobeaaDoor
