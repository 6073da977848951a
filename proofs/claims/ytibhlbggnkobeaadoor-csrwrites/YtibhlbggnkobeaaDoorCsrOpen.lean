/- Layer 16: a file, what it is asked in, and a register with a word, as arguments by value. -/
import Derived.Test.YtibhlbggnkobeaaDoorFrame
import Derived.Test.YtibhlbggnkobeaaDoorCsrMath
namespace Go.Proofs.YtibhlbggnkobeaaDoor
open Go.ChangeShapes Go.WideShapes Go.ChangeAt Go.RowKit
set_option linter.unusedVariables false

section
variable {H : Type} {enc : TypeId × Value → H} {P : Program} {w : World} {base : Nat} {spare : Nat → Bool} {held : Bool}

/-- Fields of integers, a cell each. -/
def FieldsAre (P : Program) : Nat → List Field → List IntKind → Prop
  | _, [], [] => True
  | i, f :: fs, k :: ks => f.offset = i ∧ P.cellsOf f.type = 1 ∧ P.underlying f.type = some (.int k) ∧ FieldsAre P (i + 1) fs ks
  | _, _, _ => False
theorem fieldsAre_get : ∀ (fs : List Field) (ks : List IntKind) (j : Nat), FieldsAre P j fs ks → ∀ (i : Nat) (f : Field), fs[i]? = some f → f.offset = j + i ∧ P.cellsOf f.type = 1 ∧ ∃ k, ks[i]? = some k ∧ P.underlying f.type = some (.int k)
  | [], _, _, _, i, f, hf => by simp at hf
  | f0 :: fs, k :: ks, j, h, 0, f, hf => by
    obtain ⟨h1, h2, h3, _⟩ := h
    simp at hf; subst hf
    exact ⟨h1, h2, k, rfl, h3⟩
  | f0 :: fs, k :: ks, j, h, i + 1, f, hf => by
    obtain ⟨_, _, _, h4⟩ := h
    obtain ⟨a, b, k', c, d⟩ := fieldsAre_get fs ks (j + 1) h4 i f (by simpa using hf)
    exact ⟨by omega, b, k', by simpa using c, d⟩
  | _ :: _, [], _, h, _, _, _ => by cases h
theorem fields_of {fs : Array Field} {ks : List IntKind} (h : FieldsAre P 0 fs.toList ks) (i : Nat) (f : Field) (hf : fs[i]? = some f) : f.offset = i ∧ P.cellsOf f.type = 1 ∧ ∃ k, ks[i]? = some k ∧ P.underlying f.type = some (.int k) := by
  have := fieldsAre_get fs.toList ks 0 h i f (by simpa using hf)
  simpa using this

/-- A struct of integers alone: its cells are they. -/
theorem trod_ints {fuel : Nat} {t : TypeId} {fs : Array Field} {ks : List IntKind} {cs : List Value} {x : DataW H × List MemPlace} (hs : P.underlying t = some (.struct fs))
    (hn : fs.size = ks.length) (hC : P.cellsOf t = ks.length)
    (u : ∀ (i : Nat) (f : Field), fs[i]? = some f → f.offset = i ∧ P.cellsOf f.type = 1 ∧ ∃ k, ks[i]? = some k ∧ P.underlying f.type = some (.int k))
    (h : DataW.trod enc P w base spare held fuel t cs = some x) :
    cs.length = ks.length ∧ ∀ (i : Nat) (k : IntKind), ks[i]? = some k → ∃ n, cs[i]? = some (.int k n) ∧ (Lit.int k n).wf = true := by
  obtain ⟨xs, n, _, _, hl, hlen, hg⟩ := DataW.trod_struct hs h
  refine ⟨hl.trans hC, fun i k hk => ?_⟩
  have hi : i < ks.length := (List.getElem?_eq_some_iff.1 hk).1
  have hf : i < fs.size := by omega
  have g := hg i fs[i] (by simp [hf])
  obtain ⟨o, c, k', hk', hu⟩ := u i fs[i] (by simp [hf])
  obtain rfl := Option.some.inj (hk.symm.trans hk')
  rw [o, c] at g
  have hcs : i < cs.length := by omega
  rw [show (cs.drop i).take 1 = [cs[i]] from by rw [List.drop_eq_getElem_cons hcs]; rfl] at g
  have hx : i < xs.length := by omega
  rw [List.getElem?_eq_getElem hx] at g
  obtain ⟨m, e, _, wf⟩ := DataW.trod_int hu g
  simp at e
  exact ⟨m, by rw [List.getElem?_eq_getElem hcs, e], wf⟩

/-- A struct of integers alone, by value. -/
theorem open_struct {r : Reach} {b0 : Nat} {t : TypeId} {fs : Array Field} {ks : List IntKind} {v : Value} {d : DataW H} {p : List MemPlace} (hs : P.underlying t = some (.struct fs))
    (hn : fs.size = ks.length) (hC : P.cellsOf t = ks.length)
    (u : ∀ (i : Nat) (f : Field), fs[i]? = some f → f.offset = i ∧ P.cellsOf f.type = 1 ∧ ∃ k, ks[i]? = some k ∧ P.underlying f.type = some (.int k))
    (hv : Value.okWide P w r b0 t v) (h : DataW.Trod enc P w base spare held t v d p) :
    ∃ cs : List Value, v = .agg cs.toArray ∧ cs.length = ks.length ∧ ∀ (i : Nat) (k : IntKind), ks[i]? = some k → ∃ n, cs[i]? = some (.int k n) ∧ (Lit.int k n).wf = true := by
  obtain ⟨cs, rfl, hsz, _⟩ : ∃ cs, v = .agg cs ∧ cs.size = P.cellsOf t ∧ Row.okWide P w r b0 t cs := by
    simpa [Value.okWide, hs] using hv
  obtain ⟨fuel, hf⟩ := h
  obtain ⟨h1, h2⟩ := trod_ints hs hn hC u hf
  exact ⟨cs.toList, by simp, by simpa [Value.cells] using h1, by simpa [Value.cells] using h2⟩

theorem list2 {α : Type} {l : List α} (h : l.length = 2) : ∃ a b, l = [a, b] := by
  match l, h with
  | [a, b], _ => exact ⟨a, b, rfl⟩
theorem list4 {α : Type} {l : List α} (h : l.length = 4) : ∃ a b c d, l = [a, b, c, d] := by
  match l, h with
  | [a, b, c, d], _ => exact ⟨a, b, c, d, rfl⟩
theorem list9 {α : Type} {l : List α} (h : l.length = 9) : ∃ a b c d e f g i j, l = [a, b, c, d, e, f, g, i, j] := by
  match l, h with
  | [a, b, c, d, e, f, g, i, j], _ => exact ⟨a, b, c, d, e, f, g, i, j, rfl⟩

/-- What a file is asked in, by value. -/
theorem open_cenv {r : Reach} {b0 : Nat} {t : TypeId} {fs : Array Field} {v : Value} {d : DataW H} {p : List MemPlace} (hs : P.underlying t = some (.struct fs))
    (hn : fs.size = 4) (hC : P.cellsOf t = 4)
    (u : ∀ (i : Nat) (f : Field), fs[i]? = some f → f.offset = i ∧ P.cellsOf f.type = 1 ∧ ∃ k, [IntKind.u64, .u64, .u64, .u32][i]? = some k ∧ P.underlying f.type = some (.int k))
    (hv : Value.okWide P w r b0 t v) (h : DataW.Trod enc P w base spare held t v d p) :
    ∃ E : Nat → Int, v = .agg #[.int .u64 (E 0), .int .u64 (E 1), .int .u64 (E 2), .int .u32 (E 3)] ∧ EnvB E := by
  obtain ⟨cs, rfl, hl, hc⟩ := open_struct (ks := [.u64, .u64, .u64, .u32]) hs hn hC u hv h
  obtain ⟨a, b, c, e, rfl⟩ := list4 hl
  obtain ⟨n0, e0, w0⟩ := hc 0 .u64 rfl
  obtain ⟨n1, e1, w1⟩ := hc 1 .u64 rfl
  obtain ⟨n2, e2, w2⟩ := hc 2 .u64 rfl
  obtain ⟨n3, e3, w3⟩ := hc 3 .u32 rfl
  simp at e0 e1 e2 e3
  subst e0 e1 e2 e3
  have b0 := bounds_u64 w0
  have b1 := bounds_u64 w1
  have b2 := bounds_u64 w2
  have b3 := bounds_u32 w3
  refine ⟨fun j => [n0, n1, n2, n3].getD j 0, rfl, fun j hj => ?_, by simp; omega⟩
  match j, hj with
  | 0, _ => simp; omega
  | 1, _ => simp; omega
  | 2, _ => simp; omega

/-- A register and a word, by value. -/
theorem open_cword {r : Reach} {b0 : Nat} {t : TypeId} {fs : Array Field} {v : Value} {d : DataW H} {p : List MemPlace} (hs : P.underlying t = some (.struct fs))
    (hn : fs.size = 2) (hC : P.cellsOf t = 2)
    (u : ∀ (i : Nat) (f : Field), fs[i]? = some f → f.offset = i ∧ P.cellsOf f.type = 1 ∧ ∃ k, [IntKind.i64, .u32][i]? = some k ∧ P.underlying f.type = some (.int k))
    (hv : Value.okWide P w r b0 t v) (h : DataW.Trod enc P w base spare held t v d p) :
    ∃ c x : Int, v = .agg #[.int .i64 c, .int .u32 x] ∧ 0 ≤ x ∧ x < 4294967296 := by
  obtain ⟨cs, rfl, hl, hc⟩ := open_struct (ks := [.i64, .u32]) hs hn hC u hv h
  obtain ⟨a, b, rfl⟩ := list2 hl
  obtain ⟨n0, e0, w0⟩ := hc 0 .i64 rfl
  obtain ⟨n1, e1, w1⟩ := hc 1 .u32 rfl
  simp at e0 e1
  subst e0 e1
  have b1 := bounds_u32 w1
  exact ⟨n0, n1, rfl, by omega, by omega⟩

/-- A file, by value: a struct of seven, and two offsets. -/
theorem open_cfile {r : Reach} {b0 : Nat} {t : TypeId} {f0 f1 f2 : Field} {fs : Array Field} {v : Value} {d : DataW H} {p : List MemPlace} (hs : P.underlying t = some (.struct #[f0, f1, f2]))
    (ho : #[f0, f1, f2].map (·.offset) = #[0, 7, 8]) (hc : #[f0, f1, f2].map (fun f => P.cellsOf f.type) = #[7, 1, 1]) (hC : P.cellsOf t = 9)
    (u1 : P.underlying f1.type = some (.int .u64)) (u2 : P.underlying f2.type = some (.int .u64))
    (hs0 : P.underlying f0.type = some (.struct fs)) (hn0 : fs.size = 7)
    (u0 : ∀ (i : Nat) (f : Field), fs[i]? = some f → f.offset = i ∧ P.cellsOf f.type = 1 ∧ ∃ k, [IntKind.u32, .u32, .u32, .u32, .u32, .u32, .u32][i]? = some k ∧ P.underlying f.type = some (.int k))
    (hv : Value.okWide P w r b0 t v) (h : DataW.Trod enc P w base spare held t v d p) :
    ∃ K : Nat → Int, v = .agg #[.int .u32 (K 0), .int .u32 (K 1), .int .u32 (K 2), .int .u32 (K 3), .int .u32 (K 4), .int .u32 (K 5), .int .u32 (K 6), .int .u64 (K 7), .int .u64 (K 8)] ∧ FileB K := by
  obtain ⟨cs, rfl, hsz, _⟩ : ∃ cs, v = .agg cs ∧ cs.size = P.cellsOf t ∧ Row.okWide P w r b0 t cs := by
    simpa [Value.okWide, hs] using hv
  obtain ⟨l⟩ := cs
  obtain ⟨c0, c1, c2, c3, c4, c5, c6, c7, c8, rfl⟩ := list9 (l := l) (by simpa using hsz.trans hC)
  obtain ⟨fuel, hf⟩ := h
  obtain ⟨xs, n, _, _, hl, hlen, hg⟩ := DataW.trod_struct hs hf
  simp at ho hc
  obtain ⟨o0, o1, o2⟩ := ho
  obtain ⟨q0, q1, q2⟩ := hc
  have g0 := hg 0 f0 rfl
  have g1 := hg 1 f1 rfl
  have g2 := hg 2 f2 rfl
  match xs, hlen with
  | [y0, y1, y2], _ =>
    simp [Value.cells, o0, q0] at g0
    simp [Value.cells, o1, q1] at g1
    simp [Value.cells, o2, q2] at g2
    obtain ⟨_, hcells⟩ := trod_ints (ks := [.u32, .u32, .u32, .u32, .u32, .u32, .u32]) hs0 hn0 q0 u0 g0
    obtain ⟨n0, e0, w0⟩ := hcells 0 .u32 rfl
    obtain ⟨n1, e1, w1⟩ := hcells 1 .u32 rfl
    obtain ⟨n2, e2, w2⟩ := hcells 2 .u32 rfl
    obtain ⟨n3, e3, w3⟩ := hcells 3 .u32 rfl
    obtain ⟨n4, e4, w4⟩ := hcells 4 .u32 rfl
    obtain ⟨n5, e5, w5⟩ := hcells 5 .u32 rfl
    obtain ⟨n6, e6, w6⟩ := hcells 6 .u32 rfl
    obtain ⟨n7, e7, _, w7⟩ := DataW.trod_int u1 g1
    obtain ⟨n8, e8, _, w8⟩ := DataW.trod_int u2 g2
    simp at e0 e1 e2 e3 e4 e5 e6 e7 e8
    subst e0 e1 e2 e3 e4 e5 e6 e7 e8
    have b0 := bounds_u32 w0
    have b1 := bounds_u32 w1
    have b2 := bounds_u32 w2
    have b3 := bounds_u32 w3
    have b4 := bounds_u32 w4
    have b5 := bounds_u32 w5
    have b6 := bounds_u32 w6
    have b7 := bounds_u64 w7
    have b8 := bounds_u64 w8
    refine ⟨fun j => [n0, n1, n2, n3, n4, n5, n6, n7, n8].getD j 0, rfl, fun j hj => ?_, fun j h7 h9 => ?_⟩
    · match j, hj with
      | 0, _ => simp; omega
      | 1, _ => simp; omega
      | 2, _ => simp; omega
      | 3, _ => simp; omega
      | 4, _ => simp; omega
      | 5, _ => simp; omega
      | 6, _ => simp; omega
    · have : j = 7 ∨ j = 8 := by omega
      rcases this with rfl | rfl
      · simp; omega
      · simp; omega
end
end Go.Proofs.YtibhlbggnkobeaaDoor
