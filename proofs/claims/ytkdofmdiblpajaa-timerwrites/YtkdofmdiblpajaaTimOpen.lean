/- Layer 13: a timer as an argument, by value; what follows of Left, Skip and Write as numbers. -/
import Derived.Test.YtkdofmdiblpajaaFrame
import Derived.Test.YtkdofmdiblpajaaTimGo
import Derived.Test.YtkdofmdiblpajaaTimPut
namespace Go.Proofs.Ytkdofmdiblpajaa
open Go.ChangeShapes Go.WideShapes Go.ChangeAt Go.RowKit
set_option linter.unusedVariables false

theorem array3 {α : Type} {cs : Array α} (h : cs.size = 3) : ∃ c0 c1 c2, cs = #[c0, c1, c2] := by
  obtain ⟨l⟩ := cs
  match l, h with
  | [c0, c1, c2], _ => exact ⟨c0, c1, c2, rfl⟩

section
variable {H : Type} {enc : TypeId × Value → H} {P : Program} {w : World} {base : Nat} {spare : Nat → Bool} {held : Bool}

/-- A struct of two integers and a bool, by value. -/
theorem open_tim {r : Reach} {b0 : Nat} {t : TypeId} {f0 f1 f2 : Field} {k0 k1 : IntKind} {v : Value} {d : DataW H} {p : List MemPlace} (hs : P.underlying t = some (.struct #[f0, f1, f2]))
    (ho : #[f0, f1, f2].map (·.offset) = #[0, 1, 2]) (hc : #[f0, f1, f2].map (fun f => P.cellsOf f.type) = #[1, 1, 1]) (hC : P.cellsOf t = 3)
    (u0 : P.underlying f0.type = some (.int k0)) (u1 : P.underlying f1.type = some (.int k1)) (u2 : P.underlying f2.type = some .bool)
    (hv : Value.okWide P w r b0 t v) (h : DataW.Trod enc P w base spare held t v d p) :
    ∃ (a b : Int) (c : Bool), v = .agg #[.int k0 a, .int k1 b, .bool c] ∧ (Lit.int k0 a).wf = true ∧ (Lit.int k1 b).wf = true := by
  obtain ⟨cs, rfl, hsz, _⟩ : ∃ cs, v = .agg cs ∧ cs.size = P.cellsOf t ∧ Row.okWide P w r b0 t cs := by
    simpa [Value.okWide, hs] using hv
  obtain ⟨c0, c1, c2, rfl⟩ := array3 (hsz.trans hC)
  obtain ⟨fuel, hf⟩ := h
  obtain ⟨xs, n, _, _, hl, hlen, hg⟩ := DataW.trod_struct hs hf
  simp at ho hc
  obtain ⟨o0, o1, o2⟩ := ho
  obtain ⟨q0, q1, q2⟩ := hc
  have g0 := hg 0 f0 rfl
  have g1 := hg 1 f1 rfl
  have g2 := hg 2 f2 rfl
  match xs, hlen with
  | [y0, y1, y2], _ =>
    simp [Value.cells, o0, q0] at g0
    simp [Value.cells, o1, q1] at g1
    simp [Value.cells, o2, q2] at g2
    obtain ⟨x0, e0, _, w0⟩ := DataW.trod_int u0 g0
    obtain ⟨x1, e1, _, w1⟩ := DataW.trod_int u1 g1
    obtain ⟨x2, e2, _⟩ := DataW.trod_bool u2 g2
    simp at e0 e1 e2
    subst e0 e1 e2
    exact ⟨x0, x1, x2, rfl, w0, w1⟩
end

/-- Just then it is up. -/
theorem left_up {o m k : Int} (m0 : 0 ≤ m) (m1 : m < 18446744073709551616) (h : ¬ m ≤ nowZ o k) : upB o m (IntKind.u64.wrap (k + (m - nowZ o k))) = true := by
  unfold upB nowZ at *
  rw [IntKind.wrap_u64]
  apply decide_eq_true
  omega
/-- One tick ahead it is not. -/
theorem left_ahead {o m k : Int} (m0 : 0 ≤ m) (m1 : m < 18446744073709551616) (h : ¬ m ≤ nowZ o k) : upB o m (IntKind.u64.wrap (IntKind.u64.wrap (k + (m - nowZ o k)) - 1)) = false := by
  unfold upB nowZ at *
  rw [IntKind.wrap_u64, IntKind.wrap_u64]
  apply decide_eq_false
  omega
theorem skip_up {m k : Int} (m0 : 0 ≤ m) (m1 : m < 18446744073709551616) : upB (offZ m k) m k = true := by
  unfold upB
  rw [now_off m k m0 m1]
  exact decide_eq_true (Int.le_refl _)
/-- What was written is read, at that tick. -/
theorem read_write_soft (o m : Int) (s : Bool) (x k : Int) : readT (wO o 33554432 x k) (wM m 33554432 x) (wS s 33554432 x) 33554432 k = x % 2 := by
  show (if (x % 2 == 1) = true then (1 : Int) else 0) = x % 2
  by_cases h : x % 2 = 1
  · rw [if_pos (by simpa using h), h]
  · rw [if_neg (by simpa using h)]; omega
theorem read_write {o m : Int} {s : Bool} {a x k : Int} (ha : hasT a = true) (hs : a ≠ 33554432) (m0 : 0 ≤ m) (m1 : m < 18446744073709551616) (x0 : 0 ≤ x) (x1 : x < 4294967296) : readT (wO o a x k) (wM m a x) (wS s a x) a k = x := by
  have hn := nowZ_lt o k
  rcases hasT_yes ha with rfl | rfl | rfl | rfl | rfl
  · exact absurd rfl hs
  · show lowP m x % 4294967296 = x
    unfold lowP; omega
  · show highP m x / 4294967296 = x
    unfold highP; omega
  · show nowZ (offZ (lowP (nowZ o k) x) k) k % 4294967296 = x
    have h := lowP_lt hn.1 hn.2 x0 x1
    rw [now_off _ _ h.1 h.2]
    unfold lowP; omega
  · show nowZ (offZ (highP (nowZ o k) x) k) k / 4294967296 = x
    have h := highP_lt hn.1 hn.2 x0 x1
    rw [now_off _ _ h.1 h.2]
    unfold highP; omega
theorem wM_lt {m a x : Int} (m0 : 0 ≤ m) (m1 : m < 18446744073709551616) (x0 : 0 ≤ x) (x1 : x < 4294967296) : 0 ≤ wM m a x ∧ wM m a x < 18446744073709551616 := by
  unfold wM
  split
  · exact lowP_lt m0 m1 x0 x1
  · split
    · exact highP_lt m0 m1 x0 x1
    · exact ⟨m0, m1⟩
end Go.Proofs.Ytkdofmdiblpajaa
