/- Layer 12: one step, done by both: what stands in memory. (By gen-constep.py.) -/
import Derived.Test.YtbhmpfjmhjdcaaaConRUp
import Derived.Test.YtbhmpfjmhjdcaaaConUp
import Derived.Test.YtbhmpfjmhjdcaaaConOpen
namespace Go.Proofs.Ytbhmpfjmhjdcaaa
open Go.RowKit
set_option linter.unusedVariables false

theorem Fr.mono {S S' : Nat → Prop} {w w' : World} (h : Fr S w w') (hs : ∀ k, S k → S' k) : Fr S' w w' := ⟨h.1, h.2.1, h.2.2.1, h.size, fun k hk hn => h.block hk (fun e => hn (hs k e))⟩
/-- A block that was made since. -/
theorem Fr.barNew {S : Nat → Prop} {P : Nat} {w W W' : World} (h : Fr S w W) (hb : Bar P W W') (hP : w.heap.size ≤ P) : Fr S w W' :=
  ⟨hb.1.trans h.1, hb.2.1.trans h.2.1, hb.2.2.1.trans h.2.2.1, Nat.le_trans h.size hb.size, fun k hk hn => by rw [hb.2.2.2.2 k (Nat.lt_of_lt_of_le hk h.size) (by omega)]; exact h.block hk hn⟩
theorem IsArr.fr {S : Nat → Prop} {w w' : World} {a : Option Addr} {len cap : Nat} {T Y : Nat → Int} (h : IsArr w a len cap T Y) (hf : Fr S w w') (hn : 0 < len → ∀ ad, a = some ad → ¬ S ad.block) : IsArr w' a len cap T Y := by
  refine ⟨h.1, ?_⟩
  rcases h.2 with h | h | ⟨b, off, ha, hc⟩
  · exact .inl h
  · exact .inr (.inl h)
  · by_cases h0 : len = 0
    · exact .inr (.inr ⟨b, off, ha, fun i hi => absurd hi (by omega)⟩)
    · exact .inr (.inr ⟨b, off, ha, hc.keep (fun hl => hf.block hl (hn (by omega) _ ha))⟩)

def Box4 (w : World) (A : Nat) (a b c d : Value) : Prop := w.heap[A]? = some (.cells #[a, b, c, d] 39 (0, 0))
theorem Box4.cells {w : World} {A : Nat} {a b c d : Value} (h : Box4 w A a b c d) : w.cell? ⟨A, 0, none⟩ = some a ∧ w.cell? ⟨A, 1, none⟩ = some b ∧ w.cell? ⟨A, 2, none⟩ = some c ∧ w.cell? ⟨A, 3, none⟩ = some d := by
  unfold Box4 at h
  simp [World.cell?, h]
/-- The three blocks of a step: the document's console, the step, the result. -/
def StB (W : World) (A : Nat) (a b c d e k r t x : Value) : Prop := Box5 W A a b c d e ∧ Box4 W (A + 1) k r t x ∧ Box5 W (A + 1 + 1) (.slice none 0 0) (.int .i64 0) (.slice none 0 0) (.bool false) (.slice none 0 0)
theorem StB.fr {S : Nat → Prop} {W W' : World} {A : Nat} {a b c d e k r t x : Value} (h : StB W A a b c d e k r t x) (hf : Fr S W W') (hS : ∀ k, S k → k < A) : StB W' A a b c d e k r t x := by
  obtain ⟨h1, h2, h3⟩ := h
  refine ⟨h1.fr hf (fun e => by have := hS _ e; omega), ?_, h3.fr hf (fun e => by have := hS _ e; omega)⟩
  unfold Box4 at *
  rw [hf.block (Array.getElem?_eq_some_iff.1 h2).1 (fun e => by have := hS _ e; omega)]; exact h2
theorem StB.on {W W' : World} {A : Nat} {a b c d e k r t x : Value} (h : StB W A a b c d e k r t x) (hb : Below W.heap.size W W') : StB W' A a b c d e k r t x := h.fr (S := fun _ => False) (Fr.of _ hb) (fun _ h => h.elim)
theorem StB.lt {W : World} {A : Nat} {a b c d e k r t x : Value} (h : StB W A a b c d e k r t x) : A + 1 + 1 < W.heap.size := (Array.getElem?_eq_some_iff.1 h.2.2).1

theorem st_start (w : World) (a b c d e k r t x : Value) :
    StB (((w.alloc (.cells #[a, b, c, d, e] 32)).alloc (.cells #[k, r, t, x] 39)).alloc zero5) w.heap.size a b c d e k r t x ∧
    Below w.heap.size w (((w.alloc (.cells #[a, b, c, d, e] 32)).alloc (.cells #[k, r, t, x] 39)).alloc zero5) ∧
    (((w.alloc (.cells #[a, b, c, d, e] 32)).alloc (.cells #[k, r, t, x] 39)).alloc zero5).heap.size = w.heap.size + 3 := by
  refine ⟨⟨?_, ?_, ?_⟩, (((Below.refl _ _).alloc (Nat.le_refl _) _).alloc (by simp) _).alloc (by simp; omega) _, by simp⟩
  · unfold Box5
    rw [heap_alloc_old _ _ (by simp; omega), heap_alloc_old _ _ (by simp)]
    exact heap_alloc_new _ _
  · unfold Box4
    rw [heap_alloc_old _ _ (by simp)]
    have := heap_alloc_new (w.alloc (.cells #[a, b, c, d, e] 32)) (.cells #[k, r, t, x] 39)
    simpa using this
  · unfold Box5
    have := heap_alloc_new ((w.alloc (.cells #[a, b, c, d, e] 32)).alloc (.cells #[k, r, t, x] 39)) zero5
    simpa [zero5] using this

/-- The blocks of S, and the result's. -/
def S3 (S : Nat → Prop) (w : World) (k : Nat) : Prop := S k ∨ k = w.heap.size + 1 + 1
/-- What a step leaves. -/
def StepOut (w : World) (R : Nat) (S : Nat → Prop) (a : Option Addr) (len cap : Nat) (T Y : Nat → Int) (m : Nat) (v' : Value) (w' : World) : Prop :=
  ∃ s' S', IsCon w' R S' len T Y s' ∧ RefC S' w' v' a len cap s' ∧ s'.m ≤ m + 1 ∧ Fr S w w' ∧ Ext w S S'
theorem step_fin {w W : World} {R : Nat} {S S' : Nat → Prop} {a : Option Addr} {len cap : Nat} {T Y : Nat → Int} {m : Nat} {s' : CS} {rx out : Value} (hc : IsCon W R S' len T Y s') (hr : RefC (S3 S' w) W (.agg #[.slice a len cap, .int .i64 (s'.c : Int), rx, .bool s'.ov, out]) a len cap s') (hm : s'.m ≤ m + 1)
    (hf : Fr S w W) (he : ∀ k, S' k → S k ∨ w.heap.size + 3 ≤ k) (hS : ∀ k, S k → k < w.heap.size) :
    StepOut w R S a len cap T Y m (.agg #[.slice a len cap, .int .i64 (s'.c : Int), rx, .bool s'.ov, out]) (((((W.setCell ⟨w.heap.size + 1 + 1, 0, none⟩ (.slice a len cap)).setCell ⟨w.heap.size + 1 + 1, 1, none⟩ (.int .i64 (s'.c : Int))).setCell ⟨w.heap.size + 1 + 1, 2, none⟩ rx).setCell ⟨w.heap.size + 1 + 1, 3, none⟩ (.bool s'.ov)).setCell ⟨w.heap.size + 1 + 1, 4, none⟩ out) := by
  have hb := bar5 (w.heap.size + 1 + 1) W (.slice a len cap) (.int .i64 (s'.c : Int)) rx (.bool s'.ov) out
  have hn : ¬ S' (w.heap.size + 1 + 1) := fun e => by
    rcases he _ e with h | h
    · have := hS _ h; omega
    · omega
  exact ⟨s', S', hc.bar hb hn, (hr.bar hb (.inr rfl)).more (fun k hk => .inl (.inl hk)), hm, hf.barNew hb (by omega), fun k hk => by rcases he k hk with h | h; exact .inl h; exact .inr (by omega)⟩
end Go.Proofs.Ytbhmpfjmhjdcaaa
