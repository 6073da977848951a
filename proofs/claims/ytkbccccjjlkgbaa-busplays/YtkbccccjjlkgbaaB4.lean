/- My texts BusRef, BusRB, BusGo, BusLoad, BusStore, BusCalls, TimOpen, ConUp, ConRUp, BusStepC, bound into one. -/
import Derived.Test.YtkbccccjjlkgbaaB3
import Derived.Test.YtkbccccjjlkgbaaB1
import Derived.Test.YtkbccccjjlkgbaaB2
/- Layer 14, the document's side: its bus as a value of eleven cells; Calls. -/
namespace Go.Proofs.Ytkbccccjjlkgbaa
open Go.RowKit
set_option linter.unusedVariables false
set_option linter.unusedSimpArgs false
set_option maxRecDepth 100000

/-- The document's bus in a block Z. -/
def BoxB (w : World) (Z : Nat) (c0 c1 c2 c3 c4 c5 c6 c7 c8 c9 c10 : Value) : Prop := w.heap[Z]? = some (.cells #[c0, c1, c2, c3, c4, c5, c6, c7, c8, c9, c10] 39 (0, 0))
section
variable {w w' : World} {Z : Nat} {c0 c1 c2 c3 c4 c5 c6 c7 c8 c9 c10 : Value}
theorem BoxB.cells (h : BoxB w Z c0 c1 c2 c3 c4 c5 c6 c7 c8 c9 c10) :
    w.cell? ⟨Z, 0, none⟩ = some c0 ∧ w.cell? ⟨Z, 1, none⟩ = some c1 ∧ w.cell? ⟨Z, 2, none⟩ = some c2 ∧ w.cell? ⟨Z, 3, none⟩ = some c3 ∧ w.cell? ⟨Z, 4, none⟩ = some c4 ∧ w.cell? ⟨Z, 5, none⟩ = some c5 ∧ w.cell? ⟨Z, 6, none⟩ = some c6 ∧ w.cell? ⟨Z, 7, none⟩ = some c7 ∧ w.cell? ⟨Z, 8, none⟩ = some c8 ∧ w.cell? ⟨Z, 9, none⟩ = some c9 ∧ w.cell? ⟨Z, 10, none⟩ = some c10 := by
  unfold BoxB at h
  simp [World.cell?, h]
theorem BoxB.free (h : BoxB w Z c0 c1 c2 c3 c4 c5 c6 c7 c8 c9 c10) :
    w.frozen? ⟨Z, 0, none⟩ = false ∧ w.frozen? ⟨Z, 1, none⟩ = false ∧ w.frozen? ⟨Z, 2, none⟩ = false ∧ w.frozen? ⟨Z, 3, none⟩ = false ∧ w.frozen? ⟨Z, 4, none⟩ = false ∧ w.frozen? ⟨Z, 5, none⟩ = false ∧ w.frozen? ⟨Z, 6, none⟩ = false ∧ w.frozen? ⟨Z, 7, none⟩ = false ∧ w.frozen? ⟨Z, 8, none⟩ = false ∧ w.frozen? ⟨Z, 9, none⟩ = false ∧ w.frozen? ⟨Z, 10, none⟩ = false := by
  unfold BoxB at h
  simp [World.frozen?, h]
theorem BoxB.lt (h : BoxB w Z c0 c1 c2 c3 c4 c5 c6 c7 c8 c9 c10) : Z < w.heap.size := (Array.getElem?_eq_some_iff.1 h).1
theorem BoxB.keep (h : BoxB w Z c0 c1 c2 c3 c4 c5 c6 c7 c8 c9 c10) (hb : w'.heap[Z]? = w.heap[Z]?) : BoxB w' Z c0 c1 c2 c3 c4 c5 c6 c7 c8 c9 c10 := by unfold BoxB; rw [hb]; exact h
theorem BoxB.on (h : BoxB w Z c0 c1 c2 c3 c4 c5 c6 c7 c8 c9 c10) (hb : Below w.heap.size w w') : BoxB w' Z c0 c1 c2 c3 c4 c5 c6 c7 c8 c9 c10 := h.keep (hb.block Z h.lt)
theorem BoxB.bar {P : Nat} (h : BoxB w Z c0 c1 c2 c3 c4 c5 c6 c7 c8 c9 c10) (hb : Bar P w w') (hP : Z ≠ P) : BoxB w' Z c0 c1 c2 c3 c4 c5 c6 c7 c8 c9 c10 := h.keep (hb.2.2.2.2 Z h.lt hP)
theorem BoxB.fr {S : Nat → Prop} (h : BoxB w Z c0 c1 c2 c3 c4 c5 c6 c7 c8 c9 c10) (hb : Fr S w w') (hP : ¬ S Z) : BoxB w' Z c0 c1 c2 c3 c4 c5 c6 c7 c8 c9 c10 := h.keep (hb.block h.lt hP)
end
theorem boxB_new (w : World) (c0 c1 c2 c3 c4 c5 c6 c7 c8 c9 c10 : Value) : BoxB (w.alloc (.cells #[c0, c1, c2, c3, c4, c5, c6, c7, c8, c9, c10] 39)) w.heap.size c0 c1 c2 c3 c4 c5 c6 c7 c8 c9 c10 := heap_alloc_new _ _

/-- The document's memory: a row of its own, away from S. -/
def RowV (S : Nat → Prop) (w : World) (v : Value) (K : Nat) (b : Nat → Int) : Prop := ∃ Z cap, v = .slice (some ⟨Z, 0, none⟩) (64 * K) cap ∧ 64 * K ≤ cap ∧ ¬ S Z ∧ Z < w.heap.size ∧ RowB w Z (64 * K) b
section
variable {S S' : Nat → Prop} {w w' : World} {v : Value} {K P : Nat} {b : Nat → Int}
theorem RowV.on (h : RowV S w v K b) (hb : Below w.heap.size w w') : RowV S w' v K b := by
  obtain ⟨Z, cap, hv, hc, hS, hl, h⟩ := h
  exact ⟨Z, cap, hv, hc, hS, Nat.lt_of_lt_of_le hl hb.size, h.on hb⟩
theorem RowV.bar (h : RowV S w v K b) (hb : Bar P w w') (hP : S P) : RowV S w' v K b := by
  obtain ⟨Z, cap, hv, hc, hS, hl, h⟩ := h
  exact ⟨Z, cap, hv, hc, hS, Nat.lt_of_lt_of_le hl hb.size, h.bar hb (fun e => hS (e ▸ hP))⟩
theorem RowV.step (h : RowV S w v K b) (hf : Fr S w w') (he : Ext w S S') : RowV S' w' v K b := by
  obtain ⟨Z, cap, hv, hc, hS, hl, h⟩ := h
  refine ⟨Z, cap, hv, hc, fun e => ?_, Nat.lt_of_lt_of_le hl hf.size, fun i hi => hf.cell hS (h i hi)⟩
  rcases he Z e with h1 | h1
  · exact hS h1
  · omega
theorem RowV.more (h : RowV S w v K b) (he : ∀ k, S' k → S k ∨ w.heap.size ≤ k) : RowV S' w v K b := by
  obtain ⟨Z, cap, hv, hc, hS, hl, h⟩ := h
  refine ⟨Z, cap, hv, hc, fun e => ?_, hl, h⟩
  rcases he Z e with h1 | h1
  · exact hS h1
  · omega
end

/-- The document's bus as a value. -/
def RefB (S : Nat → Prop) (w : World) (v : Value) (a : Option Addr) (len cap K : Nat) (x : BS) : Prop :=
  ∃ mv rx out, v = .agg #[mv, .slice a len cap, .int .i64 (x.s.c : Int), rx, .bool x.s.ov, out, .int .u64 x.o, .int .u64 x.m, .bool x.sf, .bool x.off, .int .u32 x.code] ∧ RowV S w mv K x.b ∧ BsV S w rx x.s.n x.s.f ∧ BsV S w out x.s.m x.s.g
section
variable {S S' : Nat → Prop} {w w' : World} {v : Value} {a : Option Addr} {len cap K P : Nat} {x : BS}
theorem RefB.on (h : RefB S w v a len cap K x) (hb : Below w.heap.size w w') : RefB S w' v a len cap K x := by
  obtain ⟨mv, rx, out, hv, h0, h1, h2⟩ := h
  exact ⟨mv, rx, out, hv, h0.on hb, h1.on hb, h2.on hb⟩
theorem RefB.bar (h : RefB S w v a len cap K x) (hb : Bar P w w') (hP : S P) : RefB S w' v a len cap K x := by
  obtain ⟨mv, rx, out, hv, h0, h1, h2⟩ := h
  exact ⟨mv, rx, out, hv, h0.bar hb hP, h1.bar hb hP, h2.bar hb hP⟩
theorem RefB.step (h : RefB S w v a len cap K x) (hf : Fr S w w') (he : Ext w S S') : RefB S' w' v a len cap K x := by
  obtain ⟨mv, rx, out, hv, h0, h1, h2⟩ := h
  exact ⟨mv, rx, out, hv, h0.step hf he, h1.step hf he, h2.step hf he⟩
theorem RefB.more (h : RefB S w v a len cap K x) (he : ∀ k, S' k → S k ∨ w.heap.size ≤ k) : RefB S' w v a len cap K x := by
  obtain ⟨mv, rx, out, hv, h0, h1, h2⟩ := h
  exact ⟨mv, rx, out, hv, h0.more he, h1.more he, h2.more he⟩
theorem RefB.con (h : RefB S w v a len cap K x) : ∃ rx out, RefC S w (.agg #[.slice a len cap, .int .i64 (x.s.c : Int), rx, .bool x.s.ov, out]) a len cap x.s := by
  obtain ⟨mv, rx, out, hv, h0, h1, h2⟩ := h
  exact ⟨rx, out, rx, out, rfl, h1, h2⟩
end

set_option maxHeartbeats 1600000 in
theorem rcalls14_any {S : Nat → Prop} {v : Value} {a : Option Addr} {len cap K : Nat} {x : BS} (k : Int) (w : World) (h : RefB S w v a len cap K x) :
    Calls Try.prog 36 #[v, .int .u64 k] w fun e w' => e = .returned (.int .u32 (callsZ x.sf (upB x.o x.m k) (decide (0 < x.s.n)))) ∧ Below w.heap.size w w' := by
  obtain ⟨mv, rx, out, rfl, -, hx, -⟩ := h
  obtain ⟨ra, rc, rfl⟩ := hx.form
  clear hx
  have HU : Hid (∀ W : World, Calls Try.prog 62 #[.agg #[.int .u64 x.o, .int .u64 x.m, .bool x.sf], .int .u64 k] W fun e w' => e = .returned (.bool (upB x.o x.m k)) ∧ Below W.heap.size W w') := fun W => rup13_any x.o x.m x.sf k W
  obtain ⟨W0, hW0⟩ : ∃ W0, W0 = w.alloc (.cells #[mv, .slice a len cap, .int .i64 (x.s.c : Int), .slice ra x.s.n rc, .bool x.s.ov, out, .int .u64 x.o, .int .u64 x.m, .bool x.sf, .bool x.off, .int .u32 x.code] 39) := ⟨_, rfl⟩
  have hb0 : Below w.heap.size w W0 := by rw [hW0]; exact (Below.refl _ _).alloc (Nat.le_refl _) _
  have HX0 : Hid (BoxB W0 w.heap.size mv (.slice a len cap) (.int .i64 (x.s.c : Int)) (.slice ra x.s.n rc) (.bool x.s.ov) out (.int .u64 x.o) (.int .u64 x.m) (.bool x.sf) (.bool x.off) (.int .u32 x.code)) := by rw [hW0]; exact boxB_new _ _ _ _ _ _ _ _ _ _ _ _
  have HB0 := Lib.hid hb0
  have HW0 := Lib.hid hW0
  clear hb0 hW0
  generalize upB x.o x.m k = u at HU ⊢
  obtain ⟨r, hr⟩ : ∃ r, decide (0 < x.s.n) = r := ⟨_, rfl⟩
  rw [hr]
  have HR := Lib.hid hr
  clear hr
  obtain ⟨sf, hsf⟩ : ∃ sf, x.sf = sf := ⟨_, rfl⟩
  rw [hsf] at HX0 HU HW0 ⊢
  clear hsf
  cases sf <;> cases u <;> cases r
  all_goals
    first
    | (have hn : (0 : Int) < (x.s.n : Int) := by have := of_decide_eq_true HR.out; omega)
    | (have hn : (x.s.n : Int) ≤ 0 := by have := of_decide_eq_false HR.out; omega)
    obtain ⟨p0, p1, p2, p3, p4, p5, p6, p7, p8, p9, p10⟩ := HX0.out.cells
    go_enter Try.func36, Try.ntmps36
    go_wp2_with fail
    rw [← HW0.out]
    go_wp2_with fail
    refine (HU.out _).mono ?_
    rintro e w1 ⟨rfl, hb⟩
    have HB1 : Hid (Below w.heap.size w w1) := HB0.out.trans (hb.mono HB0.out.size)
    have HX1 := Lib.hid (HX0.out.on hb)
    clear hb p0 p1 p2 p3 p4 p5 p6 p7 p8 p9 p10
    obtain ⟨p0, p1, p2, p3, p4, p5, p6, p7, p8, p9, p10⟩ := HX1.out.cells
    go_wp2
    go_ret
    exact ⟨ret_int (by decide), HB1.out⟩
end Go.Proofs.Ytkbccccjjlkgbaa

/- Layer 14, the document's side: boxes at the head of Load and Store. -/
namespace Go.Proofs.Ytkbccccjjlkgbaa
open Go.RowKit
set_option linter.unusedVariables false
set_option linter.unusedSimpArgs false
set_option maxRecDepth 100000

abbrev zeroB : Obj := .cells #[.slice none 0 0, .slice none 0 0, .int .i64 0, .slice none 0 0, .bool false, .slice none 0 0, .int .u64 0, .int .u64 0, .bool false, .bool false, .int .u32 0] 39
theorem two_boxB (w : World) (c0 c1 c2 c3 c4 c5 c6 c7 c8 c9 c10 : Value) :
    BoxB ((w.alloc (.cells #[c0, c1, c2, c3, c4, c5, c6, c7, c8, c9, c10] 39)).alloc zeroB) w.heap.size c0 c1 c2 c3 c4 c5 c6 c7 c8 c9 c10 ∧
    BoxB ((w.alloc (.cells #[c0, c1, c2, c3, c4, c5, c6, c7, c8, c9, c10] 39)).alloc zeroB) (w.heap.size + 1) (.slice none 0 0) (.slice none 0 0) (.int .i64 0) (.slice none 0 0) (.bool false) (.slice none 0 0) (.int .u64 0) (.int .u64 0) (.bool false) (.bool false) (.int .u32 0) ∧
    Below w.heap.size w ((w.alloc (.cells #[c0, c1, c2, c3, c4, c5, c6, c7, c8, c9, c10] 39)).alloc zeroB) ∧
    ((w.alloc (.cells #[c0, c1, c2, c3, c4, c5, c6, c7, c8, c9, c10] 39)).alloc zeroB).heap.size = w.heap.size + 2 := by
  refine ⟨?_, ?_, ((Below.refl _ _).alloc (Nat.le_refl _) _).alloc (by simp) _, by simp⟩
  · unfold BoxB
    rw [heap_alloc_old _ _ (by simp)]
    exact heap_alloc_new _ _
  · unfold BoxB
    have := heap_alloc_new (w.alloc (.cells #[c0, c1, c2, c3, c4, c5, c6, c7, c8, c9, c10] 39)) zeroB
    simpa [zeroB] using this
/-- What stands in memory in Load and Store. -/
def LdW (S : Nat → Prop) (w : World) (u : Value) (a : Option Addr) (len cap K : Nat) (x : BS) (c0 c1 c2 c3 c4 c5 c6 c7 c8 c9 c10 : Value) (W : World) : Prop :=
  BoxB W w.heap.size c0 c1 c2 c3 c4 c5 c6 c7 c8 c9 c10 ∧ BoxB W (w.heap.size + 1) (.slice none 0 0) (.slice none 0 0) (.int .i64 0) (.slice none 0 0) (.bool false) (.slice none 0 0) (.int .u64 0) (.int .u64 0) (.bool false) (.bool false) (.int .u32 0) ∧ RefB (S2 S w) W u a len cap K x ∧ Below w.heap.size w W
theorem LdW.on {S : Nat → Prop} {w W W' : World} {u : Value} {a : Option Addr} {len cap K : Nat} {x : BS} {c0 c1 c2 c3 c4 c5 c6 c7 c8 c9 c10 : Value} (h : LdW S w u a len cap K x c0 c1 c2 c3 c4 c5 c6 c7 c8 c9 c10 W) (hb : Below W.heap.size W W') : LdW S w u a len cap K x c0 c1 c2 c3 c4 c5 c6 c7 c8 c9 c10 W' := by
  obtain ⟨h1, h2, h3, h4⟩ := h
  exact ⟨h1.on hb, h2.on hb, h3.on hb, h4.trans (hb.mono h4.size)⟩
theorem bar11 (Z : Nat) (w : World) (c0 c1 c2 c3 c4 c5 c6 c7 c8 c9 c10 : Value) : Bar Z w (((((((((((w.setCell ⟨Z, 0, none⟩ c0).setCell ⟨Z, 1, none⟩ c1).setCell ⟨Z, 2, none⟩ c2).setCell ⟨Z, 3, none⟩ c3).setCell ⟨Z, 4, none⟩ c4).setCell ⟨Z, 5, none⟩ c5).setCell ⟨Z, 6, none⟩ c6).setCell ⟨Z, 7, none⟩ c7).setCell ⟨Z, 8, none⟩ c8).setCell ⟨Z, 9, none⟩ c9).setCell ⟨Z, 10, none⟩ c10) := ((((((((((Bar.setCell _ _ _ _).trans (Bar.setCell _ _ _ _)).trans (Bar.setCell _ _ _ _)).trans (Bar.setCell _ _ _ _)).trans (Bar.setCell _ _ _ _)).trans (Bar.setCell _ _ _ _)).trans (Bar.setCell _ _ _ _)).trans (Bar.setCell _ _ _ _)).trans (Bar.setCell _ _ _ _)).trans (Bar.setCell _ _ _ _)).trans (Bar.setCell _ _ _ _)
theorem RefB.two {S : Nat → Prop} {w W : World} {v : Value} {a : Option Addr} {len cap K : Nat} {x : BS} (h : RefB S w v a len cap K x) (hb : Below w.heap.size w W) : RefB (S2 S w) W v a len cap K x :=
  (h.more (by rintro k (h | h | h); exact .inl h; exact .inr (by omega); exact .inr (by omega))).on hb
theorem refB_end {S : Nat → Prop} {w W : World} {a : Option Addr} {len cap K : Nat} {x : BS} {c0 c1 c2 c3 c4 c5 c6 c7 c8 c9 c10 : Value} (hB : Below w.heap.size w W) (h : RefB (S2 S w) W (.agg #[c0, c1, c2, c3, c4, c5, c6, c7, c8, c9, c10]) a len cap K x) :
    RefB S (((((((((((W.setCell ⟨w.heap.size + 1, 0, none⟩ c0).setCell ⟨w.heap.size + 1, 1, none⟩ c1).setCell ⟨w.heap.size + 1, 2, none⟩ c2).setCell ⟨w.heap.size + 1, 3, none⟩ c3).setCell ⟨w.heap.size + 1, 4, none⟩ c4).setCell ⟨w.heap.size + 1, 5, none⟩ c5).setCell ⟨w.heap.size + 1, 6, none⟩ c6).setCell ⟨w.heap.size + 1, 7, none⟩ c7).setCell ⟨w.heap.size + 1, 8, none⟩ c8).setCell ⟨w.heap.size + 1, 9, none⟩ c9).setCell ⟨w.heap.size + 1, 10, none⟩ c10) (.agg #[c0, c1, c2, c3, c4, c5, c6, c7, c8, c9, c10]) a len cap K x ∧ Below w.heap.size w (((((((((((W.setCell ⟨w.heap.size + 1, 0, none⟩ c0).setCell ⟨w.heap.size + 1, 1, none⟩ c1).setCell ⟨w.heap.size + 1, 2, none⟩ c2).setCell ⟨w.heap.size + 1, 3, none⟩ c3).setCell ⟨w.heap.size + 1, 4, none⟩ c4).setCell ⟨w.heap.size + 1, 5, none⟩ c5).setCell ⟨w.heap.size + 1, 6, none⟩ c6).setCell ⟨w.heap.size + 1, 7, none⟩ c7).setCell ⟨w.heap.size + 1, 8, none⟩ c8).setCell ⟨w.heap.size + 1, 9, none⟩ c9).setCell ⟨w.heap.size + 1, 10, none⟩ c10) := by
  have hb := bar11 (w.heap.size + 1) W c0 c1 c2 c3 c4 c5 c6 c7 c8 c9 c10
  exact ⟨(h.bar hb (.inr (.inr rfl))).more (fun k hk => .inl (.inl hk)), hB.trans (hb.below (by omega) hB.size)⟩
theorem refB_set {S : Nat → Prop} {w W : World} {v u : Value} {a : Option Addr} {len cap K o : Nat} {x : BS} (h : RefB (S2 S w) W v a len cap K x) : RefB (S2 S w) (W.setCell ⟨w.heap.size, o, none⟩ u) v a len cap K x := h.bar (Bar.setCell _ _ _ _) (.inr (.inl rfl))
theorem refB_get {S : Nat → Prop} {w : World} {a : Option Addr} {len cap K : Nat} {x : BS} {c0 c1 c2 c3 c4 c5 c6 c7 c8 c9 c10 : Value} (h : RefB S w (.agg #[c0, c1, c2, c3, c4, c5, c6, c7, c8, c9, c10]) a len cap K x) : RowV S w c0 K x.b ∧ BsV S w c3 x.s.n x.s.f ∧ BsV S w c5 x.s.m x.s.g := by
  obtain ⟨mv, rx, out, e, h0, h1, h2⟩ := h
  simp at e
  obtain ⟨rfl, -, -, rfl, -, rfl, -⟩ := e
  exact ⟨h0, h1, h2⟩
theorem refB_of {S : Nat → Prop} {w : World} {a : Option Addr} {len cap K : Nat} (x : BS) {mv rx out : Value} (h0 : RowV S w mv K x.b) (h1 : BsV S w rx x.s.n x.s.f) (h2 : BsV S w out x.s.m x.s.g) : RefB S w (.agg #[mv, .slice a len cap, .int .i64 (x.s.c : Int), rx, .bool x.s.ov, out, .int .u64 x.o, .int .u64 x.m, .bool x.sf, .bool x.off, .int .u32 x.code]) a len cap K x := ⟨_, _, _, rfl, h0, h1, h2⟩
theorem barC (Z : Nat) (w : World) (c1 c2 c3 c4 c5 : Value) : Bar Z w (((((w.setCell ⟨Z, 1, none⟩ c1).setCell ⟨Z, 2, none⟩ c2).setCell ⟨Z, 3, none⟩ c3).setCell ⟨Z, 4, none⟩ c4).setCell ⟨Z, 5, none⟩ c5) := ((((Bar.setCell _ _ _ _).trans (Bar.setCell _ _ _ _)).trans (Bar.setCell _ _ _ _)).trans (Bar.setCell _ _ _ _)).trans (Bar.setCell _ _ _ _)
theorem barT (Z : Nat) (w : World) (c6 c7 c8 : Value) : Bar Z w (((w.setCell ⟨Z, 6, none⟩ c6).setCell ⟨Z, 7, none⟩ c7).setCell ⟨Z, 8, none⟩ c8) := ((Bar.setCell _ _ _ _).trans (Bar.setCell _ _ _ _)).trans (Bar.setCell _ _ _ _)
theorem barO (Z : Nat) (w : World) (c9 c10 : Value) : Bar Z w ((w.setCell ⟨Z, 9, none⟩ c9).setCell ⟨Z, 10, none⟩ c10) := (Bar.setCell _ _ _ _).trans (Bar.setCell _ _ _ _)
theorem LdW.own {S : Nat → Prop} {w W : World} {u : Value} {a : Option Addr} {len cap K : Nat} {x : BS} {c0 c1 c2 c3 c4 c5 c6 c7 c8 c9 c10 : Value} (h : LdW S w u a len cap K x c0 c1 c2 c3 c4 c5 c6 c7 c8 c9 c10 W) (hS : ∀ k, S k → k < w.heap.size) : ∀ k, S2 S w k → k < W.heap.size := by
  have l1 := h.2.1.lt
  rintro k (e | e | e)
  · have := hS k e; omega
  · omega
  · omega
/-- The box changed, and all of it handed on. -/
theorem refB_fin {S : Nat → Prop} {w W W1 : World} {a : Option Addr} {len cap K : Nat} {x : BS} {c0 c1 c2 c3 c4 c5 c6 c7 c8 c9 c10 : Value} (hB : Below w.heap.size w W) (h : RefB (S2 S w) W (.agg #[c0, c1, c2, c3, c4, c5, c6, c7, c8, c9, c10]) a len cap K x) (hb : Bar w.heap.size W W1) :
    RefB S (((((((((((W1.setCell ⟨w.heap.size + 1, 0, none⟩ c0).setCell ⟨w.heap.size + 1, 1, none⟩ c1).setCell ⟨w.heap.size + 1, 2, none⟩ c2).setCell ⟨w.heap.size + 1, 3, none⟩ c3).setCell ⟨w.heap.size + 1, 4, none⟩ c4).setCell ⟨w.heap.size + 1, 5, none⟩ c5).setCell ⟨w.heap.size + 1, 6, none⟩ c6).setCell ⟨w.heap.size + 1, 7, none⟩ c7).setCell ⟨w.heap.size + 1, 8, none⟩ c8).setCell ⟨w.heap.size + 1, 9, none⟩ c9).setCell ⟨w.heap.size + 1, 10, none⟩ c10) (.agg #[c0, c1, c2, c3, c4, c5, c6, c7, c8, c9, c10]) a len cap K x ∧ Below w.heap.size w (((((((((((W1.setCell ⟨w.heap.size + 1, 0, none⟩ c0).setCell ⟨w.heap.size + 1, 1, none⟩ c1).setCell ⟨w.heap.size + 1, 2, none⟩ c2).setCell ⟨w.heap.size + 1, 3, none⟩ c3).setCell ⟨w.heap.size + 1, 4, none⟩ c4).setCell ⟨w.heap.size + 1, 5, none⟩ c5).setCell ⟨w.heap.size + 1, 6, none⟩ c6).setCell ⟨w.heap.size + 1, 7, none⟩ c7).setCell ⟨w.heap.size + 1, 8, none⟩ c8).setCell ⟨w.heap.size + 1, 9, none⟩ c9).setCell ⟨w.heap.size + 1, 10, none⟩ c10) :=
  refB_end (hB.trans (hb.below (Nat.le_refl _) hB.size)) (h.bar hb (.inr (.inl rfl)))
end Go.Proofs.Ytkbccccjjlkgbaa

/- Layer 14: what reaches the console; Class. (By gen-busgo.py.) -/
namespace Go.Proofs.Ytkbccccjjlkgbaa
open Go.RowKit
set_option linter.unusedVariables false
set_option linter.unusedSimpArgs false
set_option maxRecDepth 100000

set_option maxHeartbeats 400000 in
theorem lcon_any {B R C A K : Nat} {off : Bool} {code : Int} {S : Nat → Prop} {T Y : Nat → Int} {s : CS} (a k : Int) (w : World) (hb : BusC w B R C A off code) (ha : a = 268435456 ∨ a = 268435460) (h : IsCon w C S K T Y s) :
    Calls Try.prog 85 #[.pointer (some ⟨B, 0, none⟩), .int .u32 a, .int .u64 k] w fun e w' => e = .returned (.tuple #[.int .u32 (s.val (a - 268435456)), .int .i64 0]) ∧ IsCon w' C S K T Y (s.rd (a - 268435456)) ∧ Fr S w w' := by
  have HR : Hid (∀ W, IsCon W C S K T Y s → Calls Try.prog 92 #[.pointer (some ⟨C, 0, none⟩), .int .i64 (a - 268435456)] W fun e w' => e = .returned (.tuple #[.int .u32 (s.val (a - 268435456)), .int .i64 0]) ∧ IsCon w' C S K T Y (s.rd (a - 268435456)) ∧ Fr S W w') := fun W hW => cread_yes (a - 268435456) W (by omega) hW
  have HC := Lib.hid h
  obtain ⟨⟨q0, q1, q2, q3, q4⟩, -⟩ := five_cells hb
  clear hb h
  rcases ha with rfl | rfl
  all_goals
    go_enter Try.func85, Try.ntmps85
    go_wp2_with fail
    refine (HR.out w HC.out).mono ?_
    rintro e w1 ⟨rfl, h1, h2⟩
    have H := Lib.hid (And.intro h1 h2)
    clear h1 h2
    go_wp2
    go_ret2
    exact ⟨rfl, H.out⟩

set_option maxHeartbeats 400000 in
theorem scon_any {B R C A K : Nat} {off : Bool} {code : Int} {S : Nat → Prop} {T Y : Nat → Int} {s : CS} (a v k : Int) (w : World) (hb : BusC w B R C A off code) (ha : a = 268435456 ∨ a = 268435460) (hm : s.m ≤ 100000) (h : IsCon w C S K T Y s) :
    Calls Try.prog 86 #[.pointer (some ⟨B, 0, none⟩), .int .u32 a, .int .u32 v, .int .u64 k] w fun e w' => e = .returned (.int .i64 0) ∧ ∃ S', IsCon w' C S' K T Y (s.wr (a - 268435456) v) ∧ Fr S w w' ∧ Ext w S S' := by
  have HR : Hid (∀ W, IsCon W C S K T Y s → Calls Try.prog 93 #[.pointer (some ⟨C, 0, none⟩), .int .i64 (a - 268435456), .int .u32 v] W fun e w' => e = .returned (.int .i64 0) ∧ ∃ S', IsCon w' C S' K T Y (s.wr (a - 268435456) v) ∧ Fr S W w' ∧ Ext W S S') := fun W hW => cwrite_yes (a - 268435456) v W (by omega) hm hW
  have HC := Lib.hid h
  obtain ⟨⟨q0, q1, q2, q3, q4⟩, -⟩ := five_cells hb
  clear hb h hm
  rcases ha with rfl | rfl
  all_goals
    go_enter Try.func86, Try.ntmps86
    go_wp2_with fail
    refine (HR.out w HC.out).mono ?_
    rintro e w1 ⟨rfl, h1⟩
    have H := Lib.hid h1
    clear h1
    go_wp2
    go_ret
    exact ⟨rfl, H.out⟩

set_option maxHeartbeats 800000 in
theorem class_nil (a n : Int) (w : World) :
    Calls Try.prog 14 #[.pointer none, .int .u32 a, .int .i64 n] w fun e w' => e = .returned (.int .i64 0) ∧ w' = w := by
  go_enter Try.func14, Try.ntmps14
  go_wp2_with (first | (go_at_call 16; refine (bram_nil _).mono ?_; rintro e w' ⟨rfl, hw⟩; have hw := hw.symm; subst hw) | (go_at_call 40; refine (load_nil _ _ _).mono ?_; rintro e w' ⟨rfl, hw⟩; have hw := hw.symm; subst hw))
  go_ret
  exact ⟨rfl, rfl⟩

/-- What the memory says, of whatever access. -/
theorem mload_any {B R P C A K Kc : Nat} {S : Nat → Prop} {T Y : Nat → Int} {x : BS} (a n : Int) (w : World) (hK : K ≤ 1024) (h : IsBus w B R P C A K S Kc T Y x) (hb : BdB K x.b) (a0 : 0 ≤ a) (a1 : a < 4294967296) :
    Calls Try.prog 40 #[.pointer (some ⟨R, 0, none⟩), .int .u32 a, .int .i64 n] w fun e w' => e = .returned (.tuple #[.int .u32 (if askZ K a n = 0 then numTo (fun i => x.b (plZ a + i)) n.toNat else 0), .int .i64 (askZ K a n)]) ∧ Q w w' := by
  by_cases hz : askZ K a n = 0
  · obtain ⟨h1, h2, h3, h4, h5, -⟩ := pl_of hz
    rw [if_pos hz, hz]
    have := load_yes R P K (plZ a) n.toNat a x.b x.wa x.g w hK h.2.1 hb h4 (by rw [h5]; exact h1) (by rw [h5]; exact h2) (by rw [h5]; exact h3)
    rwa [h5] at this
  · rw [if_neg hz]
    refine (load_no R P K a n w hK h.2.1.ptr a0 a1 hz).mono ?_
    rintro e w' ⟨rfl, rfl⟩
    exact ⟨rfl, Q.refl _⟩

set_option maxHeartbeats 800000 in
theorem class_mem {B R P C A K Kc : Nat} {S : Nat → Prop} {T Y : Nat → Int} {x : BS} (a n : Int) (w : World) (hK : K ≤ 1024) (h : IsBus w B R P C A K S Kc T Y x) (hb : BdB K x.b) (a0 : 0 ≤ a) (a1 : a < 4294967296) (hz : askZ K a n = 0) :
    Calls Try.prog 14 #[.pointer (some ⟨B, 0, none⟩), .int .u32 a, .int .i64 n] w fun e w' => e = .returned (.int .i64 1) ∧ Below w.heap.size w w' := by
  have HL : Hid (∀ W, IsBus W B R P C A K S Kc T Y x → ∃ y, Calls Try.prog 40 #[.pointer (some ⟨R, 0, none⟩), .int .u32 a, .int .i64 n] W fun e w' => e = .returned (.tuple #[.int .u32 y, .int .i64 0]) ∧ Q W w') := fun W hW => by
    have := mload_any a n W hK hW hb a0 a1
    rw [hz] at this
    exact ⟨_, this⟩
  have HB := Lib.hid h
  clear h hb
  obtain ⟨y, hl⟩ := HL.out w HB.out
  have HL1 := Lib.hid hl
  clear hl HL
  clear hz
  go_enter Try.func14, Try.ntmps14
  go_wp2_with fail
  refine (bram_any w HB.out.1).mono ?_
  rintro e w' ⟨rfl, hw⟩
  have hw := hw.symm
  subst hw
  go_wp2_with fail
  refine HL1.out.mono ?_
  rintro e w1 ⟨rfl, hq⟩
  have HB1 := Lib.hid (HB.out.q hq)
  have HW1 : Hid (Below w.heap.size w w1) := hq.below _
  clear hq
  go_wp2
  go_ret
  exact ⟨rfl, HW1.out⟩

set_option maxHeartbeats 800000 in
theorem class_err {B R P C A K Kc : Nat} {S : Nat → Prop} {T Y : Nat → Int} {x : BS} (a n : Int) (w : World) (hK : K ≤ 1024) (h : IsBus w B R P C A K S Kc T Y x) (hb : BdB K x.b) (a0 : 0 ≤ a) (a1 : a < 4294967296) (hz : askZ K a n = 2 ∨ askZ K a n = 5) :
    Calls Try.prog 14 #[.pointer (some ⟨B, 0, none⟩), .int .u32 a, .int .i64 n] w fun e w' => e = .returned (.int .i64 0) ∧ Below w.heap.size w w' := by
  rcases hz with hz | hz
  · have HL : Hid (∀ W, IsBus W B R P C A K S Kc T Y x → ∃ y, Calls Try.prog 40 #[.pointer (some ⟨R, 0, none⟩), .int .u32 a, .int .i64 n] W fun e w' => e = .returned (.tuple #[.int .u32 y, .int .i64 2]) ∧ Q W w') := fun W hW => by
      have := mload_any a n W hK hW hb a0 a1
      rw [hz] at this
      exact ⟨_, this⟩
    have HB := Lib.hid h
    clear h hb
    obtain ⟨y, hl⟩ := HL.out w HB.out
    have HL1 := Lib.hid hl
    clear hl HL
    clear hz
    go_enter Try.func14, Try.ntmps14
    go_wp2_with fail
    refine (bram_any w HB.out.1).mono ?_
    rintro e w' ⟨rfl, hw⟩
    have hw := hw.symm
    subst hw
    go_wp2_with fail
    refine HL1.out.mono ?_
    rintro e w1 ⟨rfl, hq⟩
    have HB1 := Lib.hid (HB.out.q hq)
    have HW1 : Hid (Below w.heap.size w w1) := hq.below _
    clear hq
    go_wp2
    go_ret
    exact ⟨rfl, HW1.out⟩
  · have HL : Hid (∀ W, IsBus W B R P C A K S Kc T Y x → ∃ y, Calls Try.prog 40 #[.pointer (some ⟨R, 0, none⟩), .int .u32 a, .int .i64 n] W fun e w' => e = .returned (.tuple #[.int .u32 y, .int .i64 5]) ∧ Q W w') := fun W hW => by
      have := mload_any a n W hK hW hb a0 a1
      rw [hz] at this
      exact ⟨_, this⟩
    have HB := Lib.hid h
    clear h hb
    obtain ⟨y, hl⟩ := HL.out w HB.out
    have HL1 := Lib.hid hl
    clear hl HL
    clear hz
    go_enter Try.func14, Try.ntmps14
    go_wp2_with fail
    refine (bram_any w HB.out.1).mono ?_
    rintro e w' ⟨rfl, hw⟩
    have hw := hw.symm
    subst hw
    go_wp2_with fail
    refine HL1.out.mono ?_
    rintro e w1 ⟨rfl, hq⟩
    have HB1 := Lib.hid (HB.out.q hq)
    have HW1 : Hid (Below w.heap.size w w1) := hq.below _
    clear hq
    go_wp2
    go_ret
    exact ⟨rfl, HW1.out⟩

set_option maxHeartbeats 800000 in
theorem class_port {B R P C A K Kc : Nat} {S : Nat → Prop} {T Y : Nat → Int} {x : BS} (a : Int) (w : World) (hK : K ≤ 1024) (h : IsBus w B R P C A K S Kc T Y x) (hb : BdB K x.b) (a0 : 0 ≤ a) (a1 : a < 4294967296) (hz : askZ K a 4 = 6) (h0 : (a == 1048576) = true) :
    Calls Try.prog 14 #[.pointer (some ⟨B, 0, none⟩), .int .u32 a, .int .i64 4] w fun e w' => e = .returned (.int .i64 2) ∧ Below w.heap.size w w' := by
  have HL : Hid (∀ W, IsBus W B R P C A K S Kc T Y x → ∃ y, Calls Try.prog 40 #[.pointer (some ⟨R, 0, none⟩), .int .u32 a, .int .i64 4] W fun e w' => e = .returned (.tuple #[.int .u32 y, .int .i64 6]) ∧ Q W w') := fun W hW => by
    have := mload_any a 4 W hK hW hb a0 a1
    rw [hz] at this
    exact ⟨_, this⟩
  have HB := Lib.hid h
  clear h hb
  obtain ⟨y, hl⟩ := HL.out w HB.out
  have HL1 := Lib.hid hl
  clear hl HL
  have HDV : Hid (∀ W, IsBus W B R P C A K S Kc T Y x → Calls Try.prog 41 #[.pointer (some ⟨B, 0, none⟩), .int .u32 a, .int .i64 4] W fun e w' => e = .returned (.tuple #[portDev B, .bool true]) ∧ Below W.heap.size W w') := fun W hW => device_port a _ hW.1 h0
  clear hz h0
  go_enter Try.func14, Try.ntmps14
  go_wp2_with fail
  refine (bram_any w HB.out.1).mono ?_
  rintro e w' ⟨rfl, hw⟩
  have hw := hw.symm
  subst hw
  go_wp2_with fail
  refine HL1.out.mono ?_
  rintro e w1 ⟨rfl, hq⟩
  have HB1 := Lib.hid (HB.out.q hq)
  have HW1 : Hid (Below w.heap.size w w1) := hq.below _
  clear hq
  go_wp2_with fail
  refine (HDV.out w1 HB1.out).mono ?_
  rintro e w2 ⟨rfl, hb2⟩
  have HW2 : Hid (Below w.heap.size w w2) := HW1.out.trans (hb2.mono HW1.out.size)
  clear hb2
  go_wp2
  go_ret
  exact ⟨rfl, HW2.out.alloc HW2.out.size _⟩

set_option maxHeartbeats 800000 in
theorem class_con {B R P C A K Kc : Nat} {S : Nat → Prop} {T Y : Nat → Int} {x : BS} (a : Int) (w : World) (hK : K ≤ 1024) (h : IsBus w B R P C A K S Kc T Y x) (hb : BdB K x.b) (a0 : 0 ≤ a) (a1 : a < 4294967296) (hz : askZ K a 4 = 6) (h0 : (a == 1048576) = false) (h1 : (a == 268435456 || a == 268435460) = true) :
    Calls Try.prog 14 #[.pointer (some ⟨B, 0, none⟩), .int .u32 a, .int .i64 4] w fun e w' => e = .returned (.int .i64 2) ∧ Below w.heap.size w w' := by
  have HL : Hid (∀ W, IsBus W B R P C A K S Kc T Y x → ∃ y, Calls Try.prog 40 #[.pointer (some ⟨R, 0, none⟩), .int .u32 a, .int .i64 4] W fun e w' => e = .returned (.tuple #[.int .u32 y, .int .i64 6]) ∧ Q W w') := fun W hW => by
    have := mload_any a 4 W hK hW hb a0 a1
    rw [hz] at this
    exact ⟨_, this⟩
  have HB := Lib.hid h
  clear h hb
  obtain ⟨y, hl⟩ := HL.out w HB.out
  have HL1 := Lib.hid hl
  clear hl HL
  have HDV : Hid (∀ W, IsBus W B R P C A K S Kc T Y x → Calls Try.prog 41 #[.pointer (some ⟨B, 0, none⟩), .int .u32 a, .int .i64 4] W fun e w' => e = .returned (.tuple #[conDev B, .bool true]) ∧ Below W.heap.size W w') := fun W hW => device_con a _ hW.1 h0 h1
  clear hz h0 h1
  go_enter Try.func14, Try.ntmps14
  go_wp2_with fail
  refine (bram_any w HB.out.1).mono ?_
  rintro e w' ⟨rfl, hw⟩
  have hw := hw.symm
  subst hw
  go_wp2_with fail
  refine HL1.out.mono ?_
  rintro e w1 ⟨rfl, hq⟩
  have HB1 := Lib.hid (HB.out.q hq)
  have HW1 : Hid (Below w.heap.size w w1) := hq.below _
  clear hq
  go_wp2_with fail
  refine (HDV.out w1 HB1.out).mono ?_
  rintro e w2 ⟨rfl, hb2⟩
  have HW2 : Hid (Below w.heap.size w w2) := HW1.out.trans (hb2.mono HW1.out.size)
  clear hb2
  go_wp2
  go_ret
  exact ⟨rfl, HW2.out.alloc HW2.out.size _⟩

set_option maxHeartbeats 800000 in
theorem class_tim {B R P C A K Kc : Nat} {S : Nat → Prop} {T Y : Nat → Int} {x : BS} (a : Int) (w : World) (hK : K ≤ 1024) (h : IsBus w B R P C A K S Kc T Y x) (hb : BdB K x.b) (a0 : 0 ≤ a) (a1 : a < 4294967296) (hz : askZ K a 4 = 6) (h0 : (a == 1048576) = false) (h1 : (a == 268435456 || a == 268435460) = false) (h2 : hasT a = true) :
    Calls Try.prog 14 #[.pointer (some ⟨B, 0, none⟩), .int .u32 a, .int .i64 4] w fun e w' => e = .returned (.int .i64 2) ∧ Below w.heap.size w w' := by
  have HL : Hid (∀ W, IsBus W B R P C A K S Kc T Y x → ∃ y, Calls Try.prog 40 #[.pointer (some ⟨R, 0, none⟩), .int .u32 a, .int .i64 4] W fun e w' => e = .returned (.tuple #[.int .u32 y, .int .i64 6]) ∧ Q W w') := fun W hW => by
    have := mload_any a 4 W hK hW hb a0 a1
    rw [hz] at this
    exact ⟨_, this⟩
  have HB := Lib.hid h
  clear h hb
  obtain ⟨y, hl⟩ := HL.out w HB.out
  have HL1 := Lib.hid hl
  clear hl HL
  have HDV : Hid (∀ W, IsBus W B R P C A K S Kc T Y x → Calls Try.prog 41 #[.pointer (some ⟨B, 0, none⟩), .int .u32 a, .int .i64 4] W fun e w' => e = .returned (.tuple #[timDev A, .bool true]) ∧ Below W.heap.size W w') := fun W hW => device_tim a _ hW.1 h0 h1 h2
  clear hz h0 h1 h2
  go_enter Try.func14, Try.ntmps14
  go_wp2_with fail
  refine (bram_any w HB.out.1).mono ?_
  rintro e w' ⟨rfl, hw⟩
  have hw := hw.symm
  subst hw
  go_wp2_with fail
  refine HL1.out.mono ?_
  rintro e w1 ⟨rfl, hq⟩
  have HB1 := Lib.hid (HB.out.q hq)
  have HW1 : Hid (Below w.heap.size w w1) := hq.below _
  clear hq
  go_wp2_with fail
  refine (HDV.out w1 HB1.out).mono ?_
  rintro e w2 ⟨rfl, hb2⟩
  have HW2 : Hid (Below w.heap.size w w2) := HW1.out.trans (hb2.mono HW1.out.size)
  clear hb2
  go_wp2
  go_ret
  exact ⟨rfl, HW2.out.alloc HW2.out.size _⟩

set_option maxHeartbeats 800000 in
theorem class_none {B R P C A K Kc : Nat} {S : Nat → Prop} {T Y : Nat → Int} {x : BS} (a : Int) (w : World) (hK : K ≤ 1024) (h : IsBus w B R P C A K S Kc T Y x) (hb : BdB K x.b) (a0 : 0 ≤ a) (a1 : a < 4294967296) (hz : askZ K a 4 = 6) (h0 : (a == 1048576) = false) (h1 : (a == 268435456 || a == 268435460) = false) (h2 : hasT a = false) :
    Calls Try.prog 14 #[.pointer (some ⟨B, 0, none⟩), .int .u32 a, .int .i64 4] w fun e w' => e = .returned (.int .i64 0) ∧ Below w.heap.size w w' := by
  have HL : Hid (∀ W, IsBus W B R P C A K S Kc T Y x → ∃ y, Calls Try.prog 40 #[.pointer (some ⟨R, 0, none⟩), .int .u32 a, .int .i64 4] W fun e w' => e = .returned (.tuple #[.int .u32 y, .int .i64 6]) ∧ Q W w') := fun W hW => by
    have := mload_any a 4 W hK hW hb a0 a1
    rw [hz] at this
    exact ⟨_, this⟩
  have HB := Lib.hid h
  clear h hb
  obtain ⟨y, hl⟩ := HL.out w HB.out
  have HL1 := Lib.hid hl
  clear hl HL
  have HDV : Hid (∀ W, IsBus W B R P C A K S Kc T Y x → Calls Try.prog 41 #[.pointer (some ⟨B, 0, none⟩), .int .u32 a, .int .i64 4] W fun e w' => e = .returned (.tuple #[noDev, .bool false]) ∧ Below W.heap.size W w') := fun W hW => device_none a _ hW.1 h0 h1 h2
  clear hz h0 h1 h2
  go_enter Try.func14, Try.ntmps14
  go_wp2_with fail
  refine (bram_any w HB.out.1).mono ?_
  rintro e w' ⟨rfl, hw⟩
  have hw := hw.symm
  subst hw
  go_wp2_with fail
  refine HL1.out.mono ?_
  rintro e w1 ⟨rfl, hq⟩
  have HB1 := Lib.hid (HB.out.q hq)
  have HW1 : Hid (Below w.heap.size w w1) := hq.below _
  clear hq
  go_wp2_with fail
  refine (HDV.out w1 HB1.out).mono ?_
  rintro e w2 ⟨rfl, hb2⟩
  have HW2 : Hid (Below w.heap.size w w2) := HW1.out.trans (hb2.mono HW1.out.size)
  clear hb2
  go_wp2
  go_ret
  exact ⟨rfl, HW2.out.alloc HW2.out.size _⟩

set_option maxHeartbeats 800000 in
theorem class_width {B R P C A K Kc : Nat} {S : Nat → Prop} {T Y : Nat → Int} {x : BS} (a n : Int) (w : World) (hK : K ≤ 1024) (h : IsBus w B R P C A K S Kc T Y x) (hb : BdB K x.b) (a0 : 0 ≤ a) (a1 : a < 4294967296) (hz : askZ K a n = 6) (hn : n ≠ 4) :
    Calls Try.prog 14 #[.pointer (some ⟨B, 0, none⟩), .int .u32 a, .int .i64 n] w fun e w' => e = .returned (.int .i64 0) ∧ Below w.heap.size w w' := by
  have HL : Hid (∀ W, IsBus W B R P C A K S Kc T Y x → ∃ y, Calls Try.prog 40 #[.pointer (some ⟨R, 0, none⟩), .int .u32 a, .int .i64 n] W fun e w' => e = .returned (.tuple #[.int .u32 y, .int .i64 6]) ∧ Q W w') := fun W hW => by
    have := mload_any a n W hK hW hb a0 a1
    rw [hz] at this
    exact ⟨_, this⟩
  have HB := Lib.hid h
  clear h hb
  obtain ⟨y, hl⟩ := HL.out w HB.out
  have HL1 := Lib.hid hl
  clear hl HL
  have HDV : Hid (∀ W, IsBus W B R P C A K S Kc T Y x → Calls Try.prog 41 #[.pointer (some ⟨B, 0, none⟩), .int .u32 a, .int .i64 n] W fun e w' => e = .returned (.tuple #[noDev, .bool false]) ∧ Below W.heap.size W w') := fun W hW => device_width a n _ hW.1 hn
  clear hz hn
  go_enter Try.func14, Try.ntmps14
  go_wp2_with fail
  refine (bram_any w HB.out.1).mono ?_
  rintro e w' ⟨rfl, hw⟩
  have hw := hw.symm
  subst hw
  go_wp2_with fail
  refine HL1.out.mono ?_
  rintro e w1 ⟨rfl, hq⟩
  have HB1 := Lib.hid (HB.out.q hq)
  have HW1 : Hid (Below w.heap.size w w1) := hq.below _
  clear hq
  go_wp2_with fail
  refine (HDV.out w1 HB1.out).mono ?_
  rintro e w2 ⟨rfl, hb2⟩
  have HW2 : Hid (Below w.heap.size w w2) := HW1.out.trans (hb2.mono HW1.out.size)
  clear hb2
  go_wp2
  go_ret
  exact ⟨rfl, HW2.out.alloc HW2.out.size _⟩

/-- What an access is of. -/
theorem bclass_any {B R P C A K Kc : Nat} {S : Nat → Prop} {T Y : Nat → Int} {x : BS} (a n : Int) (w : World) (hK : K ≤ 1024) (h : IsBus w B R P C A K S Kc T Y x) (hb : BdB K x.b) (a0 : 0 ≤ a) (a1 : a < 4294967296) :
    Calls Try.prog 14 #[.pointer (some ⟨B, 0, none⟩), .int .u32 a, .int .i64 n] w fun e w' => e = .returned (.int .i64 (classZ K a n)) ∧ Below w.heap.size w w' := by
  have hc := askZ_cases K a n
  by_cases hz : askZ K a n = 0
  · rw [classZ_mem hz]; exact class_mem a n w hK h hb a0 a1 hz
  · by_cases h6 : askZ K a n = 6
    · by_cases hn : n = 4
      · subst hn
        cases hd : devB a
        · rw [classZ_none hz (by simp [isDev, hd])]
          obtain ⟨⟨d1, d2, d3⟩, d4⟩ := devB_no hd
          exact class_none a w hK h hb a0 a1 h6 d1 (by rw [d2, d3]; rfl) d4
        · rw [classZ_dev (isDev_t hd)]
          rcases devB_yes hd with rfl | hd | hd
          · exact class_port _ w hK h hb a0 a1 h6 (by decide)
          · rcases hd with rfl | rfl <;> exact class_con _ w hK h hb a0 a1 h6 (by decide) (by decide)
          · exact class_tim a w hK h hb a0 a1 h6 (by rcases hasT_yes hd with rfl | rfl | rfl | rfl | rfl <;> decide) (by rcases hasT_yes hd with rfl | rfl | rfl | rfl | rfl <;> decide) hd
      · rw [classZ_none hz (by simp [isDev, hn])]
        exact class_width a n w hK h hb a0 a1 h6 hn
    · rw [classZ_none hz (by simp [isDev, h6])]
      exact class_err a n w hK h hb a0 a1 (by omega)
end Go.Proofs.Ytkbccccjjlkgbaa

/- Layer 14: Load. (By gen-busgo.py.) -/
namespace Go.Proofs.Ytkbccccjjlkgbaa
open Go.RowKit
set_option linter.unusedVariables false
set_option linter.unusedSimpArgs false
set_option maxRecDepth 100000

set_option maxHeartbeats 800000 in
theorem bload_nil (a n k : Int) (w : World) :
    Calls Try.prog 21 #[.pointer none, .int .u32 a, .int .i64 n, .int .u64 k] w fun e w' => e = .returned (.tuple #[.int .u32 0, .int .i64 2]) ∧ w' = w := by
  go_enter Try.func21, Try.ntmps21
  go_wp2_with (first | (go_at_call 16; refine (bram_nil _).mono ?_; rintro e w' ⟨rfl, hw⟩; have hw := hw.symm; subst hw) | (go_at_call 40; refine (load_nil _ _ _).mono ?_; rintro e w' ⟨rfl, hw⟩; have hw := hw.symm; subst hw))
  go_ret2
  exact ⟨rfl, rfl⟩

set_option maxHeartbeats 1600000 in
theorem bload_mem {B R P C A K Kc : Nat} {S : Nat → Prop} {T Y : Nat → Int} {x : BS} (a n k : Int) (w : World) (hK : K ≤ 1024) (h : IsBus w B R P C A K S Kc T Y x) (hb : BdB K x.b) (a0 : 0 ≤ a) (a1 : a < 4294967296) (hz : askZ K a n = 0) :
    Calls Try.prog 21 #[.pointer (some ⟨B, 0, none⟩), .int .u32 a, .int .i64 n, .int .u64 k] w fun e w' => e = .returned (.tuple #[.int .u32 (x.ldV K a n k), .int .i64 0]) ∧ IsBus w' B R P C A K S Kc T Y (x.ldS K a n) ∧ Fr (Fp B R P A S) w w' := by
  have HLS : Hid (x.ldS K a n = x) := BS.ldS_mem hz
  have HL : Hid (∀ W, IsBus W B R P C A K S Kc T Y x → Calls Try.prog 40 #[.pointer (some ⟨R, 0, none⟩), .int .u32 a, .int .i64 n] W fun e w' => e = .returned (.tuple #[.int .u32 (x.ldV K a n k), .int .i64 0]) ∧ Q W w') := fun W hW => by
    have := mload_any a n W hK hW hb a0 a1
    rw [hz] at this
    rw [BS.ldV_mem hz]; rwa [if_pos rfl] at this
  have HB := Lib.hid h
  clear h
  rw [HLS.out]
  clear HLS hz hb
  generalize x.ldV K a n k = y at *
  go_enter Try.func21, Try.ntmps21
  go_wp2_with fail
  refine (bram_any w HB.out.1).mono ?_
  rintro e w' ⟨rfl, hw⟩
  have hw := hw.symm
  subst hw
  go_wp2_with fail
  refine (HL.out w HB.out).mono ?_
  rintro e w1 ⟨rfl, hq⟩
  have HB1 := Lib.hid (HB.out.q hq)
  have HW1 : Hid (Fr (Fp B R P A S) w w1) := Fr.of _ (hq.below _)
  clear hq
  go_wp2
  go_ret2
  exact ⟨rfl, HB1.out, HW1.out⟩

set_option maxHeartbeats 1600000 in
theorem bload_err2 {B R P C A K Kc : Nat} {S : Nat → Prop} {T Y : Nat → Int} {x : BS} (a n k : Int) (w : World) (hK : K ≤ 1024) (h : IsBus w B R P C A K S Kc T Y x) (hb : BdB K x.b) (a0 : 0 ≤ a) (a1 : a < 4294967296) (hz : askZ K a n = 2) :
    Calls Try.prog 21 #[.pointer (some ⟨B, 0, none⟩), .int .u32 a, .int .i64 n, .int .u64 k] w fun e w' => e = .returned (.tuple #[.int .u32 0, .int .i64 2]) ∧ IsBus w' B R P C A K S Kc T Y x ∧ Fr (Fp B R P A S) w w' := by
  have HL : Hid (∀ W, IsBus W B R P C A K S Kc T Y x → Calls Try.prog 40 #[.pointer (some ⟨R, 0, none⟩), .int .u32 a, .int .i64 n] W fun e w' => e = .returned (.tuple #[.int .u32 0, .int .i64 2]) ∧ Q W w') := fun W hW => by
    have := mload_any a n W hK hW hb a0 a1
    rw [hz] at this
    rwa [if_neg (by decide)] at this
  have HB := Lib.hid h
  clear h
  clear hz hb
  go_enter Try.func21, Try.ntmps21
  go_wp2_with fail
  refine (bram_any w HB.out.1).mono ?_
  rintro e w' ⟨rfl, hw⟩
  have hw := hw.symm
  subst hw
  go_wp2_with fail
  refine (HL.out w HB.out).mono ?_
  rintro e w1 ⟨rfl, hq⟩
  have HB1 := Lib.hid (HB.out.q hq)
  have HW1 : Hid (Fr (Fp B R P A S) w w1) := Fr.of _ (hq.below _)
  clear hq
  go_wp2
  go_ret2
  exact ⟨rfl, HB1.out, HW1.out⟩

set_option maxHeartbeats 1600000 in
theorem bload_err5 {B R P C A K Kc : Nat} {S : Nat → Prop} {T Y : Nat → Int} {x : BS} (a n k : Int) (w : World) (hK : K ≤ 1024) (h : IsBus w B R P C A K S Kc T Y x) (hb : BdB K x.b) (a0 : 0 ≤ a) (a1 : a < 4294967296) (hz : askZ K a n = 5) :
    Calls Try.prog 21 #[.pointer (some ⟨B, 0, none⟩), .int .u32 a, .int .i64 n, .int .u64 k] w fun e w' => e = .returned (.tuple #[.int .u32 0, .int .i64 5]) ∧ IsBus w' B R P C A K S Kc T Y x ∧ Fr (Fp B R P A S) w w' := by
  have HL : Hid (∀ W, IsBus W B R P C A K S Kc T Y x → Calls Try.prog 40 #[.pointer (some ⟨R, 0, none⟩), .int .u32 a, .int .i64 n] W fun e w' => e = .returned (.tuple #[.int .u32 0, .int .i64 5]) ∧ Q W w') := fun W hW => by
    have := mload_any a n W hK hW hb a0 a1
    rw [hz] at this
    rwa [if_neg (by decide)] at this
  have HB := Lib.hid h
  clear h
  clear hz hb
  go_enter Try.func21, Try.ntmps21
  go_wp2_with fail
  refine (bram_any w HB.out.1).mono ?_
  rintro e w' ⟨rfl, hw⟩
  have hw := hw.symm
  subst hw
  go_wp2_with fail
  refine (HL.out w HB.out).mono ?_
  rintro e w1 ⟨rfl, hq⟩
  have HB1 := Lib.hid (HB.out.q hq)
  have HW1 : Hid (Fr (Fp B R P A S) w w1) := Fr.of _ (hq.below _)
  clear hq
  go_wp2
  go_ret2
  exact ⟨rfl, HB1.out, HW1.out⟩

set_option maxHeartbeats 1600000 in
theorem bload_port {B R P C A K Kc : Nat} {S : Nat → Prop} {T Y : Nat → Int} {x : BS} (k : Int) (w : World) (hK : K ≤ 1024) (h : IsBus w B R P C A K S Kc T Y x) (hb : BdB K x.b) (hz : askZ K 1048576 4 = 6) (h0 : ((1048576 : Int) == 1048576) = true) :
    Calls Try.prog 21 #[.pointer (some ⟨B, 0, none⟩), .int .u32 1048576, .int .i64 4, .int .u64 k] w fun e w' => e = .returned (.tuple #[.int .u32 (x.ldV K 1048576 4 k), .int .i64 0]) ∧ IsBus w' B R P C A K S Kc T Y (x.ldS K 1048576 4) ∧ Fr (Fp B R P A S) w w' := by
  have HL : Hid (∀ W, IsBus W B R P C A K S Kc T Y x → Calls Try.prog 40 #[.pointer (some ⟨R, 0, none⟩), .int .u32 1048576, .int .i64 4] W fun e w' => e = .returned (.tuple #[.int .u32 0, .int .i64 6]) ∧ Q W w') := fun W hW => by
    have := mload_any 1048576 4 W hK hW hb (by decide) (by decide)
    rw [hz] at this
    rwa [if_neg (by decide)] at this
  have HB := Lib.hid h
  clear h
  have HDV : Hid (∀ W, IsBus W B R P C A K S Kc T Y x → Calls Try.prog 41 #[.pointer (some ⟨B, 0, none⟩), .int .u32 1048576, .int .i64 4] W fun e w' => e = .returned (.tuple #[portDev B, .bool true]) ∧ Below W.heap.size W w') := fun W hW => device_port 1048576 _ hW.1 h0
  rw [(BS.ld_port (x := x) (K := K) (v := 0) (k := k)).1, (BS.ld_port (x := x) (K := K) (v := 0) (k := k)).2.1]
  clear hz hb h0
  go_enter Try.func21, Try.ntmps21
  go_wp2_with fail
  refine (bram_any w HB.out.1).mono ?_
  rintro e w' ⟨rfl, hw⟩
  have hw := hw.symm
  subst hw
  go_wp2_with fail
  refine (HL.out w HB.out).mono ?_
  rintro e w1 ⟨rfl, hq⟩
  have HB1 := Lib.hid (HB.out.q hq)
  have HW1 : Hid (Fr (Fp B R P A S) w w1) := Fr.of _ (hq.below _)
  clear hq
  go_wp2_with fail
  refine (HDV.out w1 HB1.out).mono ?_
  rintro e w2 ⟨rfl, hb2⟩
  have HB2 := Lib.hid (HB1.out.on hb2)
  have HW2 : Hid (Fr (Fp B R P A S) w w2) := HW1.out.trans (Fr.of _ hb2)
  clear hb2
  have hb3 : Below w2.heap.size w2 (w2.alloc (.cells #[fnV 81, mtV 82 B, mtV 83 B] 89)) := (Below.refl _ _).alloc (Nat.le_refl _) _
  have HB3 := Lib.hid (HB2.out.on hb3)
  have HW3 : Hid (Fr (Fp B R P A S) w (w2.alloc (.cells #[fnV 81, mtV 82 B, mtV 83 B] 89))) := HW2.out.trans (Fr.of _ hb3)
  clear hb3
  go_wp2_with fail
  refine (loadport_any _ _ _ _).mono ?_
  rintro e w' ⟨rfl, hw⟩
  have hw := hw.symm
  subst hw
  go_wp2
  go_ret2
  exact ⟨rfl, HB3.out, HW3.out⟩

set_option maxHeartbeats 1600000 in
theorem bload_con {B R P C A K Kc : Nat} {S : Nat → Prop} {T Y : Nat → Int} {x : BS} (a k : Int) (w : World) (hK : K ≤ 1024) (h : IsBus w B R P C A K S Kc T Y x) (hb : BdB K x.b) (a0 : 0 ≤ a) (a1 : a < 4294967296) (hz : askZ K a 4 = 6) (h0 : (a == 1048576) = false) (h1 : (a == 268435456 || a == 268435460) = true) :
    Calls Try.prog 21 #[.pointer (some ⟨B, 0, none⟩), .int .u32 a, .int .i64 4, .int .u64 k] w fun e w' => e = .returned (.tuple #[.int .u32 (x.ldV K a 4 k), .int .i64 0]) ∧ IsBus w' B R P C A K S Kc T Y (x.ldS K a 4) ∧ Fr (Fp B R P A S) w w' := by
  have hcn : a = 268435456 ∨ a = 268435460 := by simpa using h1
  have HL : Hid (∀ W, IsBus W B R P C A K S Kc T Y x → Calls Try.prog 40 #[.pointer (some ⟨R, 0, none⟩), .int .u32 a, .int .i64 4] W fun e w' => e = .returned (.tuple #[.int .u32 0, .int .i64 6]) ∧ Q W w') := fun W hW => by
    have := mload_any a 4 W hK hW hb a0 a1
    rw [hz] at this
    rwa [if_neg (by decide)] at this
  have HB := Lib.hid h
  clear h
  have HDV : Hid (∀ W, IsBus W B R P C A K S Kc T Y x → Calls Try.prog 41 #[.pointer (some ⟨B, 0, none⟩), .int .u32 a, .int .i64 4] W fun e w' => e = .returned (.tuple #[conDev B, .bool true]) ∧ Below W.heap.size W w') := fun W hW => device_con a _ hW.1 h0 h1
  rw [(BS.ld_con (x := x) (K := K) (v := 0) (k := k) hcn).1, (BS.ld_con (x := x) (K := K) (v := 0) (k := k) hcn).2.1]
  have HP : Hid (∀ W, IsBus W B R P C A K S Kc T Y x → Calls Try.prog 85 #[.pointer (some ⟨B, 0, none⟩), .int .u32 a, .int .u64 k] W fun e w' => e = .returned (.tuple #[.int .u32 (x.s.val (a - 268435456)), .int .i64 0]) ∧ IsBus w' B R P C A K S Kc T Y { x with s := x.s.rd (a - 268435456) } ∧ Fr (Fp B R P A S) W w') := fun W hW => by
    refine (lcon_any a k W hW.1 hcn hW.2.2.1).mono ?_
    rintro e w' ⟨rfl, h1, h2⟩
    exact ⟨rfl, hW.con h1 h2 (Ext.refl _ _), h2.fp⟩
  generalize x.s.val (a - 268435456) = y at *
  clear hz hb h0 h1 hcn
  go_enter Try.func21, Try.ntmps21
  go_wp2_with fail
  refine (bram_any w HB.out.1).mono ?_
  rintro e w' ⟨rfl, hw⟩
  have hw := hw.symm
  subst hw
  go_wp2_with fail
  refine (HL.out w HB.out).mono ?_
  rintro e w1 ⟨rfl, hq⟩
  have HB1 := Lib.hid (HB.out.q hq)
  have HW1 : Hid (Fr (Fp B R P A S) w w1) := Fr.of _ (hq.below _)
  clear hq
  go_wp2_with fail
  refine (HDV.out w1 HB1.out).mono ?_
  rintro e w2 ⟨rfl, hb2⟩
  have HB2 := Lib.hid (HB1.out.on hb2)
  have HW2 : Hid (Fr (Fp B R P A S) w w2) := HW1.out.trans (Fr.of _ hb2)
  clear hb2
  have hb3 : Below w2.heap.size w2 (w2.alloc (.cells #[fnV 84, mtV 85 B, mtV 86 B] 89)) := (Below.refl _ _).alloc (Nat.le_refl _) _
  have HB3 := Lib.hid (HB2.out.on hb3)
  have HW3 : Hid (Fr (Fp B R P A S) w (w2.alloc (.cells #[fnV 84, mtV 85 B, mtV 86 B] 89))) := HW2.out.trans (Fr.of _ hb3)
  clear hb3
  go_wp2_with fail
  refine (HP.out _ HB3.out).mono ?_
  rintro e w4 ⟨rfl, h1, h2⟩
  have HE := Lib.hid (And.intro h1 (HW3.out.trans h2))
  clear h1 h2
  go_wp2
  go_ret2
  exact ⟨rfl, HE.out⟩

set_option maxHeartbeats 1600000 in
theorem bload_tim {B R P C A K Kc : Nat} {S : Nat → Prop} {T Y : Nat → Int} {x : BS} (a k : Int) (w : World) (hK : K ≤ 1024) (h : IsBus w B R P C A K S Kc T Y x) (hb : BdB K x.b) (a0 : 0 ≤ a) (a1 : a < 4294967296) (hz : askZ K a 4 = 6) (h0 : (a == 1048576) = false) (h1 : (a == 268435456 || a == 268435460) = false) (h2 : hasT a = true) (m0 : 0 ≤ x.m) (m1 : x.m < 18446744073709551616) :
    Calls Try.prog 21 #[.pointer (some ⟨B, 0, none⟩), .int .u32 a, .int .i64 4, .int .u64 k] w fun e w' => e = .returned (.tuple #[.int .u32 (x.ldV K a 4 k), .int .i64 0]) ∧ IsBus w' B R P C A K S Kc T Y (x.ldS K a 4) ∧ Fr (Fp B R P A S) w w' := by
  have HL : Hid (∀ W, IsBus W B R P C A K S Kc T Y x → Calls Try.prog 40 #[.pointer (some ⟨R, 0, none⟩), .int .u32 a, .int .i64 4] W fun e w' => e = .returned (.tuple #[.int .u32 0, .int .i64 6]) ∧ Q W w') := fun W hW => by
    have := mload_any a 4 W hK hW hb a0 a1
    rw [hz] at this
    rwa [if_neg (by decide)] at this
  have HB := Lib.hid h
  clear h
  have HDV : Hid (∀ W, IsBus W B R P C A K S Kc T Y x → Calls Try.prog 41 #[.pointer (some ⟨B, 0, none⟩), .int .u32 a, .int .i64 4] W fun e w' => e = .returned (.tuple #[timDev A, .bool true]) ∧ Below W.heap.size W w') := fun W hW => device_tim a _ hW.1 h0 h1 h2
  rw [(BS.ld_tim (x := x) (K := K) (v := 0) (k := k) h2).1, (BS.ld_tim (x := x) (K := K) (v := 0) (k := k) h2).2.1]
  have HP : Hid (∀ W, IsBus W B R P C A K S Kc T Y x → Calls Try.prog 88 #[.pointer (some ⟨A, 0, none⟩), .int .u32 a, .int .u64 k] W fun e w' => e = .returned (.tuple #[.int .u32 (readT x.o x.m x.sf a k), .int .i64 0]) ∧ w' = W) := fun W hW => tread_yes a k W h2 hW.2.2.2.1 m0 m1
  generalize readT x.o x.m x.sf a k = y at *
  clear hz hb h0 h1 h2 m0 m1
  go_enter Try.func21, Try.ntmps21
  go_wp2_with fail
  refine (bram_any w HB.out.1).mono ?_
  rintro e w' ⟨rfl, hw⟩
  have hw := hw.symm
  subst hw
  go_wp2_with fail
  refine (HL.out w HB.out).mono ?_
  rintro e w1 ⟨rfl, hq⟩
  have HB1 := Lib.hid (HB.out.q hq)
  have HW1 : Hid (Fr (Fp B R P A S) w w1) := Fr.of _ (hq.below _)
  clear hq
  go_wp2_with fail
  refine (HDV.out w1 HB1.out).mono ?_
  rintro e w2 ⟨rfl, hb2⟩
  have HB2 := Lib.hid (HB1.out.on hb2)
  have HW2 : Hid (Fr (Fp B R P A S) w w2) := HW1.out.trans (Fr.of _ hb2)
  clear hb2
  have hb3 : Below w2.heap.size w2 (w2.alloc (.cells #[fnV 87, mtV 88 A, mtV 89 A] 89)) := (Below.refl _ _).alloc (Nat.le_refl _) _
  have HB3 := Lib.hid (HB2.out.on hb3)
  have HW3 : Hid (Fr (Fp B R P A S) w (w2.alloc (.cells #[fnV 87, mtV 88 A, mtV 89 A] 89))) := HW2.out.trans (Fr.of _ hb3)
  clear hb3
  go_wp2_with fail
  refine (HP.out _ HB3.out).mono ?_
  rintro e w' ⟨rfl, hw⟩
  have hw := hw.symm
  subst hw
  go_wp2
  go_ret2
  exact ⟨rfl, HB3.out, HW3.out⟩

set_option maxHeartbeats 1600000 in
theorem bload_none {B R P C A K Kc : Nat} {S : Nat → Prop} {T Y : Nat → Int} {x : BS} (a k : Int) (w : World) (hK : K ≤ 1024) (h : IsBus w B R P C A K S Kc T Y x) (hb : BdB K x.b) (a0 : 0 ≤ a) (a1 : a < 4294967296) (hz : askZ K a 4 = 6) (h0 : (a == 1048576) = false) (h1 : (a == 268435456 || a == 268435460) = false) (h2 : hasT a = false) :
    Calls Try.prog 21 #[.pointer (some ⟨B, 0, none⟩), .int .u32 a, .int .i64 4, .int .u64 k] w fun e w' => e = .returned (.tuple #[.int .u32 0, .int .i64 6]) ∧ IsBus w' B R P C A K S Kc T Y x ∧ Fr (Fp B R P A S) w w' := by
  have HL : Hid (∀ W, IsBus W B R P C A K S Kc T Y x → Calls Try.prog 40 #[.pointer (some ⟨R, 0, none⟩), .int .u32 a, .int .i64 4] W fun e w' => e = .returned (.tuple #[.int .u32 0, .int .i64 6]) ∧ Q W w') := fun W hW => by
    have := mload_any a 4 W hK hW hb a0 a1
    rw [hz] at this
    rwa [if_neg (by decide)] at this
  have HB := Lib.hid h
  clear h
  have HDV : Hid (∀ W, IsBus W B R P C A K S Kc T Y x → Calls Try.prog 41 #[.pointer (some ⟨B, 0, none⟩), .int .u32 a, .int .i64 4] W fun e w' => e = .returned (.tuple #[noDev, .bool false]) ∧ Below W.heap.size W w') := fun W hW => device_none a _ hW.1 h0 h1 h2
  clear hz hb h0 h1 h2
  go_enter Try.func21, Try.ntmps21
  go_wp2_with fail
  refine (bram_any w HB.out.1).mono ?_
  rintro e w' ⟨rfl, hw⟩
  have hw := hw.symm
  subst hw
  go_wp2_with fail
  refine (HL.out w HB.out).mono ?_
  rintro e w1 ⟨rfl, hq⟩
  have HB1 := Lib.hid (HB.out.q hq)
  have HW1 : Hid (Fr (Fp B R P A S) w w1) := Fr.of _ (hq.below _)
  clear hq
  go_wp2_with fail
  refine (HDV.out w1 HB1.out).mono ?_
  rintro e w2 ⟨rfl, hb2⟩
  have HB2 := Lib.hid (HB1.out.on hb2)
  have HW2 : Hid (Fr (Fp B R P A S) w w2) := HW1.out.trans (Fr.of _ hb2)
  clear hb2
  have hb3 : Below w2.heap.size w2 (w2.alloc (.cells #[.nilFunc, .nilFunc, .nilFunc] 89)) := (Below.refl _ _).alloc (Nat.le_refl _) _
  have HB3 := Lib.hid (HB2.out.on hb3)
  have HW3 : Hid (Fr (Fp B R P A S) w (w2.alloc (.cells #[.nilFunc, .nilFunc, .nilFunc] 89))) := HW2.out.trans (Fr.of _ hb3)
  clear hb3
  go_wp2
  go_ret2
  exact ⟨rfl, HB3.out, HW3.out⟩

set_option maxHeartbeats 1600000 in
theorem bload_width {B R P C A K Kc : Nat} {S : Nat → Prop} {T Y : Nat → Int} {x : BS} (a n k : Int) (w : World) (hK : K ≤ 1024) (h : IsBus w B R P C A K S Kc T Y x) (hb : BdB K x.b) (a0 : 0 ≤ a) (a1 : a < 4294967296) (hz : askZ K a n = 6) (hn : n ≠ 4) :
    Calls Try.prog 21 #[.pointer (some ⟨B, 0, none⟩), .int .u32 a, .int .i64 n, .int .u64 k] w fun e w' => e = .returned (.tuple #[.int .u32 0, .int .i64 6]) ∧ IsBus w' B R P C A K S Kc T Y x ∧ Fr (Fp B R P A S) w w' := by
  have HL : Hid (∀ W, IsBus W B R P C A K S Kc T Y x → Calls Try.prog 40 #[.pointer (some ⟨R, 0, none⟩), .int .u32 a, .int .i64 n] W fun e w' => e = .returned (.tuple #[.int .u32 0, .int .i64 6]) ∧ Q W w') := fun W hW => by
    have := mload_any a n W hK hW hb a0 a1
    rw [hz] at this
    rwa [if_neg (by decide)] at this
  have HB := Lib.hid h
  clear h
  have HDV : Hid (∀ W, IsBus W B R P C A K S Kc T Y x → Calls Try.prog 41 #[.pointer (some ⟨B, 0, none⟩), .int .u32 a, .int .i64 n] W fun e w' => e = .returned (.tuple #[noDev, .bool false]) ∧ Below W.heap.size W w') := fun W hW => device_width a n _ hW.1 hn
  clear hz hb hn
  go_enter Try.func21, Try.ntmps21
  go_wp2_with fail
  refine (bram_any w HB.out.1).mono ?_
  rintro e w' ⟨rfl, hw⟩
  have hw := hw.symm
  subst hw
  go_wp2_with fail
  refine (HL.out w HB.out).mono ?_
  rintro e w1 ⟨rfl, hq⟩
  have HB1 := Lib.hid (HB.out.q hq)
  have HW1 : Hid (Fr (Fp B R P A S) w w1) := Fr.of _ (hq.below _)
  clear hq
  go_wp2_with fail
  refine (HDV.out w1 HB1.out).mono ?_
  rintro e w2 ⟨rfl, hb2⟩
  have HB2 := Lib.hid (HB1.out.on hb2)
  have HW2 : Hid (Fr (Fp B R P A S) w w2) := HW1.out.trans (Fr.of _ hb2)
  clear hb2
  have hb3 : Below w2.heap.size w2 (w2.alloc (.cells #[.nilFunc, .nilFunc, .nilFunc] 89)) := (Below.refl _ _).alloc (Nat.le_refl _) _
  have HB3 := Lib.hid (HB2.out.on hb3)
  have HW3 : Hid (Fr (Fp B R P A S) w (w2.alloc (.cells #[.nilFunc, .nilFunc, .nilFunc] 89))) := HW2.out.trans (Fr.of _ hb3)
  clear hb3
  go_wp2
  go_ret2
  exact ⟨rfl, HB3.out, HW3.out⟩

/-- Load, of an access that there is. -/
theorem bload_yes {B R P C A K Kc : Nat} {S : Nat → Prop} {T Y : Nat → Int} {x : BS} (a n k : Int) (w : World) (hK : K ≤ 1024) (h : IsBus w B R P C A K S Kc T Y x) (c : Nat) (hb : BsOk K x c) (hc : c ≤ 100000) (a0 : 0 ≤ a) (a1 : a < 4294967296) (hz : ask14 K a n = 0) :
    Calls Try.prog 21 #[.pointer (some ⟨B, 0, none⟩), .int .u32 a, .int .i64 n, .int .u64 k] w fun e w' => e = .returned (.tuple #[.int .u32 (x.ldV K a n k), .int .i64 0]) ∧ IsBus w' B R P C A K S Kc T Y (x.ldS K a n) ∧ Fr (Fp B R P A S) w w' := by
  rcases ask14_zero hz with hz | hz
  · exact bload_mem a n k w hK h hb.1 a0 a1 hz
  · obtain ⟨rfl, hd⟩ := isDev_yes hz
    have h6 := isDev_ask hz
    rcases devB_yes hd with rfl | hd | hd
    · exact bload_port k w hK h hb.1 h6 (by decide)
    · rcases hd with rfl | rfl <;> exact bload_con _ k w hK h hb.1 a0 a1 h6 (by decide) (by decide)
    · exact bload_tim a k w hK h hb.1 a0 a1 h6 (by rcases hasT_yes hd with rfl | rfl | rfl | rfl | rfl <;> decide) (by rcases hasT_yes hd with rfl | rfl | rfl | rfl | rfl <;> decide) hd hb.2.2.1.1 hb.2.2.1.2

/-- Load, of one that there is not. -/
theorem bload_no {B R P C A K Kc : Nat} {S : Nat → Prop} {T Y : Nat → Int} {x : BS} (a n k : Int) (w : World) (hK : K ≤ 1024) (h : IsBus w B R P C A K S Kc T Y x) (c : Nat) (hb : BsOk K x c) (hc : c ≤ 100000) (a0 : 0 ≤ a) (a1 : a < 4294967296) (hz : ask14 K a n ≠ 0) :
    Calls Try.prog 21 #[.pointer (some ⟨B, 0, none⟩), .int .u32 a, .int .i64 n, .int .u64 k] w fun e w' => e = .returned (.tuple #[.int .u32 0, .int .i64 (ask14 K a n)]) ∧ IsBus w' B R P C A K S Kc T Y x ∧ Fr (Fp B R P A S) w w' := by
  have hd : isDev K a n = false := by
    cases hd : isDev K a n
    · rfl
    · exact absurd (by simp [ask14, hd]) hz
  have he : ask14 K a n = askZ K a n := by simp [ask14, hd]
  rw [he] at hz ⊢
  rcases askZ_cases K a n with ⟨_, h1⟩ | ⟨_, _, h1⟩ | ⟨_, _, _, h1⟩ | ⟨_, _, _, h1⟩
  · rw [h1]; exact bload_err2 a n k w hK h hb.1 a0 a1 h1
  · rw [h1]; exact bload_err5 a n k w hK h hb.1 a0 a1 h1
  · rw [h1]
    rcases isDev_no hd with hn | hn
    · exact bload_width a n k w hK h hb.1 a0 a1 h1 hn
    · by_cases h4 : n = 4
      · subst h4
        obtain ⟨⟨d1, d2, d3⟩, d4⟩ := devB_no hn
        exact bload_none a k w hK h hb.1 a0 a1 h1 d1 (by rw [d2, d3]; rfl) d4
      · exact bload_width a n k w hK h hb.1 a0 a1 h1 h4
  · exact absurd h1 hz
end Go.Proofs.Ytkbccccjjlkgbaa

/- Layer 14: Store. (By gen-busgo.py.) -/
namespace Go.Proofs.Ytkbccccjjlkgbaa
open Go.RowKit
set_option linter.unusedVariables false
set_option linter.unusedSimpArgs false
set_option maxRecDepth 100000

set_option maxHeartbeats 800000 in
theorem bstore_nil (a n v k : Int) (w : World) :
    Calls Try.prog 18 #[.pointer none, .int .u32 a, .int .i64 n, .int .u32 v, .int .u64 k] w fun e w' => e = .returned (.tuple #[.bool false, .int .i64 2]) ∧ w' = w := by
  go_enter Try.func18, Try.ntmps18
  go_wp2_with (first | (go_at_call 16; refine (bram_nil _).mono ?_; rintro e w' ⟨rfl, hw⟩; have hw := hw.symm; subst hw) | (go_at_call 46; refine (store_nil _ _ _ _).mono ?_; rintro e w' ⟨rfl, hw⟩; have hw := hw.symm; subst hw))
  go_ret2
  exact ⟨rfl, rfl⟩

/-- What a store into memory does, of whatever access. -/
theorem mstore_any {B R P C A K Kc : Nat} {S : Nat → Prop} {T Y : Nat → Int} {x : BS} (a n v : Int) (w : World) (hK : K ≤ 1024) (h : IsBus w B R P C A K S Kc T Y x) (c : Nat) (hb : BsOk K x c) (hc : c ≤ 100000) (a0 : 0 ≤ a) (a1 : a < 4294967296) (v0 : 0 ≤ v) (v1 : v < 4294967296) :
    Calls Try.prog 46 #[.pointer (some ⟨R, 0, none⟩), .int .u32 a, .int .i64 n, .int .u32 v] w fun e w' => e = .returned (.tuple #[.bool (x.hit K a n), .int .i64 (askZ K a n)]) ∧ IsBus w' B R P C A K S Kc T Y (if askZ K a n = 0 then x.stM a n v else x) ∧ Fr (Fp B R P A S) w w' := by
  by_cases hz : askZ K a n = 0
  · obtain ⟨h1, h2, h3, h4, h5, -⟩ := pl_of hz
    rw [if_pos hz, BS.hit_mem hz, hz]
    have := store_yes R P K (plZ a) n.toNat a v x.b x.wa x.g c w hK h.2.1 hb.2.1 (by omega) h4 (by rw [h5]; exact h1) (by rw [h5]; exact h2) (by rw [h5]; exact h3) v0 v1
    rw [h5] at this
    refine this.mono ?_
    rintro e w' ⟨rfl, hr, hbar⟩
    exact ⟨rfl, h.ram hr hbar, fr_fpP hbar⟩
  · rw [if_neg hz, BS.hit_dev hz]
    refine (store_no R P K a n v w hK h.2.1.ptr a0 a1 hz).mono ?_
    rintro e w' ⟨rfl, rfl⟩
    exact ⟨rfl, h, Fr.refl _ _⟩

set_option maxHeartbeats 1600000 in
theorem bstore_mem {B R P C A K Kc : Nat} {S : Nat → Prop} {T Y : Nat → Int} {x : BS} (a n v k : Int) (w : World) (hK : K ≤ 1024) (h : IsBus w B R P C A K S Kc T Y x) (c : Nat) (hb : BsOk K x c) (hc : c ≤ 100000) (a0 : 0 ≤ a) (a1 : a < 4294967296) (v0 : 0 ≤ v) (v1 : v < 4294967296) (hz : askZ K a n = 0) :
    Calls Try.prog 18 #[.pointer (some ⟨B, 0, none⟩), .int .u32 a, .int .i64 n, .int .u32 v, .int .u64 k] w fun e w' => e = .returned (.tuple #[.bool (x.hit K a n), .int .i64 0]) ∧ ∃ S', IsBus w' B R P C A K S' Kc T Y (x.st K a n v k) ∧ Fr (Fp B R P A S) w w' ∧ Ext w S S' := by
  have HL : Hid (∀ W, IsBus W B R P C A K S Kc T Y x → Calls Try.prog 46 #[.pointer (some ⟨R, 0, none⟩), .int .u32 a, .int .i64 n, .int .u32 v] W fun e w' => e = .returned (.tuple #[.bool (x.hit K a n), .int .i64 0]) ∧ IsBus w' B R P C A K S Kc T Y (x.st K a n v k) ∧ Fr (Fp B R P A S) W w') := fun W hW => by
    have := mstore_any a n v W hK hW c hb hc a0 a1 v0 v1
    rw [hz] at this
    rw [BS.st_mem hz]; rwa [if_pos rfl] at this
  have HB := Lib.hid h
  clear h
  clear hz hb
  generalize x.hit K a n = y at *
  generalize x.st K a n v k = x' at *
  go_enter Try.func18, Try.ntmps18
  go_wp2_with fail
  refine (bram_any w HB.out.1).mono ?_
  rintro e w' ⟨rfl, hw⟩
  have hw := hw.symm
  subst hw
  go_wp2_with fail
  refine (HL.out w HB.out).mono ?_
  rintro e w1 ⟨rfl, hb1, hf1⟩
  have HB1 := Lib.hid hb1
  have HW1 := Lib.hid hf1
  clear hb1 hf1
  go_wp2
  go_ret2
  exact ⟨rfl, S, HB1.out, HW1.out, Ext.refl _ _⟩

set_option maxHeartbeats 1600000 in
theorem bstore_err2 {B R P C A K Kc : Nat} {S : Nat → Prop} {T Y : Nat → Int} {x : BS} (a n v k : Int) (w : World) (hK : K ≤ 1024) (h : IsBus w B R P C A K S Kc T Y x) (c : Nat) (hb : BsOk K x c) (hc : c ≤ 100000) (a0 : 0 ≤ a) (a1 : a < 4294967296) (v0 : 0 ≤ v) (v1 : v < 4294967296) (hz : askZ K a n = 2) :
    Calls Try.prog 18 #[.pointer (some ⟨B, 0, none⟩), .int .u32 a, .int .i64 n, .int .u32 v, .int .u64 k] w fun e w' => e = .returned (.tuple #[.bool false, .int .i64 2]) ∧ IsBus w' B R P C A K S Kc T Y x ∧ Fr (Fp B R P A S) w w' := by
  have HL : Hid (∀ W, IsBus W B R P C A K S Kc T Y x → Calls Try.prog 46 #[.pointer (some ⟨R, 0, none⟩), .int .u32 a, .int .i64 n, .int .u32 v] W fun e w' => e = .returned (.tuple #[.bool false, .int .i64 2]) ∧ IsBus w' B R P C A K S Kc T Y x ∧ Fr (Fp B R P A S) W w') := fun W hW => by
    have := mstore_any a n v W hK hW c hb hc a0 a1 v0 v1
    rw [hz] at this
    rwa [if_neg (by decide), BS.hit_dev (by rw [hz]; decide)] at this
  have HB := Lib.hid h
  clear h
  clear hz hb
  go_enter Try.func18, Try.ntmps18
  go_wp2_with fail
  refine (bram_any w HB.out.1).mono ?_
  rintro e w' ⟨rfl, hw⟩
  have hw := hw.symm
  subst hw
  go_wp2_with fail
  refine (HL.out w HB.out).mono ?_
  rintro e w1 ⟨rfl, hb1, hf1⟩
  have HB1 := Lib.hid hb1
  have HW1 := Lib.hid hf1
  clear hb1 hf1
  go_wp2
  go_ret2
  exact ⟨rfl, HB1.out, HW1.out⟩

set_option maxHeartbeats 1600000 in
theorem bstore_err5 {B R P C A K Kc : Nat} {S : Nat → Prop} {T Y : Nat → Int} {x : BS} (a n v k : Int) (w : World) (hK : K ≤ 1024) (h : IsBus w B R P C A K S Kc T Y x) (c : Nat) (hb : BsOk K x c) (hc : c ≤ 100000) (a0 : 0 ≤ a) (a1 : a < 4294967296) (v0 : 0 ≤ v) (v1 : v < 4294967296) (hz : askZ K a n = 5) :
    Calls Try.prog 18 #[.pointer (some ⟨B, 0, none⟩), .int .u32 a, .int .i64 n, .int .u32 v, .int .u64 k] w fun e w' => e = .returned (.tuple #[.bool false, .int .i64 5]) ∧ IsBus w' B R P C A K S Kc T Y x ∧ Fr (Fp B R P A S) w w' := by
  have HL : Hid (∀ W, IsBus W B R P C A K S Kc T Y x → Calls Try.prog 46 #[.pointer (some ⟨R, 0, none⟩), .int .u32 a, .int .i64 n, .int .u32 v] W fun e w' => e = .returned (.tuple #[.bool false, .int .i64 5]) ∧ IsBus w' B R P C A K S Kc T Y x ∧ Fr (Fp B R P A S) W w') := fun W hW => by
    have := mstore_any a n v W hK hW c hb hc a0 a1 v0 v1
    rw [hz] at this
    rwa [if_neg (by decide), BS.hit_dev (by rw [hz]; decide)] at this
  have HB := Lib.hid h
  clear h
  clear hz hb
  go_enter Try.func18, Try.ntmps18
  go_wp2_with fail
  refine (bram_any w HB.out.1).mono ?_
  rintro e w' ⟨rfl, hw⟩
  have hw := hw.symm
  subst hw
  go_wp2_with fail
  refine (HL.out w HB.out).mono ?_
  rintro e w1 ⟨rfl, hb1, hf1⟩
  have HB1 := Lib.hid hb1
  have HW1 := Lib.hid hf1
  clear hb1 hf1
  go_wp2
  go_ret2
  exact ⟨rfl, HB1.out, HW1.out⟩

set_option maxHeartbeats 1600000 in
theorem bstore_port {B R P C A K Kc : Nat} {S : Nat → Prop} {T Y : Nat → Int} {x : BS} (v k : Int) (w : World) (hK : K ≤ 1024) (h : IsBus w B R P C A K S Kc T Y x) (c : Nat) (hb : BsOk K x c) (hc : c ≤ 100000) (v0 : 0 ≤ v) (v1 : v < 4294967296) (hz : askZ K 1048576 4 = 6) (h0 : ((1048576 : Int) == 1048576) = true) :
    Calls Try.prog 18 #[.pointer (some ⟨B, 0, none⟩), .int .u32 1048576, .int .i64 4, .int .u32 v, .int .u64 k] w fun e w' => e = .returned (.tuple #[.bool (x.hit K 1048576 4), .int .i64 0]) ∧ ∃ S', IsBus w' B R P C A K S' Kc T Y (x.st K 1048576 4 v k) ∧ Fr (Fp B R P A S) w w' ∧ Ext w S S' := by
  have HL : Hid (∀ W, IsBus W B R P C A K S Kc T Y x → Calls Try.prog 46 #[.pointer (some ⟨R, 0, none⟩), .int .u32 1048576, .int .i64 4, .int .u32 v] W fun e w' => e = .returned (.tuple #[.bool false, .int .i64 6]) ∧ IsBus w' B R P C A K S Kc T Y x ∧ Fr (Fp B R P A S) W w') := fun W hW => by
    have := mstore_any 1048576 4 v W hK hW c hb hc (by decide) (by decide) v0 v1
    rw [hz] at this
    rwa [if_neg (by decide), BS.hit_dev (by rw [hz]; decide)] at this
  have HB := Lib.hid h
  clear h
  rw [BS.hit_dev (by rw [hz]; decide)]
  have HDV : Hid (∀ W, IsBus W B R P C A K S Kc T Y x → Calls Try.prog 41 #[.pointer (some ⟨B, 0, none⟩), .int .u32 1048576, .int .i64 4] W fun e w' => e = .returned (.tuple #[portDev B, .bool true]) ∧ Below W.heap.size W w') := fun W hW => device_port 1048576 _ hW.1 h0
  rw [(BS.ld_port (x := x) (K := K) (v := v) (k := k)).2.2]
  clear hz hb h0
  go_enter Try.func18, Try.ntmps18
  go_wp2_with fail
  refine (bram_any w HB.out.1).mono ?_
  rintro e w' ⟨rfl, hw⟩
  have hw := hw.symm
  subst hw
  go_wp2_with fail
  refine (HL.out w HB.out).mono ?_
  rintro e w1 ⟨rfl, hb1, hf1⟩
  have HB1 := Lib.hid hb1
  have HW1 := Lib.hid hf1
  clear hb1 hf1
  go_wp2_with fail
  refine (HDV.out w1 HB1.out).mono ?_
  rintro e w2 ⟨rfl, hb2⟩
  have HB2 := Lib.hid (HB1.out.on hb2)
  have HW2 : Hid (Fr (Fp B R P A S) w w2) := HW1.out.trans (Fr.of _ hb2)
  clear hb2
  have hb3 : Below w2.heap.size w2 (w2.alloc (.cells #[fnV 81, mtV 82 B, mtV 83 B] 89)) := (Below.refl _ _).alloc (Nat.le_refl _) _
  have HB3 := Lib.hid (HB2.out.on hb3)
  have HW3 : Hid (Fr (Fp B R P A S) w (w2.alloc (.cells #[fnV 81, mtV 82 B, mtV 83 B] 89))) := HW2.out.trans (Fr.of _ hb3)
  clear hb3
  go_wp2_with fail
  refine (storeport_any _ _ _ _ HB3.out.1).mono ?_
  rintro e w4 ⟨rfl, h1, h2⟩
  have HE := Lib.hid (And.intro (HB3.out.port h1 h2) (HW3.out.trans (fr_fpB h2)))
  clear h1 h2
  go_wp2
  go_ret2
  exact ⟨rfl, S, HE.out.1, HE.out.2, Ext.refl _ _⟩

set_option maxHeartbeats 1600000 in
theorem bstore_con {B R P C A K Kc : Nat} {S : Nat → Prop} {T Y : Nat → Int} {x : BS} (a v k : Int) (w : World) (hK : K ≤ 1024) (h : IsBus w B R P C A K S Kc T Y x) (c : Nat) (hb : BsOk K x c) (hc : c ≤ 100000) (a0 : 0 ≤ a) (a1 : a < 4294967296) (v0 : 0 ≤ v) (v1 : v < 4294967296) (hz : askZ K a 4 = 6) (h0 : (a == 1048576) = false) (h1 : (a == 268435456 || a == 268435460) = true) :
    Calls Try.prog 18 #[.pointer (some ⟨B, 0, none⟩), .int .u32 a, .int .i64 4, .int .u32 v, .int .u64 k] w fun e w' => e = .returned (.tuple #[.bool (x.hit K a 4), .int .i64 0]) ∧ ∃ S', IsBus w' B R P C A K S' Kc T Y (x.st K a 4 v k) ∧ Fr (Fp B R P A S) w w' ∧ Ext w S S' := by
  have hcn : a = 268435456 ∨ a = 268435460 := by simpa using h1
  have HL : Hid (∀ W, IsBus W B R P C A K S Kc T Y x → Calls Try.prog 46 #[.pointer (some ⟨R, 0, none⟩), .int .u32 a, .int .i64 4, .int .u32 v] W fun e w' => e = .returned (.tuple #[.bool false, .int .i64 6]) ∧ IsBus w' B R P C A K S Kc T Y x ∧ Fr (Fp B R P A S) W w') := fun W hW => by
    have := mstore_any a 4 v W hK hW c hb hc a0 a1 v0 v1
    rw [hz] at this
    rwa [if_neg (by decide), BS.hit_dev (by rw [hz]; decide)] at this
  have HB := Lib.hid h
  clear h
  rw [BS.hit_dev (by rw [hz]; decide)]
  have HDV : Hid (∀ W, IsBus W B R P C A K S Kc T Y x → Calls Try.prog 41 #[.pointer (some ⟨B, 0, none⟩), .int .u32 a, .int .i64 4] W fun e w' => e = .returned (.tuple #[conDev B, .bool true]) ∧ Below W.heap.size W w') := fun W hW => device_con a _ hW.1 h0 h1
  rw [(BS.ld_con (x := x) (K := K) (v := v) (k := k) hcn).2.2]
  have HP : Hid (∀ W, IsBus W B R P C A K S Kc T Y x → Calls Try.prog 86 #[.pointer (some ⟨B, 0, none⟩), .int .u32 a, .int .u32 v, .int .u64 k] W fun e w' => e = .returned (.int .i64 0) ∧ ∃ S', IsBus w' B R P C A K S' Kc T Y { x with s := x.s.wr (a - 268435456) v } ∧ Fr (Fp B R P A S) W w' ∧ Ext W S S') := fun W hW => by
    refine (scon_any a v k W hW.1 hcn (by have := hb.2.2.2; omega) hW.2.2.1).mono ?_
    rintro e w' ⟨rfl, S', h1, h2, h3⟩
    exact ⟨rfl, S', hW.con h1 h2 h3, h2.fp, h3⟩
  clear hz hb h0 h1 hcn
  go_enter Try.func18, Try.ntmps18
  go_wp2_with fail
  refine (bram_any w HB.out.1).mono ?_
  rintro e w' ⟨rfl, hw⟩
  have hw := hw.symm
  subst hw
  go_wp2_with fail
  refine (HL.out w HB.out).mono ?_
  rintro e w1 ⟨rfl, hb1, hf1⟩
  have HB1 := Lib.hid hb1
  have HW1 := Lib.hid hf1
  clear hb1 hf1
  go_wp2_with fail
  refine (HDV.out w1 HB1.out).mono ?_
  rintro e w2 ⟨rfl, hb2⟩
  have HB2 := Lib.hid (HB1.out.on hb2)
  have HW2 : Hid (Fr (Fp B R P A S) w w2) := HW1.out.trans (Fr.of _ hb2)
  clear hb2
  have hb3 : Below w2.heap.size w2 (w2.alloc (.cells #[fnV 84, mtV 85 B, mtV 86 B] 89)) := (Below.refl _ _).alloc (Nat.le_refl _) _
  have HB3 := Lib.hid (HB2.out.on hb3)
  have HW3 : Hid (Fr (Fp B R P A S) w (w2.alloc (.cells #[fnV 84, mtV 85 B, mtV 86 B] 89))) := HW2.out.trans (Fr.of _ hb3)
  clear hb3
  go_wp2_with fail
  refine (HP.out _ HB3.out).mono ?_
  rintro e w4 ⟨rfl, S', h1, h2, h3⟩
  have HE := Lib.hid (And.intro h1 (And.intro (HW3.out.trans h2) (show Ext w S S' from fun q hq => by rcases h3 q hq with e | e; exact .inl e; exact .inr (Nat.le_trans HW3.out.size e))))
  clear h1 h2 h3
  go_wp2
  go_ret2
  exact ⟨rfl, S', HE.out⟩

set_option maxHeartbeats 1600000 in
theorem bstore_tim {B R P C A K Kc : Nat} {S : Nat → Prop} {T Y : Nat → Int} {x : BS} (a v k : Int) (w : World) (hK : K ≤ 1024) (h : IsBus w B R P C A K S Kc T Y x) (c : Nat) (hb : BsOk K x c) (hc : c ≤ 100000) (a0 : 0 ≤ a) (a1 : a < 4294967296) (v0 : 0 ≤ v) (v1 : v < 4294967296) (hz : askZ K a 4 = 6) (h0 : (a == 1048576) = false) (h1 : (a == 268435456 || a == 268435460) = false) (h2 : hasT a = true) :
    Calls Try.prog 18 #[.pointer (some ⟨B, 0, none⟩), .int .u32 a, .int .i64 4, .int .u32 v, .int .u64 k] w fun e w' => e = .returned (.tuple #[.bool (x.hit K a 4), .int .i64 0]) ∧ ∃ S', IsBus w' B R P C A K S' Kc T Y (x.st K a 4 v k) ∧ Fr (Fp B R P A S) w w' ∧ Ext w S S' := by
  have HL : Hid (∀ W, IsBus W B R P C A K S Kc T Y x → Calls Try.prog 46 #[.pointer (some ⟨R, 0, none⟩), .int .u32 a, .int .i64 4, .int .u32 v] W fun e w' => e = .returned (.tuple #[.bool false, .int .i64 6]) ∧ IsBus w' B R P C A K S Kc T Y x ∧ Fr (Fp B R P A S) W w') := fun W hW => by
    have := mstore_any a 4 v W hK hW c hb hc a0 a1 v0 v1
    rw [hz] at this
    rwa [if_neg (by decide), BS.hit_dev (by rw [hz]; decide)] at this
  have HB := Lib.hid h
  clear h
  rw [BS.hit_dev (by rw [hz]; decide)]
  have HDV : Hid (∀ W, IsBus W B R P C A K S Kc T Y x → Calls Try.prog 41 #[.pointer (some ⟨B, 0, none⟩), .int .u32 a, .int .i64 4] W fun e w' => e = .returned (.tuple #[timDev A, .bool true]) ∧ Below W.heap.size W w') := fun W hW => device_tim a _ hW.1 h0 h1 h2
  rw [(BS.ld_tim (x := x) (K := K) (v := v) (k := k) h2).2.2]
  have HP : Hid (∀ W, IsBus W B R P C A K S Kc T Y x → Calls Try.prog 89 #[.pointer (some ⟨A, 0, none⟩), .int .u32 a, .int .u32 v, .int .u64 k] W fun e w' => e = .returned (.int .i64 0) ∧ IsBus w' B R P C A K S Kc T Y { x with o := wO x.o a v k, m := wM x.m a v, sf := wS x.sf a v } ∧ Fr (Fp B R P A S) W w') := fun W hW => by
    refine (twrite_yes a v k W h2 hW.2.2.2.1 hb.2.2.1.1 hb.2.2.1.2 v0 v1).mono ?_
    rintro e w' ⟨rfl, h1, h2⟩
    exact ⟨rfl, hW.tim h1 h2, fr_fpA h2⟩
  clear hz hb h0 h1 h2
  go_enter Try.func18, Try.ntmps18
  go_wp2_with fail
  refine (bram_any w HB.out.1).mono ?_
  rintro e w' ⟨rfl, hw⟩
  have hw := hw.symm
  subst hw
  go_wp2_with fail
  refine (HL.out w HB.out).mono ?_
  rintro e w1 ⟨rfl, hb1, hf1⟩
  have HB1 := Lib.hid hb1
  have HW1 := Lib.hid hf1
  clear hb1 hf1
  go_wp2_with fail
  refine (HDV.out w1 HB1.out).mono ?_
  rintro e w2 ⟨rfl, hb2⟩
  have HB2 := Lib.hid (HB1.out.on hb2)
  have HW2 : Hid (Fr (Fp B R P A S) w w2) := HW1.out.trans (Fr.of _ hb2)
  clear hb2
  have hb3 : Below w2.heap.size w2 (w2.alloc (.cells #[fnV 87, mtV 88 A, mtV 89 A] 89)) := (Below.refl _ _).alloc (Nat.le_refl _) _
  have HB3 := Lib.hid (HB2.out.on hb3)
  have HW3 : Hid (Fr (Fp B R P A S) w (w2.alloc (.cells #[fnV 87, mtV 88 A, mtV 89 A] 89))) := HW2.out.trans (Fr.of _ hb3)
  clear hb3
  go_wp2_with fail
  refine (HP.out _ HB3.out).mono ?_
  rintro e w4 ⟨rfl, h1, h2⟩
  have HE := Lib.hid (And.intro h1 (HW3.out.trans h2))
  clear h1 h2
  go_wp2
  go_ret2
  exact ⟨rfl, S, HE.out.1, HE.out.2, Ext.refl _ _⟩

set_option maxHeartbeats 1600000 in
theorem bstore_none {B R P C A K Kc : Nat} {S : Nat → Prop} {T Y : Nat → Int} {x : BS} (a v k : Int) (w : World) (hK : K ≤ 1024) (h : IsBus w B R P C A K S Kc T Y x) (c : Nat) (hb : BsOk K x c) (hc : c ≤ 100000) (a0 : 0 ≤ a) (a1 : a < 4294967296) (v0 : 0 ≤ v) (v1 : v < 4294967296) (hz : askZ K a 4 = 6) (h0 : (a == 1048576) = false) (h1 : (a == 268435456 || a == 268435460) = false) (h2 : hasT a = false) :
    Calls Try.prog 18 #[.pointer (some ⟨B, 0, none⟩), .int .u32 a, .int .i64 4, .int .u32 v, .int .u64 k] w fun e w' => e = .returned (.tuple #[.bool false, .int .i64 6]) ∧ IsBus w' B R P C A K S Kc T Y x ∧ Fr (Fp B R P A S) w w' := by
  have HL : Hid (∀ W, IsBus W B R P C A K S Kc T Y x → Calls Try.prog 46 #[.pointer (some ⟨R, 0, none⟩), .int .u32 a, .int .i64 4, .int .u32 v] W fun e w' => e = .returned (.tuple #[.bool false, .int .i64 6]) ∧ IsBus w' B R P C A K S Kc T Y x ∧ Fr (Fp B R P A S) W w') := fun W hW => by
    have := mstore_any a 4 v W hK hW c hb hc a0 a1 v0 v1
    rw [hz] at this
    rwa [if_neg (by decide), BS.hit_dev (by rw [hz]; decide)] at this
  have HB := Lib.hid h
  clear h
  have HDV : Hid (∀ W, IsBus W B R P C A K S Kc T Y x → Calls Try.prog 41 #[.pointer (some ⟨B, 0, none⟩), .int .u32 a, .int .i64 4] W fun e w' => e = .returned (.tuple #[noDev, .bool false]) ∧ Below W.heap.size W w') := fun W hW => device_none a _ hW.1 h0 h1 h2
  clear hz hb h0 h1 h2
  go_enter Try.func18, Try.ntmps18
  go_wp2_with fail
  refine (bram_any w HB.out.1).mono ?_
  rintro e w' ⟨rfl, hw⟩
  have hw := hw.symm
  subst hw
  go_wp2_with fail
  refine (HL.out w HB.out).mono ?_
  rintro e w1 ⟨rfl, hb1, hf1⟩
  have HB1 := Lib.hid hb1
  have HW1 := Lib.hid hf1
  clear hb1 hf1
  go_wp2_with fail
  refine (HDV.out w1 HB1.out).mono ?_
  rintro e w2 ⟨rfl, hb2⟩
  have HB2 := Lib.hid (HB1.out.on hb2)
  have HW2 : Hid (Fr (Fp B R P A S) w w2) := HW1.out.trans (Fr.of _ hb2)
  clear hb2
  have hb3 : Below w2.heap.size w2 (w2.alloc (.cells #[.nilFunc, .nilFunc, .nilFunc] 89)) := (Below.refl _ _).alloc (Nat.le_refl _) _
  have HB3 := Lib.hid (HB2.out.on hb3)
  have HW3 : Hid (Fr (Fp B R P A S) w (w2.alloc (.cells #[.nilFunc, .nilFunc, .nilFunc] 89))) := HW2.out.trans (Fr.of _ hb3)
  clear hb3
  go_wp2
  go_ret2
  exact ⟨rfl, HB3.out, HW3.out⟩

set_option maxHeartbeats 1600000 in
theorem bstore_width {B R P C A K Kc : Nat} {S : Nat → Prop} {T Y : Nat → Int} {x : BS} (a n v k : Int) (w : World) (hK : K ≤ 1024) (h : IsBus w B R P C A K S Kc T Y x) (c : Nat) (hb : BsOk K x c) (hc : c ≤ 100000) (a0 : 0 ≤ a) (a1 : a < 4294967296) (v0 : 0 ≤ v) (v1 : v < 4294967296) (hz : askZ K a n = 6) (hn : n ≠ 4) :
    Calls Try.prog 18 #[.pointer (some ⟨B, 0, none⟩), .int .u32 a, .int .i64 n, .int .u32 v, .int .u64 k] w fun e w' => e = .returned (.tuple #[.bool false, .int .i64 6]) ∧ IsBus w' B R P C A K S Kc T Y x ∧ Fr (Fp B R P A S) w w' := by
  have HL : Hid (∀ W, IsBus W B R P C A K S Kc T Y x → Calls Try.prog 46 #[.pointer (some ⟨R, 0, none⟩), .int .u32 a, .int .i64 n, .int .u32 v] W fun e w' => e = .returned (.tuple #[.bool false, .int .i64 6]) ∧ IsBus w' B R P C A K S Kc T Y x ∧ Fr (Fp B R P A S) W w') := fun W hW => by
    have := mstore_any a n v W hK hW c hb hc a0 a1 v0 v1
    rw [hz] at this
    rwa [if_neg (by decide), BS.hit_dev (by rw [hz]; decide)] at this
  have HB := Lib.hid h
  clear h
  have HDV : Hid (∀ W, IsBus W B R P C A K S Kc T Y x → Calls Try.prog 41 #[.pointer (some ⟨B, 0, none⟩), .int .u32 a, .int .i64 n] W fun e w' => e = .returned (.tuple #[noDev, .bool false]) ∧ Below W.heap.size W w') := fun W hW => device_width a n _ hW.1 hn
  clear hz hb hn
  go_enter Try.func18, Try.ntmps18
  go_wp2_with fail
  refine (bram_any w HB.out.1).mono ?_
  rintro e w' ⟨rfl, hw⟩
  have hw := hw.symm
  subst hw
  go_wp2_with fail
  refine (HL.out w HB.out).mono ?_
  rintro e w1 ⟨rfl, hb1, hf1⟩
  have HB1 := Lib.hid hb1
  have HW1 := Lib.hid hf1
  clear hb1 hf1
  go_wp2_with fail
  refine (HDV.out w1 HB1.out).mono ?_
  rintro e w2 ⟨rfl, hb2⟩
  have HB2 := Lib.hid (HB1.out.on hb2)
  have HW2 : Hid (Fr (Fp B R P A S) w w2) := HW1.out.trans (Fr.of _ hb2)
  clear hb2
  have hb3 : Below w2.heap.size w2 (w2.alloc (.cells #[.nilFunc, .nilFunc, .nilFunc] 89)) := (Below.refl _ _).alloc (Nat.le_refl _) _
  have HB3 := Lib.hid (HB2.out.on hb3)
  have HW3 : Hid (Fr (Fp B R P A S) w (w2.alloc (.cells #[.nilFunc, .nilFunc, .nilFunc] 89))) := HW2.out.trans (Fr.of _ hb3)
  clear hb3
  go_wp2
  go_ret2
  exact ⟨rfl, HB3.out, HW3.out⟩

/-- Store, of an access that there is. -/
theorem bstore_yes {B R P C A K Kc : Nat} {S : Nat → Prop} {T Y : Nat → Int} {x : BS} (a n v k : Int) (w : World) (hK : K ≤ 1024) (h : IsBus w B R P C A K S Kc T Y x) (c : Nat) (hb : BsOk K x c) (hc : c ≤ 100000) (a0 : 0 ≤ a) (a1 : a < 4294967296) (v0 : 0 ≤ v) (v1 : v < 4294967296) (hz : ask14 K a n = 0) :
    Calls Try.prog 18 #[.pointer (some ⟨B, 0, none⟩), .int .u32 a, .int .i64 n, .int .u32 v, .int .u64 k] w fun e w' => e = .returned (.tuple #[.bool (x.hit K a n), .int .i64 0]) ∧ ∃ S', IsBus w' B R P C A K S' Kc T Y (x.st K a n v k) ∧ Fr (Fp B R P A S) w w' ∧ Ext w S S' := by
  rcases ask14_zero hz with hz | hz
  · exact bstore_mem a n v k w hK h c hb hc a0 a1 v0 v1 hz
  · obtain ⟨rfl, hd⟩ := isDev_yes hz
    have h6 := isDev_ask hz
    rcases devB_yes hd with rfl | hd | hd
    · exact bstore_port v k w hK h c hb hc v0 v1 h6 (by decide)
    · rcases hd with rfl | rfl <;> exact bstore_con _ v k w hK h c hb hc a0 a1 v0 v1 h6 (by decide) (by decide)
    · exact bstore_tim a v k w hK h c hb hc a0 a1 v0 v1 h6 (by rcases hasT_yes hd with rfl | rfl | rfl | rfl | rfl <;> decide) (by rcases hasT_yes hd with rfl | rfl | rfl | rfl | rfl <;> decide) hd

/-- Store, of one that there is not. -/
theorem bstore_no {B R P C A K Kc : Nat} {S : Nat → Prop} {T Y : Nat → Int} {x : BS} (a n v k : Int) (w : World) (hK : K ≤ 1024) (h : IsBus w B R P C A K S Kc T Y x) (c : Nat) (hb : BsOk K x c) (hc : c ≤ 100000) (a0 : 0 ≤ a) (a1 : a < 4294967296) (v0 : 0 ≤ v) (v1 : v < 4294967296) (hz : ask14 K a n ≠ 0) :
    Calls Try.prog 18 #[.pointer (some ⟨B, 0, none⟩), .int .u32 a, .int .i64 n, .int .u32 v, .int .u64 k] w fun e w' => e = .returned (.tuple #[.bool false, .int .i64 (ask14 K a n)]) ∧ IsBus w' B R P C A K S Kc T Y x ∧ Fr (Fp B R P A S) w w' := by
  have hd : isDev K a n = false := by
    cases hd : isDev K a n
    · rfl
    · exact absurd (by simp [ask14, hd]) hz
  have he : ask14 K a n = askZ K a n := by simp [ask14, hd]
  rw [he] at hz ⊢
  rcases askZ_cases K a n with ⟨_, h1⟩ | ⟨_, _, h1⟩ | ⟨_, _, _, h1⟩ | ⟨_, _, _, h1⟩
  · rw [h1]; exact bstore_err2 a n v k w hK h c hb hc a0 a1 v0 v1 h1
  · rw [h1]; exact bstore_err5 a n v k w hK h c hb hc a0 a1 v0 v1 h1
  · rw [h1]
    rcases isDev_no hd with hn | hn
    · exact bstore_width a n v k w hK h c hb hc a0 a1 v0 v1 h1 hn
    · by_cases h4 : n = 4
      · subst h4
        obtain ⟨⟨d1, d2, d3⟩, d4⟩ := devB_no hn
        exact bstore_none a v k w hK h c hb hc a0 a1 v0 v1 h1 d1 (by rw [d2, d3]; rfl) d4
      · exact bstore_width a n v k w hK h c hb hc a0 a1 v0 v1 h1 h4
  · exact absurd h1 hz
end Go.Proofs.Ytkbccccjjlkgbaa

/- Layer 14: Calls; the statements' made and awake. -/
namespace Go.Proofs.Ytkbccccjjlkgbaa
open Go.RowKit
set_option linter.unusedVariables false
set_option linter.unusedSimpArgs false
set_option maxRecDepth 100000

set_option maxHeartbeats 800000 in
theorem bcalls_nil (k : Int) (w : World) :
    Calls Try.prog 27 #[.pointer none, .int .u64 k] w fun e w' => e = .returned (.int .u32 0) ∧ Q w w' := by
  go_enter Try.func27, Try.ntmps27
  go_wp2_with fail
  refine (btim_nil w).mono ?_
  rintro e w' ⟨rfl, hw⟩
  have hw := hw.symm
  subst hw
  go_wp2_with fail
  refine (btim_nil w).mono ?_
  rintro e w' ⟨rfl, hw⟩
  have hw := hw.symm
  subst hw
  go_wp2_with fail
  refine (tup_nil k w).mono ?_
  rintro e w1 ⟨rfl, hq⟩
  have HQ := Lib.hid hq
  clear hq
  go_wp2_with fail
  refine (bcon_nil w1).mono ?_
  rintro e w' ⟨rfl, hw⟩
  have hw := hw.symm
  subst hw
  go_wp2_with fail
  refine (cready_nil w1).mono ?_
  rintro e w' ⟨rfl, hw⟩
  have hw := hw.symm
  subst hw
  go_wp2
  go_ret
  exact ⟨rfl, HQ.out⟩

set_option maxHeartbeats 1600000 in
theorem bcalls_any {B R P C A K Kc : Nat} {S : Nat → Prop} {T Y : Nat → Int} {x : BS} (k : Int) (w : World) (h : IsBus w B R P C A K S Kc T Y x) :
    Calls Try.prog 27 #[.pointer (some ⟨B, 0, none⟩), .int .u64 k] w fun e w' => e = .returned (.int .u32 (callsZ x.sf (upB x.o x.m k) (decide (0 < x.s.n)))) ∧ Q w w' := by
  have HB := Lib.hid h
  have HU : Hid (∀ W, IsTim W A x.o x.m x.sf → Calls Try.prog 50 #[.pointer (some ⟨A, 0, none⟩), .int .u64 k] W fun e w' => e = .returned (.bool (upB x.o x.m k)) ∧ Q W w') := fun W hW => tup_any k W hW
  have HR : Hid (∀ W, IsCon W C S Kc T Y x.s → Calls Try.prog 51 #[.pointer (some ⟨C, 0, none⟩)] W fun e w' => e = .returned (.bool (decide (0 < x.s.n))) ∧ w' = W) := fun W hW => cready_any W hW
  obtain ⟨⟨q0, q1, q2⟩, -⟩ := three_cells h.2.2.2.1
  clear h q0 q1
  generalize upB x.o x.m k = u at HU ⊢
  generalize decide (0 < x.s.n) = r at HR ⊢
  obtain ⟨sf, hsf⟩ : ∃ sf, x.sf = sf := ⟨_, rfl⟩
  rw [hsf] at q2 ⊢
  clear hsf
  cases sf <;> cases u <;> cases r
  all_goals
    go_enter Try.func27, Try.ntmps27
    go_wp2_with fail
    refine (btim_any w HB.out.1).mono ?_
    rintro e w' ⟨rfl, hw⟩
    have hw := hw.symm
    subst hw
    go_wp2_with fail
    refine (btim_any w HB.out.1).mono ?_
    rintro e w' ⟨rfl, hw⟩
    have hw := hw.symm
    subst hw
    go_wp2_with fail
    refine (HU.out w HB.out.2.2.2.1).mono ?_
    rintro e w1 ⟨rfl, hq⟩
    have HQ := Lib.hid hq
    have HB1 := Lib.hid (HB.out.q hq)
    clear hq
    go_wp2_with fail
    refine (bcon_any w1 HB1.out.1).mono ?_
    rintro e w' ⟨rfl, hw⟩
    have hw := hw.symm
    subst hw
    go_wp2_with fail
    refine (HR.out w1 HB1.out.2.2.1).mono ?_
    rintro e w' ⟨rfl, hw⟩
    have hw := hw.symm
    subst hw
    go_wp2
    go_ret
    exact ⟨ret_int (by decide), HQ.out⟩

/-- A new bus. -/
def BS.new : BS := ⟨fun _ => 0, fun _ => false, fun _ => 0, CS.new, 0, 18446744073709551615, false, false, 0⟩

set_option maxHeartbeats 1600000 in
theorem made_any {a : Option Addr} {len cap : Nat} {T Y : Nat → Int} (K : Nat) (w : World) (h1 : 1 ≤ K) (hK : K ≤ 1024) (hl : len ≤ 256) (ha : IsArr w a len cap T Y) (hr : Rises len T) :
    Calls Try.prog 10 #[.int .i64 (64 * (K : Int)), .slice a len cap] w fun e w' => ∃ B R P C A S, e = .returned (.pointer (some ⟨B, 0, none⟩)) ∧ IsBus w' B R P C A K S len T Y BS.new ∧ (∀ k, Fp B R P A S k → w.heap.size ≤ k) ∧ Below w.heap.size w w' := by
  have HN : Hid (∀ W : World, Calls Try.prog 23 #[.int .i64 (64 * (K : Int))] W fun e w' => ∃ R, e = .returned (.tuple #[.pointer (some ⟨R, 0, none⟩), .int .i64 0]) ∧ W.heap.size ≤ R ∧ (∃ P, W.heap.size ≤ P ∧ IsRam w' R P K (fun _ => 0) (fun _ => false) (fun _ => 0)) ∧ Below W.heap.size W w') := fun W => new_yes K W h1 hK
  have HC : Hid (∀ W, Below w.heap.size w W → Calls Try.prog 24 #[.slice a len cap] W fun e w' => ∃ R S, e = .returned (.tuple #[.pointer (some ⟨R, 0, none⟩), .int .i64 0]) ∧ IsCon w' R S len T Y CS.new ∧ (∀ k, S k → W.heap.size ≤ k) ∧ Below W.heap.size W w') := fun W hb => cnew_yes W hl (ha.on hb) hr
  clear ha hr
  go_enter Try.func10, Try.ntmps10
  go_wp2_with fail
  refine (HN.out w).mono ?_
  rintro e w1 ⟨R, rfl, hR, ⟨P, hP, hi⟩, hb⟩
  have HI1 := Lib.hid hi
  have HB1 := Lib.hid hb
  have HRP : Hid (w.heap.size ≤ R ∧ w.heap.size ≤ P) := ⟨hR, hP⟩
  clear hi hb hR hP
  go_wp2_with fail
  refine (HC.out w1 HB1.out).mono ?_
  rintro e w2 ⟨C, S, rfl, hc, hS, hb⟩
  have HI2 := Lib.hid (HI1.out.on hb)
  have HB2 : Hid (Below w.heap.size w w2) := HB1.out.trans (hb.mono HB1.out.size)
  have HC2 := Lib.hid hc
  have HS : Hid (∀ k, S k → w1.heap.size ≤ k) := hS
  have HW2 := Lib.hid hb.size
  clear hc hS hb
  go_wp2_with fail
  refine (tnew_any w2).mono ?_
  rintro e w3 ⟨rfl, ht, hb⟩
  have HI3 := Lib.hid (HI2.out.on hb)
  have HC3 := Lib.hid (HC2.out.on hb)
  have HT3 := Lib.hid ht
  have HB3 : Hid (Below w.heap.size w w3) := HB2.out.trans (hb.mono HB2.out.size)
  have HW3 := Lib.hid hb.size
  clear ht hb
  go_wp2_with fail
  refine (bnew_yes R C w2.heap.size w3).mono ?_
  rintro e w4 ⟨rfl, hc, hb⟩
  have HI4 := Lib.hid (HI3.out.on hb)
  have HC4 := Lib.hid (HC3.out.on hb)
  have HT4 := Lib.hid (HT3.out.on hb)
  have HB4 : Hid (Below w.heap.size w w4) := HB3.out.trans (hb.mono HB3.out.size)
  have HBB := Lib.hid hc
  clear hc hb
  go_wp2
  go_ret
  have l1 := HI1.out.lt
  have l2 := HC2.out.lt
  have l3 := HT3.out.lt
  have b1 := HB1.out.size
  have b2 := HW2.out
  have b3 := HW3.out
  have r1 := HRP.out
  refine ⟨w3.heap.size, R, P, C, w2.heap.size, S, rfl, ⟨HBB.out, HI4.out, HC4.out, HT4.out, by omega, fun e => by have := l2 _ e; omega, fun e => by have := HS.out _ e; omega, fun e => by have := HS.out _ e; omega, fun e => by have := l2 _ e; omega⟩, ?_, HB4.out⟩
  rintro k (rfl | rfl | rfl | rfl | hk)
  · omega
  · omega
  · omega
  · omega
  · have := HS.out _ hk; omega

theorem ask14_dev {K : Nat} {a : Int} (h : devB a = true) : ask14 K a 4 = 0 := by simp [ask14, isDev_t h]
theorem IsArr.nil (w : World) (T Y : Nat → Int) : IsArr w none 0 0 T Y := ⟨Nat.zero_le _, .inl ⟨rfl, rfl, rfl⟩⟩
theorem BsOk.new {K c : Nat} : BsOk K BS.new c := ⟨fun i _ => by show (0 : Int) ≤ 0 ∧ (0 : Int) < 256; omega, fun p _ => by show (0 : Int) ≤ 0 ∧ (0 : Int) ≤ c; omega, by show (0 : Int) ≤ 18446744073709551615 ∧ (18446744073709551615 : Int) < 18446744073709551616; omega, Nat.zero_le _⟩

/-- The bus of awake behind its stores. -/
def awS1 : BS := { BS.new with s := CS.new.wr 0 321 }
def awS2 : BS := { awS1 with off := true, code := 7 }
theorem aw_s1 : BS.new.st 1 268435456 4 321 0 = awS1 := (BS.ld_con (x := BS.new) (K := 1) (v := 321) (k := 0) (.inl rfl)).2.2
theorem aw_s2 : awS1.st 1 1048576 4 7 0 = awS2 := (BS.ld_port (x := awS1) (K := 1) (v := 7) (k := 0)).2.2
theorem aw_wr : CS.new.wr 0 321 = ⟨0, 0, fun _ => 0, false, 1, snoc 0 (fun _ => 0) 65⟩ := by unfold CS.wr CS.new; rw [if_pos rfl]; rfl
theorem aw_h1 : BS.new.hit 1 268435456 4 = false := BS.hit_dev (by rw [dev_ask (by decide)]; decide)
theorem aw_h2 : awS1.hit 1 1048576 4 = false := BS.hit_dev (by rw [dev_ask (by decide)]; decide)

set_option maxHeartbeats 3200000 in
theorem awake14_any (w : World) :
    Calls Try.prog 9 #[] w fun e w' => e = .returned (.bool true) ∧ Below w.heap.size w w' := by
  have HM : Hid (Calls Try.prog 10 #[.int .i64 64, .slice none 0 0] w fun e w' => ∃ B R P C A S, e = .returned (.pointer (some ⟨B, 0, none⟩)) ∧ IsBus w' B R P C A 1 S 0 (fun _ => 0) (fun _ => 0) BS.new ∧ (∀ k, Fp B R P A S k → w.heap.size ≤ k) ∧ Below w.heap.size w w') := made_any 1 w (by omega) (by omega) (by omega) (IsArr.nil _ _ _) (fun i hi => absurd hi (by omega))
  go_enter Try.func9, Try.ntmps9
  go_wp2_with fail
  refine HM.out.mono ?_
  rintro e w1 ⟨B, R, P, C, A, S, rfl, hi, hF, hb⟩
  have HI1 := Lib.hid hi
  have HF := Lib.hid hF
  have HB1 := Lib.hid hb
  have HS1 := bstore_yes 268435456 4 321 0 w1 (by omega) hi 0 BsOk.new (by omega) (by omega) (by omega) (by omega) (by omega) (ask14_dev (by decide))
  rw [aw_s1, aw_h1] at HS1
  have HS1 := Lib.hid HS1
  clear hi hF hb HM
  go_wp2_with fail
  refine HS1.out.mono ?_
  rintro e w2 ⟨rfl, S2, hi, hf, he⟩
  have HI2 := Lib.hid hi
  have HF2 : Hid (∀ k, Fp B R P A S2 k → w.heap.size ≤ k) := fun k hk => by
    rcases ext_fp he k hk with h | h
    · exact HF.out k h
    · have := HB1.out.size; omega
  have HB2 : Hid (Below w.heap.size w w2) := HB1.out.trans (hf.below HF.out HB1.out.size)
  have HS2 := bstore_yes 1048576 4 7 0 w2 (by omega) hi 1 (by
    refine ⟨(BsOk.new (K := 1) (c := 1)).1, (BsOk.new (K := 1) (c := 1)).2.1, (BsOk.new (K := 1) (c := 1)).2.2.1, ?_⟩
    show (CS.new.wr 0 321).m ≤ 1
    rw [aw_wr]; exact Nat.le_refl _) (by omega) (by omega) (by omega) (by omega) (by omega) (ask14_dev (by decide))
  rw [aw_s2, aw_h2] at HS2
  have HS2 := Lib.hid HS2
  clear hi hf he HS1
  go_wp2_with fail
  refine HS2.out.mono ?_
  rintro e w3 ⟨rfl, S3, hi, hf, he⟩
  have HI3 := Lib.hid hi
  have HB3 : Hid (Below w.heap.size w w3) := HB2.out.trans (hf.below HF2.out HB2.out.size)
  have HOFF : Hid (Calls Try.prog 22 #[.pointer (some ⟨B, 0, none⟩)] w3 fun e w' => e = .returned (.tuple #[.int .u32 7, .bool true]) ∧ Q w3 w') := boff_any w3 hi.1
  clear hi hf he HS2
  go_wp2_with fail
  refine HOFF.out.mono ?_
  rintro e w4 ⟨rfl, hq⟩
  have HI4 := Lib.hid (HI3.out.q hq)
  have HB4 : Hid (Below w.heap.size w w4) := HB3.out.trans (hq.below _)
  clear hq HOFF
  go_wp2_with fail
  refine (bcon_any w4 HI4.out.1).mono ?_
  rintro e w' ⟨rfl, hw⟩
  have hw := hw.symm
  subst hw
  have HO : Hid (Calls Try.prog 30 #[.pointer (some ⟨C, 0, none⟩)] w4 fun e w' => ∃ v, e = .returned v ∧ IsRowV w' v 1 (snoc 0 (fun _ => 0) 65) ∧ Below w4.heap.size w4 w') := by
    have h := HI4.out.2.2.1
    have hs : awS2.s = ⟨0, 0, fun _ => 0, false, 1, snoc 0 (fun _ => 0) 65⟩ := aw_wr
    rw [hs] at h
    exact cout_any w4 (by show (1 : Nat) ≤ 100000; omega) h
  go_wp2_with fail
  refine HO.out.mono ?_
  rintro e w5 ⟨v, rfl, ⟨va, vc, rfl, hv⟩, hb⟩
  have HB5 : Hid (Below w.heap.size w w5) := HB4.out.trans (hb.mono HB4.out.size)
  rcases hv with hv | ⟨b, o, rfl, hv⟩
  · exact absurd hv (by omega)
  have hv0 := hv 0 (by omega)
  rw [snoc_at, Nat.add_zero] at hv0
  clear hv hb
  go_wp2
  go_ret
  exact ⟨rfl, HB5.out⟩
end Go.Proofs.Ytkbccccjjlkgbaa

/- Layer 13: a timer as an argument, by value; what follows of Left, Skip and Write as numbers. -/
namespace Go.Proofs.Ytkbccccjjlkgbaa
open Go.ChangeShapes Go.WideShapes Go.ChangeAt Go.RowKit
set_option linter.unusedVariables false

theorem array3 {α : Type} {cs : Array α} (h : cs.size = 3) : ∃ c0 c1 c2, cs = #[c0, c1, c2] := by
  obtain ⟨l⟩ := cs
  match l, h with
  | [c0, c1, c2], _ => exact ⟨c0, c1, c2, rfl⟩

section
variable {H : Type} {enc : TypeId × Value → H} {P : Program} {w : World} {base : Nat} {spare : Nat → Bool} {held : Bool}

/-- A struct of two integers and a bool, by value. -/
theorem open_tim {r : Reach} {b0 : Nat} {t : TypeId} {f0 f1 f2 : Field} {k0 k1 : IntKind} {v : Value} {d : DataW H} {p : List MemPlace} (hs : P.underlying t = some (.struct #[f0, f1, f2]))
    (ho : #[f0, f1, f2].map (·.offset) = #[0, 1, 2]) (hc : #[f0, f1, f2].map (fun f => P.cellsOf f.type) = #[1, 1, 1]) (hC : P.cellsOf t = 3)
    (u0 : P.underlying f0.type = some (.int k0)) (u1 : P.underlying f1.type = some (.int k1)) (u2 : P.underlying f2.type = some .bool)
    (hv : Value.okWide P w r b0 t v) (h : DataW.Trod enc P w base spare held t v d p) :
    ∃ (a b : Int) (c : Bool), v = .agg #[.int k0 a, .int k1 b, .bool c] ∧ (Lit.int k0 a).wf = true ∧ (Lit.int k1 b).wf = true := by
  obtain ⟨cs, rfl, hsz, _⟩ : ∃ cs, v = .agg cs ∧ cs.size = P.cellsOf t ∧ Row.okWide P w r b0 t cs := by
    simpa [Value.okWide, hs] using hv
  obtain ⟨c0, c1, c2, rfl⟩ := array3 (hsz.trans hC)
  obtain ⟨fuel, hf⟩ := h
  obtain ⟨xs, n, _, _, hl, hlen, hg⟩ := DataW.trod_struct hs hf
  simp at ho hc
  obtain ⟨o0, o1, o2⟩ := ho
  obtain ⟨q0, q1, q2⟩ := hc
  have g0 := hg 0 f0 rfl
  have g1 := hg 1 f1 rfl
  have g2 := hg 2 f2 rfl
  match xs, hlen with
  | [y0, y1, y2], _ =>
    simp [Value.cells, o0, q0] at g0
    simp [Value.cells, o1, q1] at g1
    simp [Value.cells, o2, q2] at g2
    obtain ⟨x0, e0, _, w0⟩ := DataW.trod_int u0 g0
    obtain ⟨x1, e1, _, w1⟩ := DataW.trod_int u1 g1
    obtain ⟨x2, e2, _⟩ := DataW.trod_bool u2 g2
    simp at e0 e1 e2
    subst e0 e1 e2
    exact ⟨x0, x1, x2, rfl, w0, w1⟩
end

/-- Just then it is up. -/
theorem left_up {o m k : Int} (m0 : 0 ≤ m) (m1 : m < 18446744073709551616) (h : ¬ m ≤ nowZ o k) : upB o m (IntKind.u64.wrap (k + (m - nowZ o k))) = true := by
  unfold upB nowZ at *
  rw [IntKind.wrap_u64]
  apply decide_eq_true
  omega
/-- One tick ahead it is not. -/
theorem left_ahead {o m k : Int} (m0 : 0 ≤ m) (m1 : m < 18446744073709551616) (h : ¬ m ≤ nowZ o k) : upB o m (IntKind.u64.wrap (IntKind.u64.wrap (k + (m - nowZ o k)) - 1)) = false := by
  unfold upB nowZ at *
  rw [IntKind.wrap_u64, IntKind.wrap_u64]
  apply decide_eq_false
  omega
theorem skip_up {m k : Int} (m0 : 0 ≤ m) (m1 : m < 18446744073709551616) : upB (offZ m k) m k = true := by
  unfold upB
  rw [now_off m k m0 m1]
  exact decide_eq_true (Int.le_refl _)
/-- What was written is read, at that tick. -/
theorem read_write_soft (o m : Int) (s : Bool) (x k : Int) : readT (wO o 33554432 x k) (wM m 33554432 x) (wS s 33554432 x) 33554432 k = x % 2 := by
  show (if (x % 2 == 1) = true then (1 : Int) else 0) = x % 2
  by_cases h : x % 2 = 1
  · rw [if_pos (by simpa using h), h]
  · rw [if_neg (by simpa using h)]; omega
theorem read_write {o m : Int} {s : Bool} {a x k : Int} (ha : hasT a = true) (hs : a ≠ 33554432) (m0 : 0 ≤ m) (m1 : m < 18446744073709551616) (x0 : 0 ≤ x) (x1 : x < 4294967296) : readT (wO o a x k) (wM m a x) (wS s a x) a k = x := by
  have hn := nowZ_lt o k
  rcases hasT_yes ha with rfl | rfl | rfl | rfl | rfl
  · exact absurd rfl hs
  · show lowP m x % 4294967296 = x
    unfold lowP; omega
  · show highP m x / 4294967296 = x
    unfold highP; omega
  · show nowZ (offZ (lowP (nowZ o k) x) k) k % 4294967296 = x
    have h := lowP_lt hn.1 hn.2 x0 x1
    rw [now_off _ _ h.1 h.2]
    unfold lowP; omega
  · show nowZ (offZ (highP (nowZ o k) x) k) k / 4294967296 = x
    have h := highP_lt hn.1 hn.2 x0 x1
    rw [now_off _ _ h.1 h.2]
    unfold highP; omega
theorem wM_lt {m a x : Int} (m0 : 0 ≤ m) (m1 : m < 18446744073709551616) (x0 : 0 ≤ x) (x1 : x < 4294967296) : 0 ≤ wM m a x ∧ wM m a x < 18446744073709551616 := by
  unfold wM
  split
  · exact lowP_lt m0 m1 x0 x1
  · split
    · exact highP_lt m0 m1 x0 x1
    · exact ⟨m0, m1⟩
end Go.Proofs.Ytkbccccjjlkgbaa

/- Layer 12: Up. -/
namespace Go.Proofs.Ytkbccccjjlkgbaa
open Go.RowKit
set_option linter.unusedVariables false
set_option maxRecDepth 100000

/-- How many came, as a block's cell. -/
def cameW (R : Nat) (w : World) : Nat := match w.cell? ⟨R, 1, none⟩ with
  | some (.int _ z) => z.toNat
  | _ => 0
theorem IsCon.cameW {w : World} {R : Nat} {S : Nat → Prop} {K : Nat} {T Y : Nat → Int} {s : CS} (h : IsCon w R S K T Y s) : cameW R w = s.c := by
  obtain ⟨F, A, cap, v, hR, _⟩ := h
  obtain ⟨⟨-, q1, -⟩, -⟩ := five_cells hR
  simp [Ytkbccccjjlkgbaa.cameW, q1]

set_option maxHeartbeats 400000 in
theorem cup_nil (t : Int) (w : World) :
    Calls Try.prog 34 #[.pointer none, .int .u64 t] w fun e w' => e = .returned (.tuple #[]) ∧ Q w w' := by
  go_enter Try.func34, Try.ntmps34
  go_wp2_with fail
  go_loopw [4, 5] (fun _ _ wr => wr = w) (fun _ _ _ => 0)
  case atStart => rfl
  case round =>
    subst hrel
    go_wp2_with fail
    refine (cnext_nil _).mono ?_
    rintro e w1 ⟨rfl, hq⟩
    go_wp2
    refine bodyPost_ret (results_none rfl _ _ _) rfl ?_
    exact ⟨rfl, by simpa using hq⟩

set_option maxHeartbeats 1600000 in
theorem cup_any {R K : Nat} {S : Nat → Prop} {T Y : Nat → Int} {s : CS} (t : Int) (w : World) (h : IsCon w R S K T Y s) :
    Calls Try.prog 34 #[.pointer (some ⟨R, 0, none⟩), .int .u64 t] w fun e w' => e = .returned (.tuple #[]) ∧ IsCon w' R S K T Y (s.up K T Y t) ∧ Fr S w w' := by
  have HC := Lib.hid h
  clear h
  go_enter Try.func34, Try.ntmps34
  go_wp2_with fail
  go_loopw [4, 5] (fun _ _ wr => ∃ s1 : CS, IsCon wr R S K T Y s1 ∧ s1.up K T Y t = s.up K T Y t ∧ Fr S w wr) (fun _ _ wr => K - cameW R wr)
  case atStart => exact ⟨s, HC.out, rfl, Fr.refl _ _⟩
  case round =>
    clear HC
    obtain ⟨s1, hc, he, hf⟩ := hrel
    have HC := Lib.hid hc
    have HE := Lib.hid he
    have HF := Lib.hid hf
    clear hc he hf
    by_cases hlt : s1.c < K
    · have HN : Hid (Calls Try.prog 59 #[.pointer (some ⟨R, 0, none⟩)] wr fun e w' => e = .returned (.tuple #[.int .u64 (T s1.c), .bool true]) ∧ Q wr w') := by
        have := cnext_any wr HC.out
        rwa [if_pos hlt, decide_eq_true hlt] at this
      by_cases ht : T s1.c ≤ t
      · have HUP : Hid ((s1.come Y).up K T Y t = s.up K T Y t) := by rw [← CS.up_go hlt ht]; exact HE.out
        have HLT := Lib.hid hlt
        clear hlt
        generalize T s1.c = x at HN ht
        go_wp2_with fail
        refine HN.out.mono ?_
        rintro e w1 ⟨rfl, hq⟩
        have HC1 := Lib.hid (HC.out.q hq)
        have HF1 : Hid (Fr S w w1) := HF.out.trans (Fr.of S (hq.below _))
        have HM : Hid (cameW R wr = s1.c) := HC.out.cameW
        clear hq
        go_wp2_with fail
        refine (ccome_any w1 HC1.out HLT.out).mono ?_
        rintro e w2 ⟨rfl, hc, hf⟩
        have HC2 := Lib.hid hc
        have HF2 : Hid (Fr S w w2) := HF1.out.trans hf
        have HM2 : Hid (cameW R w2 = s1.c + 1) := by have := hc.cameW; rw [CS.come_c] at this; exact this
        clear hc hf
        go_wp2
        go_roundw
        case rel => exact ⟨_, HC2.out, HUP.out, HF2.out⟩
        case measure => rw [HM2.out, HM.out]; have := HLT.out; omega
      · have HUP : Hid (s1 = s.up K T Y t) := by rw [← HE.out]; exact (CS.up_end (.inr (by omega))).symm
        have ht' : t < T s1.c := by omega
        clear ht hlt
        generalize T s1.c = x at HN ht'
        go_wp2_with fail
        refine HN.out.mono ?_
        rintro e w1 ⟨rfl, hq⟩
        have HC1 := Lib.hid (HC.out.q hq)
        have HF1 : Hid (Fr S w w1) := HF.out.trans (Fr.of S (hq.below _))
        clear hq
        go_wp2
        refine bodyPost_ret (results_none rfl _ _ _) rfl ?_
        exact ⟨rfl, by have := HC1.out; rwa [HUP.out] at this, HF1.out⟩
    · have HN : Hid (Calls Try.prog 59 #[.pointer (some ⟨R, 0, none⟩)] wr fun e w' => e = .returned (.tuple #[.int .u64 0, .bool false]) ∧ Q wr w') := by
        have := cnext_any wr HC.out
        rwa [if_neg hlt, decide_eq_false hlt] at this
      have HUP : Hid (s1 = s.up K T Y t) := by rw [← HE.out]; exact (CS.up_end (.inl (by omega))).symm
      clear hlt
      go_wp2_with fail
      refine HN.out.mono ?_
      rintro e w1 ⟨rfl, hq⟩
      have HC1 := Lib.hid (HC.out.q hq)
      have HF1 : Hid (Fr S w w1) := HF.out.trans (Fr.of S (hq.below _))
      clear hq
      go_wp2
      refine bodyPost_ret (results_none rfl _ _ _) rfl ?_
      exact ⟨rfl, by have := HC1.out; rwa [HUP.out] at this, HF1.out⟩
end Go.Proofs.Ytkbccccjjlkgbaa

/- Layer 12, the document's Up. -/
namespace Go.Proofs.Ytkbccccjjlkgbaa
open Go.RowKit
set_option linter.unusedVariables false
set_option maxRecDepth 100000

/-- Where the document's Up stands at the head of a round. -/
def RUp (S : Nat → Prop) (w : World) (a : Option Addr) (len cap : Nat) (oa : Option Addr) (oc : Nat) (s : CS) (W : World) : Prop :=
  ∃ ra rc, Box5 W w.heap.size (.slice a len cap) (.int .i64 (s.c : Int)) (.slice ra s.n rc) (.bool s.ov) (.slice oa s.m oc) ∧
    Box5 W (w.heap.size + 1) (.slice none 0 0) (.int .i64 0) (.slice none 0 0) (.bool false) (.slice none 0 0) ∧
    BsV (S2 S w) W (.slice ra s.n rc) s.n s.f ∧ BsV (S2 S w) W (.slice oa s.m oc) s.m s.g ∧ Below w.heap.size w W

theorem rup_step {S : Nat → Prop} {w W : World} {a : Option Addr} {len cap : Nat} {oa : Option Addr} {oc : Nat} {s' : CS} {ra' : Option Addr} {rc' : Nat} {z : Int} {b c d : Value} (hx : BsV (S2 S w) W (.slice ra' s'.n rc') s'.n s'.f) (ho : BsV (S2 S w) W (.slice oa s'.m oc) s'.m s'.g)
    (hC : Box5 W w.heap.size (.slice a len cap) b c d (.slice oa s'.m oc)) (hD : Box5 W (w.heap.size + 1) (.slice none 0 0) (.int .i64 0) (.slice none 0 0) (.bool false) (.slice none 0 0)) (hB : Below w.heap.size w W) (hz : z = (s'.c : Int)) :
    RUp S w a len cap oa oc s' (((W.setCell ⟨w.heap.size, 2, none⟩ (.slice ra' s'.n rc')).setCell ⟨w.heap.size, 3, none⟩ (.bool s'.ov)).setCell ⟨w.heap.size, 1, none⟩ (.int .i64 z)) := by
  have hb := ((Bar.setCell w.heap.size 2 W (.slice ra' s'.n rc')).trans (Bar.setCell w.heap.size 3 _ (.bool s'.ov))).trans (Bar.setCell w.heap.size 1 _ (.int .i64 z))
  subst hz
  exact ⟨ra', rc', heap_setCell_at (heap_setCell_at (heap_setCell_at hC)), hD.bar hb (by omega), bsv_set (bsv_set (bsv_set hx)), bsv_set (bsv_set (bsv_set ho)), below_set (below_set (below_set hB))⟩

theorem CS.come_m (Y : Nat → Int) (s : CS) : (s.come Y).m = s.m ∧ (s.come Y).g = s.g := by unfold CS.come; split <;> exact ⟨rfl, rfl⟩

set_option maxRecDepth 100000 in
set_option maxHeartbeats 3200000 in
theorem rup_any (S : Nat → Prop) {v : Value} {a : Option Addr} {len cap : Nat} {T Y : Nat → Int} {s : CS} (t : Int) (w : World) (hl : len ≤ 256) (hc : s.c ≤ len) (hn : s.n ≤ 16) (hm : s.m ≤ 100000) (ha : IsArr w a len cap T Y) (h : RefC S w v a len cap s) (hS : ∀ k, S k → k < w.heap.size) :
    Calls Try.prog 35 #[v, .int .u64 t] w fun e w' => ∃ v', e = .returned v' ∧ RefC S w' v' a len cap (s.up len T Y t) ∧ Below w.heap.size w w' := by
  obtain ⟨rx, out, rfl, hx, ho⟩ := h
  obtain ⟨ra, rc, rfl⟩ := hx.form
  obtain ⟨oa, oc, rfl⟩ := ho.form
  obtain ⟨hb1, hb2, hB0, hsz⟩ := two_boxes w (.slice a len cap) (.int .i64 (s.c : Int)) (.slice ra s.n rc) (.bool s.ov) (.slice oa s.m oc)
  obtain ⟨W0, hW0⟩ : ∃ W0, W0 = (w.alloc (.cells #[.slice a len cap, .int .i64 (s.c : Int), .slice ra s.n rc, .bool s.ov, .slice oa s.m oc] 32)).alloc zero5 := ⟨_, rfl⟩
  rw [← hW0] at hb1 hb2 hB0 hsz
  have HW0 := Lib.hid hW0
  have HR0 : Hid (RUp S w a len cap oa oc s W0) := ⟨ra, rc, hb1, hb2, hx.two hB0, ho.two hB0, hB0⟩
  have HAR := Lib.hid ha
  have HS := Lib.hid hS
  have HSZ := Lib.hid hsz
  clear hW0 hx ho hB0 hsz hb1 hb2 hS ha
  go_enter Try.func35, Try.ntmps35
  go_wp2_with fail
  rw [← HW0.out]
  go_loopw [5, 6, 7] (fun i _ _ wr => ∃ s1 : CS, i = .int .i64 (s1.c : Int) ∧ s1.c ≤ len ∧ s1.n ≤ 16 ∧ s1.m = s.m ∧ RUp S w a len cap oa oc s1 wr ∧ s1.up len T Y t = s.up len T Y t) (fun i _ _ _ => len - (intOf i).toNat)
  case atStart => exact ⟨s, rfl, hc, hn, rfl, HR0.out, rfl⟩
  case round =>
    clear HR0
    obtain ⟨s1, rfl, hc1, hn1, hm1, ⟨ra1, rc1, hb1, hb2, hx, ho, hB⟩, he⟩ := hrel
    have HM := Lib.hid hm1
    have HE := Lib.hid he
    have HX := Lib.hid hx
    have HO := Lib.hid ho
    have HB := Lib.hid hB
    have HC := Lib.hid hb1
    have HD := Lib.hid hb2
    obtain ⟨b0, b1, b2, b3, b4⟩ := hb1.cells
    obtain ⟨z0, z1, z2, z3, z4⟩ := hb1.free
    obtain ⟨r0, r1, r2, r3, r4⟩ := hb2.cells
    obtain ⟨y0, y1, y2, y3, y4⟩ := hb2.free
    clear he hx ho hB hb1 hb2 hm1
    by_cases hlt : s1.c < len
    · obtain ⟨b, off, rfl, hcc⟩ := (HAR.out.on HB.out).at (by omega)
      obtain ⟨ct, cy⟩ := hcc s1.c hlt
      have g1 : (s1.c : Int) < len := by omega
      by_cases ht : T s1.c ≤ t
      · have h0 := trivial
        have HS2 : Hid (∀ k, S2 S w k → k < wr.drew.heap.size) := fun k hk => by
          have l1 := HC.out.lt
          have l2 := HD.out.lt
          have l3 := HB.out.size
          show k < wr.heap.size
          rcases hk with h | h | h
          · have := HS.out k h; omega
          · omega
          · omega
        have hdr : Below wr.heap.size wr wr.drew := (Below.refl _ _).drew
        have HUP : Hid ((s1.come Y).up len T Y t = s.up len T Y t) := by rw [← CS.up_go hlt ht]; exact HE.out
        have HLT := Lib.hid hlt
        by_cases hn16 : s1.n < 16
        · have hcm : s1.come Y = ⟨s1.c + 1, s1.n + 1, snoc s1.n s1.f (Y s1.c), s1.ov, s1.m, s1.g⟩ := by unfold CS.come; rw [if_pos hn16]
          have HN17 : Hid (s1.n + 1 ≤ 16) := hn16
          rw [hcm] at HUP
          have HP : Hid (Calls Try.prog 61 #[.slice ra1 s1.n rc1, .int .u8 (Y s1.c)] wr.drew fun e w3 => ∃ g c, e = .returned (.tuple #[.slice (some ⟨g, 0, none⟩) (s1.n + 1) c, .bool true]) ∧ Hid (BsV (S2 S w) w3 (.slice (some ⟨g, 0, none⟩) (s1.n + 1) c) (s1.n + 1) (snoc s1.n s1.f (Y s1.c)) ∧ BsV (S2 S w) w3 (.slice oa s1.m oc) s1.m s1.g ∧ Below w.heap.size w w3 ∧ Box5 w3 w.heap.size (.slice (some ⟨b, off, none⟩) len cap) (.int .i64 (s1.c : Int)) (.slice ra1 s1.n rc1) (.bool s1.ov) (.slice oa s1.m oc) ∧ Box5 w3 (w.heap.size + 1) (.slice none 0 0) (.int .i64 0) (.slice none 0 0) (.bool false) (.slice none 0 0))) := by
            refine (rpushV (S2 S w) (Y s1.c) wr.drew HS2.out (HX.out.on hdr) hn16).mono ?_
            rintro e w3 ⟨g, c, rfl, h1, h2⟩
            have h3 : Below wr.heap.size wr w3 := hdr.trans h2
            exact ⟨g, c, rfl, h1, HO.out.on h3, HB.out.trans (h3.mono HB.out.size), HC.out.on h3, HD.out.on h3⟩
          clear hcc hcm hn16 hdr hlt HX HO HC HD
          generalize T s1.c = x at ct ht
          generalize Y s1.c = y at cy HP HUP
          rcases hov : s1.ov with _ | _ <;> rw [hov] at b3 HP HUP
          · clear hov
            go_wp2_with fail
            go_region_with (go_at_call 61; refine HP.out.mono ?_; rintro e w3 ⟨g, c, rfl, HZ⟩)
            all_goals
              obtain ⟨b0, b1, b2, b3, b4⟩ := HZ.out.2.2.2.1.cells
              obtain ⟨z0, z1, z2, z3, z4⟩ := HZ.out.2.2.2.1.free
              go_wp2
              go_roundw
              case rel => exact ⟨⟨s1.c + 1, s1.n + 1, snoc s1.n s1.f y, false, s1.m, s1.g⟩, rfl, HLT.out, HN17.out, HM.out, rup_step (s' := ⟨s1.c + 1, s1.n + 1, snoc s1.n s1.f y, false, s1.m, s1.g⟩) HZ.out.1 HZ.out.2.1 HZ.out.2.2.2.1 HZ.out.2.2.2.2 HZ.out.2.2.1 rfl, HUP.out⟩
              case measure => simp [intOf]; have := HLT.out; omega
          · clear hov
            go_wp2_with fail
            go_region_with (go_at_call 61; refine HP.out.mono ?_; rintro e w3 ⟨g, c, rfl, HZ⟩)
            all_goals
              obtain ⟨b0, b1, b2, b3, b4⟩ := HZ.out.2.2.2.1.cells
              obtain ⟨z0, z1, z2, z3, z4⟩ := HZ.out.2.2.2.1.free
              go_wp2
              go_roundw
              case rel => exact ⟨⟨s1.c + 1, s1.n + 1, snoc s1.n s1.f y, true, s1.m, s1.g⟩, rfl, HLT.out, HN17.out, HM.out, rup_step (s' := ⟨s1.c + 1, s1.n + 1, snoc s1.n s1.f y, true, s1.m, s1.g⟩) HZ.out.1 HZ.out.2.1 HZ.out.2.2.2.1 HZ.out.2.2.2.2 HZ.out.2.2.1 rfl, HUP.out⟩
              case measure => simp [intOf]; have := HLT.out; omega
        · have hcm : s1.come Y = ⟨s1.c + 1, s1.n, s1.f, true, s1.m, s1.g⟩ := by unfold CS.come; rw [if_neg hn16]
          rw [hcm] at HUP
          have HP : Hid (Calls Try.prog 61 #[.slice ra1 s1.n rc1, .int .u8 (Y s1.c)] wr.drew fun e w3 => e = .returned (.tuple #[.slice ra1 s1.n rc1, .bool false]) ∧ w3 = wr.drew) := by
            have hx := HX.out.on hdr
            rw [show s1.n = 16 from by omega] at hx ⊢
            exact rpushF (S2 S w) (Y s1.c) wr.drew hx
          clear hcc hcm hn16 hdr hlt
          generalize T s1.c = x at ct ht
          generalize Y s1.c = y at cy HP HUP
          rcases hov : s1.ov with _ | _ <;> rw [hov] at b3
          · clear hov
            go_wp2_with fail
            go_region_with (go_at_call 61; refine HP.out.mono ?_; rintro e w3 ⟨rfl, hw⟩; subst hw)
            all_goals
              go_wp2
              go_roundw
              case rel => exact ⟨⟨s1.c + 1, s1.n, s1.f, true, s1.m, s1.g⟩, rfl, HLT.out, hn1, HM.out, rup_step (s' := ⟨s1.c + 1, s1.n, s1.f, true, s1.m, s1.g⟩) (HX.out.on ((Below.refl _ _).drew)) (HO.out.on ((Below.refl _ _).drew)) (HC.out.on ((Below.refl _ _).drew)) (HD.out.on ((Below.refl _ _).drew)) (HB.out.drew) rfl, HUP.out⟩
              case measure => simp [intOf]; have := HLT.out; omega
          · clear hov
            go_wp2_with fail
            go_region_with (go_at_call 61; refine HP.out.mono ?_; rintro e w3 ⟨rfl, hw⟩; subst hw)
            all_goals
              go_wp2
              go_roundw
              case rel => exact ⟨⟨s1.c + 1, s1.n, s1.f, true, s1.m, s1.g⟩, rfl, HLT.out, hn1, HM.out, rup_step (s' := ⟨s1.c + 1, s1.n, s1.f, true, s1.m, s1.g⟩) (HX.out.on ((Below.refl _ _).drew)) (HO.out.on ((Below.refl _ _).drew)) (HC.out.on ((Below.refl _ _).drew)) (HD.out.on ((Below.refl _ _).drew)) (HB.out.drew) rfl, HUP.out⟩
              case measure => simp [intOf]; have := HLT.out; omega
      · have HUP : Hid (s.up len T Y t = s1) := by rw [← HE.out]; exact CS.up_end (.inr (by omega))
        have ht' : t < T s1.c := by omega
        clear hcc ht
        generalize T s1.c = x at ct ht'
        go_wp2
        refine bodyPost_ret (v := .agg #[.slice (some ⟨b, off, none⟩) len cap, .int .i64 (s1.c : Int), .slice ra1 s1.n rc1, .bool s1.ov, .slice oa s1.m oc]) (by simp [results, Try.results35, go_sem, r0, r1, r2, r3, r4]) rfl ?_
        obtain ⟨k1, k2⟩ := ref_end (s := s1) (a := some ⟨b, off, none⟩) (len := len) (cap := cap) HB.out HX.out HO.out
        exact ⟨_, rfl, by rw [HUP.out]; exact k1, k2⟩
    · have HUP : Hid (s.up len T Y t = s1) := by rw [← HE.out]; exact CS.up_end (.inl (by omega))
      have g1 : ¬ (s1.c : Int) < len := by omega
      go_wp2
      refine bodyPost_ret (v := .agg #[.slice a len cap, .int .i64 (s1.c : Int), .slice ra1 s1.n rc1, .bool s1.ov, .slice oa s1.m oc]) (by simp [results, Try.results35, go_sem, r0, r1, r2, r3, r4]) rfl ?_
      obtain ⟨k1, k2⟩ := ref_end (s := s1) (a := a) (len := len) (cap := cap) HB.out HX.out HO.out
      exact ⟨_, rfl, by rw [HUP.out]; exact k1, k2⟩
end Go.Proofs.Ytkbccccjjlkgbaa

/- Layer 14: one step, done by both: what stands in memory; bounds of what it leaves. (By gen-busstep.py.) -/
namespace Go.Proofs.Ytkbccccjjlkgbaa
open Go.RowKit
set_option linter.unusedVariables false
set_option linter.unusedSimpArgs false
set_option maxRecDepth 100000

/-- No page is watched. -/
def NoW (x : BS) : Prop := ∀ i, x.wa i = false
theorem NoW.hit {x : BS} {K : Nat} {addr n : Int} (h : NoW x) : x.hit K addr n = false := by unfold BS.hit; rw [h]; simp
theorem NoW.new : NoW BS.new := fun _ => rfl
theorem CS14.upN_m (T Y : Nat → Int) (t : Int) : ∀ (k : Nat) (s : CS), (CS.upN T Y t k s).m = s.m
  | 0, s => rfl
  | k + 1, s => by
    rw [CS.upN]
    split
    · rw [CS14.upN_m T Y t k, (CS.come_m Y s).1]
    · rfl
theorem CS14.rd_m (reg : Int) (s : CS) : (s.rd reg).m = s.m := by
  unfold CS.rd CS.pop
  split
  · split <;> rfl
  · rfl
theorem CS14.wr_m (reg x : Int) (s : CS) : (s.wr reg x).m ≤ s.m + 1 := by
  unfold CS.wr
  split
  · exact Nat.le_refl _
  · exact Nat.le_succ _
theorem BsOk.up1 {K : Nat} {x : BS} {c : Nat} (h : BsOk K x c) : BsOk K x (c + 1) := ⟨h.1, h.2.1.up (by omega), h.2.2.1, by have := h.2.2.2; omega⟩
theorem BsOk.up {K : Nat} {x : BS} {c len : Nat} {T Y : Nat → Int} {t : Int} (h : BsOk K x c) : BsOk K (x.up len T Y t) (c + 1) := ⟨h.1, h.2.1.up (by omega), h.2.2.1, by
  have e : (x.up len T Y t).s.m = x.s.m := CS14.upN_m T Y t _ x.s
  have := h.2.2.2; omega⟩
theorem BsOk.ld {K : Nat} {x : BS} {c : Nat} {addr n : Int} (h : BsOk K x c) : BsOk K (x.ldS K addr n) (c + 1) := by
  unfold BS.ldS
  split
  · exact h.up1
  · split
    · exact h.up1
    · split
      · exact h.up1
      · exact ⟨h.1, h.2.1.up (by omega), h.2.2.1, by
          have e := CS14.rd_m (addr - 268435456) x.s
          have := h.2.2.2
          show (x.s.rd (addr - 268435456)).m ≤ c + 1
          omega⟩
theorem NoW.ld {K : Nat} {x : BS} {addr n : Int} (h : NoW x) : NoW (x.ldS K addr n) := by
  unfold BS.ldS
  split
  · exact h
  · split
    · exact h
    · split <;> exact h
theorem BsOk.st {K : Nat} {x : BS} {c : Nat} {addr n v k : Int} (h : BsOk K x c) (v0 : 0 ≤ v) (v1 : v < 4294967296) : BsOk K (x.st K addr n v k) (c + 1) := by
  unfold BS.st
  split
  · exact ⟨h.1.put _ _ (fun i _ => byteAt_bd v i), h.2.1.hit _ _, h.2.2.1, by have := h.2.2.2; show x.s.m ≤ c + 1; omega⟩
  · split
    · exact h.up1
    · split
      · exact ⟨h.1, h.2.1.up (by omega), wM_lt h.2.2.1.1 h.2.2.1.2 v0 v1, by have := h.2.2.2; show x.s.m ≤ c + 1; omega⟩
      · exact ⟨h.1, h.2.1.up (by omega), h.2.2.1, by
          have e := CS14.wr_m (addr - 268435456) v x.s
          have := h.2.2.2
          show (x.s.wr (addr - 268435456) v).m ≤ c + 1
          omega⟩
theorem NoW.st {K : Nat} {x : BS} {addr n v k : Int} (h : NoW x) : NoW (x.st K addr n v k) := by
  unfold BS.st
  split
  · intro i
    show wHit x.wa (plZ addr / 64) i = false
    rw [wHit_f (h _)]; exact h i
  · split
    · exact h
    · split <;> exact h

def BoxS (w : World) (Z : Nat) (a b c d e : Value) : Prop := w.heap[Z]? = some (.cells #[a, b, c, d, e] 43 (0, 0))
/-- The three blocks of a step: the document's bus, the step, the result. -/
def StW (w : World) (c0 c1 c2 c3 c4 c5 c6 c7 c8 c9 c10 k ad n v t : Value) (W : World) : Prop :=
  BoxB W w.heap.size c0 c1 c2 c3 c4 c5 c6 c7 c8 c9 c10 ∧ BoxS W (w.heap.size + 1) k ad n v t ∧ BoxB W (w.heap.size + 1 + 1) (.slice none 0 0) (.slice none 0 0) (.int .i64 0) (.slice none 0 0) (.bool false) (.slice none 0 0) (.int .u64 0) (.int .u64 0) (.bool false) (.bool false) (.int .u32 0)
section
variable {w W W' : World} {c0 c1 c2 c3 c4 c5 c6 c7 c8 c9 c10 k ad n v t : Value}
theorem StW.fr {S : Nat → Prop} (h : StW w c0 c1 c2 c3 c4 c5 c6 c7 c8 c9 c10 k ad n v t W) (hf : Fr S W W') (hS : ∀ k, S k → k < w.heap.size) : StW w c0 c1 c2 c3 c4 c5 c6 c7 c8 c9 c10 k ad n v t W' := by
  obtain ⟨h1, h2, h3⟩ := h
  refine ⟨h1.fr hf (fun e => by have := hS _ e; omega), ?_, h3.fr hf (fun e => by have := hS _ e; omega)⟩
  unfold BoxS at *
  rw [hf.block (Array.getElem?_eq_some_iff.1 h2).1 (fun e => by have := hS _ e; omega)]; exact h2
theorem StW.on (h : StW w c0 c1 c2 c3 c4 c5 c6 c7 c8 c9 c10 k ad n v t W) (hb : Below W.heap.size W W') : StW w c0 c1 c2 c3 c4 c5 c6 c7 c8 c9 c10 k ad n v t W' := h.fr (S := fun _ => False) (Fr.of _ hb) (fun _ h => h.elim)
end
theorem st14_start (w : World) (c0 c1 c2 c3 c4 c5 c6 c7 c8 c9 c10 k ad n v t : Value) :
    StW w c0 c1 c2 c3 c4 c5 c6 c7 c8 c9 c10 k ad n v t (((w.alloc (.cells #[c0, c1, c2, c3, c4, c5, c6, c7, c8, c9, c10] 39)).alloc (.cells #[k, ad, n, v, t] 43)).alloc zeroB) ∧
    Below w.heap.size w (((w.alloc (.cells #[c0, c1, c2, c3, c4, c5, c6, c7, c8, c9, c10] 39)).alloc (.cells #[k, ad, n, v, t] 43)).alloc zeroB) ∧
    (((w.alloc (.cells #[c0, c1, c2, c3, c4, c5, c6, c7, c8, c9, c10] 39)).alloc (.cells #[k, ad, n, v, t] 43)).alloc zeroB).heap.size = w.heap.size + 3 := by
  refine ⟨⟨?_, ?_, ?_⟩, (((Below.refl _ _).alloc (Nat.le_refl _) _).alloc (by simp) _).alloc (by simp; omega) _, by simp⟩
  · unfold BoxB
    rw [heap_alloc_old _ _ (by simp; omega), heap_alloc_old _ _ (by simp)]
    exact heap_alloc_new _ _
  · unfold BoxS
    rw [heap_alloc_old _ _ (by simp)]
    have := heap_alloc_new (w.alloc (.cells #[c0, c1, c2, c3, c4, c5, c6, c7, c8, c9, c10] 39)) (.cells #[k, ad, n, v, t] 43)
    simpa using this
  · unfold BoxB
    have := heap_alloc_new ((w.alloc (.cells #[c0, c1, c2, c3, c4, c5, c6, c7, c8, c9, c10] 39)).alloc (.cells #[k, ad, n, v, t] 43)) zeroB
    simpa [zeroB] using this

/-- The blocks of S, the document's bus' and the result's. -/
def SQ (S : Nat → Prop) (w : World) (k : Nat) : Prop := S k ∨ k = w.heap.size ∨ k = w.heap.size + 1 + 1
theorem SQ.lt {S : Nat → Prop} {w W : World} {c0 c1 c2 c3 c4 c5 c6 c7 c8 c9 c10 k ad n v t : Value} (h : StW w c0 c1 c2 c3 c4 c5 c6 c7 c8 c9 c10 k ad n v t W) (hS : ∀ k, S k → k < W.heap.size) : ∀ k, SQ S w k → k < W.heap.size := by
  have l := h.2.2.lt
  rintro k (e | e | e)
  · exact hS k e
  · omega
  · omega
theorem RefB.sq {S : Nat → Prop} {w W : World} {u : Value} {a : Option Addr} {len cap K : Nat} {x : BS} (h : RefB S w u a len cap K x) (hb : Below w.heap.size w W) : RefB (SQ S w) W u a len cap K x :=
  (h.more (by rintro k (h | h | h); exact .inl h; exact .inr (by omega); exact .inr (by omega))).on hb
/-- A block that was made since. -/
theorem Fr.barNew14 {S : Nat → Prop} {P : Nat} {w W W' : World} (h : Fr S w W) (hb : Bar P W W') (hP : w.heap.size ≤ P) : Fr S w W' :=
  ⟨hb.1.trans h.1, hb.2.1.trans h.2.1, hb.2.2.1.trans h.2.2.1, Nat.le_trans h.size hb.size, fun k hk hn => by rw [hb.2.2.2.2 k (Nat.lt_of_lt_of_le hk h.size) (by omega)]; exact h.block hk hn⟩
theorem Fr.mono14 {S S' : Nat → Prop} {w w' : World} (h : Fr S w w') (hs : ∀ k, S k → S' k) : Fr S' w w' := ⟨h.1, h.2.1, h.2.2.1, h.size, fun k hk hn => h.block hk (fun e => hn (hs k e))⟩
theorem IsArr.fr14 {S : Nat → Prop} {w w' : World} {a : Option Addr} {len cap : Nat} {T Y : Nat → Int} (h : IsArr w a len cap T Y) (hf : Fr S w w') (hn : 0 < len → ∀ ad, a = some ad → ¬ S ad.block) : IsArr w' a len cap T Y := by
  refine ⟨h.1, ?_⟩
  rcases h.2 with h | h | ⟨b, off, ha, hc⟩
  · exact .inl h
  · exact .inr (.inl h)
  · by_cases h0 : len = 0
    · exact .inr (.inr ⟨b, off, ha, fun i hi => absurd hi (by omega)⟩)
    · exact .inr (.inr ⟨b, off, ha, hc.keep (fun hl => hf.block hl (hn (by omega) _ ha))⟩)
theorem ext_sq {S S' : Nat → Prop} {w W : World} (h : Ext W S S') : Ext W (SQ S w) (SQ S' w) := by
  rintro k (e | e | e)
  · rcases h k e with q | q
    · exact .inl (.inl q)
    · exact .inr q
  · exact .inl (.inr (.inl e))
  · exact .inl (.inr (.inr e))
/-- What a step leaves. -/
def StepOut14 (w : World) (B R P C A K : Nat) (S : Nat → Prop) (a : Option Addr) (len cap : Nat) (T Y : Nat → Int) (c : Nat) (v' : Value) (w' : World) : Prop :=
  ∃ x' S', IsBus w' B R P C A K S' len T Y x' ∧ RefB (Fp B R P A S') w' v' a len cap K x' ∧ (BsOk K x' (c + 1) ∧ NoW x') ∧ Fr (Fp B R P A S) w w' ∧ Ext w S S'
theorem step14_fin {w W W1 : World} {B R P C A K : Nat} {S S' : Nat → Prop} {a : Option Addr} {len cap : Nat} {T Y : Nat → Int} {c : Nat} {x' : BS} {c0 c1 c2 c3 c4 c5 c6 c7 c8 c9 c10 : Value} (hi : IsBus W B R P C A K S' len T Y x') (hr : RefB (SQ (Fp B R P A S') w) W (.agg #[c0, c1, c2, c3, c4, c5, c6, c7, c8, c9, c10]) a len cap K x') (hok : BsOk K x' (c + 1) ∧ NoW x')
    (hf : Fr (Fp B R P A S) w W) (he : ∀ k, S' k → S k ∨ w.heap.size + 3 ≤ k) (hS : ∀ k, Fp B R P A S k → k < w.heap.size) (hb1 : Bar w.heap.size W W1) :
    StepOut14 w B R P C A K S a len cap T Y c (.agg #[c0, c1, c2, c3, c4, c5, c6, c7, c8, c9, c10]) (((((((((((W1.setCell ⟨w.heap.size + 1 + 1, 0, none⟩ c0).setCell ⟨w.heap.size + 1 + 1, 1, none⟩ c1).setCell ⟨w.heap.size + 1 + 1, 2, none⟩ c2).setCell ⟨w.heap.size + 1 + 1, 3, none⟩ c3).setCell ⟨w.heap.size + 1 + 1, 4, none⟩ c4).setCell ⟨w.heap.size + 1 + 1, 5, none⟩ c5).setCell ⟨w.heap.size + 1 + 1, 6, none⟩ c6).setCell ⟨w.heap.size + 1 + 1, 7, none⟩ c7).setCell ⟨w.heap.size + 1 + 1, 8, none⟩ c8).setCell ⟨w.heap.size + 1 + 1, 9, none⟩ c9).setCell ⟨w.heap.size + 1 + 1, 10, none⟩ c10) := by
  have hb := bar11 (w.heap.size + 1 + 1) W1 c0 c1 c2 c3 c4 c5 c6 c7 c8 c9 c10
  have hlt : ∀ k, Fp B R P A S' k → k < w.heap.size ∨ w.heap.size + 3 ≤ k := by
    rintro k (e | e | e | e | e)
    · exact .inl (hS k (.inl e))
    · exact .inl (hS k (.inr (.inl e)))
    · exact .inl (hS k (.inr (.inr (.inl e))))
    · exact .inl (hS k (.inr (.inr (.inr (.inl e)))))
    · rcases he k e with q | q
      · exact .inl (hS k (.inr (.inr (.inr (.inr q)))))
      · exact .inr q
  have n0 : ¬ Fp B R P A S' w.heap.size := fun e => by rcases hlt _ e with q | q <;> omega
  have n1 : ¬ Fp B R P A S' (w.heap.size + 1 + 1) := fun e => by rcases hlt _ e with q | q <;> omega
  exact ⟨x', S', (hi.bar hb1 n0).bar hb n1, ((hr.bar hb1 (.inr (.inl rfl))).bar hb (.inr (.inr rfl))).more (fun k hk => .inl (.inl hk)), hok, (hf.barNew14 hb1 (by omega)).barNew14 hb (by omega), fun k hk => by rcases he k hk with h | h; exact .inl h; exact .inr (by omega)⟩
end Go.Proofs.Ytkbccccjjlkgbaa
