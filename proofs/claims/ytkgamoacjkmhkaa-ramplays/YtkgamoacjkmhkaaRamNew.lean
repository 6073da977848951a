/- Layer 10, the document's side: New. -/
import Derived.Test.YtkgamoacjkmhkaaRamPut
import Derived.Test.YtkgamoacjkmhkaaEach
namespace Go.Proofs.Ytkgamoacjkmhkaa
open Go.RowKit
set_option linter.unusedVariables false
set_option linter.unusedSimpArgs false

def RowW (w : World) (B n : Nat) (b : Nat → Bool) : Prop := ∀ i, i < n → w.cell? ⟨B, i, none⟩ = some (.bool (b i))
def RowG (w : World) (B n : Nat) (b : Nat → Int) : Prop := ∀ i, i < n → w.cell? ⟨B, i, none⟩ = some (.int .u64 (b i))
theorem RowW.on {w w' : World} {B n : Nat} {b : Nat → Bool} (h : RowW w B n b) (hb : Below w.heap.size w w') : RowW w' B n b := fun i hi => by
  rw [hb.cell (World.block_lt_of_cell? w _ (h i hi))]; exact h i hi
theorem RowW.bar {w w' : World} {B n P : Nat} {b : Nat → Bool} (h : RowW w B n b) (hb : Bar P w w') (hne : B ≠ P) : RowW w' B n b := fun i hi => hb.cell hne (h i hi)
theorem RowG.on {w w' : World} {B n : Nat} {b : Nat → Int} (h : RowG w B n b) (hb : Below w.heap.size w w') : RowG w' B n b := fun i hi => by
  rw [hb.cell (World.block_lt_of_cell? w _ (h i hi))]; exact h i hi
theorem RowG.bar {w w' : World} {B n P : Nat} {b : Nat → Int} (h : RowG w B n b) (hb : Bar P w w') (hne : B ≠ P) : RowG w' B n b := fun i hi => hb.cell hne (h i hi)

/-- The document's memory as a value: three rows, none of them block P. -/
def RefV (w : World) (P : Nat) (v : Value) (K : Nat) (b : Nat → Int) (wa : Nat → Bool) (g : Nat → Int) : Prop :=
  ∃ B1 B2 B3 c1 c2 c3, v = .agg #[.slice (some ⟨B1, 0, none⟩) (64 * K) c1, .slice (some ⟨B2, 0, none⟩) K c2, .slice (some ⟨B3, 0, none⟩) K c3] ∧ (64 * K ≤ c1 ∧ K ≤ c2 ∧ K ≤ c3) ∧ (B1 ≠ P ∧ B2 ≠ P ∧ B3 ≠ P) ∧ RowB w B1 (64 * K) b ∧ RowW w B2 K wa ∧ RowG w B3 K g
theorem RefV.on {w w' : World} {P : Nat} {v : Value} {K : Nat} {b : Nat → Int} {wa : Nat → Bool} {g : Nat → Int} (h : RefV w P v K b wa g) (hb : Below w.heap.size w w') : RefV w' P v K b wa g := by
  obtain ⟨B1, B2, B3, c1, c2, c3, hv, hc, hp, h1, h2, h3⟩ := h
  exact ⟨B1, B2, B3, c1, c2, c3, hv, hc, hp, h1.on hb, h2.on hb, h3.on hb⟩
theorem RefV.bar {w w' : World} {P : Nat} {v : Value} {K : Nat} {b : Nat → Int} {wa : Nat → Bool} {g : Nat → Int} (h : RefV w P v K b wa g) (hb : Bar P w w') : RefV w' P v K b wa g := by
  obtain ⟨B1, B2, B3, c1, c2, c3, hv, hc, hp, h1, h2, h3⟩ := h
  exact ⟨B1, B2, B3, c1, c2, c3, hv, hc, hp, h1.bar hb hp.1, h2.bar hb hp.2.1, h3.bar hb hp.2.2⟩

/-- What the operations of New leave: three rows of their own, and the value of them. -/
def RB (base n : Nat) (b : Nat → Int) (u : Value) (w : World) : Prop := ∃ B c, u = .slice (some ⟨B, 0, none⟩) n c ∧ n ≤ c ∧ base < B ∧ w.heap[B]?.isSome ∧ RowB w B n b
def RW (base n : Nat) (b : Nat → Bool) (u : Value) (w : World) : Prop := ∃ B c, u = .slice (some ⟨B, 0, none⟩) n c ∧ n ≤ c ∧ base < B ∧ w.heap[B]?.isSome ∧ RowW w B n b
def RG (base n : Nat) (b : Nat → Int) (u : Value) (w : World) : Prop := ∃ B c, u = .slice (some ⟨B, 0, none⟩) n c ∧ n ≤ c ∧ base < B ∧ w.heap[B]?.isSome ∧ RowG w B n b
theorem some_on {w w' : World} {B : Nat} (h : w.heap[B]?.isSome) (hb : Below w.heap.size w w') : w'.heap[B]?.isSome := by
  have hlt : B < w.heap.size := by
    rcases Nat.lt_or_ge B w.heap.size with h' | h'
    · exact h'
    · rw [Array.getElem?_eq_none h'] at h; exact absurd h (by simp)
  rw [hb.block B hlt]; exact h
theorem RB.on {base n : Nat} {b : Nat → Int} {u : Value} {w w' : World} (h : RB base n b u w) (hb : Below w.heap.size w w') : RB base n b u w' := by
  obtain ⟨B, c, h1, h2, h3, h4, h5⟩ := h
  exact ⟨B, c, h1, h2, h3, some_on h4 hb, h5.on hb⟩
theorem RW.on {base n : Nat} {b : Nat → Bool} {u : Value} {w w' : World} (h : RW base n b u w) (hb : Below w.heap.size w w') : RW base n b u w' := by
  obtain ⟨B, c, h1, h2, h3, h4, h5⟩ := h
  exact ⟨B, c, h1, h2, h3, some_on h4 hb, h5.on hb⟩
theorem RG.on {base n : Nat} {b : Nat → Int} {u : Value} {w w' : World} (h : RG base n b u w) (hb : Below w.heap.size w w') : RG base n b u w' := by
  obtain ⟨B, c, h1, h2, h3, h4, h5⟩ := h
  exact ⟨B, c, h1, h2, h3, some_on h4 hb, h5.on hb⟩
/-- A value of three rows. -/
def R3 (base K : Nat) (b : Nat → Int) (wa : Nat → Bool) (g : Nat → Int) (u : Value) (w : World) : Prop := ∃ x y z, u = .agg #[x, y, z] ∧ RB base (64 * K) b x w ∧ RW base K wa y w ∧ RG base K g z w
theorem R3.on {base K : Nat} {b : Nat → Int} {wa : Nat → Bool} {g : Nat → Int} {u : Value} {w w' : World} (h : R3 base K b wa g u w) (hb : Below w.heap.size w w') : R3 base K b wa g u w' := by
  obtain ⟨x, y, z, h1, h2, h3, h4⟩ := h
  exact ⟨x, y, z, h1, h2.on hb, h3.on hb, h4.on hb⟩
def newR (base K : Nat) : Nat → Value → World → Prop
  | 1, u, w => RB base (64 * K) (fun _ => 0) u w
  | 4, u, w => RW base K (fun _ => false) u w
  | 7, u, w => RG base K (fun _ => 0) u w
  | 8, u, w => R3 base K (fun _ => 0) (fun _ => false) (fun _ => 0) u w
  | _, _, _ => True
theorem newR_on {base K k : Nat} {u : Value} {w w' : World} (hb : Below w.heap.size w w') (h : newR base K k u w) : newR base K k u w' := by
  unfold newR at *
  split at h
  · exact h.on hb
  · exact h.on hb
  · exact h.on hb
  · exact h.on hb
  · trivial

theorem three_cells {w : World} {B : Nat} {v0 v1 v2 : Value} {t : TypeId} (h : w.heap[B]? = some (.cells #[v0, v1, v2] t (0, 0))) :
    (w.cell? ⟨B, 0, none⟩ = some v0 ∧ w.cell? ⟨B, 1, none⟩ = some v1 ∧ w.cell? ⟨B, 2, none⟩ = some v2) ∧ w.frozen? ⟨B, 0, none⟩ = false ∧ w.frozen? ⟨B, 1, none⟩ = false ∧ w.frozen? ⟨B, 2, none⟩ = false := by
  simp [World.cell?, World.frozen?, h]
theorem fresh3 (w wr : World) (v0 v1 v2 : Value) (t : TypeId) (hb : Below (w.alloc (.cells #[v0, v1, v2] t)).drew.heap.size (w.alloc (.cells #[v0, v1, v2] t)).drew wr) :
    wr.heap[w.heap.size]? = some (.cells #[v0, v1, v2] t (0, 0)) := by
  rw [hb.block w.heap.size (by simp [World.drew])]
  exact heap_alloc_new w _
theorem three_set {base : Nat} {w w' : World} {B : Nat} {a b c : Value} (h : Below base w w') (hB : base ≤ B) : Below base w (((w'.setCell ⟨B, 0, none⟩ a).setCell ⟨B, 1, none⟩ b).setCell ⟨B, 2, none⟩ c) :=
  ((h.setCell (p := ⟨B, 0, none⟩) hB _).setCell (p := ⟨B, 1, none⟩) hB _).setCell (p := ⟨B, 2, none⟩) hB _

theorem info_bool10 : (Try.prog.info? 4).map (fun i => (i.zero, i.size, i.bytes)) = some (some (.bool false), 1, 1) := by kernel_rfl
theorem info_u6410 : (Try.prog.info? 55).map (fun i => (i.zero, i.size, i.bytes)) = some (some (.int .u64 0), 1, 8) := by kernel_rfl
theorem new_at {w : World} {cs : Array Value} {t : TypeId} {j : Nat} {v : Value} (h : cs[j]? = some v) : (w.alloc (.cells cs t)).cell? ⟨w.heap.size, j, none⟩ = some v := by
  rw [World.cell?_alloc_at _ _ _ _ rfl]; exact h
theorem made1 {v : Value} (h : v.cells = #[v]) {n j : Nat} (hj : j < n) : (madeCells v.cells n)[j]? = some v := by
  refine made_at hj ?_
  rw [h]
  simp [Nat.mod_one]
theorem new_some (w : World) (o : Obj) : (w.alloc o).heap[w.heap.size]?.isSome := by rw [heap_alloc_new]; rfl

set_option maxHeartbeats 2000000 in
theorem rnew10_any (K : Nat) (w : World) (h1 : 1 ≤ K) (hK : K ≤ 1024) :
    Calls Try.prog 13 #[.int .i64 (64 * (K : Int))] w fun e w' => ∃ v, e = .returned v ∧ (∀ P, P < w.heap.size → RefV w' P v K (fun _ => 0) (fun _ => false) (fun _ => 0)) ∧ Below w.heap.size w w' := by
  have hd : (64 * (K : Int)) / 64 = K := by omega
  have m30 : ∀ w : World, (Instr.makeSlice 30 (.int .i64 (64 * (K : Int))) (.int .i64 (64 * (K : Int)))).run Try.prog w = .ok (.slice (some ⟨w.heap.size, 0, none⟩) (64 * K) (64 * K)) (w.alloc (.cells (madeCells (Value.int .u8 0).cells (64 * K)) 5)) := fun w => by
    obtain ⟨i, hi, hz0, hz1, hz2⟩ := info_parts Try.info5
    have := run_make (P := Try.prog) w 30 5 i (.int .u8 0) Try.underlying30 hi hz0 .i64 .i64 (64 * (K : Int)) (64 * (K : Int)) (by omega) (Int.le_refl _) (by rw [hz2]; omega) (by omega)
    rw [hz1, show (64 * (K : Int)).toNat = 64 * K from by omega, Nat.mul_one] at this
    exact this
  have m33 : ∀ w : World, (Instr.makeSlice 33 (.int .i64 (K : Int)) (.int .i64 (K : Int))).run Try.prog w = .ok (.slice (some ⟨w.heap.size, 0, none⟩) K K) (w.alloc (.cells (madeCells (Value.bool false).cells K) 4)) := fun w => by
    obtain ⟨i, hi, hz0, hz1, hz2⟩ := info_parts info_bool10
    have := run_make (P := Try.prog) w 33 4 i (.bool false) Try.underlying33 hi hz0 .i64 .i64 (K : Int) (K : Int) (by omega) (Int.le_refl _) (by rw [hz2]; omega) (by omega)
    rw [hz1, show (K : Int).toNat = K from by omega, Nat.mul_one] at this
    exact this
  have m34 : ∀ w : World, (Instr.makeSlice 34 (.int .i64 (K : Int)) (.int .i64 (K : Int))).run Try.prog w = .ok (.slice (some ⟨w.heap.size, 0, none⟩) K K) (w.alloc (.cells (madeCells (Value.int .u64 0).cells K) 55)) := fun w => by
    obtain ⟨i, hi, hz0, hz1, hz2⟩ := info_parts info_u6410
    have := run_make (P := Try.prog) w 34 55 i (.int .u64 0) Try.underlying34 hi hz0 .i64 .i64 (K : Int) (K : Int) (by omega) (Int.le_refl _) (by rw [hz2]; omega) (by omega)
    rw [hz1, show (K : Int).toNat = K from by omega, Nat.mul_one] at this
    exact this
  have hwr : IntKind.i64.wrap (K : Int) = K := by rw [IntKind.wrap_i64]; omega
  go_enter Try.func13, Try.ntmps13
  go_wp2_with fail
  refine wp_region_held_drew (S := fun w' => Below w.heap.size w w') (by kernel_rfl) (((Below.refl w.heap.size w).alloc (Nat.le_refl _) _).drew) (fun hHeld => ?_)
  refine wpAnyH_take (i := 0) (oi := ?o0) (v := ?v0) ?ho0 (by kernel_rfl) (by kernel_rfl) (by kernel_rfl) ?q0 ?y0 (by assumption) ?rest0
  case ho0 => (simp only [List.getElem?_toArray, List.getElem?_cons_succ, List.getElem?_cons_zero]; rfl)
  case q0 => exact fun _ _ _ h => h
  case y0 => (refine Or.inl ⟨by rfl, ?_⟩; intro w hSw; (try dsimp only at hSw); go_simp; try with_reducible rfl)
  try simp only [Act.put, List.setIfInBounds_toArray, List.set_cons_zero, List.set_cons_succ]
  refine wpAnyH_take (i := 2) (oi := ?o2) (v := ?v2) ?ho2 (by kernel_rfl) (by kernel_rfl) (by kernel_rfl) ?q2 ?y2 (by assumption) ?rest2
  case ho2 => (simp only [List.getElem?_toArray, List.getElem?_cons_succ, List.getElem?_cons_zero]; rfl)
  case q2 => exact fun _ _ _ h => h
  case y2 => (refine Or.inl ⟨by rfl, ?_⟩; intro w hSw; (try dsimp only at hSw); go_simp; try with_reducible rfl)
  try simp only [Act.put, List.setIfInBounds_toArray, List.set_cons_zero, List.set_cons_succ]
  refine wpAnyH_take (i := 3) (oi := ?o3) (v := ?v3) ?ho3 (by kernel_rfl) (by kernel_rfl) (by kernel_rfl) ?q3 ?y3 (by assumption) ?rest3
  case ho3 => (simp only [List.getElem?_toArray, List.getElem?_cons_succ, List.getElem?_cons_zero]; rfl)
  case q3 => exact fun _ _ _ h => h
  case y3 => (refine Or.inl ⟨by rfl, ?_⟩; intro w hSw; (try dsimp only at hSw); go_simp; try with_reducible rfl)
  try simp only [Act.put, List.setIfInBounds_toArray, List.set_cons_zero, List.set_cons_succ]
  refine wpAnyH_take (i := 5) (oi := ?o5) (v := ?v5) ?ho5 (by kernel_rfl) (by kernel_rfl) (by kernel_rfl) ?q5 ?y5 (by assumption) ?rest5
  case ho5 => (simp only [List.getElem?_toArray, List.getElem?_cons_succ, List.getElem?_cons_zero]; rfl)
  case q5 => exact fun _ _ _ h => h
  case y5 => (refine Or.inl ⟨by rfl, ?_⟩; intro w hSw; (try dsimp only at hSw); go_simp; try with_reducible rfl)
  try simp only [Act.put, List.setIfInBounds_toArray, List.set_cons_zero, List.set_cons_succ]
  refine wpAnyH_take (i := 6) (oi := ?o6) (v := ?v6) ?ho6 (by kernel_rfl) (by kernel_rfl) (by kernel_rfl) ?q6 ?y6 (by assumption) ?rest6
  case ho6 => (simp only [List.getElem?_toArray, List.getElem?_cons_succ, List.getElem?_cons_zero]; rfl)
  case q6 => exact fun _ _ _ h => h
  case y6 => (refine Or.inl ⟨by rfl, ?_⟩; intro w hSw; (try dsimp only at hSw); go_simp; try with_reducible rfl)
  try simp only [Act.put, List.setIfInBounds_toArray, List.set_cons_zero, List.set_cons_succ]
  refine wpAnyH_each (fuel := 1) [1, 4, 7, 8] (newR w.heap.size K) rfl (by kernel_rfl) (fun w1 hb => Below.trans hHeld (hb.mono hHeld.size)) ?stable1 ?step1 ?next1
  rotate_left 2
  intro vE wE hbE hrE
  simp only [putSel, slotAt, Act.put, if_true, if_pos, List.getElem?_toArray, List.getElem?_cons_succ, List.getElem?_cons_zero, Option.bind_some, List.setIfInBounds_toArray, List.set_cons_zero, List.set_cons_succ, List.foldl_cons, List.foldl_nil]
  have hHeld := Below.trans hHeld (hbE.mono hHeld.size)
  refine wpAnyH_ready (rs := [9]) (by kernel_rfl) (by simp) (AllReadyH.cons rfl (fun Kx hKx => ?_) AllReadyH.nil)
  obtain ⟨x, y, z, e8, hx, hy, hz⟩ : R3 w.heap.size K (fun _ => 0) (fun _ => false) (fun _ => 0) (vE 8) wE := hrE 8 (by simp)
  obtain ⟨B1, c1, rfl, hx⟩ := hx
  obtain ⟨B2, c2, rfl, hy⟩ := hy
  obtain ⟨B3, c3, rfl, hz⟩ := hz
  obtain ⟨⟨f0, f1, f2⟩, z0, z1, z2⟩ := three_cells (fresh3 _ wE _ _ _ 36 hbE)
  rw [e8]
  have HX := Lib.hid hx
  have HY := Lib.hid hy
  have HZ := Lib.hid hz
  have HE := Lib.hid hHeld
  clear hrE hx hy hz hbE e8
  go_simp
  refine hKx.out _ _ (three_set HE.out (Nat.le_refl _)) (fun hHeld => ?_)
  clear hKx Kx
  refine wpAnyH_done (by kernel_rfl) ?_ _

  have HV : ∀ P, P < w.heap.size → RefV (((wE.setCell ⟨w.heap.size, 0, none⟩ (.slice (some ⟨B1, 0, none⟩) (64 * K) c1)).setCell ⟨w.heap.size, 1, none⟩ (.slice (some ⟨B2, 0, none⟩) K c2)).setCell ⟨w.heap.size, 2, none⟩ (.slice (some ⟨B3, 0, none⟩) K c3)) P (.agg #[.slice (some ⟨B1, 0, none⟩) (64 * K) c1, .slice (some ⟨B2, 0, none⟩) K c2, .slice (some ⟨B3, 0, none⟩) K c3]) K (fun _ => 0) (fun _ => false) (fun _ => 0) := fun P hP => by
    obtain ⟨x1, x2, x3, x4⟩ := HX.out
    obtain ⟨y1, y2, y3, y4⟩ := HY.out
    obtain ⟨q1, q2, q3, q4⟩ := HZ.out
    have hbar : Bar w.heap.size wE (((wE.setCell ⟨w.heap.size, 0, none⟩ (.slice (some ⟨B1, 0, none⟩) (64 * K) c1)).setCell ⟨w.heap.size, 1, none⟩ (.slice (some ⟨B2, 0, none⟩) K c2)).setCell ⟨w.heap.size, 2, none⟩ (.slice (some ⟨B3, 0, none⟩) K c3)) := ((Bar.setCell _ _ _ _).trans (Bar.setCell _ _ _ _)).trans (Bar.setCell _ _ _ _)
    exact ⟨B1, B2, B3, c1, c2, c3, rfl, ⟨x1, y1, q1⟩, ⟨by omega, by omega, by omega⟩, x4.bar hbar (by omega), y4.bar hbar (by omega), q4.bar hbar (by omega)⟩
  have HVV := Lib.hid HV
  have HLast := Lib.hid hHeld
  clear HV hHeld
  go_wp2
  refine bodyPost_ret (v := .agg #[.slice (some ⟨B1, 0, none⟩) (64 * K) c1, .slice (some ⟨B2, 0, none⟩) K c2, .slice (some ⟨B3, 0, none⟩) K c3]) (by simp [results, Try.results13, go_sem, f0, f1, f2]) rfl ⟨_, rfl, HVV.out, HLast.out⟩
  · exact fun k u w1 w2 hb h => newR_on hb h
  · intro i hi o ho ev w1 hb hc ht hd
    have hsz : w.heap.size + 1 ≤ w1.heap.size := by have := hb.size; simpa [World.drew] using this
    simp only [List.mem_cons, List.not_mem_nil, or_false] at hi
    rcases hi with rfl | rfl | rfl | rfl
    · simp only [List.getElem?_toArray, List.getElem?_cons_succ, List.getElem?_cons_zero, Option.some.injEq] at ho
      subst ho
      have t3 : ev (.tmp 3) = .int .i64 (64 * (K : Int)) := ht 3 (by decide)
      refine does_of (by simp only [execOp, t3, m30, Sem.run_bind, Sem.run_pure, Result.andThen_ok]; rfl) ⟨(Below.refl _ _).alloc (Nat.le_refl _) _, ?_⟩
      exact ⟨w1.heap.size, 64 * K, rfl, Nat.le_refl _, by omega, new_some _ _, fun i hi => new_at (made1 rfl hi)⟩
    · simp only [List.getElem?_toArray, List.getElem?_cons_succ, List.getElem?_cons_zero, Option.some.injEq] at ho
      subst ho
      have t6 : ev (.tmp 6) = .int .i64 (K : Int) := ht 6 (by decide)
      refine does_of (by simp only [execOp, t6, m33, Sem.run_bind, Sem.run_pure, Result.andThen_ok]; rfl) ⟨(Below.refl _ _).alloc (Nat.le_refl _) _, ?_⟩
      exact ⟨w1.heap.size, K, rfl, Nat.le_refl _, by omega, new_some _ _, fun i hi => new_at (made1 rfl hi)⟩
    · simp only [List.getElem?_toArray, List.getElem?_cons_succ, List.getElem?_cons_zero, Option.some.injEq] at ho
      subst ho
      have t9 : ev (.tmp 9) = .int .i64 (K : Int) := ht 9 (by decide)
      refine does_of (by simp only [execOp, t9, m34, Sem.run_bind, Sem.run_pure, Result.andThen_ok]; rfl) ⟨(Below.refl _ _).alloc (Nat.le_refl _) _, ?_⟩
      exact ⟨w1.heap.size, K, rfl, Nat.le_refl _, by omega, new_some _ _, fun i hi => new_at (made1 rfl hi)⟩
    · simp only [List.getElem?_toArray, List.getElem?_cons_succ, List.getElem?_cons_zero, Option.some.injEq] at ho
      subst ho
      have d1 : RB w.heap.size (64 * K) (fun _ => 0) (ev (.tmp 4)) w1 := hd ⟨1, .data⟩ (by simp) rfl (by simp) 4 rfl
      have d2 : RW w.heap.size K (fun _ => false) (ev (.tmp 7)) w1 := hd ⟨4, .data⟩ (by simp) rfl (by simp) 7 rfl
      have d3 : RG w.heap.size K (fun _ => 0) (ev (.tmp 10)) w1 := hd ⟨7, .data⟩ (by simp) rfl (by simp) 10 rfl
      obtain ⟨B1, c1, e4, r4⟩ := id d1
      obtain ⟨B2, c2, e7, r7⟩ := id d2
      obtain ⟨B3, c3, e10, r10⟩ := id d3
      rw [e4] at d1
      rw [e7] at d2
      rw [e10] at d3
      refine does_of (u := .agg #[.slice (some ⟨B1, 0, none⟩) (64 * K) c1, .slice (some ⟨B2, 0, none⟩) K c2, .slice (some ⟨B3, 0, none⟩) K c3]) (w' := w1) ?_ ⟨Below.refl _ _, _, _, _, rfl, d1, d2, d3⟩
      clear d1 d2 d3 r4 r7 r10
      go_simp
end Go.Proofs.Ytkgamoacjkmhkaa
