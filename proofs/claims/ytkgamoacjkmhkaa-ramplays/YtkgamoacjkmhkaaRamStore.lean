/- Layer 10, the document's side: Store. -/
import Derived.Test.YtkgamoacjkmhkaaRamNew
namespace Go.Proofs.Ytkgamoacjkmhkaa
open Go.RowKit
set_option linter.unusedVariables false
set_option linter.unusedSimpArgs false

theorem own10_on {w w' : World} {base : Nat} {e : TypeId} {size : Nat} {v : Value} {n : Nat} {xs : List Value} (h : w.ownsRow base e size v n xs) (hb : Below w.heap.size w w') : w'.ownsRow base e size v n xs := by
  refine ⟨h.1, ?_⟩
  rcases h.2 with hn | ⟨g, cap, cur, hv, hbs, hg, rest⟩
  · exact .inl hn
  · have hlt : g < w.heap.size := (Array.getElem?_eq_some_iff.1 hg).1
    exact .inr ⟨g, cap, cur, hv, hbs, by rw [← hg]; exact hb.block g hlt, rest⟩

/-- append onto a row of no length and no room: a row of its own. -/
theorem append_empty {P : Program} (w : World) (t ty e : TypeId) (i : TypeInfo) (z : Value) (ht : P.underlying t = some (.slice e)) (hi : P.info? e = some i) (hz : i.zero = some z) (hsize : i.size = 1) (hzs : z.cells.size = 1) (hby : i.bytes ≤ 8)
    (B : Nat) (ad : Addr) (n c : Nat) (news : List Value) (hl : news.length = n) (hnews : ∀ j u, news[j]? = some u → w.cell? (ad.add j) = some u) (hn : 1 ≤ n) (hn1 : n ≤ 65536) (base : Nat) (hbase : base ≤ w.heap.size) :
    ∃ c' w', (Builtin.append_ #[t, t] ty #[.slice (some ⟨B, 0, none⟩) 0 0, .slice (some ad) n c]).run P w = .ok (.slice (some ⟨w.heap.size, 0, none⟩) n c') w' ∧ w'.ownsRow base e 1 (.slice (some ⟨w.heap.size, 0, none⟩) n c') n news ∧ Below w.heap.size w w' := by
  have hfit : Builtin.nextslicecap (0 + n) 0 * i.bytes ≤ 281474976710656 := by
    have : Builtin.nextslicecap (0 + n) 0 = n := by unfold Builtin.nextslicecap; simp; omega
    rw [this]
    have := Nat.mul_le_mul hn1 hby
    omega
  have hr := run_append_grow (P := P) w t ty e i z ht hi hz ⟨B, 0, none⟩ 0 0 [] (by simp) (by simp) ad n c news (by rw [hl, hsize]; omega) hnews (by omega) (by omega) hfit
  simp only [Nat.zero_add] at hr
  refine ⟨_, _, hr, ⟨by rw [hl]; omega, .inr ⟨w.heap.size, _, _, rfl, hbase, heap_alloc_new w.drew _, ?_, ?_, ?_, ?_⟩⟩, ?_⟩
  · exact grownCap_ge w n 0 e
  · exact grownCap_le_maxLen w n 0 e (by unfold maxLen; omega)
  · have := grownCap_ge w n 0 e
    simp only [Array.size_append, List.size_toArray, size_zeroCells, hzs, hl, List.length_nil, Nat.mul_one, Array.size_empty, Nat.zero_add]
    omega
  · simp [hl]
  · exact ((Below.refl w.heap.size w).drew).alloc (Nat.le_refl _) _

def rowWL (n : Nat) (h : Nat → Bool) : List Value := (List.range n).map fun i => Value.bool (h i)
def rowGL (n : Nat) (h : Nat → Int) : List Value := (List.range n).map fun i => Value.int .u64 (h i)
theorem rowWL_at {n : Nat} {h : Nat → Bool} {i : Nat} (hi : i < n) : (rowWL n h)[i]? = some (.bool (h i)) := by
  unfold rowWL; rw [List.getElem?_map, List.getElem?_range hi]; rfl
theorem rowGL_at {n : Nat} {h : Nat → Int} {i : Nat} (hi : i < n) : (rowGL n h)[i]? = some (.int .u64 (h i)) := by
  unfold rowGL; rw [List.getElem?_map, List.getElem?_range hi]; rfl
theorem rowWL_get {n : Nat} {h : Nat → Bool} {i : Nat} {u : Value} (e : (rowWL n h)[i]? = some u) : i < n ∧ u = .bool (h i) := by
  have hi : i < n := by
    have := (List.getElem?_eq_some_iff.1 e).1
    simpa [rowWL] using this
  rw [rowWL_at hi] at e
  exact ⟨hi, (Option.some.inj e).symm⟩
theorem rowGL_get {n : Nat} {h : Nat → Int} {i : Nat} {u : Value} (e : (rowGL n h)[i]? = some u) : i < n ∧ u = .int .u64 (h i) := by
  have hi : i < n := by
    have := (List.getElem?_eq_some_iff.1 e).1
    simpa [rowGL] using this
  rw [rowGL_at hi] at e
  exact ⟨hi, (Option.some.inj e).symm⟩

/-- Rows that the call owns. -/
def OW (base n : Nat) (b : Nat → Bool) (u : Value) (w : World) : Prop := ∃ B c, u = .slice (some ⟨B, 0, none⟩) n c ∧ w.ownsRow (base + 1) 4 1 (.slice (some ⟨B, 0, none⟩) n c) n (rowWL n b)
def OG (base n : Nat) (b : Nat → Int) (u : Value) (w : World) : Prop := ∃ B c, u = .slice (some ⟨B, 0, none⟩) n c ∧ w.ownsRow (base + 1) 55 1 (.slice (some ⟨B, 0, none⟩) n c) n (rowGL n b)
theorem OW.on {base n : Nat} {b : Nat → Bool} {u : Value} {w w' : World} (h : OW base n b u w) (hb : Below w.heap.size w w') : OW base n b u w' := by
  obtain ⟨B, c, h1, h2⟩ := h
  exact ⟨B, c, h1, own10_on h2 hb⟩
theorem OG.on {base n : Nat} {b : Nat → Int} {u : Value} {w w' : World} (h : OG base n b u w) (hb : Below w.heap.size w w') : OG base n b u w' := by
  obtain ⟨B, c, h1, h2⟩ := h
  exact ⟨B, c, h1, own10_on h2 hb⟩
def R3o (base K : Nat) (b : Nat → Int) (wa : Nat → Bool) (g : Nat → Int) (u : Value) (w : World) : Prop := ∃ x y z, u = .agg #[x, y, z] ∧ RB base (64 * K) b x w ∧ OW base K wa y w ∧ OG base K g z w
theorem R3o.on {base K : Nat} {b : Nat → Int} {wa : Nat → Bool} {g : Nat → Int} {u : Value} {w w' : World} (h : R3o base K b wa g u w) (hb : Below w.heap.size w w') : R3o base K b wa g u w' := by
  obtain ⟨x, y, z, h1, h2, h3, h4⟩ := h
  exact ⟨x, y, z, h1, h2.on hb, h3.on hb, h4.on hb⟩
def R7 (u : Value) : Prop := ∃ B, u = .slice (some ⟨B, 0, none⟩) 0 0
def R16 (base : Nat) (u : Value) (w : World) : Prop := ∃ B, u = .pointer (some ⟨B, 0, none⟩) ∧ base < B ∧ w.heap[B]? = some (.cells #[.slice none 0 0, .slice none 0 0, .slice none 0 0] 36 (0, 0))
theorem R16.on {base : Nat} {u : Value} {w w' : World} (h : R16 base u w) (hb : Below w.heap.size w w') : R16 base u w' := by
  obtain ⟨B, h1, h2, h3⟩ := h
  exact ⟨B, h1, h2, by rw [hb.block B (Array.getElem?_eq_some_iff.1 h3).1]; exact h3⟩
def storeR (base K n : Nat) (x : Int) (b : Nat → Int) (wa : Nat → Bool) (g : Nat → Int) : Nat → Value → World → Prop
  | 5, u, w => RB base n (byteAt x) u w
  | 6, u, w => RB base (64 * K) b u w
  | 7, u, w => R7 u
  | 10, u, w => OW base K wa u w
  | 11, u, w => R7 u
  | 14, u, w => OG base K g u w
  | 15, u, w => R3o base K b wa g u w
  | 16, u, w => R16 base u w
  | _, _, _ => True
theorem storeR_on {base K n : Nat} {x : Int} {b : Nat → Int} {wa : Nat → Bool} {g : Nat → Int} {k : Nat} {u : Value} {w w' : World} (hb : Below w.heap.size w w') (h : storeR base K n x b wa g k u w) : storeR base K n x b wa g k u w' := by
  unfold storeR at *
  split at h
  · exact h.on hb
  · exact h.on hb
  · exact h
  · exact h.on hb
  · exact h
  · exact h.on hb
  · exact h.on hb
  · exact h.on hb
  · trivial

theorem own10_bar {w w' : World} {base : Nat} {e : TypeId} {size : Nat} {B c n P : Nat} {xs : List Value} (h : w.ownsRow base e size (.slice (some ⟨B, 0, none⟩) n c) n xs) (hb : Bar P w w') (hne : B ≠ P) : w'.ownsRow base e size (.slice (some ⟨B, 0, none⟩) n c) n xs := by
  refine ⟨h.1, ?_⟩
  rcases h.2 with ⟨hv, _⟩ | ⟨g, cap, cur, hv, hbs, hg, rest⟩
  · simp at hv
  · have hlt : g < w.heap.size := (Array.getElem?_eq_some_iff.1 hg).1
    have hgB : g = B := by simp at hv; exact hv.1.symm
    exact .inr ⟨g, cap, cur, hv, hbs, by rw [← hg]; exact hb.2.2.2.2 g hlt (by omega), rest⟩
theorem own10_cap {w : World} {base : Nat} {e : TypeId} {size : Nat} {B c n : Nat} {xs : List Value} (h : w.ownsRow base e size (.slice (some ⟨B, 0, none⟩) n c) n xs) (hn : 1 ≤ n) : n ≤ c := by
  rcases h.2 with ⟨hv, _⟩ | ⟨g, cap, cur, hv, hbs, hg, hnc, _⟩
  · simp at hv
  · simp at hv; omega
theorem RowW.set {w : World} {B n : Nat} {b : Nat → Bool} (h : RowW w B n b) {p : Nat} (hp : p < n) (y : Bool) : RowW (w.setCell ⟨B, p, none⟩ (.bool y)) B n (bset b p y) := fun i hi => by
  have hc := h i hi
  simp only [World.cell?] at hc ⊢
  simp only [World.setCell, Array.getElem?_modify]
  cases hH : w.heap[B]? with
  | none => rw [hH] at hc; simp at hc
  | some o =>
    rw [hH] at hc
    cases o with
    | cells c t f =>
      simp at hc ⊢
      by_cases e : i = p
      · subst e
        have hlt : i < c.size := (Array.getElem?_eq_some_iff.1 hc).1
        simp [bset_at, hlt]
      · rw [bset_ne b y e, Array.getElem?_setIfInBounds_ne (Ne.symm e)]; exact hc
    | _ => simp at hc
theorem RowG.set {w : World} {B n : Nat} {b : Nat → Int} (h : RowG w B n b) {p : Nat} (hp : p < n) (y : Int) : RowG (w.setCell ⟨B, p, none⟩ (.int .u64 y)) B n (gset b p y) := fun i hi => by
  have hc := h i hi
  simp only [World.cell?] at hc ⊢
  simp only [World.setCell, Array.getElem?_modify]
  cases hH : w.heap[B]? with
  | none => rw [hH] at hc; simp at hc
  | some o =>
    rw [hH] at hc
    cases o with
    | cells c t f =>
      simp at hc ⊢
      by_cases e : i = p
      · subst e
        have hlt : i < c.size := (Array.getElem?_eq_some_iff.1 hc).1
        simp [gset_at, hlt]
      · rw [gset_ne b y e, Array.getElem?_setIfInBounds_ne (Ne.symm e)]; exact hc
    | _ => simp at hc
theorem row_some {w : World} {B n : Nat} {b : Nat → Int} (h : RowB w B n b) (hn : 0 < n) : w.heap[B]?.isSome := by
  have := World.block_lt_of_cell? w _ (h 0 hn)
  rw [Array.getElem?_eq_getElem this]; rfl
theorem hbs33 : ∀ w : World, (Instr.buildSlice 33 0 #[]).run Try.prog w = .ok (.slice (some ⟨w.heap.size, 0, none⟩) 0 0) (w.alloc (.cells #[] 4)) := fun _ => by kernel_rfl
theorem hbs34 : ∀ w : World, (Instr.buildSlice 34 0 #[]).run Try.prog w = .ok (.slice (some ⟨w.heap.size, 0, none⟩) 0 0) (w.alloc (.cells #[] 55)) := fun _ => by kernel_rfl

set_option maxHeartbeats 4000000 in
theorem rstore10_any (K a n p : Nat) (addr x : Int) (B1 B2 B3 c1 c2 c3 : Nat) (b : Nat → Int) (wa : Nat → Bool) (g : Nat → Int) (m : Int) (w : World) (hK : K ≤ 1024) (h1 : 64 * K ≤ c1) (hb1 : RowB w B1 (64 * K) b) (hb2 : RowW w B2 K wa) (hb3 : RowG w B3 K g) (hg : BdG K g m) (hm : m ≤ 1000000)
    (ha : addr = 2147483648 + (a : Int)) (hn1 : 1 ≤ n) (hn : n ≤ 4) (hfit : a + n ≤ 64 * K) (hp : a / 64 = p) (x0 : 0 ≤ x) (x1 : x < 4294967296) :
    Calls Try.prog 27 #[.agg #[.slice (some ⟨B1, 0, none⟩) (64 * K) c1, .slice (some ⟨B2, 0, none⟩) K c2, .slice (some ⟨B3, 0, none⟩) K c3], .int .u32 addr, .int .i64 n, .int .u32 x] w fun e w' => ∃ v, e = .returned (.tuple #[v, .bool (wa p)]) ∧ (∀ P, P < w.heap.size → RefV w' P v K (bput b a n (byteAt x)) (wHit wa p) (gHit wa g p)) ∧ Below w.heap.size w w' := by
  have hq0 : 0 ≤ addr := by omega
  have hq1 : addr < 2147549184 := by omega
  have e1 : addr - 2147483648 = (a : Int) := by omega
  have HBY : Hid (∀ W : World, Calls Try.prog 38 #[.int .u32 x, .int .i64 n] W fun e w' => ∃ v, e = .returned v ∧ w'.ownsRow W.heap.size 5 1 v n ((bytesTo x n).map (Value.int .u8)) ∧ Below W.heap.size W w') := fun W => rbytes_any x n W x0 x1 hn
  have HPUT : Hid (∀ W : World, ∀ xb xcap, RowB W B1 (64 * K) b → RowB W xb n (byteAt x) → Calls Try.prog 28 #[.slice (some ⟨B1, 0, none⟩) (64 * K) c1, .int .u32 addr, .slice (some ⟨xb, 0, none⟩) n xcap] W fun e w' => ∃ B' c, e = .returned (.slice (some ⟨B', 0, none⟩) (64 * K) c) ∧ (64 * K ≤ c ∧ W.heap.size ≤ B' ∧ RowB w' B' (64 * K) (bput b a n (byteAt x))) ∧ Below W.heap.size W w') := fun W xb xcap h2 h3 =>
    rput10_any K a addr B1 c1 xb 0 n xcap b (byteAt x) W hK h2 ha hn1 hfit h1 (fun i hi => by rw [Nat.zero_add]; exact h3 i hi)
  have H1 := Lib.hid hb1
  have H2 := Lib.hid hb2
  have H3 := Lib.hid hb3
  have HG := Lib.hid hg
  have HP : Hid (p < K) := by show _ < _; omega
  have hdiv : (a : Int) / 64 = (p : Int) := by omega
  have HNN : Hid (1 ≤ n ∧ n ≤ 4 ∧ 1 ≤ K ∧ K ≤ 1024) := ⟨hn1, hn, by omega, hK⟩
  obtain ⟨W0, hW0⟩ : ∃ W0, W0 = ((w.alloc (.cells #[.slice (some ⟨B1, 0, none⟩) (64 * K) c1, .slice (some ⟨B2, 0, none⟩) K c2, .slice (some ⟨B3, 0, none⟩) K c3] 36)).alloc (.cells #[.slice none 0 0, .slice none 0 0, .slice none 0 0] 36)) := ⟨_, rfl⟩
  have HW0 := Lib.hid hW0
  have HBW : Hid (Below w.heap.size w W0 ∧ W0.heap.size = w.heap.size + 2) := by rw [hW0]; exact ⟨((Below.refl _ _).alloc (Nat.le_refl _) _).alloc (by simp) _, by simp⟩
  have HBOX : Hid (∀ w' : World, Below W0.heap.size W0 w' → w'.cell? ⟨w.heap.size, 0, none⟩ = some (.slice (some ⟨B1, 0, none⟩) (64 * K) c1) ∧ w'.cell? ⟨w.heap.size, 1, none⟩ = some (.slice (some ⟨B2, 0, none⟩) K c2) ∧ w'.cell? ⟨w.heap.size, 2, none⟩ = some (.slice (some ⟨B3, 0, none⟩) K c3)) := fun w' hb => by
    have e : w'.heap[w.heap.size]? = some (.cells #[.slice (some ⟨B1, 0, none⟩) (64 * K) c1, .slice (some ⟨B2, 0, none⟩) K c2, .slice (some ⟨B3, 0, none⟩) K c3] 36 (0, 0)) := by
      rw [hb.block _ (by have := HBW.out.2; omega), hW0, heap_alloc_old _ _ (by simp)]
      exact heap_alloc_new w _
    exact (three_cells e).1
  have HRES : Hid (∀ w' : World, Below W0.heap.size W0 w' → w'.heap[w.heap.size + 1]? = some (.cells #[.slice none 0 0, .slice none 0 0, .slice none 0 0] 36 (0, 0))) := fun w' hb => by
    rw [hb.block _ (by have := HBW.out.2; omega), hW0]
    have := heap_alloc_new (w.alloc (.cells #[.slice (some ⟨B1, 0, none⟩) (64 * K) c1, .slice (some ⟨B2, 0, none⟩) K c2, .slice (some ⟨B3, 0, none⟩) K c3] 36)) (.cells #[.slice none 0 0, .slice none 0 0, .slice none 0 0] 36)
    simpa using this
  clear hb1 hb2 hb3 hg ha hp hn1 hn hfit x0 x1 h1 hK hW0
  go_enter Try.func27, Try.ntmps27
  go_wp2_with fail
  rw [← HW0.out]
  refine wp_region_held_drew (S := fun w' => Below W0.heap.size W0 w') (by kernel_rfl) ((Below.refl _ _).drew) (fun hHeld => ?_)
  refine wpAnyH_take (i := 0) (oi := ?o0) (v := ?v0) ?ho0 (by kernel_rfl) (by kernel_rfl) (by kernel_rfl) ?q0 ?y0 (by assumption) ?rest0
  case ho0 => (simp only [List.getElem?_toArray, List.getElem?_cons_succ, List.getElem?_cons_zero]; rfl)
  case q0 => exact fun _ _ _ h => h
  case y0 => (refine Or.inl ⟨by rfl, ?_⟩; intro w hSw; (try dsimp only at hSw); go_simp; try with_reducible rfl)
  try simp only [Act.put, List.setIfInBounds_toArray, List.set_cons_zero, List.set_cons_succ]
  refine wpAnyH_take (i := 1) (oi := ?o1) (v := ?v1) ?ho1 (by kernel_rfl) (by kernel_rfl) (by kernel_rfl) ?q1 ?y1 (by assumption) ?rest1
  case ho1 => (simp only [List.getElem?_toArray, List.getElem?_cons_succ, List.getElem?_cons_zero]; rfl)
  case q1 => exact fun _ _ _ h => h
  case y1 => (refine Or.inl ⟨by rfl, ?_⟩; intro w hSw; (try dsimp only at hSw); have q0 := (HBOX.out _ hSw).1; go_simp; try with_reducible rfl)
  try simp only [Act.put, List.setIfInBounds_toArray, List.set_cons_zero, List.set_cons_succ]
  refine wpAnyH_take (i := 2) (oi := ?o2) (v := ?v2) ?ho2 (by kernel_rfl) (by kernel_rfl) (by kernel_rfl) ?q2 ?y2 (by assumption) ?rest2
  case ho2 => (simp only [List.getElem?_toArray, List.getElem?_cons_succ, List.getElem?_cons_zero]; rfl)
  case q2 => exact fun _ _ _ h => h
  case y2 => (refine Or.inl ⟨by rfl, ?_⟩; intro w hSw; (try dsimp only at hSw); go_simp; try with_reducible rfl)
  try simp only [Act.put, List.setIfInBounds_toArray, List.set_cons_zero, List.set_cons_succ]
  refine wpAnyH_take (i := 3) (oi := ?o3) (v := ?v3) ?ho3 (by kernel_rfl) (by kernel_rfl) (by kernel_rfl) ?q3 ?y3 (by assumption) ?rest3
  case ho3 => (simp only [List.getElem?_toArray, List.getElem?_cons_succ, List.getElem?_cons_zero]; rfl)
  case q3 => exact fun _ _ _ h => h
  case y3 => (refine Or.inl ⟨by rfl, ?_⟩; intro w hSw; (try dsimp only at hSw); go_simp; try with_reducible rfl)
  try simp only [Act.put, List.setIfInBounds_toArray, List.set_cons_zero, List.set_cons_succ]
  refine wpAnyH_take (i := 4) (oi := ?o4) (v := ?v4) ?ho4 (by kernel_rfl) (by kernel_rfl) (by kernel_rfl) ?q4 ?y4 (by assumption) ?rest4
  case ho4 => (simp only [List.getElem?_toArray, List.getElem?_cons_succ, List.getElem?_cons_zero]; rfl)
  case q4 => exact fun _ _ _ h => h
  case y4 => (refine Or.inl ⟨by rfl, ?_⟩; intro w hSw; (try dsimp only at hSw); go_simp; try with_reducible rfl)
  try simp only [Act.put, List.setIfInBounds_toArray, List.set_cons_zero, List.set_cons_succ]
  refine wpAnyH_take (i := 8) (oi := ?o8) (v := ?v8) ?ho8 (by kernel_rfl) (by kernel_rfl) (by kernel_rfl) ?q8 ?y8 (by assumption) ?rest8
  case ho8 => (simp only [List.getElem?_toArray, List.getElem?_cons_succ, List.getElem?_cons_zero]; rfl)
  case q8 => exact fun _ _ _ h => h
  case y8 => (refine Or.inl ⟨by rfl, ?_⟩; intro w hSw; (try dsimp only at hSw); go_simp; try with_reducible rfl)
  try simp only [Act.put, List.setIfInBounds_toArray, List.set_cons_zero, List.set_cons_succ]
  refine wpAnyH_take (i := 9) (oi := ?o9) (v := ?v9) ?ho9 (by kernel_rfl) (by kernel_rfl) (by kernel_rfl) ?q9 ?y9 (by assumption) ?rest9
  case ho9 => (simp only [List.getElem?_toArray, List.getElem?_cons_succ, List.getElem?_cons_zero]; rfl)
  case q9 => exact fun _ _ _ h => h
  case y9 => (refine Or.inl ⟨by rfl, ?_⟩; intro w hSw; (try dsimp only at hSw); have q1 := (HBOX.out _ hSw).2.1; go_simp; try with_reducible rfl)
  try simp only [Act.put, List.setIfInBounds_toArray, List.set_cons_zero, List.set_cons_succ]
  refine wpAnyH_take (i := 12) (oi := ?o12) (v := ?v12) ?ho12 (by kernel_rfl) (by kernel_rfl) (by kernel_rfl) ?q12 ?y12 (by assumption) ?rest12
  case ho12 => (simp only [List.getElem?_toArray, List.getElem?_cons_succ, List.getElem?_cons_zero]; rfl)
  case q12 => exact fun _ _ _ h => h
  case y12 => (refine Or.inl ⟨by rfl, ?_⟩; intro w hSw; (try dsimp only at hSw); go_simp; try with_reducible rfl)
  try simp only [Act.put, List.setIfInBounds_toArray, List.set_cons_zero, List.set_cons_succ]
  refine wpAnyH_take (i := 13) (oi := ?o13) (v := ?v13) ?ho13 (by kernel_rfl) (by kernel_rfl) (by kernel_rfl) ?q13 ?y13 (by assumption) ?rest13
  case ho13 => (simp only [List.getElem?_toArray, List.getElem?_cons_succ, List.getElem?_cons_zero]; rfl)
  case q13 => exact fun _ _ _ h => h
  case y13 => (refine Or.inl ⟨by rfl, ?_⟩; intro w hSw; (try dsimp only at hSw); have q2 := (HBOX.out _ hSw).2.2; go_simp; try with_reducible rfl)
  try simp only [Act.put, List.setIfInBounds_toArray, List.set_cons_zero, List.set_cons_succ]
  refine wpAnyH_each (fuel := 1) [5, 6, 7, 10, 11, 14, 15, 16] (storeR (w.heap.size + 1) K n x (bput b a n (byteAt x)) wa g) rfl (by kernel_rfl) (fun w1 hb => Below.trans hHeld (hb.mono hHeld.size)) ?stable1 ?step1 ?next1
  rotate_left 2
  intro vE wE hbE hrE
  simp only [putSel, slotAt, Act.put, if_true, if_pos, List.getElem?_toArray, List.getElem?_cons_succ, List.getElem?_cons_zero, Option.bind_some, List.setIfInBounds_toArray, List.set_cons_zero, List.set_cons_succ, List.foldl_cons, List.foldl_nil]
  have hHeld := Below.trans hHeld (hbE.mono hHeld.size)
  refine wpAnyH_ready (rs := [17]) (by kernel_rfl) (by simp) (AllReadyH.cons rfl (fun Kx hKx => ?_) AllReadyH.nil)
  obtain ⟨x1, x2, x3, e15, hx, hy, hz⟩ : R3o (w.heap.size + 1) K (bput b a n (byteAt x)) wa g (vE 15) wE := hrE 15 (by simp)
  obtain ⟨B10, e16, hB10, hcells⟩ : R16 (w.heap.size + 1) (vE 16) wE := hrE 16 (by simp)
  obtain ⟨D1, d1, rfl, hx⟩ := hx
  obtain ⟨D2, d2, rfl, hy⟩ := hy
  obtain ⟨D3, d3, rfl, hz⟩ := hz
  obtain ⟨⟨f0, f1, f2⟩, z0, z1, z2⟩ := three_cells hcells
  rw [e15, e16]
  have HX := Lib.hid hx
  have HY := Lib.hid hy
  have HZ := Lib.hid hz
  have HE := Lib.hid hHeld
  have HCE := Lib.hid hcells
  have HB10 := Lib.hid hB10
  clear hrE hx hy hz hbE e15 e16 hcells hB10
  go_simp
  refine hKx.out _ _ (three_set HE.out (by have := HB10.out; have := HBW.out.2; omega)) (fun hHeld => ?_)
  clear hKx Kx
  refine wpAnyH_done (by kernel_rfl) ?_ _

  have hW5 : (((wE.setCell ⟨B10, 0, none⟩ (.slice (some ⟨D1, 0, none⟩) (64 * K) d1)).setCell ⟨B10, 1, none⟩ (.slice (some ⟨D2, 0, none⟩) K d2)).setCell ⟨B10, 2, none⟩ (.slice (some ⟨D3, 0, none⟩) K d3)).heap[B10]? = some (.cells #[.slice (some ⟨D1, 0, none⟩) (64 * K) d1, .slice (some ⟨D2, 0, none⟩) K d2, .slice (some ⟨D3, 0, none⟩) K d3] 36 (0, 0)) :=
    heap_setCell_at (heap_setCell_at (heap_setCell_at HCE.out))
  have hbar : Bar B10 wE (((wE.setCell ⟨B10, 0, none⟩ (.slice (some ⟨D1, 0, none⟩) (64 * K) d1)).setCell ⟨B10, 1, none⟩ (.slice (some ⟨D2, 0, none⟩) K d2)).setCell ⟨B10, 2, none⟩ (.slice (some ⟨D3, 0, none⟩) K d3)) := ((Bar.setCell _ _ _ _).trans (Bar.setCell _ _ _ _)).trans (Bar.setCell _ _ _ _)
  have HW5 := Lib.hid hW5
  have HBAR := Lib.hid hbar
  have HH5 := Lib.hid hHeld
  clear hW5 hbar hHeld f0 f1 f2 z0 z1 z2
  generalize (((wE.setCell ⟨B10, 0, none⟩ (.slice (some ⟨D1, 0, none⟩) (64 * K) d1)).setCell ⟨B10, 1, none⟩ (.slice (some ⟨D2, 0, none⟩) K d2)).setCell ⟨B10, 2, none⟩ (.slice (some ⟨D3, 0, none⟩) K d3)) = W5 at *
  obtain ⟨hK1, hK2⟩ := (show 1 ≤ K ∧ K ≤ 1024 from ⟨by have := HNN.out; omega, by have := HNN.out; omega⟩)
  have HPP : Hid (p < K) := HP.out
  have k0 : wE.cell? ⟨B10, 0, none⟩ = some (.slice none 0 0) := (three_cells HCE.out).1.1
  have k1 : wE.cell? ⟨D1, 0, none⟩ = some (.int .u8 (bput b a n (byteAt x) 0)) := HX.out.2.2.2 0 (by omega)
  have k2 : wE.cell? ⟨D2, 0, none⟩ = some (.bool (wa 0)) := by rw [HY.out.cellAt 0 (by omega)]; exact rowWL_at (by omega)
  have k3 : wE.cell? ⟨D3, 0, none⟩ = some (.int .u64 (g 0)) := by rw [HZ.out.cellAt 0 (by omega)]; exact rowGL_at (by omega)
  have n1 : D1 ≠ B10 := fun e => by rw [e, k0] at k1; simp at k1
  have n2 : D2 ≠ B10 := fun e => by rw [e, k0] at k2; simp at k2
  have n3 : D3 ≠ B10 := fun e => by rw [e, k0] at k3; simp at k3
  have n4 : D1 ≠ D2 := fun e => by rw [e, k2] at k1; simp at k1
  have n5 : D1 ≠ D3 := fun e => by rw [e, k3] at k1; simp at k1
  have n6 : D2 ≠ D3 := fun e => by rw [e, k3] at k2; simp at k2
  have l1 : w.heap.size + 1 < D1 := HX.out.2.1
  have l2 : w.heap.size + 1 < D2 := (HY.out.lt D2 rfl).1
  have l3 : w.heap.size + 1 < D3 := (HZ.out.lt D3 rfl).1
  have l0 : w.heap.size + 1 < B10 := HB10.out
  clear k0 k1 k2 k3
  have HY5 : Hid (W5.ownsRow (w.heap.size + 1 + 1) 4 1 (.slice (some ⟨D2, 0, none⟩) K d2) K (rowWL K wa)) := own10_bar HY.out HBAR.out n2
  have HZ5 : Hid (W5.ownsRow (w.heap.size + 1 + 1) 55 1 (.slice (some ⟨D3, 0, none⟩) K d3) K (rowGL K g)) := own10_bar HZ.out HBAR.out n3
  have R1 : Hid (RowB W5 D1 (64 * K) (bput b a n (byteAt x))) := RowB.bar HX.out.2.2.2 HBAR.out n1
  have R2 : Hid (RowW W5 D2 K wa) := fun i hi => by rw [HY5.out.cellAt i (by omega)]; exact rowWL_at hi
  have R3 : Hid (RowG W5 D3 K g) := fun i hi => by rw [HZ5.out.cellAt i (by omega)]; exact rowGL_at hi
  have HC : Hid (64 * K ≤ d1 ∧ K ≤ d2 ∧ K ≤ d3) := ⟨HX.out.1, own10_cap HY5.out (by omega), own10_cap HZ5.out (by omega)⟩
  have HB5 : Hid (Below w.heap.size w W5) := HBW.out.1.trans (HH5.out.mono HBW.out.1.size)
  obtain ⟨⟨t0, t1, t2⟩, -⟩ := three_cells HW5.out
  obtain ⟨⟨r0, r1, r2⟩, v0, v1, v2⟩ := three_cells (HRES.out W5 HH5.out)
  have cw := R2.out p HPP.out
  have cg := R3.out p HPP.out
  have fw : W5.frozen? ⟨D2, p, none⟩ = false := HY5.out.frozenAt p
  have fg : W5.frozen? ⟨D3, p, none⟩ = false := HZ5.out.frozenAt p
  obtain ⟨g0, g1⟩ := HG.out p HPP.out
  have hi : (p : Int) < K := by have := HPP.out; omega
  have m1 : D2 ≠ w.heap.size + 1 := by omega
  have m2 : D3 ≠ w.heap.size + 1 := by omega
  have m3 : B10 ≠ w.heap.size + 1 := by omega
  have L1 : Hid (D1 ≠ w.heap.size + 1) := by show _ ≠ _; omega
  have N1 := Lib.hid n4
  have N2 := Lib.hid n5
  have LL : Hid (w.heap.size + 1 < D1 ∧ w.heap.size + 1 < D2 ∧ w.heap.size + 1 < D3) := ⟨l1, l2, l3⟩
  have s2 := n2.symm
  have s3 := n3.symm
  have s6 := n6.symm
  have u1 := m1.symm
  have u2 := m2.symm
  have u3 := m3.symm
  clear HW5 HBAR HH5 HX HY HZ HE HCE HB10 HRES HBOX HPUT HBY H1 H2 H3 n1 n4 n5 l1 l2 l3 l0 HP HBW HW0 HNN HG
  cases hwp : wa p
  · rw [hwp] at cw
    have HWP := Lib.hid hwp
    clear hwp cg fw fg
    go_wp2
    refine bodyPost_ret (v := .tuple #[.agg #[.slice (some ⟨D1, 0, none⟩) (64 * K) d1, .slice (some ⟨D2, 0, none⟩) K d2, .slice (some ⟨D3, 0, none⟩) K d3], .bool false]) (by simp [results, Try.results27, go_sem, r0, r1, r2]) rfl ⟨_, by rw [HWP.out], fun P hP => ?_, three_set HB5.out (by omega)⟩
    have hbar : Bar (w.heap.size + 1) W5 (((W5.setCell ⟨w.heap.size + 1, 0, none⟩ (.slice (some ⟨D1, 0, none⟩) (64 * K) d1)).setCell ⟨w.heap.size + 1, 1, none⟩ (.slice (some ⟨D2, 0, none⟩) K d2)).setCell ⟨w.heap.size + 1, 2, none⟩ (.slice (some ⟨D3, 0, none⟩) K d3)) := ((Bar.setCell _ _ _ _).trans (Bar.setCell _ _ _ _)).trans (Bar.setCell _ _ _ _)
    obtain ⟨q1, q2, q3⟩ := LL.out
    rw [wHit_f HWP.out, gHit_f HWP.out]
    exact ⟨D1, D2, D3, d1, d2, d3, rfl, HC.out, ⟨by omega, by omega, by omega⟩, R1.out.bar hbar L1.out, R2.out.bar hbar m1, R3.out.bar hbar m2⟩
  · rw [hwp] at cw
    have HWP := Lib.hid hwp
    clear hwp
    have S1 : Hid (RowB ((W5.setCell ⟨D2, p, none⟩ (.bool false)).setCell ⟨D3, p, none⟩ (.int .u64 (g p + 1))) D1 (64 * K) (bput b a n (byteAt x))) := (R1.out.bar (Bar.setCell D2 _ _ _) N1.out).bar (Bar.setCell D3 _ _ _) N2.out
    have S2 : Hid (RowW ((W5.setCell ⟨D2, p, none⟩ (.bool false)).setCell ⟨D3, p, none⟩ (.int .u64 (g p + 1))) D2 K (bset wa p false)) := (R2.out.set HPP.out false).bar (Bar.setCell D3 _ _ _) n6
    have S3 : Hid (RowG ((W5.setCell ⟨D2, p, none⟩ (.bool false)).setCell ⟨D3, p, none⟩ (.int .u64 (g p + 1))) D3 K (gset g p (g p + 1))) := (RowG.bar R3.out (Bar.setCell D2 _ _ _) s6).set HPP.out _
    have HB6 : Hid (Below w.heap.size w ((W5.setCell ⟨D2, p, none⟩ (.bool false)).setCell ⟨D3, p, none⟩ (.int .u64 (g p + 1)))) := (HB5.out.setCell (p := ⟨D2, p, none⟩) (by have := LL.out; show _ ≤ D2; omega) _).setCell (p := ⟨D3, p, none⟩) (by have := LL.out; show _ ≤ D3; omega) _
    generalize hgp : g p = gp at *
    have HGP := Lib.hid hgp
    clear hgp
    go_wp2
    refine bodyPost_ret (v := .tuple #[.agg #[.slice (some ⟨D1, 0, none⟩) (64 * K) d1, .slice (some ⟨D2, 0, none⟩) K d2, .slice (some ⟨D3, 0, none⟩) K d3], .bool true]) (by simp [results, Try.results27, go_sem, r0, r1, r2, m1, m2, m3, u1, u2, u3]) rfl ⟨_, by rw [HWP.out], fun P hP => ?_, three_set HB6.out (by omega)⟩
    have hbar : Bar (w.heap.size + 1) ((W5.setCell ⟨D2, p, none⟩ (.bool false)).setCell ⟨D3, p, none⟩ (.int .u64 (gp + 1))) (((((W5.setCell ⟨D2, p, none⟩ (.bool false)).setCell ⟨D3, p, none⟩ (.int .u64 (gp + 1))).setCell ⟨w.heap.size + 1, 0, none⟩ (.slice (some ⟨D1, 0, none⟩) (64 * K) d1)).setCell ⟨w.heap.size + 1, 1, none⟩ (.slice (some ⟨D2, 0, none⟩) K d2)).setCell ⟨w.heap.size + 1, 2, none⟩ (.slice (some ⟨D3, 0, none⟩) K d3)) := ((Bar.setCell _ _ _ _).trans (Bar.setCell _ _ _ _)).trans (Bar.setCell _ _ _ _)
    obtain ⟨q1, q2, q3⟩ := LL.out
    rw [wHit_t HWP.out, gHit_t HWP.out, HGP.out]
    exact ⟨D1, D2, D3, d1, d2, d3, rfl, HC.out, ⟨by omega, by omega, by omega⟩, S1.out.bar hbar L1.out, S2.out.bar hbar m1, S3.out.bar hbar m2⟩
  · exact fun k u w1 w2 hb h => storeR_on hb h
  · intro i hi o ho ev w1 hb hc ht hd
    have hb1 : Below W0.heap.size W0 w1 := Below.trans hHeld (hb.mono hHeld.size)
    have hsz : w.heap.size + 2 ≤ w1.heap.size := by have := hb1.size; have := HBW.out.2; omega
    have hbw : Below w.heap.size w w1 := HBW.out.1.trans (hb1.mono HBW.out.1.size)
    simp only [List.mem_cons, List.not_mem_nil, or_false] at hi
    rcases hi with rfl | rfl | rfl | rfl | rfl | rfl | rfl | rfl
    · simp only [List.getElem?_toArray, List.getElem?_cons_succ, List.getElem?_cons_zero, Option.some.injEq] at ho
      subst ho
      have t15 : ev (.tmp 15) = .int .u32 x := ht 15 (by decide)
      have t16 : ev (.tmp 16) = .int .i64 n := ht 16 (by decide)
      have tf : ev (.func 38) = .func (.func 38) #[] #[] := hc _ (by intro t; simp)
      refine does_call (f := 38) (args := #[.int .u32 x, .int .i64 n]) (w0 := w1) (by go_simp) ?_
      refine (HBY.out w1).mono ?_
      rintro e w2 ⟨v, rfl, ho, hb2⟩
      rw [bytesTo_range] at ho
      obtain ⟨B, c, rfl, hc1, hc2, hc3⟩ := row_of_own (h := byteAt x) ho (by have := HNN.out; omega)
      exact ⟨_, rfl, hb2, B, c, rfl, hc1, by omega, row_some hc3 (by have := HNN.out; omega), hc3⟩
    · simp only [List.getElem?_toArray, List.getElem?_cons_succ, List.getElem?_cons_zero, Option.some.injEq] at ho
      subst ho
      have t13 : ev (.tmp 13) = .slice (some ⟨B1, 0, none⟩) (64 * K) c1 := ht 13 (by decide)
      have t14 : ev (.tmp 14) = .int .u32 addr := ht 14 (by decide)
      have tf : ev (.func 28) = .func (.func 28) #[] #[] := hc _ (by intro t; simp)
      obtain ⟨xb, xc, t17, _, _, _, hx⟩ : RB (w.heap.size + 1) n (byteAt x) (ev (.tmp 17)) w1 := hd ⟨5, .data⟩ (by simp) rfl (by simp) 17 rfl
      refine does_call (f := 28) (args := #[.slice (some ⟨B1, 0, none⟩) (64 * K) c1, .int .u32 addr, .slice (some ⟨xb, 0, none⟩) n xc]) (w0 := w1) (by go_simp) ?_
      refine (HPUT.out w1 xb xc (H1.out.on hbw) hx).mono ?_
      rintro e w2 ⟨B', c, rfl, ⟨hc1, hc2, hc3⟩, hb2⟩
      exact ⟨_, rfl, hb2, B', c, rfl, hc1, by omega, row_some hc3 (by have := HNN.out; omega), hc3⟩
    · simp only [List.getElem?_toArray, List.getElem?_cons_succ, List.getElem?_cons_zero, Option.some.injEq] at ho
      subst ho
      have hbs := hbs33
      exact does_of (u := .slice (some ⟨w1.heap.size, 0, none⟩) 0 0) (w' := w1.alloc (.cells #[] 4)) (by go_simp) ⟨(Below.refl _ _).alloc (Nat.le_refl _) _, w1.heap.size, rfl⟩
    · simp only [List.getElem?_toArray, List.getElem?_cons_succ, List.getElem?_cons_zero, Option.some.injEq] at ho
      subst ho
      have t21 : ev (.tmp 21) = .slice (some ⟨B2, 0, none⟩) K c2 := ht 21 (by decide)
      obtain ⟨Be, t19⟩ : R7 (ev (.tmp 19)) := hd ⟨7, .data⟩ (by simp) rfl (by simp) 19 rfl
      obtain ⟨i0, q1, q2, q3, q4⟩ := info_parts info_bool10
      obtain ⟨c', w2, hr, hown, hb2⟩ := append_empty (P := Try.prog) w1 33 33 4 i0 (.bool false) Try.underlying33 q1 q2 q3 rfl (by rw [q4]; omega) Be ⟨B2, 0, none⟩ K c2 (rowWL K wa) (by simp [rowWL]) (fun j u hj => by obtain ⟨h3, rfl⟩ := rowWL_get hj; rw [Addr.add_lit, Nat.zero_add]; exact H2.out.on hbw j h3) (by have := HNN.out; omega) (by have := HNN.out; omega) (w.heap.size + 1 + 1) (by omega)
      exact does_of (by simp only [execOp, resolve, invoke, builtin, Sem.run_bind, Sem.run_pure, Result.andThen_ok, List.map_toArray, List.map_cons, List.map_nil, t19, t21, hr]) ⟨hb2, w1.heap.size, c', rfl, hown⟩
    · simp only [List.getElem?_toArray, List.getElem?_cons_succ, List.getElem?_cons_zero, Option.some.injEq] at ho
      subst ho
      have hbs := hbs34
      exact does_of (u := .slice (some ⟨w1.heap.size, 0, none⟩) 0 0) (w' := w1.alloc (.cells #[] 55)) (by go_simp) ⟨(Below.refl _ _).alloc (Nat.le_refl _) _, w1.heap.size, rfl⟩
    · simp only [List.getElem?_toArray, List.getElem?_cons_succ, List.getElem?_cons_zero, Option.some.injEq] at ho
      subst ho
      have t25 : ev (.tmp 25) = .slice (some ⟨B3, 0, none⟩) K c3 := ht 25 (by decide)
      obtain ⟨Be, t23⟩ : R7 (ev (.tmp 23)) := hd ⟨11, .data⟩ (by simp) rfl (by simp) 23 rfl
      obtain ⟨i0, q1, q2, q3, q4⟩ := info_parts info_u6410
      obtain ⟨c', w2, hr, hown, hb2⟩ := append_empty (P := Try.prog) w1 34 34 55 i0 (.int .u64 0) Try.underlying34 q1 q2 q3 rfl (by rw [q4]; omega) Be ⟨B3, 0, none⟩ K c3 (rowGL K g) (by simp [rowGL]) (fun j u hj => by obtain ⟨h3, rfl⟩ := rowGL_get hj; rw [Addr.add_lit, Nat.zero_add]; exact H3.out.on hbw j h3) (by have := HNN.out; omega) (by have := HNN.out; omega) (w.heap.size + 1 + 1) (by omega)
      exact does_of (by simp only [execOp, resolve, invoke, builtin, Sem.run_bind, Sem.run_pure, Result.andThen_ok, List.map_toArray, List.map_cons, List.map_nil, t23, t25, hr]) ⟨hb2, w1.heap.size, c', rfl, hown⟩
    · simp only [List.getElem?_toArray, List.getElem?_cons_succ, List.getElem?_cons_zero, Option.some.injEq] at ho
      subst ho
      have r18 : RB (w.heap.size + 1) (64 * K) (bput b a n (byteAt x)) (ev (.tmp 18)) w1 := hd ⟨6, .data⟩ (by simp) rfl (by simp) 18 rfl
      have r22 : OW (w.heap.size + 1) K wa (ev (.tmp 22)) w1 := hd ⟨10, .data⟩ (by simp) rfl (by simp) 22 rfl
      have r26 : OG (w.heap.size + 1) K g (ev (.tmp 26)) w1 := hd ⟨14, .data⟩ (by simp) rfl (by simp) 26 rfl
      obtain ⟨D1, d1, t18, _⟩ := id r18
      obtain ⟨D2, d2, t22, _⟩ := id r22
      obtain ⟨D3, d3, t26, _⟩ := id r26
      rw [t18] at r18
      rw [t22] at r22
      rw [t26] at r26
      refine does_of (u := .agg #[.slice (some ⟨D1, 0, none⟩) (64 * K) d1, .slice (some ⟨D2, 0, none⟩) K d2, .slice (some ⟨D3, 0, none⟩) K d3]) (w' := w1) ?_ ⟨Below.refl _ _, _, _, _, rfl, r18, r22, r26⟩
      clear r18 r22 r26
      go_simp
    · simp only [List.getElem?_toArray, List.getElem?_cons_succ, List.getElem?_cons_zero, Option.some.injEq] at ho
      subst ho
      refine does_of (u := .pointer (some ⟨w1.heap.size, 0, none⟩)) (w' := w1.alloc (.cells #[.slice none 0 0, .slice none 0 0, .slice none 0 0] 36)) ?_ ⟨(Below.refl _ _).alloc (Nat.le_refl _) _, w1.heap.size, rfl, by omega, heap_alloc_new _ _⟩
      go_simp
end Go.Proofs.Ytkgamoacjkmhkaa
