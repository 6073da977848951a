/- What layers 10 and 11 share: all blocks but one as they were; rows of bytes; append onto rows that the call owns. -/
import Derived.Test.YtlmmebgicanmhaaBase
import Derived.Laws.CopyOwn
import Derived.OwnWalk
import Derived.Deep.RegionLaw
namespace Go.Proofs.Ytlmmebgicanmhaa
open Go.RowKit
set_option linter.unusedVariables false

/-- All blocks that there were, but P, are as they were. -/
def Bar (P : Nat) (w w' : World) : Prop := w'.os = w.os ∧ w'.tape = w.tape ∧ w'.output = w.output ∧ w.heap.size ≤ w'.heap.size ∧ ∀ k, k < w.heap.size → k ≠ P → w'.heap[k]? = w.heap[k]?
theorem Bar.refl (P : Nat) (w : World) : Bar P w w := ⟨rfl, rfl, rfl, Nat.le_refl _, fun _ _ _ => rfl⟩
theorem Bar.size {P : Nat} {w w' : World} (h : Bar P w w') : w.heap.size ≤ w'.heap.size := h.2.2.2.1
theorem Bar.trans {P : Nat} {a b c : World} (h : Bar P a b) (g : Bar P b c) : Bar P a c :=
  ⟨g.1.trans h.1, g.2.1.trans h.2.1, g.2.2.1.trans h.2.2.1, Nat.le_trans h.size g.size, fun k hk hp => (g.2.2.2.2 k (Nat.lt_of_lt_of_le hk h.size) hp).trans (h.2.2.2.2 k hk hp)⟩
theorem Bar.of {w w' : World} (P : Nat) (h : Below w.heap.size w w') : Bar P w w' := ⟨h.os, h.tape, h.output, h.size, fun k hk _ => h.block k hk⟩
theorem Bar.below {P B : Nat} {w w' : World} (h : Bar P w w') (hP : B ≤ P) (hB : B ≤ w.heap.size) : Below B w w' :=
  ⟨h.1, h.2.1, h.2.2.1, h.size, fun k hk => h.2.2.2.2 k (by omega) (by omega)⟩
theorem Bar.cell {P b o : Nat} {w w' : World} {v : Value} (h : Bar P w w') (hb : b ≠ P) (hc : w.cell? ⟨b, o, none⟩ = some v) : w'.cell? ⟨b, o, none⟩ = some v := by
  rw [World.cell?_of_block (w := w) (h.2.2.2.2 b (World.block_lt_of_cell? w _ hc) hb)]; exact hc
theorem Bar.drew {P : Nat} {w w' : World} (h : Bar P w w') : Bar P w w'.drew := ⟨h.1, h.2.1, h.2.2.1, h.size, h.2.2.2.2⟩
theorem Bar.setRow (P : Nat) (w : World) (cs : Array Value) : Bar P w (w.setRow P cs) :=
  ⟨rfl, rfl, rfl, by simp [World.setRow], fun k _ hk => setRow_other w P k cs (by omega)⟩
theorem Bar.setCell (P o : Nat) (w : World) (u : Value) : Bar P w (w.setCell ⟨P, o, none⟩ u) :=
  ⟨rfl, rfl, rfl, by simp [World.setCell], fun k _ hk => Below.heap_setCell _ _ _ _ hk⟩

theorem heap_setCell_at {w : World} {P o : Nat} {cs : Array Value} {t : TypeId} {f : Nat × Nat} {u : Value} (h : w.heap[P]? = some (.cells cs t f)) : (w.setCell ⟨P, o, none⟩ u).heap[P]? = some (.cells (cs.setIfInBounds o u) t f) := by
  simp [World.setCell, Array.getElem?_modify, h]

theorem splice_get {α : Type} (L : List α) (o : Nat) (cs : List α) (h : o + cs.length ≤ L.length) (j : Nat) : (splice L o cs)[j]? = if o ≤ j ∧ j < o + cs.length then cs[j - o]? else L[j]? := by
  unfold splice
  by_cases h1 : j < o
  · rw [List.getElem?_append_left (by simp; omega), List.getElem?_take, if_pos h1, if_neg (by omega)]
  · rw [List.getElem?_append_right (by simp; omega), show (List.take o L).length = o from by simp; omega]
    by_cases h2 : j < o + cs.length
    · rw [if_pos (by omega), List.getElem?_append_left (by omega)]
    · rw [if_neg (by omega), List.getElem?_append_right (by omega), List.getElem?_drop]
      congr 1; omega

/-- A row of bytes from the head of block B on. -/
def RowB (w : World) (B n : Nat) (b : Nat → Int) : Prop := ∀ i, i < n → w.cell? ⟨B, i, none⟩ = some (.int .u8 (b i))
theorem RowB.on {w w' : World} {B n : Nat} {b : Nat → Int} (h : RowB w B n b) (hb : Below w.heap.size w w') : RowB w' B n b := fun i hi => by
  rw [hb.cell (World.block_lt_of_cell? w _ (h i hi))]; exact h i hi
theorem RowB.bar {w w' : World} {B n P : Nat} {b : Nat → Int} (h : RowB w B n b) (hb : Bar P w w') (hne : B ≠ P) : RowB w' B n b := fun i hi => hb.cell hne (h i hi)

/-- append onto a row that the call owns, as one step of a region that draws. -/
theorem step_append_own {P : Program} {ops : Array Oper} {o : Oper} {a : Act} {w : World} {K : Act → World → Prop} {Q : Exit → Act → World → Prop} {E : Prop} (hgd : o.guard = none) (s x : Operand) (t : TypeId)
    (ho : o.op = .call { callee := .builtin .append, args := #[s, x], argTypes := #[t, t] })
    (base : Nat) (e : TypeId) (i : TypeInfo) (z : Value) (size bytes : Nat) (ht : P.underlying t = some (.slice e)) (hi : P.info? e = some i) (hz : i.zero = some z)
    (hsize : i.size = size) (hby : i.bytes = bytes) (hzs : z.cells.size = size) (hsz : 0 < size)
    (v : Value) (n : Nat) (xs : List Value) (hs : a.eval s = v) (hown : w.ownsRow base e size v n xs)
    (ad : Addr) (m c : Nat) (news : List Value) (hx : a.eval x = .slice (some ad) m c) (hl : news.length = m * size) (hnews : ∀ j u, news[j]? = some u → w.cell? (ad.add j) = some u) (h1 : ∀ u ∈ news, u.oneCell' = true)
    (h63 : n + m ≤ maxLen) (hbytes : (n + m) * bytes ≤ 140737488355328) (hbase : base ≤ w.heap.size)
    (h : ∀ v' w', w'.ownsRow base e size v' (n + m) (xs ++ news) → w.grownBy w' v.ownBlock → (v' = .slice none 0 0 ↔ v = .slice none 0 0 ∧ m = 0) → K (a.put o.dst v') w') :
    if Region.wanted o (yielded ops a.tmps) = true then Oper.wp P o a w K Q else E := by
  have hw : Region.wanted o (yielded ops a.tmps) = true := by simp [Region.wanted, hgd]
  rw [if_pos hw]
  exact wp_append_own w s x t ho base e i z size bytes ht hi hz hsize hby hzs hsz v n xs hs hown ad m c news hx hl hnews h1 h63 hbytes hbase h

/-- n bytes, as cells. -/
def rowL (n : Nat) (h : Nat → Int) : List Value := (List.range n).map fun i => Value.int .u8 (h i)
theorem rowL_length (n : Nat) (h : Nat → Int) : (rowL n h).length = n := by simp [rowL]
theorem rowL_at {n : Nat} {h : Nat → Int} {i : Nat} (hi : i < n) : (rowL n h)[i]? = some (.int .u8 (h i)) := by
  unfold rowL; rw [List.getElem?_map, List.getElem?_range hi]; rfl
theorem rowL_get {n : Nat} {h : Nat → Int} {i : Nat} {u : Value} (e : (rowL n h)[i]? = some u) : i < n ∧ u = .int .u8 (h i) := by
  have hi : i < n := by
    have := (List.getElem?_eq_some_iff.1 e).1
    rwa [rowL_length] at this
  rw [rowL_at hi] at e
  exact ⟨hi, (Option.some.inj e).symm⟩
theorem rowL_one (n : Nat) (h : Nat → Int) : ∀ u ∈ rowL n h, u.oneCell' = true := fun u hu => by
  obtain ⟨i, _, rfl⟩ := List.mem_map.1 hu
  rfl
theorem rowL_append (n m : Nat) (h k : Nat → Int) : rowL n h ++ rowL m k = rowL (n + m) (fun i => if i < n then h i else k (i - n)) := by
  apply List.ext_getElem?
  intro i
  by_cases c : i < n
  · rw [List.getElem?_append_left (by rw [rowL_length]; exact c), rowL_at c, rowL_at (by omega), if_pos c]
  · rw [List.getElem?_append_right (by rw [rowL_length]; omega), rowL_length]
    by_cases d : i < n + m
    · rw [rowL_at (by omega), rowL_at d, if_neg c]
    · rw [List.getElem?_eq_none (by rw [rowL_length]; omega), List.getElem?_eq_none (by rw [rowL_length]; omega)]
theorem rowL_same {n : Nat} {h k : Nat → Int} (e : ∀ i, i < n → h i = k i) : rowL n h = rowL n k := by
  unfold rowL
  exact List.map_congr_left fun i hi => by rw [e i (List.mem_range.1 hi)]

/-- Whoever owns n bytes, n above 0, has a row. -/
theorem row_of_own {w : World} {base n : Nat} {v : Value} {h : Nat → Int} (ho : w.ownsRow base 5 1 v n (rowL n h)) (hn : 0 < n) : ∃ B c, v = .slice (some ⟨B, 0, none⟩) n c ∧ n ≤ c ∧ base ≤ B ∧ RowB w B n h := by
  have ho' := ho
  obtain ⟨_, ho2 | ⟨g, cap, cur, rfl, hb, hg, hnc, _⟩⟩ := ho
  · omega
  · refine ⟨g, cap, rfl, hnc, hb, fun i hi => ?_⟩
    rw [ho'.cellAt i (by omega), rowL_at hi]

theorem own10_on {w w' : World} {base : Nat} {e : TypeId} {size : Nat} {v : Value} {n : Nat} {xs : List Value} (h : w.ownsRow base e size v n xs) (hb : Below w.heap.size w w') : w'.ownsRow base e size v n xs := by
  refine ⟨h.1, ?_⟩
  rcases h.2 with hn | ⟨g, cap, cur, hv, hbs, hg, rest⟩
  · exact .inl hn
  · have hlt : g < w.heap.size := (Array.getElem?_eq_some_iff.1 hg).1
    exact .inr ⟨g, cap, cur, hv, hbs, by rw [← hg]; exact hb.block g hlt, rest⟩

/-- append onto a row of no length and no room: a row of its own. -/
theorem append_empty {P : Program} (w : World) (t ty e : TypeId) (i : TypeInfo) (z : Value) (ht : P.underlying t = some (.slice e)) (hi : P.info? e = some i) (hz : i.zero = some z) (hsize : i.size = 1) (hzs : z.cells.size = 1) (hby : i.bytes ≤ 8)
    (B : Nat) (ad : Addr) (n c : Nat) (news : List Value) (hl : news.length = n) (hnews : ∀ j u, news[j]? = some u → w.cell? (ad.add j) = some u) (hn : 1 ≤ n) (hn1 : n ≤ 65536) (base : Nat) (hbase : base ≤ w.heap.size) :
    ∃ c' w', (Builtin.append_ #[t, t] ty #[.slice (some ⟨B, 0, none⟩) 0 0, .slice (some ad) n c]).run P w = .ok (.slice (some ⟨w.heap.size, 0, none⟩) n c') w' ∧ w'.ownsRow base e 1 (.slice (some ⟨w.heap.size, 0, none⟩) n c') n news ∧ Below w.heap.size w w' := by
  have hfit : Builtin.nextslicecap (0 + n) 0 * i.bytes ≤ 281474976710656 := by
    have : Builtin.nextslicecap (0 + n) 0 = n := by unfold Builtin.nextslicecap; simp; omega
    rw [this]
    have := Nat.mul_le_mul hn1 hby
    omega
  have hr := run_append_grow (P := P) w t ty e i z ht hi hz ⟨B, 0, none⟩ 0 0 [] (by simp) (by simp) ad n c news (by rw [hl, hsize]; omega) hnews (by omega) (by omega) hfit
  simp only [Nat.zero_add] at hr
  refine ⟨_, _, hr, ⟨by rw [hl]; omega, .inr ⟨w.heap.size, _, _, rfl, hbase, heap_alloc_new w.drew _, ?_, ?_, ?_, ?_⟩⟩, ?_⟩
  · exact grownCap_ge w n 0 e
  · exact grownCap_le_maxLen w n 0 e (by unfold maxLen; omega)
  · have := grownCap_ge w n 0 e
    simp only [Array.size_append, List.size_toArray, size_zeroCells, hzs, hl, List.length_nil, Nat.mul_one, Nat.zero_add]
    omega
  · simp [hl]
  · exact ((Below.refl w.heap.size w).drew).alloc (Nat.le_refl _) _

end Go.Proofs.Ytlmmebgicanmhaa
