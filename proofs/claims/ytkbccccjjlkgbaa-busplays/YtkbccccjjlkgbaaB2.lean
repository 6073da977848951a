/- My texts FifoRef, FifoRow, ConMem, FifoGo, FifoAll, FifoAll2, ConGo, AppendPlace, ConIO, TimPut, BusMem, BusDev, TimRef, bound into one. -/
import Derived.Test.YtkbccccjjlkgbaaB1
import Derived.Lib.Hide
import Derived.Laws.AppendOwnNone
import Derived.RangeFuncBox
import Derived.RangeFuncLeaves
import Derived.Shelf.Abstract
import Derived.Shelf.RegionOpen
import Derived.WalkKit
import Derived.OwnWalkIn
import Derived.TacticsInMore
import Derived.LoopNIn
import Derived.LoopIn
import Derived.Maps.AppendAt
import Derived.RangeFuncNested
import Derived.Laws.OwnMore
import Derived.Tactics
import Derived.BigRegion
import Derived.WalkMore
import Derived.Deep.RegionHeld3
/- Layer 11, the document's side: Push, Pop; a slice of bytes that waits, in another block than B. -/
namespace Go.Proofs.Ytkbccccjjlkgbaa
open Go.RowKit
set_option linter.unusedVariables false
set_option maxRecDepth 100000

/-- n bytes from o on in block b, which is not B. -/
def IsBs (B : Nat) (w : World) (b o n cap : Nat) (f : Nat → Int) : Prop := n ≤ cap ∧ b ≠ B ∧ ∀ i, i < n → w.cell? ⟨b, o + i, none⟩ = some (.int .u8 (f i))
theorem IsBs.on {B b o n cap : Nat} {w w' : World} {f : Nat → Int} (h : IsBs B w b o n cap f) (hb : Below w.heap.size w w') : IsBs B w' b o n cap f :=
  ⟨h.1, h.2.1, fun i hi => by rw [hb.cell (World.block_lt_of_cell? w _ (h.2.2 i hi))]; exact h.2.2 i hi⟩
theorem IsBs.bar {B b o n cap : Nat} {w w' : World} {f : Nat → Int} (h : IsBs B w b o n cap f) (hb : Bar B w w') : IsBs B w' b o n cap f :=
  ⟨h.1, h.2.1, fun i hi => hb.cell h.2.1 (h.2.2 i hi)⟩

theorem rowL_snoc (n : Nat) (f : Nat → Int) (b : Int) : rowL n f ++ [Value.int .u8 b] = rowL (n + 1) (snoc n f b) := by
  rw [show [Value.int .u8 b] = rowL 1 (fun _ => b) from rfl, rowL_append]
  exact rowL_same fun i hi => by unfold snoc; rfl

set_option maxHeartbeats 400000 in
theorem rpush_full (b o cap : Nat) (x : Int) (w : World) :
    Calls Try.prog 61 #[.slice (some ⟨b, o, none⟩) 16 cap, .int .u8 x] w fun e w' => e = .returned (.tuple #[.slice (some ⟨b, o, none⟩) 16 cap, .bool false]) ∧ w' = w := by
  go_enter Try.func61, Try.ntmps61
  go_wp2
  go_ret2
  exact ⟨rfl, rfl⟩

set_option maxHeartbeats 800000 in
theorem rpush_yes (B b o n cap : Nat) (f : Nat → Int) (x : Int) (w : World) (hB : B < w.heap.size) (h : IsBs B w b o n cap f) (hn : n < 16) :
    Calls Try.prog 61 #[.slice (some ⟨b, o, none⟩) n cap, .int .u8 x] w fun e w' => ∃ g c, e = .returned (.tuple #[.slice (some ⟨g, 0, none⟩) (n + 1) c, .bool true]) ∧ IsBs B w' g 0 (n + 1) c (snoc n f x) ∧ Below w.heap.size w w' := by
  have HA : Hid (∀ w1 : World, Below w.heap.size w w1 → ∀ j u, (rowL n f)[j]? = some u → w1.cell? ((⟨b, o, none⟩ : Addr).add j) = some u) := fun w1 hb j u hj => by
    obtain ⟨h3, rfl⟩ := rowL_get hj
    have hc := h.2.2 j h3
    rw [Addr.add_lit, hb.cell (World.block_lt_of_cell? w _ hc)]; exact hc
  obtain ⟨i0, hi, hz0, hz1, hz2⟩ := info_parts Try.info5
  have HB0 : Hid (Below w.heap.size w (w.alloc (.cells #[] 5))) := (Below.refl w.heap.size w).alloc (Nat.le_refl _) _
  have HO0 : Hid ((w.alloc (.cells #[] 5)).ownsRow w.heap.size 5 1 (.slice (some ⟨w.heap.size, 0, none⟩) 0 0) 0 []) := World.ownsRow_made w #[] 0 (Nat.le_refl _) (by decide) rfl
  have HBB := Lib.hid hB
  clear h hB
  go_enter Try.func61, Try.ntmps61
  go_wp2_with (first
    | (at_builtin; refine wpList_append_own _ rfl (.tmp 10) (.tmp 11) 30 rfl w.heap.size 5 i0 (.int .u8 0) 1 1 Try.underlying30 hi hz0 hz1 hz2 rfl (by decide) _ 0 [] rfl HO0.out ⟨b, o, none⟩ n cap (rowL n f) rfl (by rw [rowL_length]; omega) (HA.out _ HB0.out) (rowL_one _ _) (by unfold maxLen; omega) (by omega) HB0.out.size ?_))
  intro v1 w1 hown1 hgr1 _
  have HO1 : Hid (w1.ownsRow w.heap.size 5 1 v1 n (rowL n f)) := hown1
  have HB1 : Hid (Below w.heap.size w w1) := HB0.out.grown hgr1 HB0.out.size (fun j hj => (HO0.out.lt j hj).1)
  clear hown1 hgr1
  go_wp2_with (at_builtin; refine wpList_append_own _ rfl (.tmp 12) (.tmp 14) 30 rfl w.heap.size 5 i0 (.int .u8 0) 1 1 Try.underlying30 hi hz0 hz1 hz2 rfl (by decide) _ n (rowL n f) rfl (HO1.out.alloc _) ⟨w1.heap.size, 0, none⟩ 1 1 [.int .u8 x] rfl rfl ?c1 ?c2 ?c3 ?c4 ?c5 ?_)
  case c1 =>
    intro j u hj
    match j, hj with
    | 0, hj => simp at hj; subst hj; simp [Addr.add]
  case c2 => intro u hu; simp at hu; subst hu; rfl
  case c3 => unfold maxLen; omega
  case c4 => omega
  case c5 => have := HB1.out.size; simp; omega
  intro v2 w2 hown2 hgr2 _
  have HO2 : Hid (w2.ownsRow w.heap.size 5 1 v2 (n + 1) (rowL (n + 1) (snoc n f x))) := by have h := hown2; rw [rowL_snoc] at h; exact h
  have HB2 : Hid (Below w.heap.size w w2) := (HB1.out.alloc HB1.out.size _).grown hgr2 (by have := HB1.out.size; simp; omega) (fun j hj => (HO1.out.lt j hj).1)
  clear hown2 hgr2
  obtain ⟨g, c, rfl, hc1, hc2, hc3⟩ := row_of_own HO2.out (by omega)
  go_wp2
  go_ret2
  exact ⟨g, c, rfl, ⟨hc1, by have := HBB.out; omega, fun i hi => by rw [Nat.zero_add]; exact hc3 i hi⟩, HB2.out⟩

set_option maxHeartbeats 400000 in
theorem rpop_none (b o cap : Nat) (w : World) :
    Calls Try.prog 75 #[.slice (some ⟨b, o, none⟩) 0 cap] w fun e w' => e = .returned (.tuple #[.slice (some ⟨b, o, none⟩) 0 cap, .int .u8 0, .bool false]) ∧ w' = w := by
  go_enter Try.func75, Try.ntmps75
  go_wp2
  refine bodyPost_ret (v := .tuple #[.slice (some ⟨b, o, none⟩) 0 cap, .int .u8 0, .bool false]) (by simp [results, Try.results75, go_sem]) rfl ?_
  exact ⟨rfl, rfl⟩

set_option maxHeartbeats 800000 in
theorem rpop_yes (B b o n cap : Nat) (f : Nat → Int) (w : World) (h : IsBs B w b o (n + 1) cap f) (hn : n < 16) :
    Calls Try.prog 75 #[.slice (some ⟨b, o, none⟩) (n + 1) cap] w fun e w' => ∃ o' c, e = .returned (.tuple #[.slice (some ⟨b, o', none⟩) n c, .int .u8 (f 0), .bool true]) ∧ IsBs B w' b o' n c (fun i => f (i + 1)) ∧ Q w w' := by
  obtain ⟨h1, h2, h3⟩ := h
  have hc := h3 0 (by omega)
  rw [Nat.add_zero] at hc
  obtain ⟨o', ho', hsl⟩ : ∃ o' : Nat, (0 < n → o' = o + 1) ∧ ∀ w : World, (Instr.sliceAt 30 (.slice (some ⟨b, o, none⟩) (n + 1) cap) (some (.int .i64 1)) none none).run Try.prog w = .ok (.slice (some ⟨b, o', none⟩) n (cap - 1)) w := by
    refine ⟨if cap = 1 then o else o + 1, fun h => by rw [if_neg (by omega)], fun w => ?_⟩
    have hsz : ∀ w : World, (sizeOf (Try.prog.elem 30)).run Try.prog w = .ok 1 w := fun _ => by kernel_rfl
    rw [run_sliceAt_slice w _ _ _ _ _ Try.underlying30, run_slice_l w _ _ _ _ Try.underlying30 .i64 _ (by omega) (by omega), hsz]
    simp only [Result.andThen, sliced]
    rw [show ((1 : Int)).toNat = 1 from rfl]
    by_cases c : cap = 1
    · rw [if_pos c, if_pos c]; rfl
    · rw [if_neg c, if_neg c]; simp [Addr.add_lit]
  have HR : Hid (∀ w' : World, Q w w' → IsBs B w' b o' n (cap - 1) (fun i => f (i + 1))) := fun w' hq => by
    refine ⟨by omega, h2, fun i hi => ?_⟩
    have := h3 (i + 1) (by omega)
    obtain ⟨q, rfl⟩ := hq
    rw [ho' (by omega), show o + 1 + i = o + (i + 1) from by omega]; exact this
  clear h1 h2 h3 ho'
  generalize f 0 = y at *
  go_enter Try.func75, Try.ntmps75
  go_wp2_with fail
  go_quiet (fail)
  go_wp2
  refine bodyPost_ret (v := .tuple #[.slice (some ⟨b, o', none⟩) n (cap - 1), .int .u8 y, .bool true]) (by simp [results, Try.results75, go_sem]) rfl ?_
  exact ⟨o', _, rfl, HR.out _ ⟨_, rfl⟩, _, rfl⟩
end Go.Proofs.Ytkbccccjjlkgbaa

/- Layers 11 and 12: two slices of the same bytes, whoever owns them. -/
namespace Go.Proofs.Ytkbccccjjlkgbaa
open Go.RowKit
set_option linter.unusedVariables false

/-- Two slices of the same bytes. -/
def IsRowV (w : World) (v : Value) (n : Nat) (f : Nat → Int) : Prop := ∃ a c, v = .slice a n c ∧ (n = 0 ∨ ∃ b o, a = some ⟨b, o, none⟩ ∧ ∀ i, i < n → w.cell? ⟨b, o + i, none⟩ = some (.int .u8 (f i)))
theorem isRowV_of_own {w : World} {base n : Nat} {v : Value} {f : Nat → Int} (h : w.ownsRow base 5 1 v n (rowL n f)) : IsRowV w v n f := by
  by_cases c : n = 0
  · subst c
    obtain ⟨_, h | ⟨g, cap, _, hv, _⟩⟩ := h
    · exact ⟨none, 0, h.1, .inl rfl⟩
    · exact ⟨_, cap, hv, .inl rfl⟩
  · obtain ⟨B, cap, hv, _, _, hr⟩ := row_of_own h (by omega)
    exact ⟨_, cap, hv, .inr ⟨B, 0, rfl, fun i hi => by rw [Nat.zero_add]; exact hr i hi⟩⟩
theorem IsRowV.on {W w1 : World} {v : Value} {n : Nat} {f : Nat → Int} (h : IsRowV W v n f) (hb : Below W.heap.size W w1) : IsRowV w1 v n f := by
  obtain ⟨a, c, hv, h⟩ := h
  refine ⟨a, c, hv, ?_⟩
  rcases h with h | ⟨b, off, ha, hc⟩
  · exact .inl h
  · refine .inr ⟨b, off, ha, fun i hi => ?_⟩
    rw [hb.cell (World.block_lt_of_cell? W _ (hc i hi))]; exact hc i hi

set_option maxHeartbeats 400000 in
theorem same_none (a a' : Option Addr) (c c' : Nat) (w : World) :
    Calls Try.prog 37 #[.slice a 0 c, .slice a' 0 c'] w fun e w' => e = .returned (.bool true) ∧ Q w w' := by
  go_enter Try.func37, Try.ntmps37
  go_wp2
  go_loopw [5] (fun i wr => i = .int .i64 0 ∧ Q w wr) (fun _ _ => 0)
  case atStart => exact ⟨rfl, Q.refl _⟩
  case round =>
    obtain ⟨rfl, hq⟩ := hrel
    go_wp2
    go_ret
    exact ⟨rfl, hq⟩

/-- SameBytes of the same bytes. -/
theorem same11 {v v' : Value} {n : Nat} {f : Nat → Int} {w : World} (hn : n ≤ 500) (h : IsRowV w v n f) (h' : IsRowV w v' n f) :
    Calls Try.prog 37 #[v, v'] w fun e w' => e = .returned (.bool true) ∧ Q w w' := by
  obtain ⟨a, c, rfl, h⟩ := h
  obtain ⟨a', c', rfl, h'⟩ := h'
  rcases h with rfl | ⟨b, o, rfl, hc⟩
  · exact same_none _ _ _ _ w
  · rcases h' with rfl | ⟨b', o', rfl, hc'⟩
    · exact same_none _ _ _ _ w
    · exact same_yes f _ _ _ _ _ _ _ w (by unfold maxLen; omega) hc hc'
end Go.Proofs.Ytkbccccjjlkgbaa

/- Layer 12: what a console is: its state as numbers; its blocks; arrivals as an argument. -/
namespace Go.Proofs.Ytkbccccjjlkgbaa
open Go.RowKit
set_option linter.unusedVariables false

/-- How many came; how many wait, and which; was one lost; how many went out, and which. -/
structure CS where
  c : Nat
  n : Nat
  f : Nat → Int
  ov : Bool
  m : Nat
  g : Nat → Int
def CS.new : CS := ⟨0, 0, fun _ => 0, false, 0, fun _ => 0⟩
/-- The next one comes. -/
def CS.come (Y : Nat → Int) (s : CS) : CS := if s.n < 16 then ⟨s.c + 1, s.n + 1, snoc s.n s.f (Y s.c), s.ov, s.m, s.g⟩ else ⟨s.c + 1, s.n, s.f, true, s.m, s.g⟩
def CS.upN (T Y : Nat → Int) (t : Int) : Nat → CS → CS
  | 0, s => s
  | k + 1, s => if T s.c ≤ t then CS.upN T Y t k (s.come Y) else s
/-- Up to a tick. -/
def CS.up (K : Nat) (T Y : Nat → Int) (t : Int) (s : CS) : CS := CS.upN T Y t (K - s.c) s
theorem CS.come_c (Y : Nat → Int) (s : CS) : (s.come Y).c = s.c + 1 := by unfold CS.come; split <;> rfl
theorem CS.up_go {K : Nat} {T Y : Nat → Int} {t : Int} {s : CS} (h1 : s.c < K) (h2 : T s.c ≤ t) : s.up K T Y t = (s.come Y).up K T Y t := by
  unfold CS.up
  rw [CS.come_c, show K - s.c = (K - (s.c + 1)) + 1 from by omega, CS.upN, if_pos h2]
theorem CS.up_end {K : Nat} {T Y : Nat → Int} {t : Int} {s : CS} (h : K ≤ s.c ∨ t < T s.c) : s.up K T Y t = s := by
  unfold CS.up
  cases hk : K - s.c with
  | zero => rfl
  | succ k => rw [CS.upN, if_neg (by omega)]
/-- The first one that waits is taken. -/
def CS.pop (s : CS) : CS := if s.n = 0 then s else ⟨s.c, s.n - 1, fun i => s.f (i + 1), s.ov, s.m, s.g⟩

/-- The blocks that are none of S are as they were. -/
def Fr (S : Nat → Prop) (w w' : World) : Prop := w'.os = w.os ∧ w'.tape = w.tape ∧ w'.output = w.output ∧ w.heap.size ≤ w'.heap.size ∧ ∀ k, k < w.heap.size → ¬ S k → w'.heap[k]? = w.heap[k]?
theorem Fr.size {S : Nat → Prop} {w w' : World} (h : Fr S w w') : w.heap.size ≤ w'.heap.size := h.2.2.2.1
theorem Fr.block {S : Nat → Prop} {w w' : World} (h : Fr S w w') {k : Nat} (h1 : k < w.heap.size) (h2 : ¬ S k) : w'.heap[k]? = w.heap[k]? := h.2.2.2.2 k h1 h2
theorem Fr.refl (S : Nat → Prop) (w : World) : Fr S w w := ⟨rfl, rfl, rfl, Nat.le_refl _, fun _ _ _ => rfl⟩
theorem Fr.trans {S : Nat → Prop} {a b c : World} (h : Fr S a b) (g : Fr S b c) : Fr S a c :=
  ⟨g.1.trans h.1, g.2.1.trans h.2.1, g.2.2.1.trans h.2.2.1, Nat.le_trans h.size g.size, fun k hk hp => (g.block (Nat.lt_of_lt_of_le hk h.size) hp).trans (h.block hk hp)⟩
theorem Fr.of {w w' : World} (S : Nat → Prop) (h : Below w.heap.size w w') : Fr S w w' := ⟨h.os, h.tape, h.output, h.size, fun k hk _ => h.block k hk⟩
theorem Fr.bar {S : Nat → Prop} {P : Nat} {w w' : World} (h : Bar P w w') (hP : S P) : Fr S w w' := ⟨h.1, h.2.1, h.2.2.1, h.size, fun k hk hn => h.2.2.2.2 k hk (fun e => hn (e ▸ hP))⟩
theorem Fr.grown {S : Nat → Prop} {w w' : World} {row : Option Nat} (h : w.grownBy w' row) (hS : ∀ k, row = some k → S k) : Fr S w w' := ⟨h.os, h.tape, h.output, h.size, fun k hk hn => h.block k hk (fun e => hn (hS k e.symm))⟩
theorem Fr.below {S : Nat → Prop} {B : Nat} {w w' : World} (h : Fr S w w') (hS : ∀ k, S k → B ≤ k) (hB : B ≤ w.heap.size) : Below B w w' :=
  ⟨h.1, h.2.1, h.2.2.1, h.size, fun k hk => h.block (by omega) (fun e => by have := hS k e; omega)⟩
theorem Fr.cell {S : Nat → Prop} {w w' : World} (h : Fr S w w') {b o : Nat} {v : Value} (hb : ¬ S b) (hc : w.cell? ⟨b, o, none⟩ = some v) : w'.cell? ⟨b, o, none⟩ = some v := by
  rw [World.cell?_of_block (w := w) (h.block (World.block_lt_of_cell? w _ hc) hb)]; exact hc
/-- S' is S, but for blocks that were made since w. -/
def Ext (w : World) (S S' : Nat → Prop) : Prop := ∀ k, S' k → S k ∨ w.heap.size ≤ k
theorem Ext.refl (w : World) (S : Nat → Prop) : Ext w S S := fun k h => .inl h

/-- Arrivals in block B from o on, two cells each. -/
def ArrC (w : World) (B o K : Nat) (T Y : Nat → Int) : Prop := ∀ i, i < K → w.cell? ⟨B, o + i * 2, none⟩ = some (.int .u64 (T i)) ∧ w.cell? ⟨B, o + i * 2 + 1, none⟩ = some (.int .u8 (Y i))
theorem ArrC.keep {w w' : World} {B o K : Nat} {T Y : Nat → Int} (h : ArrC w B o K T Y) (hb : B < w.heap.size → w'.heap[B]? = w.heap[B]?) : ArrC w' B o K T Y := fun i hi => by
  have e := hb (World.block_lt_of_cell? w _ (h i hi).1)
  exact ⟨by rw [World.cell?_of_block (w := w) e]; exact (h i hi).1, by rw [World.cell?_of_block (w := w) e]; exact (h i hi).2⟩
/-- Arrivals as an argument. -/
def IsArr (w : World) (a : Option Addr) (len cap : Nat) (T Y : Nat → Int) : Prop :=
  len ≤ maxLen ∧ ((a = none ∧ len = 0 ∧ cap = 0) ∨ (len = 0 ∧ ∃ ad, a = some ad) ∨ ∃ b off, a = some ⟨b, off, none⟩ ∧ ArrC w b off len T Y)
theorem IsArr.on {w w' : World} {a : Option Addr} {len cap : Nat} {T Y : Nat → Int} (h : IsArr w a len cap T Y) (hb : Below w.heap.size w w') : IsArr w' a len cap T Y := by
  refine ⟨h.1, ?_⟩
  rcases h.2 with h | h | ⟨b, off, ha, hc⟩
  · exact .inl h
  · exact .inr (.inl h)
  · exact .inr (.inr ⟨b, off, ha, hc.keep (fun hl => hb.block b hl)⟩)
theorem IsArr.at {w : World} {a : Option Addr} {len cap : Nat} {T Y : Nat → Int} (h : IsArr w a len cap T Y) (h0 : 0 < len) : ∃ b off, a = some ⟨b, off, none⟩ ∧ ArrC w b off len T Y := by
  rcases h.2 with ⟨_, h, _⟩ | ⟨h, _⟩ | h
  · omega
  · omega
  · exact h

theorem own_keep {w w' : World} {base : Nat} {e : TypeId} {size : Nat} {v : Value} {n : Nat} {xs : List Value} (h : w.ownsRow base e size v n xs) (hb : ∀ k, v.ownBlock = some k → k < w.heap.size → w'.heap[k]? = w.heap[k]?) : w'.ownsRow base e size v n xs := by
  refine ⟨h.1, ?_⟩
  rcases h.2 with hn | ⟨g, cap, cur, hv, hbs, hg, rest⟩
  · exact .inl hn
  · exact .inr ⟨g, cap, cur, hv, hbs, by rw [← hg]; exact hb g (by rw [hv]; rfl) (Array.getElem?_eq_some_iff.1 hg).1, rest⟩

/-- A console: its block R; S: all the blocks that are its own. -/
def IsCon (w : World) (R : Nat) (S : Nat → Prop) (K : Nat) (T Y : Nat → Int) (s : CS) : Prop :=
  ∃ F A cap v, w.heap[R]? = some (.cells #[.slice (some ⟨A, 0, none⟩) K cap, .int .i64 (s.c : Int), .pointer (some ⟨F, 0, none⟩), .bool s.ov, v] 106 (0, 0)) ∧ IsFifo w F s.n s.f ∧ w.ownsRow 0 5 1 v s.m (rowL s.m s.g) ∧ ArrC w A 0 K T Y ∧ (s.c ≤ K ∧ K ≤ 256) ∧
    (F ≠ R ∧ A ≠ R ∧ A ≠ F ∧ ∀ k, v.ownBlock = some k → k ≠ R ∧ k ≠ F ∧ k ≠ A) ∧ (S R ∧ S F ∧ S A ∧ ∀ k, v.ownBlock = some k → S k) ∧ ∀ k, S k → k < w.heap.size
theorem IsCon.keep {w w' : World} {R : Nat} {S : Nat → Prop} {K : Nat} {T Y : Nat → Int} {s : CS} (h : IsCon w R S K T Y s) (hs : w.heap.size ≤ w'.heap.size) (hb : ∀ k, k < w.heap.size → S k → w'.heap[k]? = w.heap[k]?) : IsCon w' R S K T Y s := by
  obtain ⟨F, A, cap, v, hR, ⟨cs, q, hF, hc⟩, hO, hA, hK, hne, ⟨s1, s2, s3, s4⟩, hS⟩ := h
  have lR := (Array.getElem?_eq_some_iff.1 hR).1
  have lF := (Array.getElem?_eq_some_iff.1 hF).1
  exact ⟨F, A, cap, v, by rw [hb R lR s1]; exact hR, ⟨cs, q, by rw [hb F lF s2]; exact hF, hc⟩, own_keep hO (fun k e hk => hb k hk (s4 k e)), hA.keep (fun hk => hb A hk s3), hK, hne, ⟨s1, s2, s3, s4⟩, fun k hk => Nat.lt_of_lt_of_le (hS k hk) hs⟩
theorem IsCon.on {w w' : World} {R : Nat} {S : Nat → Prop} {K : Nat} {T Y : Nat → Int} {s : CS} (h : IsCon w R S K T Y s) (hb : Below w.heap.size w w') : IsCon w' R S K T Y s := h.keep hb.size (fun k hk _ => hb.block k hk)
theorem IsCon.q {w w' : World} {R : Nat} {S : Nat → Prop} {K : Nat} {T Y : Nat → Int} {s : CS} (h : IsCon w R S K T Y s) (hb : Q w w') : IsCon w' R S K T Y s := h.on (hb.below _)
theorem IsCon.bar {w w' : World} {R P : Nat} {S : Nat → Prop} {K : Nat} {T Y : Nat → Int} {s : CS} (h : IsCon w R S K T Y s) (hb : Bar P w w') (hP : ¬ S P) : IsCon w' R S K T Y s := h.keep hb.size (fun k hk hs => hb.2.2.2.2 k hk (fun e => hP (e ▸ hs)))
theorem IsCon.fr {w w' : World} {R : Nat} {S S' : Nat → Prop} {K : Nat} {T Y : Nat → Int} {s : CS} (h : IsCon w R S K T Y s) (hb : Fr S' w w') (hd : ∀ k, S k → ¬ S' k) : IsCon w' R S K T Y s := h.keep hb.size (fun k hk hs => hb.block hk (hd k hs))
theorem IsCon.lt {w : World} {R : Nat} {S : Nat → Prop} {K : Nat} {T Y : Nat → Int} {s : CS} (h : IsCon w R S K T Y s) : ∀ k, S k → k < w.heap.size := by
  obtain ⟨F, A, cap, v, hR, hF, hO, hA, hK, hne, hin, hS⟩ := h
  exact hS
theorem IsCon.le {w : World} {R : Nat} {S : Nat → Prop} {K : Nat} {T Y : Nat → Int} {s : CS} (h : IsCon w R S K T Y s) : s.c ≤ K ∧ K ≤ 256 ∧ s.n ≤ 16 := by
  obtain ⟨F, A, cap, v, hR, hF, hO, hA, hK, hne, hin, hS⟩ := h
  exact ⟨hK.1, hK.2, hF.le⟩
theorem IsCon.own {w : World} {R : Nat} {S : Nat → Prop} {K : Nat} {T Y : Nat → Int} {s : CS} (h : IsCon w R S K T Y s) : S R := by
  obtain ⟨F, A, cap, v, hR, hF, hO, hA, hK, hne, hin, hS⟩ := h
  exact hin.1
/-- A console behind a change of its own block and of what waits. -/
theorem IsCon.upd {w w' : World} {R F A cap K : Nat} {S : Nat → Prop} {T Y : Nat → Int} {s s' : CS} {v : Value} (hO : w.ownsRow 0 5 1 v s.m (rowL s.m s.g)) (hA : ArrC w A 0 K T Y) (hK : K ≤ 256)
    (hne : F ≠ R ∧ A ≠ R ∧ A ≠ F ∧ ∀ k, v.ownBlock = some k → k ≠ R ∧ k ≠ F ∧ k ≠ A) (hin : S R ∧ S F ∧ S A ∧ ∀ k, v.ownBlock = some k → S k) (hS : ∀ k, S k → k < w.heap.size)
    (hfr : Fr (fun k => k = R ∨ k = F) w w') (hR : w'.heap[R]? = some (.cells #[.slice (some ⟨A, 0, none⟩) K cap, .int .i64 (s'.c : Int), .pointer (some ⟨F, 0, none⟩), .bool s'.ov, v] 106 (0, 0)))
    (hF : IsFifo w' F s'.n s'.f) (hc : s'.c ≤ K) (hm : s'.m = s.m) (hg : s'.g = s.g) : IsCon w' R S K T Y s' := by
  refine ⟨F, A, cap, v, hR, hF, ?_, hA.keep (fun hk => hfr.block hk (by rintro (e | e); exact hne.2.1 e; exact hne.2.2.1 e)), ⟨hc, hK⟩, hne, hin, fun k hk => Nat.lt_of_lt_of_le (hS k hk) hfr.size⟩
  rw [hm, hg]
  exact own_keep hO (fun k e hk => hfr.block hk (by rintro (c | c); exact (hne.2.2.2 k e).1 c; exact (hne.2.2.2 k e).2.1 c))
theorem fr_set {w w' : World} {R F o : Nat} {u : Value} (h : Fr (fun k => k = R ∨ k = F) w w') : Fr (fun k => k = R ∨ k = F) w (w'.setCell ⟨R, o, none⟩ u) := h.trans (Fr.bar (Bar.setCell R o w' u) (.inl rfl))
theorem fr_bar {w w' w2 : World} {R F : Nat} (h : Fr (fun k => k = R ∨ k = F) w w') (hb : Bar F w' w2) : Fr (fun k => k = R ∨ k = F) w w2 := h.trans (Fr.bar hb (.inr rfl))
theorem fr_in {w w' : World} {R F : Nat} {S : Nat → Prop} (h : Fr (fun k => k = R ∨ k = F) w w') (h1 : S R) (h2 : S F) : Fr S w w' :=
  ⟨h.1, h.2.1, h.2.2.1, h.size, fun k hk hn => h.block hk (by rintro (rfl | rfl); exact hn h1; exact hn h2)⟩

/-- The five cells of a block. -/
theorem five_cells {w : World} {A : Nat} {a b c d e : Value} {t : TypeId} (h : w.heap[A]? = some (.cells #[a, b, c, d, e] t (0, 0))) :
    (w.cell? ⟨A, 0, none⟩ = some a ∧ w.cell? ⟨A, 1, none⟩ = some b ∧ w.cell? ⟨A, 2, none⟩ = some c ∧ w.cell? ⟨A, 3, none⟩ = some d ∧ w.cell? ⟨A, 4, none⟩ = some e) ∧
    (w.frozen? ⟨A, 0, none⟩ = false ∧ w.frozen? ⟨A, 1, none⟩ = false ∧ w.frozen? ⟨A, 2, none⟩ = false ∧ w.frozen? ⟨A, 3, none⟩ = false ∧ w.frozen? ⟨A, 4, none⟩ = false) := by
  simp [World.cell?, World.frozen?, h]

/-- append of a slice that came in: nil, or cells. -/
theorem wpList_append_src {P : Program} {w : World} {ops : Array Oper} {rest : List Oper} {o : Oper} {a : Act} {Q : Exit → Act → World → Prop} (hgd : o.guard = none) (s x : Operand) (t : TypeId)
    (ho : o.op = .call { callee := .builtin .append, args := #[s, x], argTypes := #[t, t] })
    (base : Nat) (e : TypeId) (i : TypeInfo) (z : Value) (size bytes : Nat) (ht : P.underlying t = some (.slice e)) (hi : P.info? e = some i) (hz : i.zero = some z)
    (hsize : i.size = size) (hby : i.bytes = bytes) (hzs : z.cells.size = size) (hsz : 0 < size)
    (v : Value) (n : Nat) (xs : List Value) (hs : a.eval s = v) (hown : w.ownsRow base e size v n xs)
    (y : Value) (m : Nat) (news : List Value) (hx : a.eval x = y) (hsrc : (y = .slice none 0 0 ∧ m = 0) ∨ ∃ ad c, y = .slice (some ad) m c ∧ ∀ j u, news[j]? = some u → w.cell? (ad.add j) = some u) (hl : news.length = m * size) (h1 : ∀ u ∈ news, u.oneCell' = true)
    (h63 : n + m ≤ maxLen) (hbytes : (n + m) * bytes ≤ 140737488355328) (hbase : base ≤ w.heap.size)
    (h : ∀ v' w', w'.ownsRow base e size v' (n + m) (xs ++ news) → w.grownBy w' v.ownBlock → (v' = .slice none 0 0 ↔ v = .slice none 0 0 ∧ m = 0) → wpList P ops Q rest (a.put o.dst v') w') : wpList P ops Q (o :: rest) a w := by
  rcases hsrc with ⟨rfl, rfl⟩ | ⟨ad, c, rfl, hc⟩
  · obtain rfl : news = [] := List.eq_nil_of_length_eq_zero (by simpa using hl)
    refine wpList_append_own_none hgd s x t ho base e i size ht hi v n xs hs hown hx (h v w (by simpa using hown) (World.grownBy.refl _ _) (by simp))
  · exact wpList_append_own _ hgd s x t ho base e i z size bytes ht hi hz hsize hby hzs hsz v n xs hs hown ad m c news hx hl hc h1 h63 hbytes hbase h
end Go.Proofs.Ytkbccccjjlkgbaa

/- Layer 11: what fifo's functions do but All. -/
namespace Go.Proofs.Ytkbccccjjlkgbaa
open Go.RowKit
set_option linter.unusedVariables false

set_option maxHeartbeats 400000 in
theorem fplace_any (B s i : Nat) (w : World) (hs : s < 16) (hi : i ≤ 16) (hc : w.cell? ⟨B, 16, none⟩ = some (.int .i64 (s : Int))) :
    Calls Try.prog 90 #[.pointer (some ⟨B, 0, none⟩), .int .i64 (i : Int)] w fun e w' => e = .returned (.int .i64 (((s + i) % 16 : Nat) : Int)) ∧ w' = w := by
  go_enter Try.func90, Try.ntmps90
  go_wp2
  go_ret
  refine ⟨ret_int ?_, rfl⟩
  go_num

set_option maxHeartbeats 400000 in
theorem fpush_nil (b : Int) (w : World) :
    Calls Try.prog 77 #[.pointer none, .int .u8 b] w fun e w' => e = .returned (.bool false) ∧ w' = w := by
  go_enter Try.func77, Try.ntmps77
  go_wp2
  go_ret
  exact ⟨rfl, rfl⟩

set_option maxHeartbeats 400000 in
theorem fpush_full (B : Nat) (f : Nat → Int) (b : Int) (w : World) (h : IsFifo w B 16 f) :
    Calls Try.prog 77 #[.pointer (some ⟨B, 0, none⟩), .int .u8 b] w fun e w' => e = .returned (.bool false) ∧ w' = w := by
  have hc := h.count
  clear h
  go_enter Try.func77, Try.ntmps77
  go_wp2
  go_ret
  exact ⟨rfl, rfl⟩

set_option maxHeartbeats 1600000 in
theorem fpush_yes (B n : Nat) (f : Nat → Int) (b : Int) (w : World) (h : IsFifo w B n f) (hn : n < 16) :
    Calls Try.prog 77 #[.pointer (some ⟨B, 0, none⟩), .int .u8 b] w fun e w' => e = .returned (.bool true) ∧ IsFifo w' B (n + 1) (snoc n f b) ∧ Bar B w w' := by
  have hd : IsFifo w.drew B n f := h
  have hc := h.count
  obtain ⟨s, hs, h16, _, hj, hpu, _⟩ := hd.first
  have hf17 := h.free 17
  have hne : ((n : Int) == 16) = false := by simp; omega
  obtain ⟨p, hp⟩ : ∃ p, (s + n) % 16 = p := ⟨_, rfl⟩
  have hp1 : p < 16 := by omega
  have hfp := h.free p
  obtain ⟨x, hx⟩ := hj p hp1
  have HU : Hid (IsFifo ((w.drew.setCell ⟨B, p, none⟩ (.int .u8 b)).setCell ⟨B, 17, none⟩ (.int .i64 ((n : Int) + 1))) B (n + 1) (snoc n f b)) := by have := hpu b hn; rwa [hp] at this
  have HB : Hid (Bar B w ((w.drew.setCell ⟨B, p, none⟩ (.int .u8 b)).setCell ⟨B, 17, none⟩ (.int .i64 ((n : Int) + 1)))) := ((Bar.refl B w).drew.trans (Bar.setCell B p _ _)).trans (Bar.setCell B 17 _ _)
  have HP : Hid (∀ W : World, W.cell? ⟨B, 16, none⟩ = some (.int .i64 (s : Int)) → Calls Try.prog 90 #[.pointer (some ⟨B, 0, none⟩), .int .i64 (n : Int)] W fun e w' => e = .returned (.int .i64 (p : Int)) ∧ w' = W) := fun W hW => by
    have := fplace_any B s n W hs (by omega) hW
    rwa [hp] at this
  have hpi : (p : Int) < 16 := by omega
  have hp17 : p ≠ 17 := by omega
  clear hd h hj hpu hp
  go_enter Try.func77, Try.ntmps77
  go_wp2_with fail
  go_region_with (go_at_call 90; refine (HP.out _ h16).mono ?_; rintro e w' ⟨rfl, hw⟩; have hw := hw.symm; subst hw)
  all_goals
    go_wp2
    go_ret
    exact ⟨rfl, HU.out, HB.out⟩

set_option maxHeartbeats 400000 in
theorem fpop_nil (w : World) :
    Calls Try.prog 105 #[.pointer none] w fun e w' => e = .returned (.tuple #[.int .u8 0, .bool false]) ∧ w' = w := by
  go_enter Try.func105, Try.ntmps105
  go_wp2
  go_ret2
  exact ⟨rfl, rfl⟩

set_option maxHeartbeats 400000 in
theorem fpop_none (B : Nat) (f : Nat → Int) (w : World) (h : IsFifo w B 0 f) :
    Calls Try.prog 105 #[.pointer (some ⟨B, 0, none⟩)] w fun e w' => e = .returned (.tuple #[.int .u8 0, .bool false]) ∧ w' = w := by
  have hc := h.count
  clear h
  go_enter Try.func105, Try.ntmps105
  go_wp2
  go_ret2
  exact ⟨rfl, rfl⟩

set_option maxHeartbeats 1600000 in
theorem fpop_yes (B n : Nat) (f : Nat → Int) (w : World) (h : IsFifo w B (n + 1) f) :
    Calls Try.prog 105 #[.pointer (some ⟨B, 0, none⟩)] w fun e w' => e = .returned (.tuple #[.int .u8 (f 0), .bool true]) ∧ IsFifo w' B n (fun i => f (i + 1)) ∧ Bar B w w' := by
  have hle := h.le
  have hc := h.count
  obtain ⟨s, hs, h16, hcell, _, _, hpo⟩ := h.first
  have hf16 := h.free 16
  have hf17 := h.free 17
  have hne : ((n : Int) + 1 == 0) = false := by simp; omega
  have hx := hcell 0 (by omega)
  rw [show (s + 0) % 16 = s from by omega] at hx
  obtain ⟨q, hq⟩ : ∃ q, (s + 1) % 16 = q := ⟨_, rfl⟩
  have HU : Hid (IsFifo ((w.setCell ⟨B, 16, none⟩ (.int .i64 (q : Int))).setCell ⟨B, 17, none⟩ (.int .i64 (n : Int))) B n (fun i => f (i + 1))) := by have := hpo n rfl; rwa [hq] at this
  have HB : Hid (Bar B w ((w.setCell ⟨B, 16, none⟩ (.int .i64 (q : Int))).setCell ⟨B, 17, none⟩ (.int .i64 (n : Int)))) := (Bar.setCell B 16 _ _).trans (Bar.setCell B 17 _ _)
  have HP : Hid (∀ W : World, W.cell? ⟨B, 16, none⟩ = some (.int .i64 (s : Int)) → Calls Try.prog 90 #[.pointer (some ⟨B, 0, none⟩), .int .i64 1] W fun e w' => e = .returned (.int .i64 (q : Int)) ∧ w' = W) := fun W hW => by
    have := fplace_any B s 1 W hs (by omega) hW
    rwa [hq] at this
  have hsi : (s : Int) < 16 := by omega
  have hc' : w.cell? ⟨B, 17, none⟩ = some (.int .i64 ((n : Int) + 1)) := by rw [hc]; rfl
  clear h hcell hpo hq hc
  generalize f 0 = y at *
  go_enter Try.func105, Try.ntmps105
  go_wp2_with fail
  go_quiet (fail)
  go_wp2_with (go_at_call 90; refine (HP.out _ (by simpa using h16)).mono ?_; rintro e w' ⟨rfl, hw⟩; have hw := hw.symm; subst hw)
  go_ret2
  exact ⟨rfl, HU.out, HB.out⟩

set_option maxHeartbeats 400000 in
theorem flen_nil (w : World) :
    Calls Try.prog 72 #[.pointer none] w fun e w' => e = .returned (.int .i64 0) ∧ w' = w := by
  go_enter Try.func72, Try.ntmps72
  go_wp2
  go_ret
  exact ⟨rfl, rfl⟩

set_option maxHeartbeats 400000 in
theorem flen_any (B n : Nat) (f : Nat → Int) (w : World) (h : IsFifo w B n f) :
    Calls Try.prog 72 #[.pointer (some ⟨B, 0, none⟩)] w fun e w' => e = .returned (.int .i64 (n : Int)) ∧ w' = w := by
  have hc := h.count
  clear h
  go_enter Try.func72, Try.ntmps72
  go_wp2
  go_ret
  exact ⟨rfl, rfl⟩

set_option maxHeartbeats 400000 in
theorem fnew_any (w : World) :
    Calls Try.prog 49 #[] w fun e w' => e = .returned (.pointer (some ⟨w.heap.size, 0, none⟩)) ∧ w' = w.alloc (.cells fifoZ 130) := by
  go_enter Try.func49, Try.ntmps49
  go_wp2
  go_ret
  exact ⟨rfl, rfl⟩

set_option maxHeartbeats 400000 in
theorem fall_nil (w : World) :
    Calls Try.prog 64 #[.pointer none] w fun e w' => e = .returned (.slice none 0 0) ∧ w' = w := by
  go_enter Try.func64, Try.ntmps64
  go_wp2
  go_ret
  exact ⟨rfl, rfl⟩
/-- A new row. -/
theorem fnew_row (w : World) : Calls Try.prog 49 #[] w fun e w' => ∃ B, e = .returned (.pointer (some ⟨B, 0, none⟩)) ∧ w.heap.size ≤ B ∧ (∀ f, IsFifo w' B 0 f) ∧ Below w.heap.size w w' := by
  refine (fnew_any w).mono ?_
  rintro e w' ⟨rfl, rfl⟩
  exact ⟨_, rfl, Nat.le_refl _, fun f => fifo_zero w f, (Below.refl _ w).alloc (Nat.le_refl _) _⟩

end Go.Proofs.Ytkbccccjjlkgbaa

/- Layer 11: All, by a range over a function. -/
namespace Go.Proofs.Ytkbccccjjlkgbaa
open Go.RowKit Go.Shelf
set_option linter.unusedVariables false

attribute [local go_sem] Oper.semAt_some

/-- What has come when k rounds are over. -/
def upto (f : Nat → Int) (k : Nat) : List Int := (List.range k).map f
theorem upto_succ (f : Nat → Int) (k : Nat) : upto f (k + 1) = upto f k ++ [f k] := by simp [upto, List.range_succ]
theorem upto_length (f : Nat → Int) (k : Nat) : (upto f k).length = k := by simp [upto]

set_option maxHeartbeats 400000 in
theorem place_in (F : Fence) (n : Nat) (hF : F.fn 90) (hro : F.round = none) (B s i : Nat) (w : World) (hs : s < 16) (hi : i ≤ 16) (hc : w.cell? ⟨B, 16, none⟩ = some (.int .i64 (s : Int))) :
    CallsIn F n Try.prog 90 #[.pointer (some ⟨B, 0, none⟩), .int .i64 (i : Int)] w fun e w' => e = .returned (.int .i64 (((s + i) % 16 : Nat) : Int)) ∧ w' = w := by
  refine callsIn_of_wp Try.func90 rfl hF ?_ hro
  simp only [Try.ntmps90, List.size_toArray, List.length_cons, List.length_nil, Nat.reduceAdd, Nat.reduceSub, Array.replicate_succ, Array.replicate_zero, List.push_toArray, List.append_toArray, List.nil_append, List.cons_append]
  gi_wp2
  go_ret
  refine ⟨ret_int ?_, rfl⟩
  go_num

set_option maxHeartbeats 400000 in
theorem waiting_in (F : Fence) (n : Nat) (hF : F.fn 78) (hro : F.round = none) (p0 : Option Addr) (w : World) :
    CallsIn F n Try.prog 78 #[.pointer p0] w fun e w' => e = .returned (.func (.func 91) #[] #[.pointer (some ⟨w.heap.size, 0, none⟩)]) ∧ w' = w.alloc (.cells #[.pointer p0] 103) := by
  refine callsIn_of_wp Try.func78 rfl hF ?_ hro
  simp only [Try.ntmps78, List.size_toArray, List.length_cons, List.length_nil, Nat.reduceAdd, Nat.reduceSub, Array.replicate_succ, Array.replicate_zero, List.push_toArray, List.append_toArray, List.nil_append, List.cons_append]
  gi_wp2
  go_ret
  exact ⟨rfl, rfl⟩

/-- What a round keeps: the blocks below n₀, and the box of the iterator's own. -/
def Kf (n₀ Bn B : Nat) (W W' : World) : Prop := Below n₀ W W' ∧ (Boxed W Bn 103 (.pointer (some ⟨B, 0, none⟩)) → Boxed W' Bn 103 (.pointer (some ⟨B, 0, none⟩)))

theorem kf_t {n₀ Bn B : Nat} {X Y Z : World} (h : Kf n₀ Bn B X Y) (k : Kf n₀ Bn B Y Z) : Kf n₀ Bn B X Z := ⟨h.1.trans k.1, fun e => k.2 (h.2 e)⟩
theorem kf_b {n₀ Bn B : Nat} {w : World} (hn : n₀ ≤ w.heap.size) (W : World) (l : Nat) (o o' : Obj) (hl : w.heap.size ≤ l) (h : W.heap[l]? = some o) (hc : o.isCells = false) (hw : o.isWalk = false) : Kf n₀ Bn B W (W.putObj l o') :=
  ⟨belowK_b hn W l o o' hl h hc hw, fun e => e.kept (grownBy_putObj' W l o') (fun q => by
    obtain rfl : Bn = l := Option.some.inj q
    rw [show W.heap[Bn]? = _ from e] at h
    cases h; cases hc)⟩

set_option maxRecDepth 100000 in
set_option maxHeartbeats 2000000 in
theorem waiting1_in (n : Nat) (hn : 2 ≤ n) (l Bn n₀ B m : Nat) (f : Nat → Int) (J Jx : List Int → World → Prop)
    (hY : ∀ pre x W, J pre W → pre.length < m → YieldAt Fence.wide (n - 1) Try.prog l #[.int .u8 x] W fun e W' =>
      (e = .returned (.bool true) ∧ J (pre ++ [x]) W' ∧ Kf n₀ Bn B W W') ∨ (e = .returned (.bool false) ∧ Jx (pre ++ [x]) W'))
    (W : World) (hJ : AbidesFrom W.heap.size J) (hBn : Boxed W Bn 103 (.pointer (some ⟨B, 0, none⟩))) (hn2 : B < n₀) (h : IsFifo W B m f) (h0 : J [] W) :
    CallsIn Fence.wide n Try.prog 91 #[.func (.yield l) #[] #[], .pointer (some ⟨Bn, 0, none⟩)] W fun e W' => (∃ v, e = .returned v) ∧
      ((∃ ys, ys = upto f m ∧ J ys W') ∨ (∃ pre, (∃ k, k ≤ m ∧ pre = upto f k) ∧ Jx pre W')) := by
  have hm := h.le
  have hc := h.count
  obtain ⟨s, hs, h16, hcell, _⟩ := h.first
  have hc0 := hBn.cell
  clear h
  refine callsIn_of_wp Try.func91 rfl trivial ?_ rfl
  simp only [Try.ntmps91, List.size_toArray, List.length_cons, List.length_nil, Nat.reduceAdd, Nat.reduceSub, Array.replicate_succ, Array.replicate_zero, List.push_toArray, List.append_toArray, List.nil_append, List.cons_append]
  gi_wp2
  gi_loopw [8] (fun i wr => ∃ k : Nat, k ≤ m ∧ i = .int .i64 k ∧ J (upto f k) wr ∧ Kf n₀ Bn B W wr)
    (fun i _ => m - (intOf i).toNat)
  case atStart => exact ⟨0, Nat.zero_le _, rfl, h0, Below.refl _ _, fun e => e⟩
  case round =>
    obtain ⟨k, hk, rfl, hJs, hnx⟩ := hrel
    by_cases hlt : k < m
    · have hc1 : wr.cell? ⟨Bn, 0, none⟩ = some (.pointer (some ⟨B, 0, none⟩)) := (hnx.2 hBn).cell
      have hc2 : wr.cell? ⟨B, 16, none⟩ = some (.int .i64 (s : Int)) := (hnx.1.cell (p := ⟨B, 16, none⟩) hn2).trans h16
      obtain ⟨p, hp⟩ : ∃ p, (s + k) % 16 = p := ⟨_, rfl⟩
      have hc3 : wr.cell? ⟨B, p, none⟩ = some (.int .u8 (f k)) := by rw [← hp]; exact (hnx.1.cell (p := ⟨B, (s + k) % 16, none⟩) hn2).trans (hcell k hlt)
      have hp1 : (p : Int) < 16 := by omega
      have HP : Hid (∀ V : World, V.cell? ⟨B, 16, none⟩ = some (.int .i64 (s : Int)) → CallsIn Fence.wide (n - 1) Try.prog 90 #[.pointer (some ⟨B, 0, none⟩), .int .i64 (k : Int)] V fun e w' => e = .returned (.int .i64 (p : Int)) ∧ w' = V) := fun V hV => by
        have := place_in Fence.wide (n - 1) trivial rfl B s k V hs (by omega) hV
        rwa [hp] at this
      clear hp
      have hJd : J (upto f k) wr.drew := hJ _ _ _ none hJs ⟨rfl, rfl, rfl, Nat.le_refl _, fun _ _ _ => rfl⟩ (fun r e => by cases e)
      obtain ⟨fn, tmps, assign, body, hy, hR⟩ := hY _ (f k) wr.drew hJd (by rw [upto_length]; exact hlt)
      have hR1 := hR.mono (R' := fun e W' => ∃ bb, e = .returned (.bool bb) ∧ ((bb = true ∧ J (upto f (k + 1)) W' ∧ Kf n₀ Bn B W W') ∨ (bb = false ∧ Jx (upto f (k + 1)) W'))) (by
        rintro e W' (⟨he, h1, h2⟩ | ⟨he, h1⟩)
        · exact ⟨true, he, .inl ⟨rfl, by rw [upto_succ]; exact h1, hnx.1.drew.trans h2.1, fun e => h2.2 (hnx.2 e)⟩⟩
        · exact ⟨false, he, .inr ⟨rfl, by rw [upto_succ]; exact h1⟩⟩)
      have HR := Lib.hid hR1
      have hd0 : 1 ≤ n := by omega
      have hd1 : 1 ≤ n - 1 := by omega
      have hmx : Try.prog.follows .mixedOrders = true := by kernel_rfl
      clear hR hR1
      gi_wp2
      gi_region_with_o (first
        | (refine ⟨trivial, ?_⟩; gi_at_call 90; refine (HP.out _ (by simpa using hc2)).mono ?_; rintro e w' ⟨rfl, hw⟩; have hw := hw.symm; subst hw)
        | (refine HR.out.mono ?_; rintro e W3 ⟨bb, rfl, hR3⟩))
      all_goals
        clear HR HP hy hc1 hc2 hc3 hY
        rcases hR3 with ⟨rfl, hJ3, hk3⟩ | ⟨rfl, hJx3⟩
        · gi_wp2
          go_roundw
          case rel => exact ⟨k + 1, by omega, by go_num, hJ3, hk3⟩
          case measure => simp [intOf]; omega
        · gi_wp2
          refine bodyPost_ret (results_none rfl _ _ _) rfl ?_
          exact ⟨⟨_, rfl⟩, .inr ⟨_, ⟨k + 1, by omega, rfl⟩, hJx3⟩⟩
    · obtain rfl : k = m := by omega
      gi_wp2
      go_end0
      exact ⟨⟨_, rfl⟩, .inl ⟨_, rfl, hJs⟩⟩

theorem waiting_stops (n : Nat) (hn : 2 ≤ n) (Bn n₀ B m : Nat) (f : Nat → Int) (w : World) (hn₀ : n₀ ≤ w.heap.size) (hBn : Boxed w Bn 103 (.pointer (some ⟨B, 0, none⟩))) (hn2 : B < n₀) (h : IsFifo w B m f) :
    SeqStopsK Fence.wide n Try.prog 91 #[.pointer (some ⟨Bn, 0, none⟩)] (fun x : Int => #[Value.int .u8 x]) (Kf n₀ Bn B) (fun ys => ys = upto f m) (fun pre => ∃ k, k ≤ m ∧ pre = upto f k) m w := fun l J Jx W hW hJ _ hY h0 =>
  waiting1_in n hn l Bn n₀ B m f J Jx hY W hJ ((hW.block Bn hBn.lt).trans hBn) hn2 (h.on hW) h0
end Go.Proofs.Ytkbccccjjlkgbaa

/- Layer 11: All, the caller. -/
namespace Go.Proofs.Ytkbccccjjlkgbaa
open Go.RowKit Go.Shelf
set_option linter.unusedVariables false

attribute [local go_sem] Oper.semAt_some

set_option maxRecDepth 100000 in
set_option maxHeartbeats 2000000 in
theorem fall_any (B m : Nat) (f : Nat → Int) (w : World) (h : IsFifo w B m f) :
    Calls Try.prog 64 #[.pointer (some ⟨B, 0, none⟩)] w fun e w' => ∃ v, e = .returned v ∧ w'.ownsRow w.heap.size 5 1 v m (rowL m f) ∧ Below w.heap.size w w' := by
  have hm := h.le
  have hBl := h.lt
  have hc := h.count
  have HI := Lib.hid h
  clear h
  obtain ⟨i0, hi, hz0, hz1, hz2⟩ := info_parts Try.info5
  refine (callsIn_wide (n := 3)).1 ?_
  refine callsIn_of_wp_marks Try.func64 rfl trivial ?_ rfl
  simp only [Try.ntmps64, List.size_toArray, List.length_cons, List.length_nil, Nat.reduceAdd, Nat.reduceSub, Array.replicate_succ, Array.replicate_zero, List.push_toArray, List.append_toArray, List.nil_append, List.cons_append]
  gi_wp2_with (gi_at_make; refine wpListIn_make_own _ rfl _ _ 30 rfl w.heap.size 5 i0 _ 1 Try.underlying30 hi hz0 hz1 .i64 .i64 _ m rfl rfl rfl (by rw [hz2]; omega) (by unfold maxLen; omega) (Nat.le_refl _) ?_)
  intro w1 hown1 hgr1
  gi_wp2_with (refine ⟨trivial, ?_⟩; gi_at_call 78; refine (waiting_in Fence.wide (3 - 1) trivial rfl _ _).mono ?_; rintro e w' ⟨rfl, hw⟩; subst hw)
  have hs1 : w.heap.size ≤ w1.heap.size := hgr1.size
  have hB1 : Below w.heap.size w w1 := (Below.refl _ w).grown hgr1 (Nat.le_refl _) (fun j hj => by cases hj)
  have bO := Boxed.new w1 30 (.slice (some ⟨w.heap.size, 0, none⟩) 0 m)
  have bN := Boxed.new (w1.alloc (.cells #[.slice (some ⟨w.heap.size, 0, none⟩) 0 m] 30)) 103 (.pointer (some ⟨B, 0, none⟩))
  rw [World.size_alloc] at bN
  have bO2 := bO.alloc (.cells #[.pointer (some ⟨B, 0, none⟩)] 103)
  have hown2 := (hown1.alloc (.cells #[.slice (some ⟨w.heap.size, 0, none⟩) 0 m] 30)).alloc (.cells #[.pointer (some ⟨B, 0, none⟩)] 103)
  have hB0 : Below w.heap.size w ((w1.alloc (.cells #[.slice (some ⟨w.heap.size, 0, none⟩) 0 m] 30)).alloc (.cells #[.pointer (some ⟨B, 0, none⟩)] 103)) := (hB1.alloc hs1 _).alloc (by simp; omega) _
  have hF0 := HI.out.on hB0
  obtain ⟨M, hM⟩ : ∃ M, w1.heap.size = M := ⟨_, rfl⟩
  have hsz : ((w1.alloc (.cells #[.slice (some ⟨w.heap.size, 0, none⟩) 0 m] 30)).alloc (.cells #[.pointer (some ⟨B, 0, none⟩)] 103)).heap.size = M + 2 := by simp [hM]
  rw [hM] at bO2 bN ⊢
  have hMle : w.heap.size ≤ M := by omega
  obtain ⟨W0, hW0⟩ : ∃ W0, ((w1.alloc (.cells #[.slice (some ⟨w.heap.size, 0, none⟩) 0 m] 30)).alloc (.cells #[.pointer (some ⟨B, 0, none⟩)] 103)) = W0 := ⟨_, rfl⟩
  rw [hW0] at bO2 bN hB0 hF0 hsz hown2 ⊢
  clear hW0 hown1 hgr1 hB1 bO hs1 hM
  refine wpIn_rangeFunc_ownG rfl (by omega) (gf := 91) (lb := #[.pointer (some ⟨M + 1, 0, none⟩)]) rfl trivial (enters_of Try.func91 (by kernel_rfl) rfl)
    (waiting_stops (3 - 1) (by omega) (M + 1) w.heap.size B m f W0 (by omega) bN hBl hF0) kf_t (kf_b (by omega)) (Below.refl _ _) (fun _ => rfl)
    (fun (pre : List Int) W => (∃ v, Boxed W M 30 v ∧ W.ownsRow w.heap.size 5 1 v pre.length (pre.map (Value.int .u8)) ∧ True) ∧ Below w.heap.size w W ∧ Boxed W (M + 1) 103 (.pointer (some ⟨B, 0, none⟩)))
    (fun _ _ _ => False)
    (OwnFrom.and (Own.from (holdsRow_own w.heap.size M 30 5 1 (fun (pre : List Int) => pre.length) (fun (pre : List Int) => pre.map (Value.int .u8)) (fun _ _ => True)) _) (OwnFrom.and (ownFrom_below (Nat.le_refl _) (by omega)) (Own.from (boxed_own (M + 1) 103 (fun _ => .pointer (some ⟨B, 0, none⟩))) _)))
    (fun _ _ _ _ _ hs _ _ => hs)
    ⟨⟨_, bO2, hown2, trivial⟩, hB0, bN⟩
    (fun (x : Int) => { tmps := #[.pointer (some ⟨B, 0, none⟩), undef, .slice none 0 0, .pointer (some ⟨M, 0, none⟩), .int .u8 x, .pointer (some ⟨B, 0, none⟩), .bool false, .pointer (some ⟨B, 0, none⟩), .pointer (some ⟨B, 0, none⟩), .pointer (some ⟨B, 17, none⟩), .int .i64 (m : Int), .slice (some ⟨w.heap.size, 0, none⟩) 0 m, .pointer (some ⟨B, 0, none⟩), .func (.func 91) #[] #[.pointer (some ⟨M + 1, 0, none⟩)], .int .u8 x, undef, undef, undef, undef, undef], defers := [] }) ?assign ?body ?done ?stop
  case assign =>
    intro l x W K hK
    gi_wp2
    exact hK
  case body =>
    rintro l pre x W ⟨⟨v, hv, hrow, _⟩, hB, hN⟩ hlt
    have hc := hv.cell
    gi_wp2_with (gi_at_builtin; refine wpListIn_append_own _ rfl _ _ 30 rfl w.heap.size 5 i0 (.int .u8 0) 1 1 Try.underlying30 hi hz0 hz1 hz2 rfl (by decide) _ _ _ rfl (hrow.alloc _) ⟨W.heap.size, 0, none⟩ 1 1 [.int .u8 x] rfl rfl (cell_one_new _ _ _) (by simp [Value.oneCell']) (by unfold maxLen; omega) (by omega) (by have := hB.size; simp; omega) ?_; intro v' w2 hown' hgrow _; obtain ⟨g', cap', rfl⟩ := ownsRow_succ hown'; have hn2 : Boxed w2 (M + 1) 103 (.pointer (some ⟨B, 0, none⟩)) := (hN.alloc _).kept hgrow (hN.not_row (by decide) hrow); obtain ⟨hv1, hv2, hr2, hk2, hb2⟩ := hv.appended (by decide) hrow hB.size hMle hown' hgrow; have hc1 := hv1.cell; have hf1 := hv1.frozen)
    have hn3 := hn2.other (B' := M) (by omega) (.slice (some ⟨g', 0, none⟩) (pre.length + 1) cap')
    exact ⟨hk2.from _, ⟨hb2, fun _ => hn3⟩, ⟨⟨_, hv2, by simpa using hr2, trivial⟩, hB.trans hb2, hn3⟩⟩
  case done =>
    rintro D ys W hD rfl ⟨⟨v, hv, hrow, _⟩, hB, _⟩ hK
    have hc := hv.cell
    gi_wp2
    refine ⟨by simp, .inl ⟨_, _, rfl, run_takeDeferred hK, ?_⟩⟩
    have hrow2 := ownsRow_putObj hrow (.deferred none) hK rfl
    rw [upto_length, show (upto f m).map (Value.int .u8) = rowL m f from by simp [upto, rowL]] at hrow2
    exact ⟨_, results_tmp rfl _ _ _, v, rfl, hrow2, hB.trans (belowK_b (w := w) (Nat.le_refl _) W D _ _ (by omega) hK rfl rfl)⟩
  case stop =>
    rintro D c pre W _ _ h _
    exact h.elim
end Go.Proofs.Ytkbccccjjlkgbaa

/- Layer 12: what console's methods do: what only looks, and what comes and goes. -/
namespace Go.Proofs.Ytkbccccjjlkgbaa
open Go.RowKit
set_option linter.unusedVariables false

set_option maxHeartbeats 400000 in
theorem cnext_nil (w : World) :
    Calls Try.prog 59 #[.pointer none] w fun e w' => e = .returned (.tuple #[.int .u64 0, .bool false]) ∧ Q w w' := by
  go_enter Try.func59, Try.ntmps59
  go_wp2_with fail
  go_quiet (fail)
  go_wp2
  go_ret2
  exact ⟨rfl, _, rfl⟩

set_option maxHeartbeats 800000 in
theorem cnext_any {R K : Nat} {S : Nat → Prop} {T Y : Nat → Int} {s : CS} (w : World) (h : IsCon w R S K T Y s) :
    Calls Try.prog 59 #[.pointer (some ⟨R, 0, none⟩)] w fun e w' => e = .returned (.tuple #[.int .u64 (if s.c < K then T s.c else 0), .bool (decide (s.c < K))]) ∧ Q w w' := by
  obtain ⟨F, A, cap, v, hR, hF, hO, hA, hK, hne, hin, hS⟩ := h
  obtain ⟨⟨q0, q1, q2, q3, q4⟩, -⟩ := five_cells hR
  obtain ⟨k1, k2⟩ := hK
  by_cases hlt : s.c < K
  · have ha := (hA s.c hlt).1
    rw [Nat.zero_add] at ha
    have hne : ((s.c : Int) == (K : Int)) = false := by simp; omega
    rw [if_pos hlt, decide_eq_true hlt]
    clear hR hF hO hA hin hS
    generalize T s.c = x at ha ⊢
    have k3 : (s.c : Int) < K := by omega
    go_enter Try.func59, Try.ntmps59
    go_wp2_with fail
    go_quiet (fail)
    go_wp2_with fail
    go_quiet (fail)
    go_wp2
    go_ret2
    exact ⟨rfl, ((Q.refl w).drewN _).drewN _⟩
  · have he : s.c = K := by omega
    have hne : ((s.c : Int) == (K : Int)) = true := by simp; omega
    rw [if_neg hlt, decide_eq_false hlt]
    clear hR hF hO hA hin hS
    go_enter Try.func59, Try.ntmps59
    go_wp2_with fail
    go_quiet (fail)
    go_wp2
    go_ret2
    exact ⟨rfl, _, rfl⟩

set_option maxHeartbeats 400000 in
theorem cready_nil (w : World) :
    Calls Try.prog 51 #[.pointer none] w fun e w' => e = .returned (.bool false) ∧ w' = w := by
  go_enter Try.func51, Try.ntmps51
  go_wp2
  go_ret
  exact ⟨rfl, rfl⟩

set_option maxHeartbeats 400000 in
theorem cready_any {R K : Nat} {S : Nat → Prop} {T Y : Nat → Int} {s : CS} (w : World) (h : IsCon w R S K T Y s) :
    Calls Try.prog 51 #[.pointer (some ⟨R, 0, none⟩)] w fun e w' => e = .returned (.bool (decide (0 < s.n))) ∧ w' = w := by
  obtain ⟨F, A, cap, v, hR, hF, hO, hA, hK, hne, hin, hS⟩ := h
  obtain ⟨⟨q0, q1, q2, q3, q4⟩, -⟩ := five_cells hR
  have HF := Lib.hid hF
  clear hR hF hO hA hin hS hK hne
  go_enter Try.func51, Try.ntmps51
  go_wp2_with fail
  refine (flen_any F _ _ _ HF.out).mono ?_
  rintro e w' ⟨rfl, hw⟩
  have hw := hw.symm
  subst hw
  go_wp2
  go_ret
  exact ⟨ret_bool (by simp), rfl⟩

set_option maxHeartbeats 400000 in
theorem cwaits_nil (w : World) :
    Calls Try.prog 39 #[.pointer none] w fun e w' => e = .returned (.slice none 0 0) ∧ w' = w := by
  go_enter Try.func39, Try.ntmps39
  go_wp2
  go_ret
  exact ⟨rfl, rfl⟩

set_option maxHeartbeats 400000 in
theorem cwaits_any {R K : Nat} {S : Nat → Prop} {T Y : Nat → Int} {s : CS} (w : World) (h : IsCon w R S K T Y s) :
    Calls Try.prog 39 #[.pointer (some ⟨R, 0, none⟩)] w fun e w' => ∃ v, e = .returned v ∧ IsRowV w' v s.n s.f ∧ Below w.heap.size w w' := by
  obtain ⟨F, A, cap, v, hR, hF, hO, hA, hK, hne, hin, hS⟩ := h
  obtain ⟨⟨q0, q1, q2, q3, q4⟩, -⟩ := five_cells hR
  have HF := Lib.hid hF
  clear hR hF hO hA hin hS hK hne
  go_enter Try.func39, Try.ntmps39
  go_wp2_with fail
  refine (fall_any F _ _ _ HF.out).mono ?_
  rintro e w' ⟨v, rfl, hown, hb⟩
  have HY := Lib.hid (isRowV_of_own hown)
  have HB := Lib.hid hb
  clear hown hb
  go_wp2
  go_ret
  exact ⟨_, rfl, HY.out, HB.out⟩

set_option maxHeartbeats 400000 in
theorem cout_nil (w : World) :
    Calls Try.prog 30 #[.pointer none] w fun e w' => e = .returned (.slice none 0 0) ∧ w' = w := by
  go_enter Try.func30, Try.ntmps30
  go_wp2
  go_ret
  exact ⟨rfl, rfl⟩

/-- What is owned, as what append takes. -/
theorem own_src {w W : World} {base : Nat} {e : TypeId} {v : Value} {n : Nat} {xs : List Value} (h : w.ownsRow base e 1 v n xs) (hb : Below w.heap.size w W) : (v = .slice none 0 0 ∧ n = 0) ∨ ∃ ad c, v = .slice (some ad) n c ∧ ∀ j u, xs[j]? = some u → W.cell? (ad.add j) = some u := by
  rcases h.2 with h0 | ⟨g, cap, cur, rfl, hbs, hg, rest⟩
  · exact .inl h0
  · refine .inr ⟨_, _, rfl, fun j u hj => ?_⟩
    have hc := h.cells (g := g) rfl j u hj
    rw [Addr.add_lit] at hc ⊢
    rw [hb.cell (World.block_lt_of_cell? w _ hc)]; exact hc

set_option maxHeartbeats 800000 in
theorem cout_any {R K : Nat} {S : Nat → Prop} {T Y : Nat → Int} {s : CS} (w : World) (hm : s.m ≤ 100000) (h : IsCon w R S K T Y s) :
    Calls Try.prog 30 #[.pointer (some ⟨R, 0, none⟩)] w fun e w' => ∃ v, e = .returned v ∧ IsRowV w' v s.m s.g ∧ Below w.heap.size w w' := by
  obtain ⟨F, A, cap, v, hR, hF, hO, hA, hK, hne, hin, hS⟩ := h
  obtain ⟨⟨q0, q1, q2, q3, q4⟩, -⟩ := five_cells hR
  have lR : R < w.heap.size := (Array.getElem?_eq_some_iff.1 hR).1
  obtain ⟨i0, hi, hz0, hz1, hz2⟩ := info_parts Try.info5
  have HB0 : Hid (Below w.heap.size w (w.alloc (.cells #[] 5))) := (Below.refl w.heap.size w).alloc (Nat.le_refl _) _
  have HO0 : Hid ((w.alloc (.cells #[] 5)).ownsRow w.heap.size 5 1 (.slice (some ⟨w.heap.size, 0, none⟩) 0 0) 0 []) := World.ownsRow_made w #[] 0 (Nat.le_refl _) (by decide) rfl
  have HS := Lib.hid (own_src hO HB0.out)
  have hq4 : (w.alloc (.cells #[] 5)).cell? ⟨R, 4, none⟩ = some v := by rw [HB0.out.cell lR]; exact q4
  obtain ⟨sa, sn, sc, hv⟩ : ∃ a n c, v = .slice a n c := by
    rcases hO.2 with ⟨h, _⟩ | ⟨g, cap, cur, h, _⟩
    · exact ⟨_, _, _, h⟩
    · exact ⟨_, _, _, h⟩
  clear hR hF hO hA hin hS hK hne q0 q1 q2 q3 q4
  subst hv
  go_enter Try.func30, Try.ntmps30
  go_wp2_with (first
    | (at_builtin; refine wpList_append_src rfl (.tmp 5) (.tmp 9) 30 rfl w.heap.size 5 i0 (.int .u8 0) 1 1 Try.underlying30 hi hz0 hz1 hz2 rfl (by decide) _ 0 [] rfl HO0.out _ s.m (rowL s.m s.g) rfl HS.out (by rw [rowL_length]; omega) (rowL_one _ _) (by unfold maxLen; omega) (by omega) HB0.out.size ?_))
  intro v1 w1 hown1 hgr1 _
  have HY : Hid (IsRowV w1 v1 s.m s.g) := isRowV_of_own hown1
  have HB1 : Hid (Below w.heap.size w w1) := HB0.out.grown hgr1 HB0.out.size (fun j hj => (HO0.out.lt j hj).1)
  clear hown1 hgr1
  go_wp2
  go_ret
  exact ⟨_, rfl, HY.out, HB1.out⟩

set_option maxHeartbeats 1600000 in
theorem ccome_any {R K : Nat} {S : Nat → Prop} {T Y : Nat → Int} {s : CS} (w : World) (h : IsCon w R S K T Y s) (hlt : s.c < K) :
    Calls Try.prog 60 #[.pointer (some ⟨R, 0, none⟩)] w fun e w' => e = .returned (.tuple #[]) ∧ IsCon w' R S K T Y (s.come Y) ∧ Fr S w w' := by
  obtain ⟨F, A, cap, v, hR, hF, hO, hA, hK, hne, hin, hS⟩ := h
  obtain ⟨⟨q0, q1, q2, q3, q4⟩, -⟩ := five_cells hR
  obtain ⟨k1, k2⟩ := hK
  have ha := (hA s.c hlt).2
  rw [Nat.zero_add] at ha
  have k3 : (s.c : Int) < K := by omega
  have hn := hF.le
  by_cases hn16 : s.n < 16
  · have HP : Hid (Calls Try.prog 77 #[.pointer (some ⟨F, 0, none⟩), .int .u8 (Y s.c)] w.drew fun e w' => e = .returned (.bool true) ∧ Hid (IsFifo w' F (s.n + 1) (snoc s.n s.f (Y s.c)) ∧ Bar F w w')) := by
      have hq : Below w.heap.size w w.drew := (Below.refl _ _).drew
      refine (fpush_yes F s.n s.f (Y s.c) w.drew (hF.on hq) hn16).mono ?_
      rintro e w' ⟨rfl, h1, h2⟩
      exact ⟨rfl, h1, (Bar.of F hq).trans h2⟩
    have HE : Hid (∀ W : World, IsFifo W F (s.n + 1) (snoc s.n s.f (Y s.c)) → Bar F w W → W.heap[R]? = some (.cells #[.slice (some ⟨A, 0, none⟩) K cap, .int .i64 (s.c : Int), .pointer (some ⟨F, 0, none⟩), .bool s.ov, v] 106 (0, 0)) ∧ (IsCon (W.setCell ⟨R, 1, none⟩ (.int .i64 ((s.c : Int) + 1))) R S K T Y (s.come Y) ∧ Fr S w (W.setCell ⟨R, 1, none⟩ (.int .i64 ((s.c : Int) + 1))))) := fun W hf hb => by
      have lR := (Array.getElem?_eq_some_iff.1 hR).1
      have hR' : W.heap[R]? = some (.cells #[.slice (some ⟨A, 0, none⟩) K cap, .int .i64 (s.c : Int), .pointer (some ⟨F, 0, none⟩), .bool s.ov, v] 106 (0, 0)) := by rw [hb.2.2.2.2 R lR (Ne.symm hne.1)]; exact hR
      have hfr := fr_set (R := R) (o := 1) (u := .int .i64 ((s.c : Int) + 1)) (fr_bar (Fr.refl (fun k => k = R ∨ k = F) w) hb)
      have hc : s.come Y = ⟨s.c + 1, s.n + 1, snoc s.n s.f (Y s.c), s.ov, s.m, s.g⟩ := by unfold CS.come; rw [if_pos hn16]
      rw [hc]
      refine ⟨hR', IsCon.upd (s := s) hO hA k2 hne hin hS hfr (heap_setCell_at hR') (hf.bar (Bar.setCell R 1 W _) hne.1) hlt rfl rfl, fr_in hfr hin.1 hin.2.1⟩
    clear hR hF hO hA hin hS hne
    generalize Y s.c = y at ha HP HE
    go_enter Try.func60, Try.ntmps60
    go_wp2_with fail
    go_region_with (go_at_call 77; refine HP.out.mono ?_; rintro e w3 ⟨rfl, HX⟩)
    all_goals
      obtain ⟨hr3, hfin⟩ := HE.out _ HX.out.1 HX.out.2
      obtain ⟨⟨-, p1, -, -, -⟩, -, z1, -, -, -⟩ := five_cells hr3
      have HF := Lib.hid hfin
      clear hr3 hfin
      go_wp2
      go_end0
      exact ⟨rfl, HF.out⟩
  · have hn16' : s.n = 16 := by omega
    have HP : Hid (Calls Try.prog 77 #[.pointer (some ⟨F, 0, none⟩), .int .u8 (Y s.c)] w.drew fun e w' => e = .returned (.bool false) ∧ w' = w.drew) := by
      have hq : Below w.heap.size w w.drew := (Below.refl _ _).drew
      have hF' := hF.on hq
      rw [hn16'] at hF'
      exact fpush_full F s.f (Y s.c) w.drew hF'
    have HE : Hid (IsCon ((w.drew.setCell ⟨R, 3, none⟩ (.bool true)).setCell ⟨R, 1, none⟩ (.int .i64 ((s.c : Int) + 1))) R S K T Y (s.come Y) ∧ Fr S w ((w.drew.setCell ⟨R, 3, none⟩ (.bool true)).setCell ⟨R, 1, none⟩ (.int .i64 ((s.c : Int) + 1)))) := by
      have hd : Fr (fun k => k = R ∨ k = F) w w.drew := Fr.of _ ((Below.refl _ _).drew)
      have hfr := fr_set (R := R) (o := 1) (u := .int .i64 ((s.c : Int) + 1)) (fr_set (R := R) (o := 3) (u := .bool true) hd)
      have hc : s.come Y = ⟨s.c + 1, s.n, s.f, true, s.m, s.g⟩ := by unfold CS.come; rw [if_neg hn16]
      rw [hc]
      refine ⟨IsCon.upd (s := s) hO hA k2 hne hin hS hfr (heap_setCell_at (heap_setCell_at (w := w.drew) hR)) (((hF.on (Below.drew (Below.refl _ _))).bar (Bar.setCell R 3 _ _) hne.1).bar (Bar.setCell R 1 _ _) hne.1) hlt rfl rfl, fr_in hfr hin.1 hin.2.1⟩
    obtain ⟨-, -, z1, -, z3, -⟩ := five_cells hR
    clear hR hF hO hA hin hS hne
    generalize Y s.c = y at ha HP HE
    go_enter Try.func60, Try.ntmps60
    go_wp2_with fail
    go_region_with (go_at_call 77; refine HP.out.mono ?_; rintro e w3 ⟨rfl, hw⟩; subst hw)
    all_goals
      go_wp2
      go_end0
      exact ⟨rfl, HE.out⟩
end Go.Proofs.Ytkbccccjjlkgbaa

/- append onto a row that is owned: where the row lies behind it: where it lay, or in a block of its own. -/
namespace Go.Proofs.Ytkbccccjjlkgbaa
open Go
set_option linter.unusedVariables false

theorem run_append_place {P : Program} (w : World) (base : Nat) (t ty e : TypeId) (i : TypeInfo) (z : Value) (size bytes : Nat) (ht : P.underlying t = some (.slice e)) (hi : P.info? e = some i) (hz : i.zero = some z)
    (hsize : i.size = size) (hby : i.bytes = bytes) (hzs : z.cells.size = size) (hsz : 0 < size)
    (v : Value) (n : Nat) (xs : List Value) (hown : w.ownsRow base e size v n xs)
    (a : Addr) (m c : Nat) (news : List Value) (hl : news.length = m * size) (hnews : ∀ j u, news[j]? = some u → w.cell? (a.add j) = some u) (h1 : ∀ u ∈ news, u.oneCell' = true)
    (h63 : n + m ≤ maxLen) (hbytes : (n + m) * bytes ≤ 140737488355328) (hbase : base ≤ w.heap.size) :
    ∃ v' w', (Builtin.append_ #[t, t] ty #[v, .slice (some a) m c]).run P w = .ok v' w' ∧ w'.ownsRow base e size v' (n + m) (xs ++ news) ∧ w.grownBy w' v.ownBlock ∧ ∀ k, v'.ownBlock = some k → v.ownBlock = some k ∨ w.heap.size ≤ k := by
  have h63' : n + m ≤ 9223372036854775807 := by simp only [maxLen] at h63; omega
  obtain ⟨v', w', hr, h2, h3, _⟩ := run_append_own (P := P) w base t ty e i z size bytes ht hi hz hsize hby hzs hsz v n xs hown a m c news hl hnews h1 h63 hbytes hbase
  refine ⟨v', w', hr, h2, h3, fun k hk => ?_⟩
  subst hsize
  subst hby
  rcases hown.2 with ⟨rfl, rfl⟩ | ⟨g, cap, cur, rfl, hbg, hg, hnc, hcm, hcs, htake⟩
  · have hx : xs = [] := List.eq_nil_of_length_eq_zero (by simpa using hown.1)
    obtain ⟨v2, w2, hr2, h22, _, _⟩ := run_append_own (P := P) w w.heap.size t ty e i z i.size i.bytes ht hi hz rfl rfl hzs hsz (.slice none 0 0) 0 [] (World.ownsRow_nil _ _ _ _) a m c news hl hnews h1 h63 hbytes (Nat.le_refl _)
    rw [hr] at hr2
    cases hr2
    exact .inr (h22.lt k hk).1
  · by_cases hroom : n + m ≤ cap
    · have hfit : n * i.size + news.length ≤ cur.size := by rw [hl, hcs, ← Nat.add_mul]; exact Nat.mul_le_mul_right _ hroom
      have hr2 := run_append_room (P := P) w t ty e i ht hi g n cap cur hg a m c news hl hnews h1 hroom hfit
      rw [hr] at hr2
      cases hr2
      exact .inl hk
    · have holds : ∀ j u, xs[j]? = some u → w.cell? ((⟨g, 0, none⟩ : Addr).add j) = some u := hown.cells (g := g) rfl
      have hr2 := run_append_grow (P := P) w t ty e i z ht hi hz ⟨g, 0, none⟩ n cap xs hown.1 holds a m c news hl hnews (by omega) (by omega) (growslice_fits (by omega) hbytes)
      rw [hr] at hr2
      cases hr2
      simp [Value.ownBlock] at hk
      exact .inr (by omega)

theorem wpList_append_place {P : Program} {w : World} {ops : Array Oper} {rest : List Oper} {o : Oper} {a : Act} {Q : Exit → Act → World → Prop} (hgd : o.guard = none) (s x : Operand) (t : TypeId)
    (ho : o.op = .call { callee := .builtin .append, args := #[s, x], argTypes := #[t, t] })
    (base : Nat) (e : TypeId) (i : TypeInfo) (z : Value) (size bytes : Nat) (ht : P.underlying t = some (.slice e)) (hi : P.info? e = some i) (hz : i.zero = some z)
    (hsize : i.size = size) (hby : i.bytes = bytes) (hzs : z.cells.size = size) (hsz : 0 < size)
    (v : Value) (n : Nat) (xs : List Value) (hs : a.eval s = v) (hown : w.ownsRow base e size v n xs)
    (ad : Addr) (m c : Nat) (news : List Value) (hx : a.eval x = .slice (some ad) m c) (hl : news.length = m * size) (hnews : ∀ j u, news[j]? = some u → w.cell? (ad.add j) = some u) (h1 : ∀ u ∈ news, u.oneCell' = true)
    (h63 : n + m ≤ maxLen) (hbytes : (n + m) * bytes ≤ 140737488355328) (hbase : base ≤ w.heap.size)
    (h : ∀ v' w', w'.ownsRow base e size v' (n + m) (xs ++ news) → w.grownBy w' v.ownBlock → (∀ k, v'.ownBlock = some k → v.ownBlock = some k ∨ w.heap.size ≤ k) → wpList P ops Q rest (a.put o.dst v') w') : wpList P ops Q (o :: rest) a w := by
  refine wpList_plain hgd fun K hK => ?_
  obtain ⟨v', w', hr, h2, h3, h4⟩ := run_append_place (P := P) w base t o.type e i z size bytes ht hi hz hsize hby hzs hsz v n xs hown ad m c news hl hnews h1 h63 hbytes hbase
  unfold Oper.wp execOp
  simp only [ho, resolve, invoke, builtin, Sem.run_bind, Sem.run_pure, Result.andThen_ok, List.map_toArray, List.map_cons, List.map_nil, hs, hx, hr]
  exact hK _ _ (h v' w' h2 h3 h4)
end Go.Proofs.Ytkbccccjjlkgbaa

/- Layer 12: Read, Write: the registers' methods, handed on. -/
namespace Go.Proofs.Ytkbccccjjlkgbaa
open Go.RowKit
set_option linter.unusedVariables false

/-- What is read of a register, and the state behind it. -/
def CS.rd (reg : Int) (s : CS) : CS := if reg = 0 then s.pop else s
def CS.val (reg : Int) (s : CS) : Int := if reg = 0 then (if s.n = 0 then 0 else IntKind.u32.wrap (s.f 0)) else (if 0 < s.n then (if s.ov = true then 3 else 1) else (if s.ov = true then 2 else 0))
/-- What is written into a register. -/
def CS.wr (reg x : Int) (s : CS) : CS := if reg = 0 then ⟨s.c, s.n, s.f, s.ov, s.m + 1, snoc s.m s.g (x % 256)⟩ else ⟨s.c, s.n, s.f, false, s.m, s.g⟩

set_option maxHeartbeats 800000 in
theorem ctake_any {R K : Nat} {S : Nat → Prop} {T Y : Nat → Int} {s : CS} (w : World) (h : IsCon w R S K T Y s) :
    Calls Try.prog 101 #[.pointer (some ⟨R, 0, none⟩)] w fun e w' => e = .returned (.int .u32 (s.val 0)) ∧ IsCon w' R S K T Y (s.rd 0) ∧ Fr S w w' := by
  have HC := Lib.hid h
  obtain ⟨F, A, cap, v, hR, hF, hO, hA, hK, hne, hin, hS⟩ := h
  obtain ⟨⟨q0, q1, q2, q3, q4⟩, -⟩ := five_cells hR
  by_cases h0 : s.n = 0
  · have e1 : s.val 0 = 0 := by unfold CS.val; rw [if_pos rfl, if_pos h0]
    have e2 : s.rd 0 = s := by unfold CS.rd CS.pop; rw [if_pos rfl, if_pos h0]
    rw [e1, e2]
    have HP : Hid (Calls Try.prog 105 #[.pointer (some ⟨F, 0, none⟩)] w fun e w' => e = .returned (.tuple #[.int .u8 0, .bool false]) ∧ w' = w) := by
      rw [h0] at hF
      exact fpop_none F s.f w hF
    clear hR hF hO hA hin hS hne hK
    go_enter Try.func101, Try.ntmps101
    go_wp2_with fail
    refine HP.out.mono ?_
    rintro e w' ⟨rfl, hw⟩
    have hw := hw.symm
    subst hw
    go_wp2
    go_ret
    exact ⟨rfl, HC.out, Fr.refl _ _⟩
  · obtain ⟨n, hn⟩ : ∃ n, s.n = n + 1 := ⟨s.n - 1, by omega⟩
    have e1 : s.val 0 = IntKind.u32.wrap (s.f 0) := by unfold CS.val; rw [if_pos rfl, if_neg h0]
    have e2 : s.rd 0 = ⟨s.c, n, fun i => s.f (i + 1), s.ov, s.m, s.g⟩ := by unfold CS.rd CS.pop; rw [if_pos rfl, if_neg h0, hn]; rfl
    rw [e1, e2]
    have HP : Hid (Calls Try.prog 105 #[.pointer (some ⟨F, 0, none⟩)] w fun e w' => e = .returned (.tuple #[.int .u8 (s.f 0), .bool true]) ∧ IsCon w' R S K T Y ⟨s.c, n, fun i => s.f (i + 1), s.ov, s.m, s.g⟩ ∧ Fr S w w') := by
      rw [hn] at hF
      refine (fpop_yes F n s.f w hF).mono ?_
      rintro e w' ⟨rfl, h1, h2⟩
      have hfr := fr_bar (R := R) (Fr.refl _ w) h2
      have lR := (Array.getElem?_eq_some_iff.1 hR).1
      exact ⟨rfl, IsCon.upd (s := s) hO hA hK.2 hne hin hS hfr (by rw [h2.2.2.2.2 R lR (Ne.symm hne.1)]; exact hR) h1 hK.1 rfl rfl, fr_in hfr hin.1 hin.2.1⟩
    clear hR hF hO hA hin hS hne hK e1 e2
    generalize s.f 0 = y at HP ⊢
    go_enter Try.func101, Try.ntmps101
    go_wp2_with fail
    refine HP.out.mono ?_
    rintro e w' ⟨rfl, h1, h2⟩
    have H1 := Lib.hid h1
    have H2 := Lib.hid h2
    clear h1 h2
    go_wp2
    go_ret
    exact ⟨rfl, H1.out, H2.out⟩

set_option maxHeartbeats 800000 in
theorem cstatus_any {R K : Nat} {S : Nat → Prop} {T Y : Nat → Int} {s : CS} (w : World) (h : IsCon w R S K T Y s) :
    Calls Try.prog 102 #[.pointer (some ⟨R, 0, none⟩)] w fun e w' => e = .returned (.int .u32 (s.val 4)) ∧ w' = w := by
  have HR := Lib.hid (cready_any w h)
  obtain ⟨F, A, cap, v, hR, hF, hO, hA, hK, hne, hin, hS⟩ := h
  obtain ⟨⟨q0, q1, q2, q3, q4⟩, -⟩ := five_cells hR
  have e0 : s.val 4 = (if 0 < s.n then (if s.ov = true then 3 else 1) else (if s.ov = true then 2 else 0)) := by unfold CS.val; rw [if_neg (by decide)]
  rw [e0]
  clear hR hF hO hA hin hS hne hK e0
  generalize s.ov = o at *
  by_cases h0 : 0 < s.n <;> cases o <;>
    (first | (rw [decide_eq_true h0] at HR; rw [if_pos h0]) | (rw [decide_eq_false h0] at HR; rw [if_neg h0])) <;>
    (clear h0
     go_enter Try.func102, Try.ntmps102
     go_wp2_with fail
     refine HR.out.mono ?_
     rintro e w' ⟨rfl, hw⟩
     have hw := hw.symm
     subst hw
     go_wp2
     go_ret
     exact ⟨rfl, rfl⟩)

set_option maxHeartbeats 800000 in
theorem csettle_any {R K : Nat} {S : Nat → Prop} {T Y : Nat → Int} {s : CS} (x : Int) (w : World) (h : IsCon w R S K T Y s) :
    Calls Try.prog 104 #[.pointer (some ⟨R, 0, none⟩), .int .u32 x] w fun e w' => e = .returned (.tuple #[]) ∧ IsCon w' R S K T Y (s.wr 4 x) ∧ Fr S w w' := by
  obtain ⟨F, A, cap, v, hR, hF, hO, hA, hK, hne, hin, hS⟩ := h
  obtain ⟨⟨q0, q1, q2, q3, q4⟩, -, -, -, z3, -⟩ := five_cells hR
  have HE : Hid (IsCon (w.setCell ⟨R, 3, none⟩ (.bool false)) R S K T Y (s.wr 4 x) ∧ Fr S w (w.setCell ⟨R, 3, none⟩ (.bool false))) := by
    have hfr := fr_set (R := R) (F := F) (o := 3) (u := .bool false) (Fr.refl _ w)
    have hc : s.wr 4 x = ⟨s.c, s.n, s.f, false, s.m, s.g⟩ := by unfold CS.wr; rw [if_neg (by decide)]
    rw [hc]
    exact ⟨IsCon.upd (s := s) hO hA hK.2 hne hin hS hfr (heap_setCell_at hR) (hF.bar (Bar.setCell R 3 _ _) hne.1) hK.1 rfl rfl, fr_in hfr hin.1 hin.2.1⟩
  clear hR hF hO hA hin hS hne hK
  go_enter Try.func104, Try.ntmps104
  go_wp2
  go_end0
  exact ⟨rfl, HE.out⟩

set_option maxHeartbeats 1600000 in
theorem csend_any {R K : Nat} {S : Nat → Prop} {T Y : Nat → Int} {s : CS} (x : Int) (w : World) (hm : s.m ≤ 100000) (h : IsCon w R S K T Y s) :
    Calls Try.prog 103 #[.pointer (some ⟨R, 0, none⟩), .int .u32 x] w fun e w' => e = .returned (.tuple #[]) ∧ ∃ S', IsCon w' R S' K T Y (s.wr 0 x) ∧ Fr S w w' ∧ Ext w S S' := by
  obtain ⟨F, A, cap, v, hR, hF, hO, hA, hK, hne, hin, hS⟩ := h
  have lR : R < w.heap.size := (Array.getElem?_eq_some_iff.1 hR).1
  have lA : A < w.heap.size := hS A hin.2.2.1
  have lF : F < w.heap.size := hF.lt
  obtain ⟨⟨q0, q1, q2, q3, q4⟩, -⟩ := five_cells hR
  obtain ⟨i0, hi, hz0, hz1, hz2⟩ := info_parts Try.info5
  have HO := Lib.hid hO
  have HE : Hid (∀ (w1 : World) (g cap' : Nat), w1.ownsRow 0 5 1 (.slice (some ⟨g, 0, none⟩) (s.m + 1) cap') (s.m + 1) (rowL s.m s.g ++ [.int .u8 (x % 256)]) → (w.alloc (.cells #[.int .u8 (x % 256)] 5)).grownBy w1 v.ownBlock → (v.ownBlock = some g ∨ w.heap.size ≤ g) →
      (w1.heap[R]? = some (.cells #[.slice (some ⟨A, 0, none⟩) K cap, .int .i64 (s.c : Int), .pointer (some ⟨F, 0, none⟩), .bool s.ov, v] 106 (0, 0))) ∧
      ∃ S', IsCon (w1.setCell ⟨R, 4, none⟩ (.slice (some ⟨g, 0, none⟩) (s.m + 1) cap')) R S' K T Y (s.wr 0 x) ∧ Fr S w (w1.setCell ⟨R, 4, none⟩ (.slice (some ⟨g, 0, none⟩) (s.m + 1) cap')) ∧ Ext w S S') := by
    intro w1 g cap' hown hgr hg
    have hsz1 : w.heap.size < w1.heap.size := by have := hgr.size; simp at this; omega
    have hkeep : ∀ k, k < w.heap.size → v.ownBlock ≠ some k → w1.heap[k]? = w.heap[k]? := fun k hk hn => by
      rw [hgr.block k (by simp; omega) (fun e => hn e.symm)]
      exact heap_alloc_old w _ hk
    have nR : v.ownBlock ≠ some R := fun e => (hne.2.2.2 R e).1 rfl
    have nF : v.ownBlock ≠ some F := fun e => (hne.2.2.2 F e).2.1 rfl
    have nA : v.ownBlock ≠ some A := fun e => (hne.2.2.2 A e).2.2 rfl
    have gR : g ≠ R := by rintro rfl; rcases hg with h | h; exact nR h; omega
    have gF : g ≠ F := by rintro rfl; rcases hg with h | h; exact nF h; omega
    have gA : g ≠ A := by rintro rfl; rcases hg with h | h; exact nA h; omega
    have lg : g < w1.heap.size := (hown.lt g rfl).2
    have hR1 : w1.heap[R]? = some (.cells #[.slice (some ⟨A, 0, none⟩) K cap, .int .i64 (s.c : Int), .pointer (some ⟨F, 0, none⟩), .bool s.ov, v] 106 (0, 0)) := by rw [hkeep R lR nR]; exact hR
    have hfr1 : Fr S w w1 := ⟨hgr.os, hgr.tape, hgr.output, by omega, fun k hk hn => hkeep k hk (fun e => hn (hin.2.2.2 k e))⟩
    have hsz2 : (w1.setCell ⟨R, 4, none⟩ (.slice (some ⟨g, 0, none⟩) (s.m + 1) cap')).heap.size = w1.heap.size := by simp [World.setCell]
    have hc : s.wr 0 x = ⟨s.c, s.n, s.f, s.ov, s.m + 1, snoc s.m s.g (x % 256)⟩ := by unfold CS.wr; rw [if_pos rfl]
    rw [hc]
    have hb4 := Bar.setCell R 4 w1 (.slice (some ⟨g, 0, none⟩) (s.m + 1) cap')
    refine ⟨hR1, fun k => S k ∨ k = g, ⟨F, A, cap, .slice (some ⟨g, 0, none⟩) (s.m + 1) cap', heap_setCell_at hR1, ?_, ?_, ?_, hK, ⟨hne.1, hne.2.1, hne.2.2.1, ?_⟩, ⟨.inl hin.1, .inl hin.2.1, .inl hin.2.2.1, ?_⟩, ?_⟩, hfr1.trans (Fr.bar hb4 hin.1), ?_⟩
    · obtain ⟨cs, q, hF', hc'⟩ := hF
      exact ⟨cs, q, by rw [hb4.2.2.2.2 F (by omega) hne.1, hkeep F lF nF]; exact hF', hc'⟩
    · rw [rowL_snoc] at hown
      exact own_keep hown (fun k e hk => hb4.2.2.2.2 k hk (by rintro rfl; simp [Value.ownBlock] at e; exact gR e))
    · exact hA.keep (fun hk => by rw [hb4.2.2.2.2 A (by omega) hne.2.1, hkeep A hk nA])
    · intro k e
      simp [Value.ownBlock] at e
      subst e
      exact ⟨gR, gF, gA⟩
    · intro k e
      simp [Value.ownBlock] at e
      exact .inr e.symm
    · rintro k (h | rfl)
      · have := hS k h; rw [hsz2]; omega
      · rw [hsz2]; exact lg
    · rintro k (h | rfl)
      · exact .inl h
      · rcases hg with h | h
        · exact .inl (hin.2.2.2 _ h)
        · exact .inr h
  obtain ⟨sa, sn, sc, hv⟩ : ∃ a n c, v = .slice a n c := by
    rcases hO.2 with ⟨h, _⟩ | ⟨g, cap, cur, h, _⟩
    · exact ⟨_, _, _, h⟩
    · exact ⟨_, _, _, h⟩
  clear hR hF hA hin hne hK q0 q1 q2 q3
  subst hv
  have HO1 := Lib.hid (hO.alloc (.cells #[.int .u8 (x % 256)] 5))
  have hsz := hS
  clear hO hS hsz
  go_enter Try.func103, Try.ntmps103
  go_wp2_with (first
    | (at_builtin; refine wpList_append_place rfl (.tmp 8) (.tmp 11) 30 rfl 0 5 i0 (.int .u8 0) 1 1 Try.underlying30 hi hz0 hz1 hz2 rfl (by decide) _ s.m (rowL s.m s.g) rfl HO1.out ⟨w.heap.size, 0, none⟩ 1 1 [.int .u8 (x % 256)] rfl rfl ?c1 ?c2 ?c3 ?c4 (Nat.zero_le _) ?_))
  case c1 =>
    intro j u hj
    match j, hj with
    | 0, hj => simp at hj; subst hj; simp [Addr.add]
  case c2 => intro u hu; simp at hu; subst hu; rfl
  case c3 => unfold maxLen; omega
  case c4 => omega
  intro v2 w2 hown2 hgr2 hpl
  obtain ⟨g, cap', rfl⟩ := ownsRow_succ hown2
  obtain ⟨hr2, hfin⟩ := HE.out w2 g cap' hown2 hgr2 (by
    rcases hpl g rfl with h | h
    · exact .inl h
    · right; first | omega | (simp at h; omega))
  obtain ⟨⟨-, -, -, -, p4⟩, -, -, -, -, z4⟩ := five_cells hr2
  have HF := Lib.hid hfin
  clear hr2 hfin hown2 hgr2 hpl
  go_wp2
  go_end0
  exact ⟨rfl, HF.out⟩

set_option maxHeartbeats 400000 in
theorem creader_nil (reg : Int) (w : World) :
    Calls Try.prog 99 #[.pointer none, .int .i64 reg] w fun e w' => e = .returned .nilFunc ∧ w' = w := by
  go_enter Try.func99, Try.ntmps99
  go_wp2
  go_ret
  exact ⟨rfl, rfl⟩

set_option maxHeartbeats 400000 in
theorem creader_0 (R : Nat) (w : World) :
    Calls Try.prog 99 #[.pointer (some ⟨R, 0, none⟩), .int .i64 0] w fun e w' => e = .returned (.func (.func 101) #[.pointer (some ⟨R, 0, none⟩)] #[]) ∧ w' = w := by
  go_enter Try.func99, Try.ntmps99
  go_wp2
  go_ret
  exact ⟨rfl, rfl⟩

set_option maxHeartbeats 400000 in
theorem creader_4 (R : Nat) (w : World) :
    Calls Try.prog 99 #[.pointer (some ⟨R, 0, none⟩), .int .i64 4] w fun e w' => e = .returned (.func (.func 102) #[.pointer (some ⟨R, 0, none⟩)] #[]) ∧ w' = w := by
  go_enter Try.func99, Try.ntmps99
  go_wp2
  go_ret
  exact ⟨rfl, rfl⟩

set_option maxHeartbeats 400000 in
theorem creader_no (R : Nat) (reg : Int) (w : World) (h0 : reg ≠ 0) (h4 : reg ≠ 4) :
    Calls Try.prog 99 #[.pointer (some ⟨R, 0, none⟩), .int .i64 reg] w fun e w' => e = .returned .nilFunc ∧ w' = w := by
  have e0 : (reg == 0) = false := by simpa using h0
  have e4 : (reg == 4) = false := by simpa using h4
  clear h0 h4
  go_enter Try.func99, Try.ntmps99
  go_wp2
  go_ret
  exact ⟨rfl, rfl⟩

set_option maxHeartbeats 400000 in
theorem cwriter_nil (reg : Int) (w : World) :
    Calls Try.prog 100 #[.pointer none, .int .i64 reg] w fun e w' => e = .returned .nilFunc ∧ w' = w := by
  go_enter Try.func100, Try.ntmps100
  go_wp2
  go_ret
  exact ⟨rfl, rfl⟩

set_option maxHeartbeats 400000 in
theorem cwriter_0 (R : Nat) (w : World) :
    Calls Try.prog 100 #[.pointer (some ⟨R, 0, none⟩), .int .i64 0] w fun e w' => e = .returned (.func (.func 103) #[.pointer (some ⟨R, 0, none⟩)] #[]) ∧ w' = w := by
  go_enter Try.func100, Try.ntmps100
  go_wp2
  go_ret
  exact ⟨rfl, rfl⟩

set_option maxHeartbeats 400000 in
theorem cwriter_4 (R : Nat) (w : World) :
    Calls Try.prog 100 #[.pointer (some ⟨R, 0, none⟩), .int .i64 4] w fun e w' => e = .returned (.func (.func 104) #[.pointer (some ⟨R, 0, none⟩)] #[]) ∧ w' = w := by
  go_enter Try.func100, Try.ntmps100
  go_wp2
  go_ret
  exact ⟨rfl, rfl⟩

set_option maxHeartbeats 400000 in
theorem cwriter_no (R : Nat) (reg : Int) (w : World) (h0 : reg ≠ 0) (h4 : reg ≠ 4) :
    Calls Try.prog 100 #[.pointer (some ⟨R, 0, none⟩), .int .i64 reg] w fun e w' => e = .returned .nilFunc ∧ w' = w := by
  have e0 : (reg == 0) = false := by simpa using h0
  have e4 : (reg == 4) = false := by simpa using h4
  clear h0 h4
  go_enter Try.func100, Try.ntmps100
  go_wp2
  go_ret
  exact ⟨rfl, rfl⟩

theorem fnr_nil (w : World) : (binOp BinOp.eql 145 .nilFunc .nilFunc).run Try.prog w = .ok (.bool true) w := by kernel_rfl
theorem fnw_nil (w : World) : (binOp BinOp.eql 149 .nilFunc .nilFunc).run Try.prog w = .ok (.bool true) w := by kernel_rfl
theorem fnr_take (R : Nat) (w : World) : (binOp BinOp.eql 145 (.func (.func 101) #[.pointer (some ⟨R, 0, none⟩)] #[]) .nilFunc).run Try.prog w = .ok (.bool false) w := by kernel_rfl
theorem fnr_status (R : Nat) (w : World) : (binOp BinOp.eql 145 (.func (.func 102) #[.pointer (some ⟨R, 0, none⟩)] #[]) .nilFunc).run Try.prog w = .ok (.bool false) w := by kernel_rfl
theorem fnw_send (R : Nat) (w : World) : (binOp BinOp.eql 149 (.func (.func 103) #[.pointer (some ⟨R, 0, none⟩)] #[]) .nilFunc).run Try.prog w = .ok (.bool false) w := by kernel_rfl
theorem fnw_settle (R : Nat) (w : World) : (binOp BinOp.eql 149 (.func (.func 104) #[.pointer (some ⟨R, 0, none⟩)] #[]) .nilFunc).run Try.prog w = .ok (.bool false) w := by kernel_rfl

set_option maxHeartbeats 400000 in
theorem cread_nil (reg : Int) (w : World) :
    Calls Try.prog 92 #[.pointer none, .int .i64 reg] w fun e w' => e = .returned (.tuple #[.int .u32 0, .int .i64 6]) ∧ w' = w := by
  have hfn := fnr_nil
  go_enter Try.func92, Try.ntmps92
  go_wp2_with (go_at_call 99; refine (creader_nil _ _).mono ?_; rintro e w' ⟨rfl, hw⟩; have hw := hw.symm; subst hw)
  go_ret2
  exact ⟨rfl, rfl⟩

set_option maxHeartbeats 400000 in
theorem cread_no (R : Nat) (reg : Int) (w : World) (h0 : reg ≠ 0) (h4 : reg ≠ 4) :
    Calls Try.prog 92 #[.pointer (some ⟨R, 0, none⟩), .int .i64 reg] w fun e w' => e = .returned (.tuple #[.int .u32 0, .int .i64 6]) ∧ w' = w := by
  have hfn := fnr_nil
  go_enter Try.func92, Try.ntmps92
  go_wp2_with fail
  refine (creader_no R reg _ h0 h4).mono ?_
  rintro e w' ⟨rfl, hw⟩
  have hw := hw.symm
  subst hw
  go_wp2
  go_ret2
  exact ⟨rfl, rfl⟩

set_option maxHeartbeats 400000 in
theorem cread_yes {R K : Nat} {S : Nat → Prop} {T Y : Nat → Int} {s : CS} (reg : Int) (w : World) (hr : reg = 0 ∨ reg = 4) (h : IsCon w R S K T Y s) :
    Calls Try.prog 92 #[.pointer (some ⟨R, 0, none⟩), .int .i64 reg] w fun e w' => e = .returned (.tuple #[.int .u32 (s.val reg), .int .i64 0]) ∧ IsCon w' R S K T Y (s.rd reg) ∧ Fr S w w' := by
  have HC := Lib.hid h
  clear h
  rcases hr with rfl | rfl
  · have hfn := fnr_take R
    go_enter Try.func92, Try.ntmps92
    go_wp2_with fail
    refine (creader_0 R _).mono ?_
    rintro e w' ⟨rfl, hw⟩
    have hw := hw.symm
    subst hw
    go_wp2_with fail
    refine (ctake_any _ HC.out).mono ?_
    rintro e w1 ⟨rfl, h1, h2⟩
    have H1 := Lib.hid h1
    have H2 := Lib.hid h2
    clear h1 h2
    go_wp2
    go_ret2
    exact ⟨rfl, H1.out, H2.out⟩
  · have hrd : s.rd 4 = s := by unfold CS.rd; rw [if_neg (by decide)]
    rw [hrd]
    clear hrd
    have hfn := fnr_status R
    go_enter Try.func92, Try.ntmps92
    go_wp2_with fail
    refine (creader_4 R _).mono ?_
    rintro e w' ⟨rfl, hw⟩
    have hw := hw.symm
    subst hw
    go_wp2_with fail
    refine (cstatus_any _ HC.out).mono ?_
    rintro e w' ⟨rfl, hw⟩
    have hw := hw.symm
    subst hw
    go_wp2
    go_ret2
    exact ⟨rfl, HC.out, Fr.refl _ _⟩

set_option maxHeartbeats 400000 in
theorem cwrite_nil (reg x : Int) (w : World) :
    Calls Try.prog 93 #[.pointer none, .int .i64 reg, .int .u32 x] w fun e w' => e = .returned (.int .i64 6) ∧ w' = w := by
  have hfn := fnw_nil
  go_enter Try.func93, Try.ntmps93
  go_wp2_with (go_at_call 100; refine (cwriter_nil _ _).mono ?_; rintro e w' ⟨rfl, hw⟩; have hw := hw.symm; subst hw)
  go_ret
  exact ⟨rfl, rfl⟩

set_option maxHeartbeats 400000 in
theorem cwrite_no (R : Nat) (reg x : Int) (w : World) (h0 : reg ≠ 0) (h4 : reg ≠ 4) :
    Calls Try.prog 93 #[.pointer (some ⟨R, 0, none⟩), .int .i64 reg, .int .u32 x] w fun e w' => e = .returned (.int .i64 6) ∧ w' = w := by
  have hfn := fnw_nil
  go_enter Try.func93, Try.ntmps93
  go_wp2_with fail
  refine (cwriter_no R reg _ h0 h4).mono ?_
  rintro e w' ⟨rfl, hw⟩
  have hw := hw.symm
  subst hw
  go_wp2
  go_ret
  exact ⟨rfl, rfl⟩

set_option maxHeartbeats 400000 in
theorem cwrite_yes {R K : Nat} {S : Nat → Prop} {T Y : Nat → Int} {s : CS} (reg x : Int) (w : World) (hr : reg = 0 ∨ reg = 4) (hm : s.m ≤ 100000) (h : IsCon w R S K T Y s) :
    Calls Try.prog 93 #[.pointer (some ⟨R, 0, none⟩), .int .i64 reg, .int .u32 x] w fun e w' => e = .returned (.int .i64 0) ∧ ∃ S', IsCon w' R S' K T Y (s.wr reg x) ∧ Fr S w w' ∧ Ext w S S' := by
  have HC := Lib.hid h
  clear h
  rcases hr with rfl | rfl
  · have hfn := fnw_send R
    go_enter Try.func93, Try.ntmps93
    go_wp2_with fail
    refine (cwriter_0 R _).mono ?_
    rintro e w' ⟨rfl, hw⟩
    have hw := hw.symm
    subst hw
    go_wp2_with fail
    refine (csend_any x _ hm HC.out).mono ?_
    rintro e w1 ⟨rfl, h1⟩
    have H1 := Lib.hid h1
    clear h1
    go_wp2
    go_ret
    exact ⟨rfl, H1.out⟩
  · have hfn := fnw_settle R
    go_enter Try.func93, Try.ntmps93
    go_wp2_with fail
    refine (cwriter_4 R _).mono ?_
    rintro e w' ⟨rfl, hw⟩
    have hw := hw.symm
    subst hw
    go_wp2_with fail
    refine (csettle_any x _ HC.out).mono ?_
    rintro e w1 ⟨rfl, h1, h2⟩
    have H1 := Lib.hid h1
    have H2 := Lib.hid h2
    clear h1 h2
    go_wp2
    go_ret
    exact ⟨rfl, S, H1.out, H2.out, Ext.refl _ _⟩
end Go.Proofs.Ytkbccccjjlkgbaa

/- Layer 13: timer's functions that change it: the closure that puts a half, set, Write, Skip. -/
namespace Go.Proofs.Ytkbccccjjlkgbaa
open Go.RowKit
set_option linter.unusedVariables false

theorem IsTim.bar {w w' : World} {A P : Nat} {o m : Int} {s : Bool} (h : IsTim w A o m s) (hb : Bar P w w') (hne : A ≠ P) : IsTim w' A o m s := by
  unfold IsTim; rw [hb.2.2.2.2 A h.lt hne]; exact h
theorem IsTim.set0 {w : World} {A : Nat} {o m : Int} {s : Bool} (h : IsTim w A o m s) (x : Int) : IsTim (w.setCell ⟨A, 0, none⟩ (.int .u64 x)) A x m s := heap_setCell_at h
theorem IsTim.set1 {w : World} {A : Nat} {o m : Int} {s : Bool} (h : IsTim w A o m s) (x : Int) : IsTim (w.setCell ⟨A, 1, none⟩ (.int .u64 x)) A o x s := heap_setCell_at h
theorem IsTim.set2 {w : World} {A : Nat} {o m : Int} {s : Bool} (h : IsTim w A o m s) (x : Bool) : IsTim (w.setCell ⟨A, 2, none⟩ (.bool x)) A o m x := heap_setCell_at h

/-- The offset, the mark and the call behind x's being written. -/
def wO (o a x k : Int) : Int := if a = 33603576 then offZ (lowP (nowZ o k) x) k else if a = 33603580 then offZ (highP (nowZ o k) x) k else o
def wM (m a x : Int) : Int := if a = 33570816 then lowP m x else if a = 33570820 then highP m x else m
def wS (s : Bool) (a x : Int) : Bool := if a = 33554432 then x % 2 == 1 else s

set_option maxHeartbeats 800000 in
theorem tput0_any (B : Nat) (n x : Int) (w : World) (n0 : 0 ≤ n) (n1 : n < 18446744073709551616) (x0 : 0 ≤ x) (x1 : x < 4294967296) (hx : w.cell? ⟨B, 0, none⟩ = some (.int .u32 x)) :
    Calls Try.prog 97 #[.int .u64 n, .int .i64 0, .pointer (some ⟨B, 0, none⟩)] w fun e w' => e = .returned (.int .u64 (lowP n x)) ∧ Q w w' := by
  have HV : Hid (bits .or .u64 (bits .andNot .u64 n 4294967295) x = lowP n x) := put_low n0 n1 x0 x1
  clear n0 n1
  go_enter Try.func97, Try.ntmps97
  go_wp2_with fail
  go_quiet (fail)
  go_wp2
  go_ret
  exact ⟨ret_int HV.out, _, rfl⟩

set_option maxHeartbeats 800000 in
theorem tput32_any (B : Nat) (n x : Int) (w : World) (n0 : 0 ≤ n) (n1 : n < 18446744073709551616) (x0 : 0 ≤ x) (x1 : x < 4294967296) (hx : w.cell? ⟨B, 0, none⟩ = some (.int .u32 x)) :
    Calls Try.prog 97 #[.int .u64 n, .int .i64 32, .pointer (some ⟨B, 0, none⟩)] w fun e w' => e = .returned (.int .u64 (highP n x)) ∧ Q w w' := by
  have HV : Hid (bits .or .u64 (bits .andNot .u64 n 18446744069414584320) (x * 4294967296) = highP n x) := put_high n0 n1 x0 x1
  clear n0 n1
  go_enter Try.func97, Try.ntmps97
  go_wp2_with fail
  go_quiet (fail)
  go_wp2
  go_ret
  exact ⟨ret_int HV.out, _, rfl⟩

set_option maxHeartbeats 800000 in
theorem tset_any {A : Nat} {o m : Int} {s : Bool} (n k : Int) (w : World) (h : IsTim w A o m s) :
    Calls Try.prog 98 #[.pointer (some ⟨A, 0, none⟩), .int .u64 n, .int .u64 k] w fun e w' => e = .returned (.tuple #[]) ∧ IsTim w' A (offZ n k) m s ∧ Bar A w w' := by
  have HE : Hid (IsTim (w.setCell ⟨A, 0, none⟩ (.int .u64 (offZ n k))) A (offZ n k) m s ∧ Bar A w (w.setCell ⟨A, 0, none⟩ (.int .u64 (offZ n k)))) := ⟨h.set0 _, Bar.setCell A 0 _ _⟩
  obtain ⟨⟨q0, q1, q2⟩, f0, f1, f2⟩ := three_cells h
  clear h
  go_enter Try.func98, Try.ntmps98
  go_wp2
  go_end0
  exact ⟨rfl, HE.out.1, HE.out.2⟩
theorem bit0_val (x : Int) (h0 : 0 ≤ x) (h1 : x < 4294967296) : bits .and .u32 x 1 = x % 2 := by
  have h := and_low x 1 h0 h1 (by omega) (by omega)
  rw [show pw 1 = 2 from by decide] at h
  exact h

set_option maxHeartbeats 400000 in
theorem twrite_nil (a x k : Int) (w : World) :
    Calls Try.prog 89 #[.pointer none, .int .u32 a, .int .u32 x, .int .u64 k] w fun e w' => e = .returned (.int .i64 6) ∧ Below w.heap.size w w' := by
  have HB : Hid (Below w.heap.size w (w.alloc (.cells #[.int .u32 x] 37))) := (Below.refl _ _).alloc (Nat.le_refl _) _
  go_enter Try.func89, Try.ntmps89
  go_wp2
  go_ret
  exact ⟨rfl, HB.out⟩

set_option maxHeartbeats 400000 in
theorem twrite_no {A : Nat} (a x k : Int) (w : World) (h : hasT a = false) :
    Calls Try.prog 89 #[.pointer (some ⟨A, 0, none⟩), .int .u32 a, .int .u32 x, .int .u64 k] w fun e w' => e = .returned (.int .i64 6) ∧ Below w.heap.size w w' := by
  have HB : Hid (Below w.heap.size w (w.alloc (.cells #[.int .u32 x] 37))) := (Below.refl _ _).alloc (Nat.le_refl _) _
  obtain ⟨⟨h1, h2, h3⟩, h4, h5⟩ := hasT_no h
  clear h
  go_enter Try.func89, Try.ntmps89
  go_wp2
  go_ret
  exact ⟨rfl, HB.out⟩

set_option maxHeartbeats 1600000 in
theorem twrite_soft {A : Nat} {o m : Int} {s : Bool} (x k : Int) (w : World) (h : IsTim w A o m s) (m0 : 0 ≤ m) (m1 : m < 18446744073709551616) (x0 : 0 ≤ x) (x1 : x < 4294967296) :
    Calls Try.prog 89 #[.pointer (some ⟨A, 0, none⟩), .int .u32 33554432, .int .u32 x, .int .u64 k] w fun e w' => e = .returned (.int .i64 0) ∧ IsTim w' A o m (x % 2 == 1) ∧ Bar A w w' := by
  have hA := h.lt
  have hb0 : Below w.heap.size w (w.alloc (.cells #[.int .u32 x] 37)) := (Below.refl _ _).alloc (Nat.le_refl _) _
  have HB0 : Hid (Bar A w (w.alloc (.cells #[.int .u32 x] 37))) := Bar.of A hb0
  have HT0 : Hid (IsTim (w.alloc (.cells #[.int .u32 x] 37)) A o m s) := h.on hb0
  have HX0 : Hid ((w.alloc (.cells #[.int .u32 x] 37)).cell? ⟨w.heap.size, 0, none⟩ = some (.int .u32 x)) := by show (w.alloc _).cell? _ = _; rw [World.cell?_alloc_at _ _ _ _ rfl]; rfl
  have HNE : Hid (w.heap.size ≠ A) := by show w.heap.size ≠ A; omega
  obtain ⟨⟨q0, q1, q2⟩, f0, f1, f2⟩ := three_cells HT0.out
  have HN : Hid _ := nowZ_lt o k
  have HM : Hid (0 ≤ m ∧ m < 18446744073709551616) := ⟨m0, m1⟩
  have HX : Hid (0 ≤ x ∧ x < 4294967296) := ⟨x0, x1⟩
  clear h hA hb0 m0 m1 x0 x1
  have HBIT : Hid (bits .and .u32 x 1 = x % 2) := bit0_val x HX.out.1 HX.out.2
  go_enter Try.func89, Try.ntmps89
  go_wp2
  go_ret
  rw [HBIT.out]
  exact ⟨rfl, HT0.out.set2 _, HB0.out.trans (Bar.setCell A 2 _ _)⟩

set_option maxHeartbeats 1600000 in
theorem twrite_cmp0 {A : Nat} {o m : Int} {s : Bool} (x k : Int) (w : World) (h : IsTim w A o m s) (m0 : 0 ≤ m) (m1 : m < 18446744073709551616) (x0 : 0 ≤ x) (x1 : x < 4294967296) :
    Calls Try.prog 89 #[.pointer (some ⟨A, 0, none⟩), .int .u32 33570816, .int .u32 x, .int .u64 k] w fun e w' => e = .returned (.int .i64 0) ∧ IsTim w' A o (lowP m x) s ∧ Bar A w w' := by
  have hA := h.lt
  have hb0 : Below w.heap.size w (w.alloc (.cells #[.int .u32 x] 37)) := (Below.refl _ _).alloc (Nat.le_refl _) _
  have HB0 : Hid (Bar A w (w.alloc (.cells #[.int .u32 x] 37))) := Bar.of A hb0
  have HT0 : Hid (IsTim (w.alloc (.cells #[.int .u32 x] 37)) A o m s) := h.on hb0
  have HX0 : Hid ((w.alloc (.cells #[.int .u32 x] 37)).cell? ⟨w.heap.size, 0, none⟩ = some (.int .u32 x)) := by show (w.alloc _).cell? _ = _; rw [World.cell?_alloc_at _ _ _ _ rfl]; rfl
  have HNE : Hid (w.heap.size ≠ A) := by show w.heap.size ≠ A; omega
  obtain ⟨⟨q0, q1, q2⟩, f0, f1, f2⟩ := three_cells HT0.out
  have HN : Hid _ := nowZ_lt o k
  have HM : Hid (0 ≤ m ∧ m < 18446744073709551616) := ⟨m0, m1⟩
  have HX : Hid (0 ≤ x ∧ x < 4294967296) := ⟨x0, x1⟩
  clear h hA hb0 m0 m1 x0 x1
  go_enter Try.func89, Try.ntmps89
  go_wp2_with fail
  refine (tput0_any w.heap.size m x _ HM.out.1 HM.out.2 HX.out.1 HX.out.2 HX0.out).mono ?_
  rintro e w1 ⟨rfl, hq⟩
  have HT1 := Lib.hid (HT0.out.q hq)
  have HB1 : Hid (Bar A w w1) := HB0.out.trans (Bar.of A (hq.below _))
  clear hq q0 q1 q2 f0 f1 f2
  obtain ⟨⟨q0, q1, q2⟩, f0, f1, f2⟩ := three_cells HT1.out
  go_wp2
  go_ret
  exact ⟨rfl, HT1.out.set1 _, HB1.out.trans (Bar.setCell A 1 _ _)⟩

set_option maxHeartbeats 1600000 in
theorem twrite_cmp4 {A : Nat} {o m : Int} {s : Bool} (x k : Int) (w : World) (h : IsTim w A o m s) (m0 : 0 ≤ m) (m1 : m < 18446744073709551616) (x0 : 0 ≤ x) (x1 : x < 4294967296) :
    Calls Try.prog 89 #[.pointer (some ⟨A, 0, none⟩), .int .u32 33570820, .int .u32 x, .int .u64 k] w fun e w' => e = .returned (.int .i64 0) ∧ IsTim w' A o (highP m x) s ∧ Bar A w w' := by
  have hA := h.lt
  have hb0 : Below w.heap.size w (w.alloc (.cells #[.int .u32 x] 37)) := (Below.refl _ _).alloc (Nat.le_refl _) _
  have HB0 : Hid (Bar A w (w.alloc (.cells #[.int .u32 x] 37))) := Bar.of A hb0
  have HT0 : Hid (IsTim (w.alloc (.cells #[.int .u32 x] 37)) A o m s) := h.on hb0
  have HX0 : Hid ((w.alloc (.cells #[.int .u32 x] 37)).cell? ⟨w.heap.size, 0, none⟩ = some (.int .u32 x)) := by show (w.alloc _).cell? _ = _; rw [World.cell?_alloc_at _ _ _ _ rfl]; rfl
  have HNE : Hid (w.heap.size ≠ A) := by show w.heap.size ≠ A; omega
  obtain ⟨⟨q0, q1, q2⟩, f0, f1, f2⟩ := three_cells HT0.out
  have HN : Hid _ := nowZ_lt o k
  have HM : Hid (0 ≤ m ∧ m < 18446744073709551616) := ⟨m0, m1⟩
  have HX : Hid (0 ≤ x ∧ x < 4294967296) := ⟨x0, x1⟩
  clear h hA hb0 m0 m1 x0 x1
  go_enter Try.func89, Try.ntmps89
  go_wp2_with fail
  refine (tput32_any w.heap.size m x _ HM.out.1 HM.out.2 HX.out.1 HX.out.2 HX0.out).mono ?_
  rintro e w1 ⟨rfl, hq⟩
  have HT1 := Lib.hid (HT0.out.q hq)
  have HB1 : Hid (Bar A w w1) := HB0.out.trans (Bar.of A (hq.below _))
  clear hq q0 q1 q2 f0 f1 f2
  obtain ⟨⟨q0, q1, q2⟩, f0, f1, f2⟩ := three_cells HT1.out
  go_wp2
  go_ret
  exact ⟨rfl, HT1.out.set1 _, HB1.out.trans (Bar.setCell A 1 _ _)⟩

set_option maxHeartbeats 1600000 in
theorem twrite_time0 {A : Nat} {o m : Int} {s : Bool} (x k : Int) (w : World) (h : IsTim w A o m s) (m0 : 0 ≤ m) (m1 : m < 18446744073709551616) (x0 : 0 ≤ x) (x1 : x < 4294967296) :
    Calls Try.prog 89 #[.pointer (some ⟨A, 0, none⟩), .int .u32 33603576, .int .u32 x, .int .u64 k] w fun e w' => e = .returned (.int .i64 0) ∧ IsTim w' A (offZ (lowP (nowZ o k) x) k) m s ∧ Bar A w w' := by
  have hA := h.lt
  have hb0 : Below w.heap.size w (w.alloc (.cells #[.int .u32 x] 37)) := (Below.refl _ _).alloc (Nat.le_refl _) _
  have HB0 : Hid (Bar A w (w.alloc (.cells #[.int .u32 x] 37))) := Bar.of A hb0
  have HT0 : Hid (IsTim (w.alloc (.cells #[.int .u32 x] 37)) A o m s) := h.on hb0
  have HX0 : Hid ((w.alloc (.cells #[.int .u32 x] 37)).cell? ⟨w.heap.size, 0, none⟩ = some (.int .u32 x)) := by show (w.alloc _).cell? _ = _; rw [World.cell?_alloc_at _ _ _ _ rfl]; rfl
  have HNE : Hid (w.heap.size ≠ A) := by show w.heap.size ≠ A; omega
  obtain ⟨⟨q0, q1, q2⟩, f0, f1, f2⟩ := three_cells HT0.out
  have HN : Hid _ := nowZ_lt o k
  have HM : Hid (0 ≤ m ∧ m < 18446744073709551616) := ⟨m0, m1⟩
  have HX : Hid (0 ≤ x ∧ x < 4294967296) := ⟨x0, x1⟩
  clear h hA hb0 m0 m1 x0 x1
  go_enter Try.func89, Try.ntmps89
  go_wp2_with fail
  refine (tnow_any k _ HT0.out).mono ?_
  rintro e w' ⟨rfl, hw⟩
  have hw := hw.symm
  subst hw
  go_wp2_with fail
  refine (tput0_any w.heap.size (nowZ o k) x _ HN.out.1 HN.out.2 HX.out.1 HX.out.2 HX0.out).mono ?_
  rintro e w1 ⟨rfl, hq⟩
  have HT1 := Lib.hid (HT0.out.q hq)
  have HB1 : Hid (Bar A w w1) := HB0.out.trans (Bar.of A (hq.below _))
  clear hq q0 q1 q2 f0 f1 f2
  go_wp2_with fail
  refine (tset_any (lowP (nowZ o k) x) k w1 HT1.out).mono ?_
  rintro e w2 ⟨rfl, ht2, hb2⟩
  have HT2 := Lib.hid ht2
  have HB2 : Hid (Bar A w w2) := HB1.out.trans hb2
  clear ht2 hb2
  go_wp2
  go_ret
  exact ⟨rfl, HT2.out, HB2.out⟩

set_option maxHeartbeats 1600000 in
theorem twrite_time4 {A : Nat} {o m : Int} {s : Bool} (x k : Int) (w : World) (h : IsTim w A o m s) (m0 : 0 ≤ m) (m1 : m < 18446744073709551616) (x0 : 0 ≤ x) (x1 : x < 4294967296) :
    Calls Try.prog 89 #[.pointer (some ⟨A, 0, none⟩), .int .u32 33603580, .int .u32 x, .int .u64 k] w fun e w' => e = .returned (.int .i64 0) ∧ IsTim w' A (offZ (highP (nowZ o k) x) k) m s ∧ Bar A w w' := by
  have hA := h.lt
  have hb0 : Below w.heap.size w (w.alloc (.cells #[.int .u32 x] 37)) := (Below.refl _ _).alloc (Nat.le_refl _) _
  have HB0 : Hid (Bar A w (w.alloc (.cells #[.int .u32 x] 37))) := Bar.of A hb0
  have HT0 : Hid (IsTim (w.alloc (.cells #[.int .u32 x] 37)) A o m s) := h.on hb0
  have HX0 : Hid ((w.alloc (.cells #[.int .u32 x] 37)).cell? ⟨w.heap.size, 0, none⟩ = some (.int .u32 x)) := by show (w.alloc _).cell? _ = _; rw [World.cell?_alloc_at _ _ _ _ rfl]; rfl
  have HNE : Hid (w.heap.size ≠ A) := by show w.heap.size ≠ A; omega
  obtain ⟨⟨q0, q1, q2⟩, f0, f1, f2⟩ := three_cells HT0.out
  have HN : Hid _ := nowZ_lt o k
  have HM : Hid (0 ≤ m ∧ m < 18446744073709551616) := ⟨m0, m1⟩
  have HX : Hid (0 ≤ x ∧ x < 4294967296) := ⟨x0, x1⟩
  clear h hA hb0 m0 m1 x0 x1
  go_enter Try.func89, Try.ntmps89
  go_wp2_with fail
  refine (tnow_any k _ HT0.out).mono ?_
  rintro e w' ⟨rfl, hw⟩
  have hw := hw.symm
  subst hw
  go_wp2_with fail
  refine (tput32_any w.heap.size (nowZ o k) x _ HN.out.1 HN.out.2 HX.out.1 HX.out.2 HX0.out).mono ?_
  rintro e w1 ⟨rfl, hq⟩
  have HT1 := Lib.hid (HT0.out.q hq)
  have HB1 : Hid (Bar A w w1) := HB0.out.trans (Bar.of A (hq.below _))
  clear hq q0 q1 q2 f0 f1 f2
  go_wp2_with fail
  refine (tset_any (highP (nowZ o k) x) k w1 HT1.out).mono ?_
  rintro e w2 ⟨rfl, ht2, hb2⟩
  have HT2 := Lib.hid ht2
  have HB2 : Hid (Bar A w w2) := HB1.out.trans hb2
  clear ht2 hb2
  go_wp2
  go_ret
  exact ⟨rfl, HT2.out, HB2.out⟩

theorem twrite_yes {A : Nat} {o m : Int} {s : Bool} (a x k : Int) (w : World) (ha : hasT a = true) (h : IsTim w A o m s) (m0 : 0 ≤ m) (m1 : m < 18446744073709551616) (x0 : 0 ≤ x) (x1 : x < 4294967296) :
    Calls Try.prog 89 #[.pointer (some ⟨A, 0, none⟩), .int .u32 a, .int .u32 x, .int .u64 k] w fun e w' => e = .returned (.int .i64 0) ∧ IsTim w' A (wO o a x k) (wM m a x) (wS s a x) ∧ Bar A w w' := by
  rcases hasT_yes ha with rfl | rfl | rfl | rfl | rfl
  · exact twrite_soft x k w h m0 m1 x0 x1
  · exact twrite_cmp0 x k w h m0 m1 x0 x1
  · exact twrite_cmp4 x k w h m0 m1 x0 x1
  · exact twrite_time0 x k w h m0 m1 x0 x1
  · exact twrite_time4 x k w h m0 m1 x0 x1

end Go.Proofs.Ytkbccccjjlkgbaa

/- Layer 14: a bus as a block, and its parts. -/
namespace Go.Proofs.Ytkbccccjjlkgbaa
open Go.RowKit
set_option linter.unusedVariables false
set_option linter.unusedSimpArgs false
set_option maxRecDepth 100000

/-- The block of a bus: its parts' blocks. -/
def BusC (w : World) (B R C A : Nat) (off : Bool) (code : Int) : Prop :=
  w.heap[B]? = some (.cells #[.pointer (some ⟨R, 0, none⟩), .pointer (some ⟨C, 0, none⟩), .pointer (some ⟨A, 0, none⟩), .bool off, .int .u32 code] 94 (0, 0))
theorem BusC.lt {w : World} {B R C A : Nat} {off : Bool} {code : Int} (h : BusC w B R C A off code) : B < w.heap.size := (Array.getElem?_eq_some_iff.1 h).1
theorem BusC.keep {w w' : World} {B R C A : Nat} {off : Bool} {code : Int} (h : BusC w B R C A off code) (hb : w'.heap[B]? = w.heap[B]?) : BusC w' B R C A off code := by unfold BusC; rw [hb]; exact h
theorem BusC.on {w w' : World} {B R C A : Nat} {off : Bool} {code : Int} (h : BusC w B R C A off code) (hb : Below w.heap.size w w') : BusC w' B R C A off code := h.keep (hb.block B h.lt)
theorem BusC.q {w w' : World} {B R C A : Nat} {off : Bool} {code : Int} (h : BusC w B R C A off code) (hb : Q w w') : BusC w' B R C A off code := h.on (hb.below _)
theorem BusC.bar {w w' : World} {B R C A P : Nat} {off : Bool} {code : Int} (h : BusC w B R C A off code) (hb : Bar P w w') (hP : B ≠ P) : BusC w' B R C A off code := h.keep (hb.2.2.2.2 B h.lt hP)
theorem BusC.fr {S : Nat → Prop} {w w' : World} {B R C A : Nat} {off : Bool} {code : Int} (h : BusC w B R C A off code) (hb : Fr S w w') (hP : ¬ S B) : BusC w' B R C A off code := h.keep (hb.block h.lt hP)

set_option maxHeartbeats 400000 in
theorem bram_nil (w : World) :
    Calls Try.prog 16 #[.pointer none] w fun e w' => e = .returned (.pointer none) ∧ w' = w := by
  go_enter Try.func16, Try.ntmps16
  go_wp2
  go_ret
  exact ⟨rfl, rfl⟩

set_option maxHeartbeats 400000 in
theorem bram_any {B R C A : Nat} {off : Bool} {code : Int} (w : World) (h : BusC w B R C A off code) :
    Calls Try.prog 16 #[.pointer (some ⟨B, 0, none⟩)] w fun e w' => e = .returned (.pointer (some ⟨R, 0, none⟩)) ∧ w' = w := by
  obtain ⟨⟨q0, q1, q2, q3, q4⟩, -⟩ := five_cells h
  clear h
  go_enter Try.func16, Try.ntmps16
  go_wp2
  go_ret
  exact ⟨rfl, rfl⟩

set_option maxHeartbeats 400000 in
theorem bcon_nil (w : World) :
    Calls Try.prog 28 #[.pointer none] w fun e w' => e = .returned (.pointer none) ∧ w' = w := by
  go_enter Try.func28, Try.ntmps28
  go_wp2
  go_ret
  exact ⟨rfl, rfl⟩

set_option maxHeartbeats 400000 in
theorem bcon_any {B R C A : Nat} {off : Bool} {code : Int} (w : World) (h : BusC w B R C A off code) :
    Calls Try.prog 28 #[.pointer (some ⟨B, 0, none⟩)] w fun e w' => e = .returned (.pointer (some ⟨C, 0, none⟩)) ∧ w' = w := by
  obtain ⟨⟨q0, q1, q2, q3, q4⟩, -⟩ := five_cells h
  clear h
  go_enter Try.func28, Try.ntmps28
  go_wp2
  go_ret
  exact ⟨rfl, rfl⟩

set_option maxHeartbeats 400000 in
theorem btim_nil (w : World) :
    Calls Try.prog 29 #[.pointer none] w fun e w' => e = .returned (.pointer none) ∧ w' = w := by
  go_enter Try.func29, Try.ntmps29
  go_wp2
  go_ret
  exact ⟨rfl, rfl⟩

set_option maxHeartbeats 400000 in
theorem btim_any {B R C A : Nat} {off : Bool} {code : Int} (w : World) (h : BusC w B R C A off code) :
    Calls Try.prog 29 #[.pointer (some ⟨B, 0, none⟩)] w fun e w' => e = .returned (.pointer (some ⟨A, 0, none⟩)) ∧ w' = w := by
  obtain ⟨⟨q0, q1, q2, q3, q4⟩, -⟩ := five_cells h
  clear h
  go_enter Try.func29, Try.ntmps29
  go_wp2
  go_ret
  exact ⟨rfl, rfl⟩

set_option maxHeartbeats 400000 in
theorem boff_nil (w : World) :
    Calls Try.prog 22 #[.pointer none] w fun e w' => e = .returned (.tuple #[.int .u32 0, .bool false]) ∧ w' = w := by
  go_enter Try.func22, Try.ntmps22
  go_wp2
  go_ret2
  exact ⟨rfl, rfl⟩

set_option maxHeartbeats 400000 in
theorem boff_any {B R C A : Nat} {off : Bool} {code : Int} (w : World) (h : BusC w B R C A off code) :
    Calls Try.prog 22 #[.pointer (some ⟨B, 0, none⟩)] w fun e w' => e = .returned (.tuple #[.int .u32 code, .bool off]) ∧ Q w w' := by
  obtain ⟨⟨q0, q1, q2, q3, q4⟩, -⟩ := five_cells h
  clear h
  go_enter Try.func22, Try.ntmps22
  go_wp2_with fail
  go_quiet (fail)
  go_wp2
  go_ret2
  exact ⟨rfl, _, rfl⟩

set_option maxHeartbeats 400000 in
theorem isport_any (a : Int) (w : World) :
    Calls Try.prog 81 #[.int .u32 a] w fun e w' => e = .returned (.bool (a == 1048576)) ∧ w' = w := by
  cases h : a == 1048576
  all_goals
    go_enter Try.func81, Try.ntmps81
    go_wp2
    go_ret
    exact ⟨ret_bool (by first | exact h | exact h.symm | simp [h]), rfl⟩

set_option maxHeartbeats 400000 in
theorem iscon_any (a : Int) (w : World) :
    Calls Try.prog 84 #[.int .u32 a] w fun e w' => e = .returned (.bool (a == 268435456 || a == 268435460)) ∧ w' = w := by
  cases h : a == 268435456
  · cases h1 : a == 268435460
    all_goals
      go_enter Try.func84, Try.ntmps84
      go_wp2
      go_ret
      exact ⟨ret_bool (by simp [h, h1]), rfl⟩
  · go_enter Try.func84, Try.ntmps84
    go_wp2
    go_ret
    exact ⟨ret_bool (by simp [h]), rfl⟩

set_option maxHeartbeats 400000 in
theorem loadport_any (v : Value) (a k : Int) (w : World) :
    Calls Try.prog 82 #[v, .int .u32 a, .int .u64 k] w fun e w' => e = .returned (.tuple #[.int .u32 0, .int .i64 0]) ∧ w' = w := by
  go_enter Try.func82, Try.ntmps82
  go_wp2
  go_ret2
  exact ⟨rfl, rfl⟩

set_option maxHeartbeats 400000 in
theorem storeport_any {B R C A : Nat} {off : Bool} {code : Int} (a x k : Int) (w : World) (h : BusC w B R C A off code) :
    Calls Try.prog 83 #[.pointer (some ⟨B, 0, none⟩), .int .u32 a, .int .u32 x, .int .u64 k] w fun e w' => e = .returned (.int .i64 0) ∧ BusC w' B R C A true x ∧ Bar B w w' := by
  have HE : Hid (BusC ((w.setCell ⟨B, 3, none⟩ (.bool true)).setCell ⟨B, 4, none⟩ (.int .u32 x)) B R C A true x ∧ Bar B w ((w.setCell ⟨B, 3, none⟩ (.bool true)).setCell ⟨B, 4, none⟩ (.int .u32 x))) := ⟨heap_setCell_at (heap_setCell_at h), (Bar.setCell _ _ _ _).trans (Bar.setCell _ _ _ _)⟩
  obtain ⟨⟨q0, q1, q2, q3, q4⟩, f0, f1, f2, f3, f4⟩ := five_cells h
  clear h
  go_enter Try.func83, Try.ntmps83
  go_wp2
  go_ret
  exact ⟨rfl, HE.out⟩

set_option maxHeartbeats 400000 in
theorem bnew_no {r c t : Option Addr} (w : World) (h : r = none ∨ c = none ∨ t = none) :
    Calls Try.prog 25 #[.pointer r, .pointer c, .pointer t] w fun e w' => e = .returned (.tuple #[.pointer none, .int .i64 2]) ∧ w' = w := by
  rcases r with _ | r
  · clear h
    go_enter Try.func25, Try.ntmps25
    go_wp2
    go_ret2
    exact ⟨rfl, rfl⟩
  · rcases c with _ | c
    · clear h
      go_enter Try.func25, Try.ntmps25
      go_wp2
      go_ret2
      exact ⟨rfl, rfl⟩
    · rcases t with _ | t
      · clear h
        go_enter Try.func25, Try.ntmps25
        go_wp2
        go_ret2
        exact ⟨rfl, rfl⟩
      · rcases h with h | h | h <;> exact absurd h (by simp)

set_option maxHeartbeats 400000 in
theorem bnew_yes (R C A : Nat) (w : World) :
    Calls Try.prog 25 #[.pointer (some ⟨R, 0, none⟩), .pointer (some ⟨C, 0, none⟩), .pointer (some ⟨A, 0, none⟩)] w fun e w' => e = .returned (.tuple #[.pointer (some ⟨w.heap.size, 0, none⟩), .int .i64 0]) ∧ BusC w' w.heap.size R C A false 0 ∧ Below w.heap.size w w' := by
  go_enter Try.func25, Try.ntmps25
  go_wp2
  go_ret2
  exact ⟨rfl, heap_alloc_new _ _, (Below.refl _ _).alloc (Nat.le_refl _) _⟩
end Go.Proofs.Ytkbccccjjlkgbaa

/- Layer 14: the table of devices. -/
namespace Go.Proofs.Ytkbccccjjlkgbaa
open Go.RowKit
set_option linter.unusedVariables false
set_option maxRecDepth 100000

/-- A function without what is bound; a method of what lies in block B. -/
abbrev fnV (f : Nat) : Value := .func (.func f) #[] #[]
abbrev mtV (f B : Nat) : Value := .func (.func f) #[.pointer (some ⟨B, 0, none⟩)] #[]
/-- The table's cells. -/
abbrev devC (B A : Nat) : Array Value := #[fnV 81, mtV 82 B, mtV 83 B, fnV 84, mtV 85 B, mtV 86 B, fnV 87, mtV 88 A, mtV 89 A]

set_option maxHeartbeats 1600000 in
theorem devices_any {B R C A : Nat} {off : Bool} {code : Int} (w : World) (h : BusC w B R C A off code) :
    Calls Try.prog 68 #[.pointer (some ⟨B, 0, none⟩)] w fun e w' => e = .returned (.slice (some ⟨w.heap.size, 0, none⟩) 3 3) ∧ w'.heap[w.heap.size]? = some (.cells (devC B A) 89 (0, 0)) ∧ Below w.heap.size w w' := by
  obtain ⟨⟨q0, q1, q2, q3, q4⟩, -⟩ := five_cells h
  clear h q0 q1 q3 q4
  go_enter Try.func68, Try.ntmps68
  go_wp2_with fail
  go_region
  go_wp2
  go_ret
  refine ⟨rfl, ?_, ?_⟩
  · first | exact heap_alloc_new _ _ | simpa using heap_alloc_new w.drew _
  · first | exact ((Below.refl w.heap.size w).drew).alloc (Nat.le_refl _) _ | exact (Below.refl _ _).alloc (Nat.le_refl _) _
end Go.Proofs.Ytkbccccjjlkgbaa

/- Layer 13, the document's side: its timer as a value of three cells. -/
namespace Go.Proofs.Ytkbccccjjlkgbaa
open Go.RowKit
set_option linter.unusedVariables false

/-- The document's timer in a block A. -/
def Box3 (w : World) (A : Nat) (o m : Int) (s : Bool) : Prop := w.heap[A]? = some (.cells #[.int .u64 o, .int .u64 m, .bool s] 35 (0, 0))
theorem Box3.lt {w : World} {A : Nat} {o m : Int} {s : Bool} (h : Box3 w A o m s) : A < w.heap.size := (Array.getElem?_eq_some_iff.1 h).1
theorem Box3.on {w w' : World} {A : Nat} {o m : Int} {s : Bool} (h : Box3 w A o m s) (hb : Below w.heap.size w w') : Box3 w' A o m s := by
  unfold Box3; rw [hb.block A h.lt]; exact h
theorem Box3.bar {w w' : World} {A P : Nat} {o m : Int} {s : Bool} (h : Box3 w A o m s) (hb : Bar P w w') (hne : A ≠ P) : Box3 w' A o m s := by
  unfold Box3; rw [hb.2.2.2.2 A h.lt hne]; exact h
theorem box3_new (w : World) (o m : Int) (s : Bool) : Box3 (w.alloc (.cells #[.int .u64 o, .int .u64 m, .bool s] 35)) w.heap.size o m s := heap_alloc_new _ _

set_option maxHeartbeats 400000 in
theorem rhas13_any (a : Int) (w : World) :
    Calls Try.prog 44 #[.int .u32 a] w fun e w' => e = .returned (.bool (hasT a)) ∧ w' = w := by
  cases h : hasT a
  · obtain ⟨⟨h1, h2, h3⟩, h4, h5⟩ := hasT_no h
    clear h
    go_enter Try.func44, Try.ntmps44
    go_wp2
    go_ret
    exact ⟨rfl, rfl⟩
  · rcases hasT_yes h with rfl | rfl | rfl | rfl | rfl
    all_goals
      clear h
      go_enter Try.func44, Try.ntmps44
      go_wp2
      go_ret
      exact ⟨rfl, rfl⟩

set_option maxHeartbeats 400000 in
theorem rnow13_any (o m : Int) (s : Bool) (k : Int) (w : World) :
    Calls Try.prog 74 #[.agg #[.int .u64 o, .int .u64 m, .bool s], .int .u64 k] w fun e w' => e = .returned (.int .u64 (nowZ o k)) ∧ Below w.heap.size w w' := by
  have HB : Hid (Below w.heap.size w (w.alloc (.cells #[.int .u64 o, .int .u64 m, .bool s] 35))) := (Below.refl _ _).alloc (Nat.le_refl _) _
  go_enter Try.func74, Try.ntmps74
  go_wp2
  go_ret
  exact ⟨ret_int rfl, HB.out⟩

set_option maxHeartbeats 800000 in
theorem rup13_any (o m : Int) (s : Bool) (k : Int) (w : World) :
    Calls Try.prog 62 #[.agg #[.int .u64 o, .int .u64 m, .bool s], .int .u64 k] w fun e w' => e = .returned (.bool (upB o m k)) ∧ Below w.heap.size w w' := by
  have hb0 : Below w.heap.size w (w.alloc (.cells #[.int .u64 o, .int .u64 m, .bool s] 35)) := (Below.refl _ _).alloc (Nat.le_refl _) _
  have hx0 := box3_new w o m s
  go_enter Try.func62, Try.ntmps62
  go_wp2_with fail
  generalize w.alloc (.cells #[.int .u64 o, .int .u64 m, .bool s] 35) = W at *
  have HB0 := Lib.hid hb0
  have HX0 := Lib.hid hx0
  obtain ⟨⟨c0, c1, c2⟩, -⟩ := three_cells hx0
  clear hb0 hx0
  go_region_held3 (fun w' => w'.cell? ⟨w.heap.size, 0, none⟩ = some (.int .u64 o) ∧ w'.cell? ⟨w.heap.size, 1, none⟩ = some (.int .u64 m) ∧ w'.cell? ⟨w.heap.size, 2, none⟩ = some (.bool s)) (first | (refine ⟨?_, ?_, ?_⟩ <;> assumption) | simp)
    (first
      | (go_at_call 74; refine (rnow13_any o m s k _).mono ?_; rintro e w2 ⟨rfl, hb2⟩; have HB2 := Lib.hid (HB0.out.drew.trans (hb2.mono HB0.out.drew.size)); obtain ⟨⟨p0, p1, p2⟩, -⟩ := three_cells ((HX0.out.on ((Below.refl W.heap.size W).drew)).on hb2); clear hb2))
  all_goals go_wp2
  all_goals go_ret
  all_goals exact ⟨ret_bool rfl, HB2.out⟩

set_option maxHeartbeats 800000 in
theorem rread13_any (o m : Int) (s : Bool) (a k : Int) (w : World) (ha : hasT a = true) (m0 : 0 ≤ m) (m1 : m < 18446744073709551616) :
    Calls Try.prog 53 #[.agg #[.int .u64 o, .int .u64 m, .bool s], .int .u32 a, .int .u64 k] w fun e w' => e = .returned (.int .u32 (readT o m s a k)) ∧ Below w.heap.size w w' := by
  have HB0 : Hid (Below w.heap.size w (w.alloc (.cells #[.int .u64 o, .int .u64 m, .bool s] 35))) := (Below.refl _ _).alloc (Nat.le_refl _) _
  have HN : Hid _ := nowZ_lt o k
  have HM : Hid (0 ≤ m ∧ m < 18446744073709551616) := ⟨m0, m1⟩
  rcases hasT_yes ha with rfl | rfl | rfl | rfl | rfl
  · clear ha
    cases s
    all_goals
      go_enter Try.func53, Try.ntmps53
      go_wp2
      go_ret
      exact ⟨ret_int rfl, HB0.out⟩
  · clear ha
    go_enter Try.func53, Try.ntmps53
    go_wp2
    go_ret
    exact ⟨ret_int rfl, HB0.out⟩
  · clear ha
    go_enter Try.func53, Try.ntmps53
    go_wp2
    go_ret
    exact ⟨ret_int rfl, HB0.out⟩
  all_goals
    clear ha
    go_enter Try.func53, Try.ntmps53
    go_wp2_with fail
    refine (rnow13_any o m s k _).mono ?_
    rintro e w1 ⟨rfl, hb1⟩
    have HB1 := Lib.hid (HB0.out.trans (hb1.mono HB0.out.size))
    clear hb1
    have hn0 := HN.out.1
    have hn1 := HN.out.2
    go_wp2
    go_ret
    exact ⟨ret_int rfl, HB1.out⟩

/-- The two blocks at the head of the document's functions: the timer that came, and the result. -/
abbrev zero3 : Obj := .cells #[.int .u64 0, .int .u64 0, .bool false] 35

theorem two_box3 (w : World) (o m : Int) (s : Bool) :
    Box3 ((w.alloc (.cells #[.int .u64 o, .int .u64 m, .bool s] 35)).alloc zero3) w.heap.size o m s ∧
    Box3 ((w.alloc (.cells #[.int .u64 o, .int .u64 m, .bool s] 35)).alloc zero3) (w.heap.size + 1) 0 0 false ∧
    Below w.heap.size w ((w.alloc (.cells #[.int .u64 o, .int .u64 m, .bool s] 35)).alloc zero3) := by
  refine ⟨?_, ?_, ((Below.refl _ _).alloc (Nat.le_refl _) _).alloc (by simp) _⟩
  · unfold Box3
    rw [heap_alloc_old _ _ (by simp)]
    exact heap_alloc_new _ _
  · unfold Box3
    have := heap_alloc_new (w.alloc (.cells #[.int .u64 o, .int .u64 m, .bool s] 35)) zero3
    simpa [zero3] using this
theorem bar3 (C : Nat) (w : World) (a b c : Value) : Bar C w (((w.setCell ⟨C, 0, none⟩ a).setCell ⟨C, 1, none⟩ b).setCell ⟨C, 2, none⟩ c) := ((Bar.setCell _ _ _ _).trans (Bar.setCell _ _ _ _)).trans (Bar.setCell _ _ _ _)
theorem end3 {w W : World} (o : Nat) (u a b c : Value) (h : Below w.heap.size w W) : Below w.heap.size w ((((W.setCell ⟨w.heap.size, o, none⟩ u).setCell ⟨w.heap.size + 1, 0, none⟩ a).setCell ⟨w.heap.size + 1, 1, none⟩ b).setCell ⟨w.heap.size + 1, 2, none⟩ c) := by
  have h1 := h.trans ((Bar.setCell w.heap.size o W u).below (Nat.le_refl _) h.size)
  exact h1.trans ((bar3 (w.heap.size + 1) _ a b c).below (by omega) h1.size)
theorem end3' {w W : World} (a b c : Value) (h : Below w.heap.size w W) : Below w.heap.size w (((W.setCell ⟨w.heap.size + 1, 0, none⟩ a).setCell ⟨w.heap.size + 1, 1, none⟩ b).setCell ⟨w.heap.size + 1, 2, none⟩ c) :=
  h.trans ((bar3 (w.heap.size + 1) _ a b c).below (by omega) h.size)

set_option maxHeartbeats 1600000 in
theorem rwrite13_soft (o m : Int) (s : Bool) (x k : Int) (w : World) (m0 : 0 ≤ m) (m1 : m < 18446744073709551616) (x0 : 0 ≤ x) (x1 : x < 4294967296) :
    Calls Try.prog 57 #[.agg #[.int .u64 o, .int .u64 m, .bool s], .int .u32 33554432, .int .u32 x, .int .u64 k] w fun e w' => e = .returned (.agg #[.int .u64 o, .int .u64 m, .bool (x % 2 == 1)]) ∧ Below w.heap.size w w' := by
  obtain ⟨hb1, hb2, hB0⟩ := two_box3 w o m s
  obtain ⟨W0, hW0⟩ : ∃ W0, W0 = (w.alloc (.cells #[.int .u64 o, .int .u64 m, .bool s] 35)).alloc zero3 := ⟨_, rfl⟩
  rw [← hW0] at hb1 hb2 hB0
  have HW0 := Lib.hid hW0
  have HB0 := Lib.hid hB0
  have HB1 := Lib.hid hb1
  have HB2 := Lib.hid hb2
  have HN : Hid _ := nowZ_lt o k
  have HM : Hid (0 ≤ m ∧ m < 18446744073709551616) := ⟨m0, m1⟩
  have HX : Hid (0 ≤ x ∧ x < 4294967296) := ⟨x0, x1⟩
  clear hW0 hB0 hb1 hb2 m0 m1
  obtain ⟨⟨b0, b1, b2⟩, z0, z1, z2⟩ := three_cells HB1.out
  go_enter Try.func57, Try.ntmps57
  go_wp2_with fail
  rw [← HW0.out]
  go_wp2_with fail
  refine (rnow13_any o m s k _).mono ?_
  rintro e w1 ⟨rfl, hb⟩
  have HC1 := Lib.hid (HB1.out.on hb)
  have HC2 := Lib.hid (HB2.out.on hb)
  have HBB := Lib.hid (HB0.out.trans (hb.mono HB0.out.size))
  clear hb b0 b1 b2 z0 z1 z2
  obtain ⟨⟨b0, b1, b2⟩, z0, z1, z2⟩ := three_cells HC1.out
  obtain ⟨⟨r0, r1, r2⟩, y0, y1, y2⟩ := three_cells HC2.out
  have hn0 := HN.out.1
  have hn1 := HN.out.2
  have hm0 := HM.out.1
  have hm1 := HM.out.2
  go_wp2
  refine bodyPost_ret (v := .agg #[.int .u64 o, .int .u64 m, .bool (x % 2 == 1)]) (by simp [results, Try.results57, go_sem, r0, r1, r2]) rfl ?_
  exact ⟨rfl, end3 _ _ _ _ _ HBB.out⟩

set_option maxHeartbeats 1600000 in
theorem rwrite13_cmp0 (o m : Int) (s : Bool) (x k : Int) (w : World) (m0 : 0 ≤ m) (m1 : m < 18446744073709551616) (x0 : 0 ≤ x) (x1 : x < 4294967296) :
    Calls Try.prog 57 #[.agg #[.int .u64 o, .int .u64 m, .bool s], .int .u32 33570816, .int .u32 x, .int .u64 k] w fun e w' => e = .returned (.agg #[.int .u64 o, .int .u64 (lowP m x), .bool s]) ∧ Below w.heap.size w w' := by
  obtain ⟨hb1, hb2, hB0⟩ := two_box3 w o m s
  obtain ⟨W0, hW0⟩ : ∃ W0, W0 = (w.alloc (.cells #[.int .u64 o, .int .u64 m, .bool s] 35)).alloc zero3 := ⟨_, rfl⟩
  rw [← hW0] at hb1 hb2 hB0
  have HW0 := Lib.hid hW0
  have HB0 := Lib.hid hB0
  have HB1 := Lib.hid hb1
  have HB2 := Lib.hid hb2
  have HN : Hid _ := nowZ_lt o k
  have HM : Hid (0 ≤ m ∧ m < 18446744073709551616) := ⟨m0, m1⟩
  have HX : Hid (0 ≤ x ∧ x < 4294967296) := ⟨x0, x1⟩
  clear hW0 hB0 hb1 hb2 m0 m1
  obtain ⟨⟨b0, b1, b2⟩, z0, z1, z2⟩ := three_cells HB1.out
  go_enter Try.func57, Try.ntmps57
  go_wp2_with fail
  rw [← HW0.out]
  go_wp2_with fail
  refine (rnow13_any o m s k _).mono ?_
  rintro e w1 ⟨rfl, hb⟩
  have HC1 := Lib.hid (HB1.out.on hb)
  have HC2 := Lib.hid (HB2.out.on hb)
  have HBB := Lib.hid (HB0.out.trans (hb.mono HB0.out.size))
  clear hb b0 b1 b2 z0 z1 z2
  obtain ⟨⟨b0, b1, b2⟩, z0, z1, z2⟩ := three_cells HC1.out
  obtain ⟨⟨r0, r1, r2⟩, y0, y1, y2⟩ := three_cells HC2.out
  have hn0 := HN.out.1
  have hn1 := HN.out.2
  have hm0 := HM.out.1
  have hm1 := HM.out.2
  go_wp2
  refine bodyPost_ret (v := .agg #[.int .u64 o, .int .u64 (lowP m x), .bool s]) (by simp [results, Try.results57, go_sem, r0, r1, r2, lowP]) rfl ?_
  exact ⟨rfl, end3 _ _ _ _ _ HBB.out⟩

set_option maxHeartbeats 1600000 in
theorem rwrite13_cmp4 (o m : Int) (s : Bool) (x k : Int) (w : World) (m0 : 0 ≤ m) (m1 : m < 18446744073709551616) (x0 : 0 ≤ x) (x1 : x < 4294967296) :
    Calls Try.prog 57 #[.agg #[.int .u64 o, .int .u64 m, .bool s], .int .u32 33570820, .int .u32 x, .int .u64 k] w fun e w' => e = .returned (.agg #[.int .u64 o, .int .u64 (highP m x), .bool s]) ∧ Below w.heap.size w w' := by
  obtain ⟨hb1, hb2, hB0⟩ := two_box3 w o m s
  obtain ⟨W0, hW0⟩ : ∃ W0, W0 = (w.alloc (.cells #[.int .u64 o, .int .u64 m, .bool s] 35)).alloc zero3 := ⟨_, rfl⟩
  rw [← hW0] at hb1 hb2 hB0
  have HW0 := Lib.hid hW0
  have HB0 := Lib.hid hB0
  have HB1 := Lib.hid hb1
  have HB2 := Lib.hid hb2
  have HN : Hid _ := nowZ_lt o k
  have HM : Hid (0 ≤ m ∧ m < 18446744073709551616) := ⟨m0, m1⟩
  have HX : Hid (0 ≤ x ∧ x < 4294967296) := ⟨x0, x1⟩
  clear hW0 hB0 hb1 hb2 m0 m1
  obtain ⟨⟨b0, b1, b2⟩, z0, z1, z2⟩ := three_cells HB1.out
  go_enter Try.func57, Try.ntmps57
  go_wp2_with fail
  rw [← HW0.out]
  go_wp2_with fail
  refine (rnow13_any o m s k _).mono ?_
  rintro e w1 ⟨rfl, hb⟩
  have HC1 := Lib.hid (HB1.out.on hb)
  have HC2 := Lib.hid (HB2.out.on hb)
  have HBB := Lib.hid (HB0.out.trans (hb.mono HB0.out.size))
  clear hb b0 b1 b2 z0 z1 z2
  obtain ⟨⟨b0, b1, b2⟩, z0, z1, z2⟩ := three_cells HC1.out
  obtain ⟨⟨r0, r1, r2⟩, y0, y1, y2⟩ := three_cells HC2.out
  have hn0 := HN.out.1
  have hn1 := HN.out.2
  have hm0 := HM.out.1
  have hm1 := HM.out.2
  go_wp2
  refine bodyPost_ret (v := .agg #[.int .u64 o, .int .u64 (highP m x), .bool s]) (by simp [results, Try.results57, go_sem, r0, r1, r2, highP]) rfl ?_
  exact ⟨rfl, end3 _ _ _ _ _ HBB.out⟩

set_option maxHeartbeats 1600000 in
theorem rwrite13_time0 (o m : Int) (s : Bool) (x k : Int) (w : World) (m0 : 0 ≤ m) (m1 : m < 18446744073709551616) (x0 : 0 ≤ x) (x1 : x < 4294967296) :
    Calls Try.prog 57 #[.agg #[.int .u64 o, .int .u64 m, .bool s], .int .u32 33603576, .int .u32 x, .int .u64 k] w fun e w' => e = .returned (.agg #[.int .u64 (offZ (lowP (nowZ o k) x) k), .int .u64 m, .bool s]) ∧ Below w.heap.size w w' := by
  obtain ⟨hb1, hb2, hB0⟩ := two_box3 w o m s
  obtain ⟨W0, hW0⟩ : ∃ W0, W0 = (w.alloc (.cells #[.int .u64 o, .int .u64 m, .bool s] 35)).alloc zero3 := ⟨_, rfl⟩
  rw [← hW0] at hb1 hb2 hB0
  have HW0 := Lib.hid hW0
  have HB0 := Lib.hid hB0
  have HB1 := Lib.hid hb1
  have HB2 := Lib.hid hb2
  have HN : Hid _ := nowZ_lt o k
  have HM : Hid (0 ≤ m ∧ m < 18446744073709551616) := ⟨m0, m1⟩
  have HX : Hid (0 ≤ x ∧ x < 4294967296) := ⟨x0, x1⟩
  clear hW0 hB0 hb1 hb2 m0 m1
  obtain ⟨⟨b0, b1, b2⟩, z0, z1, z2⟩ := three_cells HB1.out
  go_enter Try.func57, Try.ntmps57
  go_wp2_with fail
  rw [← HW0.out]
  go_wp2_with fail
  refine (rnow13_any o m s k _).mono ?_
  rintro e w1 ⟨rfl, hb⟩
  have HC1 := Lib.hid (HB1.out.on hb)
  have HC2 := Lib.hid (HB2.out.on hb)
  have HBB := Lib.hid (HB0.out.trans (hb.mono HB0.out.size))
  clear hb b0 b1 b2 z0 z1 z2
  obtain ⟨⟨b0, b1, b2⟩, z0, z1, z2⟩ := three_cells HC1.out
  obtain ⟨⟨r0, r1, r2⟩, y0, y1, y2⟩ := three_cells HC2.out
  have hn0 := HN.out.1
  have hn1 := HN.out.2
  have hm0 := HM.out.1
  have hm1 := HM.out.2
  go_wp2
  have e1 : IntKind.u64.wrap (nowZ o k / 4294967296 * 4294967296 + x - k) = offZ (lowP (nowZ o k) x) k := by rw [IntKind.wrap_u64]; rfl
  refine bodyPost_ret (v := .agg #[.int .u64 (offZ (lowP (nowZ o k) x) k), .int .u64 m, .bool s]) (by simp [results, Try.results57, go_sem, r0, r1, r2, e1]) rfl ?_
  exact ⟨rfl, end3 _ _ _ _ _ HBB.out⟩

set_option maxHeartbeats 1600000 in
theorem rwrite13_time4 (o m : Int) (s : Bool) (x k : Int) (w : World) (m0 : 0 ≤ m) (m1 : m < 18446744073709551616) (x0 : 0 ≤ x) (x1 : x < 4294967296) :
    Calls Try.prog 57 #[.agg #[.int .u64 o, .int .u64 m, .bool s], .int .u32 33603580, .int .u32 x, .int .u64 k] w fun e w' => e = .returned (.agg #[.int .u64 (offZ (highP (nowZ o k) x) k), .int .u64 m, .bool s]) ∧ Below w.heap.size w w' := by
  obtain ⟨hb1, hb2, hB0⟩ := two_box3 w o m s
  obtain ⟨W0, hW0⟩ : ∃ W0, W0 = (w.alloc (.cells #[.int .u64 o, .int .u64 m, .bool s] 35)).alloc zero3 := ⟨_, rfl⟩
  rw [← hW0] at hb1 hb2 hB0
  have HW0 := Lib.hid hW0
  have HB0 := Lib.hid hB0
  have HB1 := Lib.hid hb1
  have HB2 := Lib.hid hb2
  have HN : Hid _ := nowZ_lt o k
  have HM : Hid (0 ≤ m ∧ m < 18446744073709551616) := ⟨m0, m1⟩
  have HX : Hid (0 ≤ x ∧ x < 4294967296) := ⟨x0, x1⟩
  clear hW0 hB0 hb1 hb2 m0 m1
  obtain ⟨⟨b0, b1, b2⟩, z0, z1, z2⟩ := three_cells HB1.out
  go_enter Try.func57, Try.ntmps57
  go_wp2_with fail
  rw [← HW0.out]
  go_wp2_with fail
  refine (rnow13_any o m s k _).mono ?_
  rintro e w1 ⟨rfl, hb⟩
  have HC1 := Lib.hid (HB1.out.on hb)
  have HC2 := Lib.hid (HB2.out.on hb)
  have HBB := Lib.hid (HB0.out.trans (hb.mono HB0.out.size))
  clear hb b0 b1 b2 z0 z1 z2
  obtain ⟨⟨b0, b1, b2⟩, z0, z1, z2⟩ := three_cells HC1.out
  obtain ⟨⟨r0, r1, r2⟩, y0, y1, y2⟩ := three_cells HC2.out
  have hn0 := HN.out.1
  have hn1 := HN.out.2
  have hm0 := HM.out.1
  have hm1 := HM.out.2
  go_wp2
  have e1 : IntKind.u64.wrap (x * 4294967296 + nowZ o k % 4294967296 - k) = offZ (highP (nowZ o k) x) k := by rw [IntKind.wrap_u64]; rfl
  refine bodyPost_ret (v := .agg #[.int .u64 (offZ (highP (nowZ o k) x) k), .int .u64 m, .bool s]) (by simp [results, Try.results57, go_sem, r0, r1, r2, e1]) rfl ?_
  exact ⟨rfl, end3 _ _ _ _ _ HBB.out⟩

theorem rwrite13_any (o m : Int) (s : Bool) (a x k : Int) (w : World) (ha : hasT a = true) (m0 : 0 ≤ m) (m1 : m < 18446744073709551616) (x0 : 0 ≤ x) (x1 : x < 4294967296) :
    Calls Try.prog 57 #[.agg #[.int .u64 o, .int .u64 m, .bool s], .int .u32 a, .int .u32 x, .int .u64 k] w fun e w' => e = .returned (.agg #[.int .u64 (wO o a x k), .int .u64 (wM m a x), .bool (wS s a x)]) ∧ Below w.heap.size w w' := by
  rcases hasT_yes ha with rfl | rfl | rfl | rfl | rfl
  · exact rwrite13_soft o m s x k w m0 m1 x0 x1
  · exact rwrite13_cmp0 o m s x k w m0 m1 x0 x1
  · exact rwrite13_cmp4 o m s x k w m0 m1 x0 x1
  · exact rwrite13_time0 o m s x k w m0 m1 x0 x1
  · exact rwrite13_time4 o m s x k w m0 m1 x0 x1

set_option maxHeartbeats 800000 in
theorem rnew13_any (w : World) :
    Calls Try.prog 11 #[] w fun e w' => e = .returned (.agg #[.int .u64 0, .int .u64 18446744073709551615, .bool false]) ∧ Below w.heap.size w w' := by
  have HB0 : Hid (Below w.heap.size w (w.alloc (.cells #[.int .u64 0, .int .u64 18446744073709551615, .bool false] 35))) := (Below.refl _ _).alloc (Nat.le_refl _) _
  go_enter Try.func11, Try.ntmps11
  go_wp2
  refine bodyPost_ret (v := .agg #[.int .u64 0, .int .u64 18446744073709551615, .bool false]) (by simp [results, Try.results11, go_sem]) rfl ?_
  exact ⟨rfl, HB0.out⟩

end Go.Proofs.Ytkbccccjjlkgbaa
