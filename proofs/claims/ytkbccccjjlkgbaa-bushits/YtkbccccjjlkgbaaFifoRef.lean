/- Layer 11, the document's side: Push, Pop; a slice of bytes that waits, in another block than B. -/
import Derived.Test.YtkbccccjjlkgbaaFifoMem
import Derived.Test.YtkbccccjjlkgbaaNumbers
import Derived.Lib.Hide
namespace Go.Proofs.Ytkbccccjjlkgbaa
open Go.RowKit
set_option linter.unusedVariables false
set_option maxRecDepth 100000

/-- n bytes from o on in block b, which is not B. -/
def IsBs (B : Nat) (w : World) (b o n cap : Nat) (f : Nat → Int) : Prop := n ≤ cap ∧ b ≠ B ∧ ∀ i, i < n → w.cell? ⟨b, o + i, none⟩ = some (.int .u8 (f i))
theorem IsBs.on {B b o n cap : Nat} {w w' : World} {f : Nat → Int} (h : IsBs B w b o n cap f) (hb : Below w.heap.size w w') : IsBs B w' b o n cap f :=
  ⟨h.1, h.2.1, fun i hi => by rw [hb.cell (World.block_lt_of_cell? w _ (h.2.2 i hi))]; exact h.2.2 i hi⟩
theorem IsBs.bar {B b o n cap : Nat} {w w' : World} {f : Nat → Int} (h : IsBs B w b o n cap f) (hb : Bar B w w') : IsBs B w' b o n cap f :=
  ⟨h.1, h.2.1, fun i hi => hb.cell h.2.1 (h.2.2 i hi)⟩

theorem rowL_snoc (n : Nat) (f : Nat → Int) (b : Int) : rowL n f ++ [Value.int .u8 b] = rowL (n + 1) (snoc n f b) := by
  rw [show [Value.int .u8 b] = rowL 1 (fun _ => b) from rfl, rowL_append]
  exact rowL_same fun i hi => by unfold snoc; rfl

set_option maxHeartbeats 400000 in
theorem rpush_full (b o cap : Nat) (x : Int) (w : World) :
    Calls Try.prog 61 #[.slice (some ⟨b, o, none⟩) 16 cap, .int .u8 x] w fun e w' => e = .returned (.tuple #[.slice (some ⟨b, o, none⟩) 16 cap, .bool false]) ∧ w' = w := by
  go_enter Try.func61, Try.ntmps61
  go_wp2
  go_ret2
  exact ⟨rfl, rfl⟩

set_option maxHeartbeats 800000 in
theorem rpush_yes (B b o n cap : Nat) (f : Nat → Int) (x : Int) (w : World) (hB : B < w.heap.size) (h : IsBs B w b o n cap f) (hn : n < 16) :
    Calls Try.prog 61 #[.slice (some ⟨b, o, none⟩) n cap, .int .u8 x] w fun e w' => ∃ g c, e = .returned (.tuple #[.slice (some ⟨g, 0, none⟩) (n + 1) c, .bool true]) ∧ IsBs B w' g 0 (n + 1) c (snoc n f x) ∧ Below w.heap.size w w' := by
  have HA : Hid (∀ w1 : World, Below w.heap.size w w1 → ∀ j u, (rowL n f)[j]? = some u → w1.cell? ((⟨b, o, none⟩ : Addr).add j) = some u) := fun w1 hb j u hj => by
    obtain ⟨h3, rfl⟩ := rowL_get hj
    have hc := h.2.2 j h3
    rw [Addr.add_lit, hb.cell (World.block_lt_of_cell? w _ hc)]; exact hc
  obtain ⟨i0, hi, hz0, hz1, hz2⟩ := info_parts Try.info5
  have HB0 : Hid (Below w.heap.size w (w.alloc (.cells #[] 5))) := (Below.refl w.heap.size w).alloc (Nat.le_refl _) _
  have HO0 : Hid ((w.alloc (.cells #[] 5)).ownsRow w.heap.size 5 1 (.slice (some ⟨w.heap.size, 0, none⟩) 0 0) 0 []) := World.ownsRow_made w #[] 0 (Nat.le_refl _) (by decide) rfl
  have HBB := Lib.hid hB
  clear h hB
  go_enter Try.func61, Try.ntmps61
  go_wp2_with (first
    | (at_builtin; refine wpList_append_own _ rfl (.tmp 10) (.tmp 11) 30 rfl w.heap.size 5 i0 (.int .u8 0) 1 1 Try.underlying30 hi hz0 hz1 hz2 rfl (by decide) _ 0 [] rfl HO0.out ⟨b, o, none⟩ n cap (rowL n f) rfl (by rw [rowL_length]; omega) (HA.out _ HB0.out) (rowL_one _ _) (by unfold maxLen; omega) (by omega) HB0.out.size ?_))
  intro v1 w1 hown1 hgr1 _
  have HO1 : Hid (w1.ownsRow w.heap.size 5 1 v1 n (rowL n f)) := hown1
  have HB1 : Hid (Below w.heap.size w w1) := HB0.out.grown hgr1 HB0.out.size (fun j hj => (HO0.out.lt j hj).1)
  clear hown1 hgr1
  go_wp2_with (at_builtin; refine wpList_append_own _ rfl (.tmp 12) (.tmp 14) 30 rfl w.heap.size 5 i0 (.int .u8 0) 1 1 Try.underlying30 hi hz0 hz1 hz2 rfl (by decide) _ n (rowL n f) rfl (HO1.out.alloc _) ⟨w1.heap.size, 0, none⟩ 1 1 [.int .u8 x] rfl rfl ?c1 ?c2 ?c3 ?c4 ?c5 ?_)
  case c1 =>
    intro j u hj
    match j, hj with
    | 0, hj => simp at hj; subst hj; simp [Addr.add]
  case c2 => intro u hu; simp at hu; subst hu; rfl
  case c3 => unfold maxLen; omega
  case c4 => omega
  case c5 => have := HB1.out.size; simp; omega
  intro v2 w2 hown2 hgr2 _
  have HO2 : Hid (w2.ownsRow w.heap.size 5 1 v2 (n + 1) (rowL (n + 1) (snoc n f x))) := by have h := hown2; rw [rowL_snoc] at h; exact h
  have HB2 : Hid (Below w.heap.size w w2) := (HB1.out.alloc HB1.out.size _).grown hgr2 (by have := HB1.out.size; simp; omega) (fun j hj => (HO1.out.lt j hj).1)
  clear hown2 hgr2
  obtain ⟨g, c, rfl, hc1, hc2, hc3⟩ := row_of_own HO2.out (by omega)
  go_wp2
  go_ret2
  exact ⟨g, c, rfl, ⟨hc1, by have := HBB.out; omega, fun i hi => by rw [Nat.zero_add]; exact hc3 i hi⟩, HB2.out⟩

set_option maxHeartbeats 400000 in
theorem rpop_none (b o cap : Nat) (w : World) :
    Calls Try.prog 75 #[.slice (some ⟨b, o, none⟩) 0 cap] w fun e w' => e = .returned (.tuple #[.slice (some ⟨b, o, none⟩) 0 cap, .int .u8 0, .bool false]) ∧ w' = w := by
  go_enter Try.func75, Try.ntmps75
  go_wp2
  refine bodyPost_ret (v := .tuple #[.slice (some ⟨b, o, none⟩) 0 cap, .int .u8 0, .bool false]) (by simp [results, Try.results75, go_sem]) rfl ?_
  exact ⟨rfl, rfl⟩

set_option maxHeartbeats 800000 in
theorem rpop_yes (B b o n cap : Nat) (f : Nat → Int) (w : World) (h : IsBs B w b o (n + 1) cap f) (hn : n < 16) :
    Calls Try.prog 75 #[.slice (some ⟨b, o, none⟩) (n + 1) cap] w fun e w' => ∃ o' c, e = .returned (.tuple #[.slice (some ⟨b, o', none⟩) n c, .int .u8 (f 0), .bool true]) ∧ IsBs B w' b o' n c (fun i => f (i + 1)) ∧ Q w w' := by
  obtain ⟨h1, h2, h3⟩ := h
  have hc := h3 0 (by omega)
  rw [Nat.add_zero] at hc
  obtain ⟨o', ho', hsl⟩ : ∃ o' : Nat, (0 < n → o' = o + 1) ∧ ∀ w : World, (Instr.sliceAt 30 (.slice (some ⟨b, o, none⟩) (n + 1) cap) (some (.int .i64 1)) none none).run Try.prog w = .ok (.slice (some ⟨b, o', none⟩) n (cap - 1)) w := by
    refine ⟨if cap = 1 then o else o + 1, fun h => by rw [if_neg (by omega)], fun w => ?_⟩
    have hsz : ∀ w : World, (sizeOf (Try.prog.elem 30)).run Try.prog w = .ok 1 w := fun _ => by kernel_rfl
    rw [run_sliceAt_slice w _ _ _ _ _ Try.underlying30, run_slice_l w _ _ _ _ Try.underlying30 .i64 _ (by omega) (by omega), hsz]
    simp only [Result.andThen, sliced]
    rw [show ((1 : Int)).toNat = 1 from rfl]
    by_cases c : cap = 1
    · rw [if_pos c, if_pos c]; rfl
    · rw [if_neg c, if_neg c]; simp [Addr.add_lit]
  have HR : Hid (∀ w' : World, Q w w' → IsBs B w' b o' n (cap - 1) (fun i => f (i + 1))) := fun w' hq => by
    refine ⟨by omega, h2, fun i hi => ?_⟩
    have := h3 (i + 1) (by omega)
    obtain ⟨q, rfl⟩ := hq
    rw [ho' (by omega), show o + 1 + i = o + (i + 1) from by omega]; exact this
  clear h1 h2 h3 ho'
  generalize f 0 = y at *
  go_enter Try.func75, Try.ntmps75
  go_wp2_with fail
  go_quiet (fail)
  go_wp2
  refine bodyPost_ret (v := .tuple #[.slice (some ⟨b, o', none⟩) n (cap - 1), .int .u8 y, .bool true]) (by simp [results, Try.results75, go_sem]) rfl ?_
  exact ⟨o', _, rfl, HR.out _ ⟨_, rfl⟩, _, rfl⟩
end Go.Proofs.Ytkbccccjjlkgbaa
