/- Layer 10, the document's side: Put. -/
import Derived.Test.YtkgamoacjkmhkaaRamRef
import Derived.Deep.RegionLaw
namespace Go.Proofs.Ytkgamoacjkmhkaa
open Go.RowKit
set_option linter.unusedVariables false

/-- append onto a row that the call owns, as one step of a region that draws. -/
theorem step_append_own {P : Program} {ops : Array Oper} {o : Oper} {a : Act} {w : World} {K : Act → World → Prop} {Q : Exit → Act → World → Prop} {E : Prop} (hgd : o.guard = none) (s x : Operand) (t : TypeId)
    (ho : o.op = .call { callee := .builtin .append, args := #[s, x], argTypes := #[t, t] })
    (base : Nat) (e : TypeId) (i : TypeInfo) (z : Value) (size bytes : Nat) (ht : P.underlying t = some (.slice e)) (hi : P.info? e = some i) (hz : i.zero = some z)
    (hsize : i.size = size) (hby : i.bytes = bytes) (hzs : z.cells.size = size) (hsz : 0 < size)
    (v : Value) (n : Nat) (xs : List Value) (hs : a.eval s = v) (hown : w.ownsRow base e size v n xs)
    (ad : Addr) (m c : Nat) (news : List Value) (hx : a.eval x = .slice (some ad) m c) (hl : news.length = m * size) (hnews : ∀ j u, news[j]? = some u → w.cell? (ad.add j) = some u) (h1 : ∀ u ∈ news, u.oneCell' = true)
    (h63 : n + m ≤ maxLen) (hbytes : (n + m) * bytes ≤ 140737488355328) (hbase : base ≤ w.heap.size)
    (h : ∀ v' w', w'.ownsRow base e size v' (n + m) (xs ++ news) → w.grownBy w' v.ownBlock → (v' = .slice none 0 0 ↔ v = .slice none 0 0 ∧ m = 0) → K (a.put o.dst v') w') :
    if Region.wanted o (yielded ops a.tmps) = true then Oper.wp P o a w K Q else E := by
  have hw : Region.wanted o (yielded ops a.tmps) = true := by simp [Region.wanted, hgd]
  rw [if_pos hw]
  exact wp_append_own w s x t ho base e i z size bytes ht hi hz hsize hby hzs hsz v n xs hs hown ad m c news hx hl hnews h1 h63 hbytes hbase h

/-- n bytes, as cells. -/
def rowL (n : Nat) (h : Nat → Int) : List Value := (List.range n).map fun i => Value.int .u8 (h i)
theorem rowL_length (n : Nat) (h : Nat → Int) : (rowL n h).length = n := by simp [rowL]
theorem rowL_at {n : Nat} {h : Nat → Int} {i : Nat} (hi : i < n) : (rowL n h)[i]? = some (.int .u8 (h i)) := by
  unfold rowL; rw [List.getElem?_map, List.getElem?_range hi]; rfl
theorem rowL_get {n : Nat} {h : Nat → Int} {i : Nat} {u : Value} (e : (rowL n h)[i]? = some u) : i < n ∧ u = .int .u8 (h i) := by
  have hi : i < n := by
    have := (List.getElem?_eq_some_iff.1 e).1
    rwa [rowL_length] at this
  rw [rowL_at hi] at e
  exact ⟨hi, (Option.some.inj e).symm⟩
theorem rowL_one (n : Nat) (h : Nat → Int) : ∀ u ∈ rowL n h, u.oneCell' = true := fun u hu => by
  obtain ⟨i, _, rfl⟩ := List.mem_map.1 hu
  rfl
theorem rowL_append (n m : Nat) (h k : Nat → Int) : rowL n h ++ rowL m k = rowL (n + m) (fun i => if i < n then h i else k (i - n)) := by
  apply List.ext_getElem?
  intro i
  by_cases c : i < n
  · rw [List.getElem?_append_left (by rw [rowL_length]; exact c), rowL_at c, rowL_at (by omega), if_pos c]
  · rw [List.getElem?_append_right (by rw [rowL_length]; omega), rowL_length]
    by_cases d : i < n + m
    · rw [rowL_at (by omega), rowL_at d, if_neg c]
    · rw [List.getElem?_eq_none (by rw [rowL_length]; omega), List.getElem?_eq_none (by rw [rowL_length]; omega)]
theorem rowL_same {n : Nat} {h k : Nat → Int} (e : ∀ i, i < n → h i = k i) : rowL n h = rowL n k := by
  unfold rowL
  exact List.map_congr_left fun i hi => by rw [e i (List.mem_range.1 hi)]

theorem put_three (b f : Nat → Int) (a len N : Nat) (h : a + len ≤ N) : rowL a b ++ rowL len f ++ rowL (N - (a + len)) (fun i => b (a + len + i)) = rowL N (bput b a len f) := by
  rw [rowL_append, rowL_append, show a + len + (N - (a + len)) = N from by omega]
  refine rowL_same fun i hi => ?_
  unfold bput
  by_cases c : i < a
  · rw [if_pos (by omega), if_pos c, if_neg (by omega)]
  · by_cases d : i < a + len
    · rw [if_pos d, if_neg c, if_pos (by omega)]
    · rw [if_neg d, if_neg (by omega)]; congr 1; omega

/-- Whoever owns n bytes, n above 0, has a row. -/
theorem row_of_own {w : World} {base n : Nat} {v : Value} {h : Nat → Int} (ho : w.ownsRow base 5 1 v n (rowL n h)) (hn : 0 < n) : ∃ B c, v = .slice (some ⟨B, 0, none⟩) n c ∧ n ≤ c ∧ base ≤ B ∧ RowB w B n h := by
  have ho' := ho
  obtain ⟨_, ho2 | ⟨g, cap, cur, rfl, hb, hg, hnc, _⟩⟩ := ho
  · omega
  · refine ⟨g, cap, rfl, hnc, hb, fun i hi => ?_⟩
    rw [ho'.cellAt i (by omega), rowL_at hi]

set_option maxHeartbeats 2000000 in
theorem rput10_any (K a : Nat) (addr : Int) (B cap xb xo len xcap : Nat) (b f : Nat → Int) (w : World) (hK : K ≤ 1024) (hB : RowB w B (64 * K) b) (ha : addr = 2147483648 + (a : Int)) (hl : 1 ≤ len) (hfit : a + len ≤ 64 * K) (hcap : 64 * K ≤ cap)
    (hsrc : ∀ i, i < len → w.cell? ⟨xb, xo + i, none⟩ = some (.int .u8 (f i))) :
    Calls Try.prog 28 #[.slice (some ⟨B, 0, none⟩) (64 * K) cap, .int .u32 addr, .slice (some ⟨xb, xo, none⟩) len xcap] w fun e w' => ∃ B' c, e = .returned (.slice (some ⟨B', 0, none⟩) (64 * K) c) ∧ (64 * K ≤ c ∧ w.heap.size ≤ B' ∧ RowB w' B' (64 * K) (bput b a len f)) ∧ Below w.heap.size w w' := by
  have h0 : 0 ≤ addr := by omega
  have h1 : addr < 2147549184 := by omega
  have e1 : addr - 2147483648 = (a : Int) := by omega
  have hbs : ∀ w : World, (Instr.buildSlice 30 0 #[]).run Try.prog w = .ok (.slice (some ⟨w.heap.size, 0, none⟩) 0 0) (w.alloc (.cells #[] 5)) := fun _ => by kernel_rfl
  have hsz : ∀ w : World, (sizeOf (Try.prog.elem 30)).run Try.prog w = .ok 1 w := fun _ => by kernel_rfl
  have hs1 : ∀ w : World, (Instr.sliceAt 30 (.slice (some ⟨B, 0, none⟩) (64 * K) cap) none (some (.int .i64 (a : Int))) none).run Try.prog w = .ok (.slice (some ⟨B, 0, none⟩) a cap) w := fun w => by
    rw [run_sliceAt_slice w _ _ _ _ _ Try.underlying30, run_slice_h w _ _ _ _ Try.underlying30 .i64 _ (by omega) (by omega), hsz]
    simp only [Result.andThen, sliced]
    rw [show ((a : Int)).toNat = a from by omega, if_neg (by omega)]
    simp [Addr.add_lit]
  obtain ⟨ad, had, hs2⟩ : ∃ ad : Addr, (64 * K - (a + len) > 0 → ad = ⟨B, a + len, none⟩) ∧ ∀ w : World, (Instr.sliceAt 30 (.slice (some ⟨B, 0, none⟩) (64 * K) cap) (some (.int .i64 ((a : Int) + (len : Int)))) none none).run Try.prog w = .ok (.slice (some ad) (64 * K - (a + len)) (cap - (a + len))) w := by
    refine ⟨if cap = a + len then ⟨B, 0, none⟩ else ⟨B, a + len, none⟩, fun h => by rw [if_neg (by omega)], fun w => ?_⟩
    rw [run_sliceAt_slice w _ _ _ _ _ Try.underlying30, run_slice_l w _ _ _ _ Try.underlying30 .i64 _ (by omega) (by omega), hsz]
    simp only [Result.andThen, sliced]
    rw [show ((a : Int) + (len : Int)).toNat = a + len from by omega]
    by_cases c : cap = a + len
    · rw [if_pos c, if_pos c]
    · rw [if_neg c, if_neg c]; simp [Addr.add_lit]
  have hwr : IntKind.i64.wrap ((a : Int) + (len : Int)) = (a : Int) + (len : Int) := by rw [IntKind.wrap_i64]; omega
  have HAD := Lib.hid had
  have HB := Lib.hid hB
  have HS := Lib.hid hsrc
  have HF : Hid (a + len ≤ 64 * K) := hfit
  have HC : Hid (64 * K ≤ cap) := hcap
  have hl1 : len ≤ 65536 := by omega
  have ha1 : a ≤ 65536 := by omega
  have h2 : (a : Int) + (len : Int) ≤ 65536 := by omega
  obtain ⟨i0, hi, hz0, hz1, hz2⟩ := info_parts Try.info5
  clear had hB hsrc hfit hcap ha hsz
  go_enter Try.func28, Try.ntmps28
  go_wp2_with fail
  have HA1 : Hid (∀ w1 : World, Below w.heap.size w w1 → ∀ j u, (rowL a b)[j]? = some u → w1.cell? ((⟨B, 0, none⟩ : Addr).add j) = some u) := fun w1 hb j u hj => by
    obtain ⟨h3, rfl⟩ := rowL_get hj
    have hc := HB.out j (by have := HF.out; omega)
    rw [Addr.add_lit, Nat.zero_add, hb.cell (World.block_lt_of_cell? w _ hc)]; exact hc
  have HA2 : Hid (∀ w1 : World, Below w.heap.size w w1 → ∀ j u, (rowL len f)[j]? = some u → w1.cell? ((⟨xb, xo, none⟩ : Addr).add j) = some u) := fun w1 hb j u hj => by
    obtain ⟨h3, rfl⟩ := rowL_get hj
    have hc := HS.out j h3
    rw [Addr.add_lit, hb.cell (World.block_lt_of_cell? w _ hc)]; exact hc
  have HA3 : Hid (∀ w1 : World, Below w.heap.size w w1 → ∀ j u, (rowL (64 * K - (a + len)) (fun i => b (a + len + i)))[j]? = some u → w1.cell? (ad.add j) = some u) := fun w1 hb j u hj => by
    obtain ⟨h3, rfl⟩ := rowL_get hj
    have hc := HB.out (a + len + j) (by omega)
    rw [HAD.out (by omega), Addr.add_lit, hb.cell (World.block_lt_of_cell? w _ hc)]; exact hc
  have hB0 : Below w.heap.size w (w.drew.alloc (.cells #[] 5)) := ((Below.refl w.heap.size w).drew).alloc (Nat.le_refl _) _
  have HB0 := Lib.hid hB0
  have HO0 : Hid ((w.drew.alloc (.cells #[] 5)).ownsRow w.heap.size 5 1 (.slice (some ⟨w.heap.size, 0, none⟩) 0 0) 0 []) := World.ownsRow_made w.drew #[] 0 (Nat.le_refl _) (by decide) rfl
  clear hB0
  go_region_law (first
    | (refine step_append_own rfl (.tmp 11) (.tmp 14) 30 rfl w.heap.size 5 i0 (.int .u8 0) 1 1 Try.underlying30 hi hz0 hz1 hz2 rfl (by decide) _ 0 [] rfl HO0.out ⟨B, 0, none⟩ a cap (rowL a b) rfl (by rw [rowL_length]; omega) (HA1.out _ HB0.out) (rowL_one _ _) (by unfold maxLen; omega) (by omega) HB0.out.size ?_
       intro v1 w1 hown1 hgr1 _
       have HO1 : Hid (w1.ownsRow w.heap.size 5 1 v1 a (rowL a b)) := by have h := hown1; rw [Nat.zero_add, List.nil_append] at h; exact h
       have HB1 : Hid (Below w.heap.size w w1) := HB0.out.grown hgr1 HB0.out.size (fun j hj => (HO0.out.lt j hj).1)
       clear hown1 hgr1)
    | (refine step_append_own rfl (.tmp 15) (.tmp 16) 30 rfl w.heap.size 5 i0 (.int .u8 0) 1 1 Try.underlying30 hi hz0 hz1 hz2 rfl (by decide) _ a (rowL a b) rfl HO1.out ⟨xb, xo, none⟩ len xcap (rowL len f) rfl (by rw [rowL_length]; omega) (HA2.out _ HB1.out) (rowL_one _ _) (by unfold maxLen; omega) (by omega) HB1.out.size ?_
       intro v2 w2 hown2 hgr2 _
       have HO2 := Lib.hid hown2
       have HB2 : Hid (Below w.heap.size w w2) := HB1.out.grown hgr2 HB1.out.size (fun j hj => (HO1.out.lt j hj).1)
       clear hown2 hgr2)
    | (refine step_append_own rfl (.tmp 17) (.tmp 23) 30 rfl w.heap.size 5 i0 (.int .u8 0) 1 1 Try.underlying30 hi hz0 hz1 hz2 rfl (by decide) _ (a + len) (rowL a b ++ rowL len f) rfl HO2.out ad (64 * K - (a + len)) (cap - (a + len)) (rowL (64 * K - (a + len)) (fun i => b (a + len + i))) rfl (by rw [rowL_length]; omega) (HA3.out _ HB2.out) (rowL_one _ _) (by unfold maxLen; omega) (by omega) HB2.out.size ?_
       intro v3 w3 hown3 hgr3 _
       have HO3 : Hid (w3.ownsRow w.heap.size 5 1 v3 (64 * K) (rowL (64 * K) (bput b a len f))) := by have h := hown3; rw [put_three b f a len (64 * K) HF.out, show a + len + (64 * K - (a + len)) = 64 * K from by have := HF.out; omega] at h; exact h
       have HB3 : Hid (Below w.heap.size w w3) := HB2.out.grown hgr3 HB2.out.size (fun j hj => (HO2.out.lt j hj).1)
       clear hown3 hgr3))
  all_goals
    obtain ⟨B', c, rfl, hc1, hc2, hc3⟩ := row_of_own HO3.out (by have := HF.out; omega)
    go_wp2
    go_ret
    exact ⟨B', c, rfl, ⟨hc1, hc2, hc3⟩, HB3.out⟩
end Go.Proofs.Ytkgamoacjkmhkaa
