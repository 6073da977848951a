/- Layer 12, the document's Read and Write. -/
import Derived.Test.YtbhmpfjmhjdcaaaConRef
namespace Go.Proofs.Ytbhmpfjmhjdcaaa
open Go.RowKit
set_option linter.unusedVariables false

/-- A block of the five cells of a document's console. -/
def Box5 (w : World) (A : Nat) (a b c d e : Value) : Prop := w.heap[A]? = some (.cells #[a, b, c, d, e] 32 (0, 0))
theorem Box5.cells {w : World} {A : Nat} {a b c d e : Value} (h : Box5 w A a b c d e) : w.cell? ⟨A, 0, none⟩ = some a ∧ w.cell? ⟨A, 1, none⟩ = some b ∧ w.cell? ⟨A, 2, none⟩ = some c ∧ w.cell? ⟨A, 3, none⟩ = some d ∧ w.cell? ⟨A, 4, none⟩ = some e := (five_cells h).1
theorem Box5.free {w : World} {A : Nat} {a b c d e : Value} (h : Box5 w A a b c d e) : w.frozen? ⟨A, 0, none⟩ = false ∧ w.frozen? ⟨A, 1, none⟩ = false ∧ w.frozen? ⟨A, 2, none⟩ = false ∧ w.frozen? ⟨A, 3, none⟩ = false ∧ w.frozen? ⟨A, 4, none⟩ = false := (five_cells h).2
theorem Box5.lt {w : World} {A : Nat} {a b c d e : Value} (h : Box5 w A a b c d e) : A < w.heap.size := (Array.getElem?_eq_some_iff.1 h).1
theorem Box5.on {w w' : World} {A : Nat} {a b c d e : Value} (h : Box5 w A a b c d e) (hb : Below w.heap.size w w') : Box5 w' A a b c d e := by
  unfold Box5 at *
  rw [hb.block A (Array.getElem?_eq_some_iff.1 h).1]; exact h
theorem Box5.bar {w w' : World} {A P : Nat} {a b c d e : Value} (h : Box5 w A a b c d e) (hb : Bar P w w') (hne : A ≠ P) : Box5 w' A a b c d e := by
  unfold Box5 at *
  rw [hb.2.2.2.2 A (Array.getElem?_eq_some_iff.1 h).1 hne]; exact h
theorem Box5.fr {S : Nat → Prop} {w w' : World} {A : Nat} {a b c d e : Value} (h : Box5 w A a b c d e) (hf : Fr S w w') (hne : ¬ S A) : Box5 w' A a b c d e := by
  unfold Box5 at *
  rw [hf.block (Array.getElem?_eq_some_iff.1 h).1 hne]; exact h

/-- The two blocks at the head of the document's functions: the console that came, and the result. -/
abbrev zero5 : Obj := .cells #[.slice none 0 0, .int .i64 0, .slice none 0 0, .bool false, .slice none 0 0] 32
theorem two_boxes (w : World) (a b c d e : Value) :
    Box5 ((w.alloc (.cells #[a, b, c, d, e] 32)).alloc zero5) w.heap.size a b c d e ∧
    Box5 ((w.alloc (.cells #[a, b, c, d, e] 32)).alloc zero5) (w.heap.size + 1) (.slice none 0 0) (.int .i64 0) (.slice none 0 0) (.bool false) (.slice none 0 0) ∧
    Below w.heap.size w ((w.alloc (.cells #[a, b, c, d, e] 32)).alloc zero5) ∧
    ((w.alloc (.cells #[a, b, c, d, e] 32)).alloc zero5).heap.size = w.heap.size + 2 := by
  refine ⟨?_, ?_, ((Below.refl _ _).alloc (Nat.le_refl _) _).alloc (by simp) _, by simp⟩
  · unfold Box5
    rw [heap_alloc_old _ _ (by simp)]
    exact heap_alloc_new _ _
  · unfold Box5
    have := heap_alloc_new (w.alloc (.cells #[a, b, c, d, e] 32)) zero5
    simpa [zero5] using this
theorem bar5 (C : Nat) (w : World) (a b c d e : Value) : Bar C w (((((w.setCell ⟨C, 0, none⟩ a).setCell ⟨C, 1, none⟩ b).setCell ⟨C, 2, none⟩ c).setCell ⟨C, 3, none⟩ d).setCell ⟨C, 4, none⟩ e) := ((((Bar.setCell _ _ _ _).trans (Bar.setCell _ _ _ _)).trans (Bar.setCell _ _ _ _)).trans (Bar.setCell _ _ _ _)).trans (Bar.setCell _ _ _ _)

/-- The blocks of S, and both boxes. -/
def S2 (S : Nat → Prop) (w : World) (k : Nat) : Prop := S k ∨ k = w.heap.size ∨ k = w.heap.size + 1
theorem BsV.two {S : Nat → Prop} {w W : World} {v : Value} {n : Nat} {f : Nat → Int} (h : BsV S w v n f) (hb : Below w.heap.size w W) : BsV (S2 S w) W v n f :=
  (h.more (by intro k hk; rcases hk with h | h | h; exact .inl h; exact .inr (by omega); exact .inr (by omega))).on hb
theorem ref_end {S : Nat → Prop} {w W : World} {s : CS} {a : Option Addr} {len cap : Nat} {rx out : Value} (hB : Below w.heap.size w W) (hx : BsV (S2 S w) W rx s.n s.f) (ho : BsV (S2 S w) W out s.m s.g) :
    RefC S (((((W.setCell ⟨w.heap.size + 1, 0, none⟩ (.slice a len cap)).setCell ⟨w.heap.size + 1, 1, none⟩ (.int .i64 (s.c : Int))).setCell ⟨w.heap.size + 1, 2, none⟩ rx).setCell ⟨w.heap.size + 1, 3, none⟩ (.bool s.ov)).setCell ⟨w.heap.size + 1, 4, none⟩ out) (.agg #[.slice a len cap, .int .i64 (s.c : Int), rx, .bool s.ov, out]) a len cap s ∧
    Below w.heap.size w (((((W.setCell ⟨w.heap.size + 1, 0, none⟩ (.slice a len cap)).setCell ⟨w.heap.size + 1, 1, none⟩ (.int .i64 (s.c : Int))).setCell ⟨w.heap.size + 1, 2, none⟩ rx).setCell ⟨w.heap.size + 1, 3, none⟩ (.bool s.ov)).setCell ⟨w.heap.size + 1, 4, none⟩ out) := by
  have hc := bar5 (w.heap.size + 1) W (.slice a len cap) (.int .i64 (s.c : Int)) rx (.bool s.ov) out
  exact ⟨⟨_, _, rfl, (hx.bar hc (.inr (.inr rfl))).more (fun k hk => .inl (.inl hk)), (ho.bar hc (.inr (.inr rfl))).more (fun k hk => .inl (.inl hk))⟩, hB.trans (hc.below (by omega) hB.size)⟩
theorem bsv_set {S : Nat → Prop} {w W : World} {v u : Value} {n o : Nat} {f : Nat → Int} (h : BsV (S2 S w) W v n f) : BsV (S2 S w) (W.setCell ⟨w.heap.size, o, none⟩ u) v n f := h.bar (Bar.setCell _ _ _ _) (.inr (.inl rfl))
theorem below_set {w W : World} {u : Value} {o : Nat} (h : Below w.heap.size w W) : Below w.heap.size w (W.setCell ⟨w.heap.size, o, none⟩ u) := h.trans ((Bar.setCell w.heap.size o W u).below (Nat.le_refl _) h.size)

set_option maxRecDepth 100000 in
set_option maxHeartbeats 1600000 in
theorem rread_0 (S : Nat → Prop) {v : Value} {a : Option Addr} {len cap : Nat} {s : CS} (w : World) (hn : s.n ≤ 16) (hm : s.m ≤ 100000) (h : RefC S w v a len cap s) (hS : ∀ k, S k → k < w.heap.size) :
    Calls Try.prog 24 #[v, .int .i64 0] w fun e w' => ∃ v', e = .returned (.tuple #[v', .int .u32 (s.val 0)]) ∧ RefC S w' v' a len cap (s.rd 0) ∧ Below w.heap.size w w' := by
  obtain ⟨rx, out, rfl, hx, ho⟩ := h
  obtain ⟨ra, rc, rfl⟩ := hx.form
  obtain ⟨oa, oc, rfl⟩ := ho.form
  obtain ⟨hb1, hb2, hB0, hsz⟩ := two_boxes w (.slice a len cap) (.int .i64 (s.c : Int)) (.slice ra s.n rc) (.bool s.ov) (.slice oa s.m oc)
  obtain ⟨W0, hW0⟩ : ∃ W0, W0 = (w.alloc (.cells #[.slice a len cap, .int .i64 (s.c : Int), .slice ra s.n rc, .bool s.ov, .slice oa s.m oc] 32)).alloc zero5 := ⟨_, rfl⟩
  rw [← hW0] at hb1 hb2 hB0 hsz
  have HW0 := Lib.hid hW0
  have HX : Hid (BsV (S2 S w) W0 (.slice ra s.n rc) s.n s.f) := hx.two hB0
  have HO : Hid (BsV (S2 S w) W0 (.slice oa s.m oc) s.m s.g) := ho.two hB0
  have HB0 := Lib.hid hB0
  have HSZ := Lib.hid hsz
  have HB1 := Lib.hid hb1
  have HB2 := Lib.hid hb2
  have HS := Lib.hid hS
  clear hW0 hx ho hB0 hsz hb1 hb2 hS
  by_cases h0 : s.n = 0
  · have e1 : s.val 0 = 0 := by unfold CS.val; rw [if_pos rfl, if_pos h0]
    have e2 : s.rd 0 = s := by unfold CS.rd CS.pop; rw [if_pos rfl, if_pos h0]
    rw [e1, e2]
    have HP : Hid (Calls Try.prog 32 #[.slice ra s.n rc] W0 fun e w' => e = .returned (.tuple #[.slice ra s.n rc, .int .u8 0, .bool false]) ∧ w' = W0) := by rw [h0]; exact rpop0 ra rc W0
    clear h0 e1 e2
    obtain ⟨b0, b1, b2, b3, b4⟩ := HB1.out.cells
    obtain ⟨z0, z1, z2, z3, z4⟩ := HB1.out.free
    obtain ⟨r0, r1, r2, r3, r4⟩ := HB2.out.cells
    obtain ⟨y0, y1, y2, y3, y4⟩ := HB2.out.free
    go_enter Try.func24, Try.ntmps24
    go_wp2_with fail
    rw [← HW0.out]
    go_wp2_with fail
    refine HP.out.mono ?_
    rintro e w' ⟨rfl, hw⟩
    have hw := hw.symm
    subst hw
    go_wp2
    refine bodyPost_ret (v := .tuple #[.agg #[.slice a len cap, .int .i64 (s.c : Int), .slice ra s.n rc, .bool s.ov, .slice oa s.m oc], .int .u32 0]) (by simp [results, Try.results24, go_sem, r0, r1, r2, r3, r4]) rfl ?_
    obtain ⟨k1, k2⟩ := ref_end (s := s) (a := a) (len := len) (cap := cap) (below_set (o := 2) (u := .slice ra s.n rc) HB0.out) (bsv_set HX.out) (bsv_set HO.out)
    exact ⟨_, rfl, k1, k2⟩
  · obtain ⟨n, hn1⟩ : ∃ n, s.n = n + 1 := ⟨s.n - 1, by omega⟩
    have e1 : s.val 0 = IntKind.u32.wrap (s.f 0) := by unfold CS.val; rw [if_pos rfl, if_neg h0]
    have e2 : s.rd 0 = ⟨s.c, n, fun i => s.f (i + 1), s.ov, s.m, s.g⟩ := by unfold CS.rd CS.pop; rw [if_pos rfl, if_neg h0, hn1]; rfl
    rw [e1, e2]
    have HP : Hid (Calls Try.prog 32 #[.slice ra s.n rc] W0 fun e w' => ∃ a' c', e = .returned (.tuple #[.slice a' n c', .int .u8 (s.f 0), .bool true]) ∧ BsV (S2 S w) w' (.slice a' n c') n (fun i => s.f (i + 1)) ∧ Below W0.heap.size W0 w') := by
      have hx := HX.out
      rw [hn1] at hx ⊢
      exact rpopV (S2 S w) W0 hx (by omega)
    clear h0 e1 e2 hn1
    generalize s.f 0 = y at HP ⊢
    go_enter Try.func24, Try.ntmps24
    go_wp2_with fail
    rw [← HW0.out]
    obtain ⟨b0, b1, b2, b3, b4⟩ := HB1.out.cells
    go_wp2_with fail
    refine HP.out.mono ?_
    rintro e w1 ⟨a', c', rfl, hx1, hb1⟩
    have HX1 := Lib.hid hx1
    have HO1 := Lib.hid (HO.out.on hb1)
    have HC1 := Lib.hid (HB1.out.on hb1)
    have HD1 := Lib.hid (HB2.out.on hb1)
    have HB3 : Hid (Below w.heap.size w w1) := HB0.out.trans (hb1.mono HB0.out.size)
    clear hx1 hb1 b0 b1 b2 b3 b4
    obtain ⟨b0, b1, b2, b3, b4⟩ := HC1.out.cells
    obtain ⟨z0, z1, z2, z3, z4⟩ := HC1.out.free
    obtain ⟨r0, r1, r2, r3, r4⟩ := HD1.out.cells
    obtain ⟨y0, y1, y2, y3, y4⟩ := HD1.out.free
    go_wp2
    refine bodyPost_ret (v := .tuple #[.agg #[.slice a len cap, .int .i64 (s.c : Int), (.slice a' n c'), .bool s.ov, .slice oa s.m oc], .int .u32 (y % 4294967296)]) (by simp [results, Try.results24, go_sem, r0, r1, r2, r3, r4]) rfl ?_
    obtain ⟨k1, k2⟩ := ref_end (s := ⟨s.c, n, fun i => s.f (i + 1), s.ov, s.m, s.g⟩) (a := a) (len := len) (cap := cap) (below_set (o := 2) (u := .slice a' n c') HB3.out) (bsv_set HX1.out) (bsv_set HO1.out)
    exact ⟨_, rfl, k1, k2⟩

set_option maxRecDepth 100000 in
set_option maxHeartbeats 1600000 in
theorem rread_4 (S : Nat → Prop) {v : Value} {a : Option Addr} {len cap : Nat} {s : CS} (w : World) (hn : s.n ≤ 16) (hm : s.m ≤ 100000) (h : RefC S w v a len cap s) (hS : ∀ k, S k → k < w.heap.size) :
    Calls Try.prog 24 #[v, .int .i64 4] w fun e w' => ∃ v', e = .returned (.tuple #[v', .int .u32 (s.val 4)]) ∧ RefC S w' v' a len cap (s.rd 4) ∧ Below w.heap.size w w' := by
  obtain ⟨rx, out, rfl, hx, ho⟩ := h
  obtain ⟨ra, rc, rfl⟩ := hx.form
  obtain ⟨oa, oc, rfl⟩ := ho.form
  have e2 : s.rd 4 = s := by unfold CS.rd; rw [if_neg (by decide)]
  rw [e2]
  clear e2
  have hb : Below w.heap.size w ((w.alloc (.cells #[.slice a len cap, .int .i64 (s.c : Int), .slice ra s.n rc, .bool s.ov, .slice oa s.m oc] 32)).alloc (.cells #[.slice a len cap, .int .i64 (s.c : Int), .slice ra s.n rc, .bool s.ov, .slice oa s.m oc] 32)) := ((Below.refl _ _).alloc (Nat.le_refl _) _).alloc (by simp) _
  have HE : Hid (RefC S ((w.alloc (.cells #[.slice a len cap, .int .i64 (s.c : Int), .slice ra s.n rc, .bool s.ov, .slice oa s.m oc] 32)).alloc (.cells #[.slice a len cap, .int .i64 (s.c : Int), .slice ra s.n rc, .bool s.ov, .slice oa s.m oc] 32)) (.agg #[.slice a len cap, .int .i64 (s.c : Int), .slice ra s.n rc, .bool s.ov, .slice oa s.m oc]) a len cap s ∧ Below w.heap.size w ((w.alloc (.cells #[.slice a len cap, .int .i64 (s.c : Int), .slice ra s.n rc, .bool s.ov, .slice oa s.m oc] 32)).alloc (.cells #[.slice a len cap, .int .i64 (s.c : Int), .slice ra s.n rc, .bool s.ov, .slice oa s.m oc] 32))) := ⟨⟨_, _, rfl, hx.on hb, ho.on hb⟩, hb⟩
  have e0 : s.val 4 = (if 0 < s.n then (if s.ov = true then 3 else 1) else (if s.ov = true then 2 else 0)) := by unfold CS.val; rw [if_neg (by decide)]
  rw [e0]
  clear e0 hx ho hb hS hn hm
  rcases hov : s.ov with _ | _ <;> rw [hov] at HE <;> by_cases h0 : 0 < s.n <;>
    (first | rw [if_pos h0] | rw [if_neg h0])
  · clear hov
    go_enter Try.func24, Try.ntmps24
    go_wp2
    refine bodyPost_ret (v := .tuple #[.agg #[.slice a len cap, .int .i64 (s.c : Int), .slice ra s.n rc, .bool false, .slice oa s.m oc], .int .u32 1]) (by simp [results, Try.results24, go_sem]) rfl ?_
    exact ⟨_, rfl, HE.out⟩
  · clear hov
    go_enter Try.func24, Try.ntmps24
    go_wp2
    refine bodyPost_ret (v := .tuple #[.agg #[.slice a len cap, .int .i64 (s.c : Int), .slice ra s.n rc, .bool false, .slice oa s.m oc], .int .u32 0]) (by simp [results, Try.results24, go_sem]) rfl ?_
    exact ⟨_, rfl, HE.out⟩
  · clear hov
    go_enter Try.func24, Try.ntmps24
    go_wp2
    refine bodyPost_ret (v := .tuple #[.agg #[.slice a len cap, .int .i64 (s.c : Int), .slice ra s.n rc, .bool true, .slice oa s.m oc], .int .u32 3]) (by simp [results, Try.results24, go_sem]) rfl ?_
    exact ⟨_, rfl, HE.out⟩
  · clear hov
    go_enter Try.func24, Try.ntmps24
    go_wp2
    refine bodyPost_ret (v := .tuple #[.agg #[.slice a len cap, .int .i64 (s.c : Int), .slice ra s.n rc, .bool true, .slice oa s.m oc], .int .u32 2]) (by simp [results, Try.results24, go_sem]) rfl ?_
    exact ⟨_, rfl, HE.out⟩

set_option maxRecDepth 100000 in
set_option maxHeartbeats 1600000 in
theorem rwrite_4 (S : Nat → Prop) {v : Value} {a : Option Addr} {len cap : Nat} {s : CS} (x : Int) (w : World) (hn : s.n ≤ 16) (hm : s.m ≤ 100000) (h : RefC S w v a len cap s) (hS : ∀ k, S k → k < w.heap.size) :
    Calls Try.prog 25 #[v, .int .i64 4, .int .u32 x] w fun e w' => ∃ v', e = .returned v' ∧ RefC S w' v' a len cap (s.wr 4 x) ∧ Below w.heap.size w w' := by
  obtain ⟨rx, out, rfl, hx, ho⟩ := h
  obtain ⟨ra, rc, rfl⟩ := hx.form
  obtain ⟨oa, oc, rfl⟩ := ho.form
  have e2 : s.wr 4 x = ⟨s.c, s.n, s.f, false, s.m, s.g⟩ := by unfold CS.wr; rw [if_neg (by decide)]
  rw [e2]
  clear e2
  have hb : Below w.heap.size w ((w.alloc (.cells #[.slice a len cap, .int .i64 (s.c : Int), .slice ra s.n rc, .bool false, .slice oa s.m oc] 32)).alloc (.cells #[.slice a len cap, .int .i64 (s.c : Int), .slice ra s.n rc, .bool false, .slice oa s.m oc] 32)) := ((Below.refl _ _).alloc (Nat.le_refl _) _).alloc (by simp) _
  have HE : Hid (RefC S ((w.alloc (.cells #[.slice a len cap, .int .i64 (s.c : Int), .slice ra s.n rc, .bool false, .slice oa s.m oc] 32)).alloc (.cells #[.slice a len cap, .int .i64 (s.c : Int), .slice ra s.n rc, .bool false, .slice oa s.m oc] 32)) (.agg #[.slice a len cap, .int .i64 (s.c : Int), .slice ra s.n rc, .bool false, .slice oa s.m oc]) a len cap ⟨s.c, s.n, s.f, false, s.m, s.g⟩ ∧ Below w.heap.size w ((w.alloc (.cells #[.slice a len cap, .int .i64 (s.c : Int), .slice ra s.n rc, .bool false, .slice oa s.m oc] 32)).alloc (.cells #[.slice a len cap, .int .i64 (s.c : Int), .slice ra s.n rc, .bool false, .slice oa s.m oc] 32))) := ⟨⟨_, _, rfl, hx.on hb, ho.on hb⟩, hb⟩
  clear hx ho hb hS hn hm
  go_enter Try.func25, Try.ntmps25
  go_wp2
  refine bodyPost_ret (v := .agg #[.slice a len cap, .int .i64 (s.c : Int), .slice ra s.n rc, .bool false, .slice oa s.m oc]) (by simp [results, Try.results25, go_sem]) rfl ?_
  exact ⟨_, rfl, HE.out⟩

set_option maxRecDepth 100000 in
set_option maxHeartbeats 1600000 in
theorem rwrite_0 (S : Nat → Prop) {v : Value} {a : Option Addr} {len cap : Nat} {s : CS} (x : Int) (x0 : 0 ≤ x) (x1 : x < 4294967296) (w : World) (hn : s.n ≤ 16) (hm : s.m ≤ 100000) (h : RefC S w v a len cap s) (hS : ∀ k, S k → k < w.heap.size) :
    Calls Try.prog 25 #[v, .int .i64 0, .int .u32 x] w fun e w' => ∃ v', e = .returned v' ∧ RefC S w' v' a len cap (s.wr 0 x) ∧ Below w.heap.size w w' := by
  obtain ⟨rx, out, rfl, hx, ho⟩ := h
  obtain ⟨ra, rc, rfl⟩ := hx.form
  have HSRC0 := Lib.hid ho
  obtain ⟨oa, oc, rfl⟩ := ho.form
  obtain ⟨hb1, hb2, hB0, hsz⟩ := two_boxes w (.slice a len cap) (.int .i64 (s.c : Int)) (.slice ra s.n rc) (.bool s.ov) (.slice oa s.m oc)
  obtain ⟨W0, hW0⟩ : ∃ W0, W0 = (w.alloc (.cells #[.slice a len cap, .int .i64 (s.c : Int), .slice ra s.n rc, .bool s.ov, .slice oa s.m oc] 32)).alloc zero5 := ⟨_, rfl⟩
  rw [← hW0] at hb1 hb2 hB0 hsz
  have HW0 := Lib.hid hW0
  have HX : Hid (BsV (S2 S w) W0 (.slice ra s.n rc) s.n s.f) := hx.two hB0
  have HO : Hid (BsV (S2 S w) W0 (.slice oa s.m oc) s.m s.g) := ho.two hB0
  have HB0 := Lib.hid hB0
  have HSZ := Lib.hid hsz
  have HB1 := Lib.hid hb1
  have HB2 := Lib.hid hb2
  have HS := Lib.hid hS
  obtain ⟨i0, hi, hz0, hz1, hz2⟩ := info_parts Try.info5
  have hbE : Below W0.heap.size W0 (W0.alloc (.cells #[] 5)) := (Below.refl _ _).alloc (Nat.le_refl _) _
  have HO0 : Hid ((W0.alloc (.cells #[] 5)).ownsRow (w.heap.size + 2) 5 1 (.slice (some ⟨w.heap.size + 1 + 1, 0, none⟩) 0 0) 0 []) := by
    have h0 := World.ownsRow_made (e := 5) (size := 1) W0 #[] 0 (Nat.le_refl _) (by decide) rfl
    rw [hsz] at h0
    exact h0
  have HSRC := Lib.hid (HO.out.src hbE)
  have HC0 := Lib.hid (hb1.on hbE)
  have HD0 := Lib.hid (hb2.on hbE)
  have HXX := Lib.hid hx
  have HBE : Hid (Below w.heap.size w (W0.alloc (.cells #[] 5))) := hB0.trans (hbE.mono hB0.size)
  have HZE : Hid (w.heap.size + 2 ≤ (W0.alloc (.cells #[] 5)).heap.size) := by have := hbE.size; show _ ≤ _; omega
  have e2 : s.wr 0 x = ⟨s.c, s.n, s.f, s.ov, s.m + 1, snoc s.m s.g (x % 256)⟩ := by unfold CS.wr; rw [if_pos rfl]
  rw [e2]
  clear e2 hW0 hx ho hB0 hsz hb1 hb2 hS hbE HSRC0
  go_enter Try.func25, Try.ntmps25
  go_wp2_with (first
    | (at_builtin; rw [← HW0.out]; refine wpList_append_src rfl (.tmp 9) (.tmp 11) 30 rfl (w.heap.size + 2) 5 i0 (.int .u8 0) 1 1 Try.underlying30 hi hz0 hz1 hz2 rfl (by decide) _ 0 [] rfl HO0.out _ s.m (rowL s.m s.g) rfl HSRC.out (by rw [rowL_length]; omega) (rowL_one _ _) (by unfold maxLen; omega) (by omega) HZE.out ?_))
  intro v1 w1 hown1 hgr1 _
  have hb1 : Below (w.heap.size + 2) (W0.alloc (.cells #[] 5)) w1 := (Below.refl _ _).grown hgr1 HZE.out (fun j hj => (HO0.out.lt j hj).1)
  have HO1 : Hid (w1.ownsRow (w.heap.size + 2) 5 1 v1 s.m (rowL s.m s.g)) := hown1
  have HB1' : Hid (Below w.heap.size w w1) := HBE.out.trans (hb1.mono (by omega))
  have HC1 : Hid (Box5 w1 w.heap.size (.slice a len cap) (.int .i64 (s.c : Int)) (.slice ra s.n rc) (.bool s.ov) (.slice oa s.m oc)) := by
    have h := HC0.out
    unfold Box5 at *
    rw [hb1.block _ (by omega)]; exact h
  have HD1 : Hid (Box5 w1 (w.heap.size + 1) (.slice none 0 0) (.int .i64 0) (.slice none 0 0) (.bool false) (.slice none 0 0)) := by
    have h := HD0.out
    unfold Box5 at *
    rw [hb1.block _ (by omega)]; exact h
  have HX1 : Hid (BsV (S2 S w) w1 (.slice ra s.n rc) s.n s.f) := HXX.out.two HB1'.out
  have HZ1 : Hid (w.heap.size + 2 ≤ w1.heap.size) := by have := HZE.out; have := hb1.size; show _ ≤ _; omega
  clear hown1 hgr1 hb1
  have x2 : x.tmod 256 = x % 256 := Int.tmod_eq_emod_of_nonneg x0
  have x3 : x % 256 % 256 = x % 256 := Int.emod_emod_of_dvd x (Int.dvd_refl _)
  go_wp2_with (at_builtin; refine wpList_append_own _ rfl (.tmp 12) (.tmp 16) 30 rfl (w.heap.size + 2) 5 i0 (.int .u8 0) 1 1 Try.underlying30 hi hz0 hz1 hz2 rfl (by decide) _ s.m (rowL s.m s.g) rfl (HO1.out.alloc _) ⟨w1.heap.size, 0, none⟩ 1 1 [.int .u8 (x % 256)] rfl rfl ?c1 ?c2 ?c3 ?c4 ?c5 ?_)
  case c1 =>
    intro j u hj
    match j, hj with
    | 0, hj => simp at hj; subst hj; simp [Addr.add]
  case c2 => intro u hu; simp at hu; subst hu; rfl
  case c3 => unfold maxLen; omega
  case c4 => omega
  case c5 => have := HZ1.out; simp; omega
  intro v2 w2 hown2 hgr2 _
  have hb2 : Below (w.heap.size + 2) w1 w2 := ((Below.refl _ _).alloc HZ1.out _).grown hgr2 (by have := HZ1.out; simp; omega) (fun j hj => (HO1.out.lt j hj).1)
  have HB2' : Hid (Below w.heap.size w w2) := HB1'.out.trans (hb2.mono (by omega))
  have HX2 : Hid (BsV (S2 S w) w2 (.slice ra s.n rc) s.n s.f) := HXX.out.two HB2'.out
  have HC2 : Hid (Box5 w2 w.heap.size (.slice a len cap) (.int .i64 (s.c : Int)) (.slice ra s.n rc) (.bool s.ov) (.slice oa s.m oc)) := by
    have h := HC1.out
    unfold Box5 at *
    rw [hb2.block _ (by omega)]; exact h
  have HD2 : Hid (Box5 w2 (w.heap.size + 1) (.slice none 0 0) (.int .i64 0) (.slice none 0 0) (.bool false) (.slice none 0 0)) := by
    have h := HD1.out
    unfold Box5 at *
    rw [hb2.block _ (by omega)]; exact h
  have HO2 : Hid (w2.ownsRow (w.heap.size + 2) 5 1 v2 (s.m + 1) (rowL (s.m + 1) (snoc s.m s.g (x % 256)))) := by have h := hown2; rw [rowL_snoc] at h; exact h
  clear hown2 hgr2 hb2
  obtain ⟨g, c, rfl, hc1, hc2, hc3⟩ := row_of_own HO2.out (by omega)
  have HG : Hid (BsV (S2 S w) w2 (.slice (some ⟨g, 0, none⟩) (s.m + 1) c) (s.m + 1) (snoc s.m s.g (x % 256))) :=
    .inr ⟨g, 0, c, rfl, hc1, fun e => by rcases e with e | e | e; (have := HS.out g e; omega); omega; omega, (HO2.out.lt g rfl).2, fun i hi => by rw [Nat.zero_add]; exact hc3 i hi⟩
  clear hc1 hc2 hc3
  obtain ⟨b0, b1, b2, b3, b4⟩ := HC2.out.cells
  obtain ⟨z0, z1, z2, z3, z4⟩ := HC2.out.free
  obtain ⟨r0, r1, r2, r3, r4⟩ := HD2.out.cells
  obtain ⟨y0, y1, y2, y3, y4⟩ := HD2.out.free
  go_wp2
  refine bodyPost_ret (v := .agg #[.slice a len cap, .int .i64 (s.c : Int), .slice ra s.n rc, .bool s.ov, .slice (some ⟨g, 0, none⟩) (s.m + 1) c]) (by simp [results, Try.results25, go_sem, r0, r1, r2, r3, r4]) rfl ?_
  obtain ⟨k1, k2⟩ := ref_end (s := ⟨s.c, s.n, s.f, s.ov, s.m + 1, snoc s.m s.g (x % 256)⟩) (a := a) (len := len) (cap := cap) (below_set (o := 4) (u := .slice (some ⟨g, 0, none⟩) (s.m + 1) c) HB2'.out) (bsv_set HX2.out) (bsv_set HG.out)
  exact ⟨_, rfl, k1, k2⟩
end Go.Proofs.Ytbhmpfjmhjdcaaa
